import Derived.Test.YtphklakjadchmaaGreatDoorLaOrd
namespace Go.Proofs.YtphklakjadchmaaGreatDoor.La
open Go.RowKit
theorem nm_rd1 (w:World)(k:Nat):Rd nm (w.alloc (.cells #[.int .u64 (k:Int)] 82)) (w.alloc (.cells #[.int .u64 (k:Int)] 82)).heap.size (some ⟨w.heap.size,0,none⟩) 1 1 [k]:=Rd.new w #[.int .u64 (k:Int)] 82 1 [k] rfl rfl (by decide)
def Found (f:Nat→Nat→Bool)(s:List Nat)(v:Nat):Prop:=(lsK f s s.length=true∧v∈s∧ ∀y∈s,f v y=true)∨(lsK f s s.length=false∧v=0)
theorem found_at {f:Nat→Nat→Bool}{s:List Nat}{i:Nat}(hi:i < s.length)(e:lsAll f s (s.getD i 0) s.length=true):Found f s s[i]:=by
 refine .inl ⟨any_true hi e,List.getElem_mem hi,fun y hy=> ?_⟩
 obtain⟨j,hj,rfl⟩:=List.mem_iff_getElem.1 hy
 have:=List.all_eq_true.1 e j (List.mem_range.2 hj)
 rwa [getD_at hi,getD_at hj] at this
def LsRel (f:Nat→Nat→Bool)(s:List Nat)(w:World)(v6:Value)(wr:World):Prop:= ∃i:Nat,v6= .int .i64 (i:Int)∧i≤s.length∧lsK f s i=false∧Drawn w wr
def LsIn (f:Nat→Nat→Bool)(s:List Nat)(w:World)(i:Nat)(v7 v8:Value)(wr:World):Prop:= ∃j:Nat,v8= .int .i64 (j:Int)∧j≤s.length∧v7= .bool (lsAll f s (s.getD i 0) j)∧Drawn w wr
set_option maxRecDepth 100000 in
set_option maxHeartbeats 400000 in
theorem refLeast_val (A A2:Option Addr)(n c n2 c2 B B2:Nat)(l s:List Nat)(w:World)(h:Rd nm w B A n c l)(hf:Fit l)(h2:Rd nm w B2 A2 n2 c2 s)(hf2:Fit s):
  Calls Tryz.prog 163 #[.slice A n c,.slice A2 n2 c2] w fun e w'=>(∃v:Nat,e= .returned (.tuple #[.int .u64 (v:Int),.bool (leastB l s)])∧Found (belowB l) s v)∧Drawn w w':=by
 have HL:=Lib.hid h2.len
 have hcap:=h2.cap
 have htop:=h2.top
 unfold maxLen at htop
 go_enter Tryz.func163,Tryz.ntmps163
 go_wp2
 go_loopw [6] (fun v6 wr=>LsRel (belowB l) s w v6 wr) (fun v6 _=>n2 - (intOf v6).toNat)
 case atStart=>exact⟨0,rfl,by omega,rfl,Drawn.refl _⟩
 case round=>
  obtain⟨i,rfl,hi,hls,hd⟩:=hrel
  have HK:=Lib.hid hls
  clear hls
  by_cases hlt:i < n2
  ·obtain⟨b,o,rfl,hbb,hc⟩:=h2.spot (by omega)
   have hi':i < s.length:=by rw[HL.out];exact hlt
   have hcx:wr.cell? ⟨b,o+i,none⟩=some (.int .u64 (s[i]:Int)):=(hd.cell _).trans (hc i hi')
   have hx:=hf2.get i hi'
   have HS:=Lib.hid (lsK_succ (belowB l) s i)
   have HX:=Lib.hid (getD_at hi')
   have HT:Hid (lsAll (belowB l) s (s.getD i 0) s.length=true→leastB l s=true):=Lib.hid fun e=>any_true hi' e
   have HFO:Hid (lsAll (belowB l) s (s.getD i 0) s.length=true→Found (belowB l) s s[i]):=Lib.hid fun e=>found_at hi' e
   have HC:=Lib.hid hc
   have HR:=Lib.hid h
   have HXC:=Lib.hid (hc i hi')
   clear hc h
   generalize hxx:s[i]=x at*
   have HXX:=Lib.hid hxx
   clear hxx
   go_wp2
   go_loopw [7,8] (fun v7 v8 wr=>LsIn (belowB l) s w i v7 v8 wr) (fun _ v8 _=>n2 - (intOf v8).toNat)
   case atStart=>exact⟨0,rfl,by omega,rfl,hd⟩
   case round=>
    clear hcx hd
    obtain⟨j,rfl,hj,rfl,hd⟩:=hrel
    have hcx:wr.cell? ⟨b,o+i,none⟩=some (.int .u64 (x:Int)):=(hd.cell _).trans HXC.out
    cases hall:lsAll (belowB l) s (s.getD i 0) j with
    |true=>
     have HA:=Lib.hid hall
     clear hall
     by_cases hlt2:j < n2
     ·have hj':j < s.length:=by rw[HL.out];exact hlt2
      have hcy:wr.cell? ⟨b,o+j,none⟩=some (.int .u64 (s[j]:Int)):=(hd.cell _).trans (HC.out j hj')
      have hy:=hf2.get j hj'
      have HAS:=Lib.hid (lsAll_succ (belowB l) s (s.getD i 0) j)
      have HY:=Lib.hid (getD_at hj')
      generalize hyy:s[j]=y at*
      clear hyy
      have hcall: ∀W,W.heap=w.heap→Calls Tryz.prog 162 #[.slice A n c,.int .u64 (x:Int),.int .u64 (y:Int)] W fun e w'=>e= .returned (.bool (belowB l x y))∧w'=W:=fun W hW=>refBelow_q A n c B l x y W (HR.out.keep fun _ _=>by rw[hW]) hf hx hy
      have HCALL:=Lib.hid hcall
      clear hcall
      have HE:Hid (lsAll (belowB l) s (s.getD i 0) (j+1)=belowB l x y):=Lib.hid (by rw[HAS.out,HA.out,HX.out,HY.out,Bool.true_and])
      generalize belowB l x y=r at*
      go_wp2
      go_quiet ((go_at_call 162;exact Calls.quiet_of_same (HCALL.out _ hd.heap)))
      go_wp2
      go_roundw
      case rel=>exact⟨j+1,by go_num,by omega,by rw[HE.out],hd.more _⟩
      case measure=>simp[intOf];omega
     ·obtain rfl:j=n2:=by have:=HL.out;omega
      go_wp2
      exact bodyPost_ret (v:= .tuple #[.int .u64 (x:Int),.bool true]) (by simp[results,Tryz.results163,go_sem]) rfl ⟨⟨x,by rw[HT.out (by rw[HL.out];exact HA.out)],HFO.out (by rw[HL.out];exact HA.out)⟩,hd⟩
    |false=>
     have HA:=Lib.hid hall
     clear hall
     by_cases hlt2:j < n2
     ·have hj':j < s.length:=by rw[HL.out];exact hlt2
      have HAS:=Lib.hid (lsAll_succ (belowB l) s (s.getD i 0) j)
      go_wp2
      go_quiet (fail)
      go_wp2
      go_roundw
      case rel=>exact⟨j+1,by go_num,by omega,by rw[HAS.out,HA.out];rfl,hd.more _⟩
      case measure=>simp[intOf];omega
     ·obtain rfl:j=n2:=by have:=HL.out;omega
      go_wp2
      go_roundw
      case rel=>exact⟨i+1,by go_num,by omega,by rw[HS.out,HK.out,HL.out,HA.out];rfl,hd⟩
      case measure=>simp[intOf];omega
  ·obtain rfl:i=n2:=by have:=HL.out;omega
   go_wp2
   exact bodyPost_ret (v:= .tuple #[.int .u64 0,.bool false]) (by simp[results,Tryz.results163,go_sem]) rfl ⟨⟨0,by rw[show leastB l s=false from by have:=HK.out;rwa [← HL.out] at this];rfl,.inr ⟨by have:=HK.out;rwa [← HL.out] at this,rfl⟩⟩,hd⟩
set_option maxRecDepth 100000 in
set_option maxHeartbeats 400000 in
theorem refGreatest_val (A A2:Option Addr)(n c n2 c2 B B2:Nat)(l s:List Nat)(w:World)(h:Rd nm w B A n c l)(hf:Fit l)(h2:Rd nm w B2 A2 n2 c2 s)(hf2:Fit s):
  Calls Tryz.prog 165 #[.slice A n c,.slice A2 n2 c2] w fun e w'=>(∃v:Nat,e= .returned (.tuple #[.int .u64 (v:Int),.bool (greatB l s)])∧Found (fun x y=>belowB l y x) s v)∧Drawn w w':=by
 have HL:=Lib.hid h2.len
 have hcap:=h2.cap
 have htop:=h2.top
 unfold maxLen at htop
 go_enter Tryz.func165,Tryz.ntmps165
 go_wp2
 go_loopw [6] (fun v6 wr=>LsRel (fun x y=>belowB l y x) s w v6 wr) (fun v6 _=>n2 - (intOf v6).toNat)
 case atStart=>exact⟨0,rfl,by omega,rfl,Drawn.refl _⟩
 case round=>
  obtain⟨i,rfl,hi,hls,hd⟩:=hrel
  have HK:=Lib.hid hls
  clear hls
  by_cases hlt:i < n2
  ·obtain⟨b,o,rfl,hbb,hc⟩:=h2.spot (by omega)
   have hi':i < s.length:=by rw[HL.out];exact hlt
   have hcx:wr.cell? ⟨b,o+i,none⟩=some (.int .u64 (s[i]:Int)):=(hd.cell _).trans (hc i hi')
   have hx:=hf2.get i hi'
   have HS:=Lib.hid (lsK_succ (fun x y=>belowB l y x) s i)
   have HX:=Lib.hid (getD_at hi')
   have HT:Hid (lsAll (fun x y=>belowB l y x) s (s.getD i 0) s.length=true→greatB l s=true):=Lib.hid fun e=>any_true hi' e
   have HFO:Hid (lsAll (fun x y=>belowB l y x) s (s.getD i 0) s.length=true→Found (fun x y=>belowB l y x) s s[i]):=Lib.hid fun e=>found_at hi' e
   have HC:=Lib.hid hc
   have HR:=Lib.hid h
   have HXC:=Lib.hid (hc i hi')
   clear hc h
   generalize hxx:s[i]=x at*
   have HXX:=Lib.hid hxx
   clear hxx
   go_wp2
   go_loopw [7,8] (fun v7 v8 wr=>LsIn (fun x y=>belowB l y x) s w i v7 v8 wr) (fun _ v8 _=>n2 - (intOf v8).toNat)
   case atStart=>exact⟨0,rfl,by omega,rfl,hd⟩
   case round=>
    clear hcx hd
    obtain⟨j,rfl,hj,rfl,hd⟩:=hrel
    have hcx:wr.cell? ⟨b,o+i,none⟩=some (.int .u64 (x:Int)):=(hd.cell _).trans HXC.out
    cases hall:lsAll (fun x y=>belowB l y x) s (s.getD i 0) j with
    |true=>
     have HA:=Lib.hid hall
     clear hall
     by_cases hlt2:j < n2
     ·have hj':j < s.length:=by rw[HL.out];exact hlt2
      have hcy:wr.cell? ⟨b,o+j,none⟩=some (.int .u64 (s[j]:Int)):=(hd.cell _).trans (HC.out j hj')
      have hy:=hf2.get j hj'
      have HAS:=Lib.hid (lsAll_succ (fun x y=>belowB l y x) s (s.getD i 0) j)
      have HY:=Lib.hid (getD_at hj')
      generalize hyy:s[j]=y at*
      clear hyy
      have hcall: ∀W,W.heap=w.heap→Calls Tryz.prog 162 #[.slice A n c,.int .u64 (y:Int),.int .u64 (x:Int)] W fun e w'=>e= .returned (.bool (belowB l y x))∧w'=W:=fun W hW=>refBelow_q A n c B l y x W (HR.out.keep fun _ _=>by rw[hW]) hf hy hx
      have HCALL:=Lib.hid hcall
      clear hcall
      have HE:Hid (lsAll (fun x y=>belowB l y x) s (s.getD i 0) (j+1)=belowB l y x):=Lib.hid (by rw[HAS.out,HA.out,HX.out,HY.out,Bool.true_and])
      generalize belowB l y x=r at*
      go_wp2
      go_quiet ((go_at_call 162;exact Calls.quiet_of_same (HCALL.out _ hd.heap)))
      go_wp2
      go_roundw
      case rel=>exact⟨j+1,by go_num,by omega,by rw[HE.out],hd.more _⟩
      case measure=>simp[intOf];omega
     ·obtain rfl:j=n2:=by have:=HL.out;omega
      go_wp2
      exact bodyPost_ret (v:= .tuple #[.int .u64 (x:Int),.bool true]) (by simp[results,Tryz.results165,go_sem]) rfl ⟨⟨x,by rw[HT.out (by rw[HL.out];exact HA.out)],HFO.out (by rw[HL.out];exact HA.out)⟩,hd⟩
    |false=>
     have HA:=Lib.hid hall
     clear hall
     by_cases hlt2:j < n2
     ·have hj':j < s.length:=by rw[HL.out];exact hlt2
      have HAS:=Lib.hid (lsAll_succ (fun x y=>belowB l y x) s (s.getD i 0) j)
      go_wp2
      go_quiet (fail)
      go_wp2
      go_roundw
      case rel=>exact⟨j+1,by go_num,by omega,by rw[HAS.out,HA.out];rfl,hd.more _⟩
      case measure=>simp[intOf];omega
     ·obtain rfl:j=n2:=by have:=HL.out;omega
      go_wp2
      go_roundw
      case rel=>exact⟨i+1,by go_num,by omega,by rw[HS.out,HK.out,HL.out,HA.out];rfl,hd⟩
      case measure=>simp[intOf];omega
  ·obtain rfl:i=n2:=by have:=HL.out;omega
   go_wp2
   exact bodyPost_ret (v:= .tuple #[.int .u64 0,.bool false]) (by simp[results,Tryz.results165,go_sem]) rfl ⟨⟨0,by rw[show greatB l s=false from by have:=HK.out;rwa [← HL.out] at this];rfl,.inr ⟨by have:=HK.out;rwa [← HL.out] at this,rfl⟩⟩,hd⟩
theorem refLeast_any (A A2:Option Addr)(n c n2 c2 B B2:Nat)(l s:List Nat)(w:World)(h:Rd nm w B A n c l)(hf:Fit l)(h2:Rd nm w B2 A2 n2 c2 s)(hf2:Fit s):
  Calls Tryz.prog 163 #[.slice A n c,.slice A2 n2 c2] w fun e w'=>(∃v:Nat,e= .returned (.tuple #[.int .u64 (v:Int),.bool (leastB l s)]))∧Drawn w w':=
 (refLeast_val A A2 n c n2 c2 B B2 l s w h hf h2 hf2).mono fun _ _ ⟨⟨v,he,_⟩,hd⟩=>⟨⟨v,he⟩,hd⟩
theorem refGreatest_any (A A2:Option Addr)(n c n2 c2 B B2:Nat)(l s:List Nat)(w:World)(h:Rd nm w B A n c l)(hf:Fit l)(h2:Rd nm w B2 A2 n2 c2 s)(hf2:Fit s):
  Calls Tryz.prog 165 #[.slice A n c,.slice A2 n2 c2] w fun e w'=>(∃v:Nat,e= .returned (.tuple #[.int .u64 (v:Int),.bool (greatB l s)]))∧Drawn w w':=
 (refGreatest_val A A2 n c n2 c2 B B2 l s w h hf h2 hf2).mono fun _ _ ⟨⟨v,he,_⟩,hd⟩=>⟨⟨v,he⟩,hd⟩
def AbvRel (l:List Nat)(a b:Nat)(w:World)(v7 v8:Value)(wr:World):Prop:=
 ∃k:Nat,v8= .int .u64 (k:Int)∧k≤l.length∧ ∃A' n' c',v7= .slice A' n' c'∧Fresh nm 82 w wr A' n' c' (pick (fun i=>belowB l a i && belowB l b i) k)
set_option maxRecDepth 100000 in
set_option maxHeartbeats 400000 in
theorem refAbove_any (A:Option Addr)(n c:Nat)(l:List Nat)(a b:Nat)(w:World)(h:Rd nm w w.heap.size A n c l)(hf:Fit l)(ha:a < 18446744073709551616)(hb:b < 18446744073709551616)(hn:n≤1000):
  Calls Tryz.prog 164 #[.slice A n c,.int .u64 (a:Int),.int .u64 (b:Int)] w fun e w'=> ∃A' n' c',e= .returned (.slice A' n' c')∧Fresh nm 82 w w' A' n' c' (upsL l a b):=by
 obtain⟨i0,hi0,hz0,hz1,hz2⟩:=info_parts nm_inf
 have HL:=Lib.hid h.len
 go_enter Tryz.func164,Tryz.ntmps164
 go_wp2
 go_loopw [7,8] (fun v7 v8 wr=>AbvRel l a b w v7 v8 wr) (fun _ v8 _=>n - (intOf v8).toNat)
 case atStart=>exact⟨0,rfl,by omega,none,0,0,rfl,World.ownsRow_nil _ _ _ _,Below.refl _ _⟩
 case round=>
  obtain⟨k,rfl,hk,A',n',c',rfl,hfr⟩:=hrel
  by_cases hlt:k < n
  ·have hlt':k < n:=hlt
   have hr:=h.below hfr.bel
   have hc1: ∀W,(∀j,j < w.heap.size→W.heap[j]?=wr.heap[j]?)→Calls Tryz.prog 162 #[.slice A n c,.int .u64 (a:Int),.int .u64 (k:Int)] W fun e w'=>e= .returned (.bool (belowB l a k))∧W=w':=fun W hW=>refBelow_any A n c w.heap.size l a k W (hr.keep hW) hf ha (by omega)
   have hc2: ∀W,(∀j,j < w.heap.size→W.heap[j]?=wr.heap[j]?)→Calls Tryz.prog 162 #[.slice A n c,.int .u64 (b:Int),.int .u64 (k:Int)] W fun e w'=>e= .returned (.bool (belowB l b k))∧W=w':=fun W hW=>refBelow_any A n c w.heap.size l b k W (hr.keep hW) hf hb (by omega)
   have HC1:=Lib.hid hc1
   have HC2:=Lib.hid hc2
   have HP:=Lib.hid (pick_succ (fun i=>belowB l a i && belowB l b i) k)
   have hlen:=pick_len (fun i=>belowB l a i && belowB l b i) k
   have hnl:=hfr.len
   clear hc1 hc2 hr
   generalize hq:pick (fun i=>belowB l a i && belowB l b i) k=ks at*
   have HQ:=Lib.hid hq
   clear hq
   have HP:Hid (pick (fun i=>belowB l a i && belowB l b i) (k+1)=if belowB l a k && belowB l b k then ks++ [k] else ks):=HP
   generalize belowB l a k=r1 at*
   generalize belowB l b k=r2 at*
   cases r1 with
   |false=>
    go_wp2_with (go_at_call 162;refine(HC1.out _ (fun _ _=>rfl)).mono ?_;rintro e w' ⟨rfl,rfl⟩)
    go_roundw
    case rel=>exact⟨k+1,by go_num,by have:=HL.out;omega,A',n',c',rfl,by rw[HP.out];exact hfr⟩
    case measure=>simp[intOf];omega
   |true=>
    cases r2 with
    |false=>
     go_wp2_with (go_at_call 162;(first|(with_reducible refine(HC1.out _ (fun _ _=>rfl)).mono ?_)|(with_reducible refine(HC2.out _ (fun _ _=>rfl)).mono ?_));rintro e w' ⟨rfl,rfl⟩)
     go_roundw
     case rel=>exact⟨k+1,by go_num,by have:=HL.out;omega,A',n',c',rfl,by rw[HP.out];exact hfr⟩
     case measure=>simp[intOf];omega
    |true=>
     have o1:=nm_rd1 wr k
     go_wp2_with (first|(go_at_call 162;(first|(with_reducible refine(HC1.out _ (fun _ _=>rfl)).mono ?_)|(with_reducible refine(HC2.out _ (fun _ _=>rfl)).mono ?_));rintro e w' ⟨rfl,rfl⟩)|(at_builtin;refine wpList_append_rd _ rfl (.tmp 26) (.tmp 28) 22 rfl w.heap.size 82 i0 (.int .u64 0) 8 Tryz.underlying22 hi0 hz0 hz1 hz2 rfl nm_one (.slice A' n' c') n' ks rfl (hfr.own.alloc _) _ _ 1 1 [k] rfl o1 (by unfold maxLen;omega) (by omega) (by have:=hfr.bel.size;simp;omega) ?_;intro A2 k2 c2 w2 hk2 own2 hg2 ha2))
     go_roundw
     case rel=>exact⟨k+1,by go_num,by have:=HL.out;omega,A2,k2,c2,rfl,by rw[HP.out];exact⟨own2,(hfr.bel.alloc hfr.bel.size _).grown hg2 (Nat.le_trans hfr.bel.size (by simp)) (fun j hj=>(hfr.own.lt j hj).1)⟩⟩
     case measure=>simp[intOf];omega
  ·obtain rfl:k=n:=by have:=HL.out;omega
   go_wp2
   go_ret
   exact⟨A',n',c',rfl,by unfold upsL;rw[HL.out];exact hfr⟩
def UndRel (l:List Nat)(a b:Nat)(w:World)(v7 v8:Value)(wr:World):Prop:=
 ∃k:Nat,v8= .int .u64 (k:Int)∧k≤l.length∧ ∃A' n' c',v7= .slice A' n' c'∧Fresh nm 82 w wr A' n' c' (pick (fun i=>belowB l i a && belowB l i b) k)
set_option maxRecDepth 100000 in
set_option maxHeartbeats 400000 in
theorem refUnder_any (A:Option Addr)(n c:Nat)(l:List Nat)(a b:Nat)(w:World)(h:Rd nm w w.heap.size A n c l)(hf:Fit l)(ha:a < 18446744073709551616)(hb:b < 18446744073709551616)(hn:n≤1000):
  Calls Tryz.prog 166 #[.slice A n c,.int .u64 (a:Int),.int .u64 (b:Int)] w fun e w'=> ∃A' n' c',e= .returned (.slice A' n' c')∧Fresh nm 82 w w' A' n' c' (downsL l a b):=by
 obtain⟨i0,hi0,hz0,hz1,hz2⟩:=info_parts nm_inf
 have HL:=Lib.hid h.len
 go_enter Tryz.func166,Tryz.ntmps166
 go_wp2
 go_loopw [7,8] (fun v7 v8 wr=>UndRel l a b w v7 v8 wr) (fun _ v8 _=>n - (intOf v8).toNat)
 case atStart=>exact⟨0,rfl,by omega,none,0,0,rfl,World.ownsRow_nil _ _ _ _,Below.refl _ _⟩
 case round=>
  obtain⟨k,rfl,hk,A',n',c',rfl,hfr⟩:=hrel
  by_cases hlt:k < n
  ·have hlt':k < n:=hlt
   have hr:=h.below hfr.bel
   have hc1: ∀W,(∀j,j < w.heap.size→W.heap[j]?=wr.heap[j]?)→Calls Tryz.prog 162 #[.slice A n c,.int .u64 (k:Int),.int .u64 (a:Int)] W fun e w'=>e= .returned (.bool (belowB l k a))∧W=w':=fun W hW=>refBelow_any A n c w.heap.size l k a W (hr.keep hW) hf (by omega) ha
   have hc2: ∀W,(∀j,j < w.heap.size→W.heap[j]?=wr.heap[j]?)→Calls Tryz.prog 162 #[.slice A n c,.int .u64 (k:Int),.int .u64 (b:Int)] W fun e w'=>e= .returned (.bool (belowB l k b))∧W=w':=fun W hW=>refBelow_any A n c w.heap.size l k b W (hr.keep hW) hf (by omega) hb
   have HC1:=Lib.hid hc1
   have HC2:=Lib.hid hc2
   have HP:=Lib.hid (pick_succ (fun i=>belowB l i a && belowB l i b) k)
   have hlen:=pick_len (fun i=>belowB l i a && belowB l i b) k
   have hnl:=hfr.len
   clear hc1 hc2 hr
   generalize hq:pick (fun i=>belowB l i a && belowB l i b) k=ks at*
   have HQ:=Lib.hid hq
   clear hq
   have HP:Hid (pick (fun i=>belowB l i a && belowB l i b) (k+1)=if belowB l k a && belowB l k b then ks++ [k] else ks):=HP
   generalize belowB l k a=r1 at*
   generalize belowB l k b=r2 at*
   cases r1 with
   |false=>
    go_wp2_with (go_at_call 162;refine(HC1.out _ (fun _ _=>rfl)).mono ?_;rintro e w' ⟨rfl,rfl⟩)
    go_roundw
    case rel=>exact⟨k+1,by go_num,by have:=HL.out;omega,A',n',c',rfl,by rw[HP.out];exact hfr⟩
    case measure=>simp[intOf];omega
   |true=>
    cases r2 with
    |false=>
     go_wp2_with (go_at_call 162;(first|(with_reducible refine(HC1.out _ (fun _ _=>rfl)).mono ?_)|(with_reducible refine(HC2.out _ (fun _ _=>rfl)).mono ?_));rintro e w' ⟨rfl,rfl⟩)
     go_roundw
     case rel=>exact⟨k+1,by go_num,by have:=HL.out;omega,A',n',c',rfl,by rw[HP.out];exact hfr⟩
     case measure=>simp[intOf];omega
    |true=>
     have o1:=nm_rd1 wr k
     go_wp2_with (first|(go_at_call 162;(first|(with_reducible refine(HC1.out _ (fun _ _=>rfl)).mono ?_)|(with_reducible refine(HC2.out _ (fun _ _=>rfl)).mono ?_));rintro e w' ⟨rfl,rfl⟩)|(at_builtin;refine wpList_append_rd _ rfl (.tmp 26) (.tmp 28) 22 rfl w.heap.size 82 i0 (.int .u64 0) 8 Tryz.underlying22 hi0 hz0 hz1 hz2 rfl nm_one (.slice A' n' c') n' ks rfl (hfr.own.alloc _) _ _ 1 1 [k] rfl o1 (by unfold maxLen;omega) (by omega) (by have:=hfr.bel.size;simp;omega) ?_;intro A2 k2 c2 w2 hk2 own2 hg2 ha2))
     go_roundw
     case rel=>exact⟨k+1,by go_num,by have:=HL.out;omega,A2,k2,c2,rfl,by rw[HP.out];exact⟨own2,(hfr.bel.alloc hfr.bel.size _).grown hg2 (Nat.le_trans hfr.bel.size (by simp)) (fun j hj=>(hfr.own.lt j hj).1)⟩⟩
     case measure=>simp[intOf];omega
  ·obtain rfl:k=n:=by have:=HL.out;omega
   go_wp2
   go_ret
   exact⟨A',n',c',rfl,by unfold downsL;rw[HL.out];exact hfr⟩
end Go.Proofs.YtphklakjadchmaaGreatDoor.La
namespace Go.Proofs.YtphklakjadchmaaGreatDoor.La
open Go.RowKit
theorem Below.then {w w1 w2:World}(h:Below w.heap.size w w1)(k:Below w1.heap.size w1 w2):Below w.heap.size w w2:=h.trans (k.mono h.size)
def RkRel (l:List Nat)(w:World)(v4:Value)(wr:World):Prop:= ∃k:Nat,v4= .int .i64 (k:Int)∧k≤l.length∧knownK l k=true∧wr=w
def R5 (l:List Nat)(w:World)(v5:Value)(wr:World):Prop:= ∃i:Nat,v5= .int .u64 (i:Int)∧i≤l.length∧tr1 l i=true∧wr=w
def R6 (l:List Nat)(w:World)(i:Nat)(v6:Value)(wr:World):Prop:= ∃j:Nat,v6= .int .u64 (j:Int)∧j≤l.length∧tr2 l i j=true∧wr=w
def R7 (l:List Nat)(w:World)(i j:Nat)(v7:Value)(wr:World):Prop:= ∃k:Nat,v7= .int .u64 (k:Int)∧k≤l.length∧tr3 l i j k=true∧wr=w
def R8 (l:List Nat)(w:World)(v8:Value)(wr:World):Prop:= ∃i:Nat,v8= .int .u64 (i:Int)∧i≤l.length∧la1 l i=true∧Below w.heap.size w wr
def R9 (l:List Nat)(w:World)(i:Nat)(v9:Value)(wr:World):Prop:= ∃j:Nat,v9= .int .u64 (j:Int)∧j≤l.length∧la2 l i j=true∧Below w.heap.size w wr
def ChkE (l:List Nat)(w:World)(e:Ending)(w':World):Prop:= ∃x:Int,e= .returned (.int .i64 x)∧ChkIs l x∧Below w.heap.size w w'
theorem tr_no2 {l:List Nat}{i j:Nat}(hn:l.length≤64)(hk:Known l)(hi:i < l.length)(hj:j < l.length)(h:(anB l i j && tr3 l i j l.length)=false):ChkIs l 9:=by
 refine .inr (.inl ⟨hk,fun ho=> ?_,rfl⟩)
 have h1:tr2 l i l.length=false:=all_false hj h
 have h2:tr1 l l.length=false:=all_false hi (by rw[h1,Bool.and_false])
 have:=(tr1_iff hn).2 ho
 rw[h2] at this
 cases this
theorem tr_no3 {l:List Nat}{i j k:Nat}(hn:l.length≤64)(hk:Known l)(hi:i < l.length)(hj:j < l.length)(hkk:k < l.length)(h:trB l i j k=false):ChkIs l 9:=by
 have h1:tr3 l i j l.length=false:=all_false hkk h
 exact tr_no2 hn hk hi hj (by rw[h1,Bool.and_false])
theorem tr_no1 {l:List Nat}{i:Nat}(hn:l.length≤64)(hk:Known l)(hi:i < l.length)(h:belowB l i i=false):ChkIs l 9:=by
 refine .inr (.inl ⟨hk,fun ho=> ?_,rfl⟩)
 have h2:tr1 l l.length=false:=all_false hi (by rw[h,Bool.false_and])
 have:=(tr1_iff hn).2 ho
 rw[h2] at this
 cases this
theorem la_no {l:List Nat}{i j:Nat}(hn:l.length≤64)(hk:Known l)(ho:IsOrd l.length (bt l))(hi:i < l.length)(hj:j < l.length)(h:(leastB l (upsL l i j) && greatB l (downsL l i j))=false):ChkIs l 7:=by
 refine .inr (.inr (.inl ⟨hk,ho,fun hu=> ?_,rfl⟩))
 have h1:la2 l i l.length=false:=all_false hj h
 have h2:la1 l l.length=false:=all_false hi h1
 have:=(la1_iff hn).2 hu
 rw[h2] at this
 cases this
set_option maxRecDepth 100000 in
set_option maxHeartbeats 1000000 in
theorem refCheck_any (A:Option Addr)(n c:Nat)(l:List Nat)(w:World)(h:Rd nm w w.heap.size A n c l)(hf:Fit l):
  Calls Tryz.prog 98 #[.slice A n c] w (ChkE l w):=by
 have HL:=Lib.hid h.len
 have hcap:=h.cap
 have htop:=h.top
 unfold maxLen at htop
 have HC1:Hid (¬(1≤n∧n≤64)→ChkIs l 1):=Lib.hid fun hh=> .inl ⟨fun hk=>hh (by rw[← HL.out];exact hk.1),rfl⟩
 go_enter Tryz.func98,Tryz.ntmps98
 by_cases h1:n < 1
 ·have d1:decide ((n:Int) < 1)=true:=by simp;omega
  go_wp2
  go_ret
  exact⟨1,rfl,HC1.out (by omega),Below.refl _ _⟩
 have d1:decide ((n:Int) < 1)=false:=by simp;omega
 by_cases h2:64 < n
 ·have d2:decide (64 < (n:Int))=true:=by simp;omega
  go_wp2
  go_ret
  exact⟨1,rfl,HC1.out (by omega),Below.refl _ _⟩
 have d2:decide (64 < (n:Int))=false:=by simp;omega
 go_wp2
 go_loopw [4] (fun v4 wr=>RkRel l w v4 wr) (fun v4 _=>n - (intOf v4).toNat)
 case atStart=>exact⟨0,rfl,by omega,rfl,rfl⟩
 case round=>
  obtain⟨k,rfl,hk,hkn,rfl⟩:=hrel
  have HK:=Lib.hid hkn
  clear hkn
  by_cases hlt:k < n
  ·obtain⟨b,o,rfl,_,hc⟩:=h.spot (by omega)
   have hk':k < l.length:=by rw[HL.out];exact hlt
   have hcell:wr.cell? ⟨b,o+k,none⟩=some (.int .u64 (l[k]:Int)):=hc k hk'
   have hx:=hf.get k hk'
   have hs:=knownK_succ l k
   rw[HK.out,Bool.true_and,getD_at hk',HL.out] at hs
   have hq:(l[k]:Int) / 2 ^ n=((l[k] / 2 ^ n:Nat):Int):=shr_nat _ _
   have hbad:(l[k] / 2 ^ n==0)=false→ChkIs l 1:=fun e=> .inl ⟨(fun hkk=>by
    have:=(small_iff l).2 hkk.2
    rw[show knownK l l.length=false from all_false hk' (by rw[getD_at hk',HL.out];exact e)] at this
    cases this),rfl⟩
   have hq64:n=64→l[k] / 2 ^ n=0:=fun e=>by rw[e];exact Nat.div_eq_of_lt hx
   generalize l[k] / 2 ^ n=q at*
   generalize l[k]=x at*
   have HS:=Lib.hid hs
   have HF:=Lib.hid hbad
   have HQ:=Lib.hid hq64
   clear hc hs hbad hq64
   by_cases hn64:n < 64
   ·have d3:decide ((n:Int) < 64)=true:=by simp;omega
    by_cases hq0:q=0
    ·subst hq0
     have hne:((0:Int) !=0)=false:=rfl
     go_wp2
     go_roundw
     case rel=>exact⟨k+1,by go_num,by omega,HS.out,rfl⟩
     case measure=>simp[intOf];omega
    ·have hne:((q:Int) !=0)=true:=by simpa using hq0
     go_wp2
     go_ret
     exact⟨1,rfl,HF.out (by simpa using hq0),Below.refl _ _⟩
   ·have d3:decide ((n:Int) < 64)=false:=by simp;omega
    go_wp2
    go_roundw
    case rel=>exact⟨k+1,by go_num,by omega,by rw[HS.out,HQ.out (by omega)];rfl,rfl⟩
    case measure=>simp[intOf];omega
  ·obtain rfl:k=n:=by have:=HL.out;omega
   have hkn:Known l:=by
    refine⟨by rw[HL.out];omega,(small_iff l).1 ?_⟩
    rw[HL.out]
    exact HK.out
   have hl64:l.length≤64:=hkn.1.2
   have HKN:=Lib.hid hkn
   clear hkn
   have hcalls: ∀(a b:Nat) (W:World),a < 64→b < 64→W.heap=wr.heap→Calls Tryz.prog 162 #[.slice A k c,.int .u64 (a:Int),.int .u64 (b:Int)] W fun e w'=>e= .returned (.bool (belowB l a b))∧W=w':=fun a b W ha hb hW=>refBelow_any A k c wr.heap.size l a b W (h.keep fun _ _=>by rw[hW]) hf (by omega) (by omega)
   have HCALL:=Lib.hid hcalls
   clear hcalls
   obtain⟨wo,rfl⟩: ∃wo:World,wo=wr:=⟨_,rfl⟩
   go_wp2
   go_loopw [5] (fun v5 wr=>R5 l wo v5 wr) (fun v5 _=>k - (intOf v5).toNat)
   case atStart=>exact⟨0,rfl,by omega,rfl,rfl⟩
   case round=>
    obtain⟨i,rfl,hi,ht1,rfl⟩:=hrel
    have HT1:=Lib.hid ht1
    clear ht1
    by_cases hlt1:i < k
    ·have hil:i < l.length:=by rw[HL.out];exact hlt1
     have HT1S:=Lib.hid (tr1_succ l i)
     have HNO1:Hid (belowB l i i=false→ChkIs l 9):=Lib.hid (tr_no1 hl64 HKN.out hil)
     have hc1:=HCALL.out i i wr (by omega) (by omega) rfl
     cases hb1:belowB l i i with
     |false=>
      rw[hb1] at hc1
      have HB1:=Lib.hid hb1
      clear hb1
      go_wp2_with (go_at_call 162;refine hc1.mono ?_;rintro e w' ⟨rfl,rfl⟩)
      go_ret
      exact⟨9,rfl,HNO1.out HB1.out,Below.refl _ _⟩
     |true=>
      rw[hb1] at hc1
      have HB1:=Lib.hid hb1
      clear hb1
      obtain⟨wo,rfl⟩: ∃wo:World,wo=wr:=⟨_,rfl⟩
      go_wp2_with (go_at_call 162;refine hc1.mono ?_;rintro e w' ⟨rfl,rfl⟩)
      go_loopw [6] (fun v6 wr=>R6 l wo i v6 wr) (fun v6 _=>k - (intOf v6).toNat)
      case atStart=>exact⟨0,rfl,by omega,rfl,rfl⟩
      case round=>
       obtain⟨j,rfl,hj,ht2,rfl⟩:=hrel
       have HT2:=Lib.hid ht2
       clear ht2 hc1
       by_cases hlt2:j < k
       ·have hjl:j < l.length:=by rw[HL.out];exact hlt2
        have HT2S:=Lib.hid (tr2_succ l i j)
        have HNO2:Hid ((anB l i j && tr3 l i j l.length)=false→ChkIs l 9):=Lib.hid (tr_no2 hl64 HKN.out hil hjl)
        have hc1:=HCALL.out i j wr (by omega) (by omega) rfl
        have hc2:=HCALL.out j i wr (by omega) (by omega) rfl
        have hAN:anB l i j= !((i !=j) && belowB l i j && belowB l j i):=rfl
        have HAN:=Lib.hid hAN
        clear hAN
        by_cases hbad:i≠j∧belowB l i j=true∧belowB l j i=true
        ·obtain⟨hne,hb1,hb2⟩:=hbad
         rw[hb1] at hc1
         rw[hb2] at hc2
         have HA0:Hid (anB l i j=false):=Lib.hid (by rw[HAN.out,hb1,hb2];simpa using hne)
         clear hb1 hb2
         have d4:((i:Int) !=(j:Int))=true:=by simp;omega
         go_wp2_with (go_at_call 162;(first|(with_reducible refine hc1.mono ?_)|(with_reducible refine hc2.mono ?_));rintro e w' ⟨rfl,rfl⟩)
         go_ret
         exact⟨9,rfl,HNO2.out (by rw[HA0.out,Bool.false_and]),Below.refl _ _⟩
        ·have HA1:Hid (anB l i j=true):=Lib.hid (by
          rw[HAN.out]
          by_cases e:i=j
          ·simp[e]
          ·cases hb1:belowB l i j with
           |false=>simp
           |true=>
            cases hb2:belowB l j i with
            |false=>simp
            |true=>exact absurd ⟨e,hb1,hb2⟩ hbad)
         have h3:((i:Int) !=(j:Int))=false∨(((i:Int) !=(j:Int))=true∧belowB l i j=false)∨(((i:Int) !=(j:Int))=true∧belowB l i j=true∧belowB l j i=false):=by
          by_cases e:i=j
          ·exact .inl (by simp[e])
          ·have d4:((i:Int) !=(j:Int))=true:=by simp;omega
           cases hb1:belowB l i j with
           |false=>exact .inr (.inl ⟨d4,rfl⟩)
           |true=>
            cases hb2:belowB l j i with
            |false=>exact .inr (.inr ⟨d4,rfl,rfl⟩)
            |true=>exact absurd ⟨e,hb1,hb2⟩ hbad
         clear hbad
         obtain⟨wo,rfl⟩: ∃wo:World,wo=wr:=⟨_,rfl⟩
         rcases h3 with d4|⟨d4,hb1⟩|⟨d4,hb1,hb2⟩
         (focus
          clear hc1 hc2
          go_wp2)
         rotate_left
         (focus
          rw[hb1] at hc1
          clear hb1 hc2
          go_wp2_with (go_at_call 162;refine hc1.mono ?_;rintro e w' ⟨rfl,rfl⟩)
          clear hc1)
         rotate_left
         (focus
          rw[hb1] at hc1
          rw[hb2] at hc2
          clear hb1 hb2
          go_wp2_with (go_at_call 162;(first|(with_reducible refine hc1.mono ?_)|(with_reducible refine hc2.mono ?_));rintro e w' ⟨rfl,rfl⟩)
          clear hc1 hc2)
         rotate_left
         all_goals
          go_loopw [7] (fun v7 wr=>R7 l wo i j v7 wr) (fun v7 _=>k - (intOf v7).toNat)
          case atStart=>exact⟨0,rfl,by omega,rfl,rfl⟩
          case round=>
           obtain⟨x,rfl,hx,ht3,rfl⟩:=hrel
           have HT3:=Lib.hid ht3
           clear ht3
           by_cases hlt3:x < k
           ·have hxl:x < l.length:=by rw[HL.out];exact hlt3
            have HT3S:=Lib.hid (tr3_succ l i j x)
            have HNO3:Hid (trB l i j x=false→ChkIs l 9):=Lib.hid (tr_no3 hl64 HKN.out hil hjl hxl)
            have hc1:=HCALL.out i j wr (by omega) (by omega) rfl
            have hc2:=HCALL.out j x wr (by omega) (by omega) rfl
            have hc3:=HCALL.out i x wr (by omega) (by omega) rfl
            have HTB:Hid (trB l i j x= !(belowB l i j && belowB l j x && !belowB l i x)):=Lib.hid rfl
            clear d4
            generalize belowB l i j=r1 at*
            generalize belowB l j x=r2 at*
            generalize belowB l i x=r3 at*
            cases r1 with
            |false=>
             go_wp2_with (go_at_call 162;(with_reducible refine hc1.mono ?_);rintro e w' ⟨rfl,rfl⟩)
             go_roundw
             case rel=>exact⟨x+1,by go_num,by omega,by rw[HT3S.out,HT3.out,HTB.out];rfl,rfl⟩
             case measure=>simp[intOf];omega
            |true=>
             cases r2 with
             |false=>
              go_wp2_with (go_at_call 162;(first|(with_reducible refine hc1.mono ?_)|(with_reducible refine hc2.mono ?_));rintro e w' ⟨rfl,rfl⟩)
              go_roundw
              case rel=>exact⟨x+1,by go_num,by omega,by rw[HT3S.out,HT3.out,HTB.out];rfl,rfl⟩
              case measure=>simp[intOf];omega
             |true=>
              cases r3 with
              |true=>
               go_wp2_with (go_at_call 162;(first|(with_reducible refine hc1.mono ?_)|(with_reducible refine hc2.mono ?_)|(with_reducible refine hc3.mono ?_));rintro e w' ⟨rfl,rfl⟩)
               go_roundw
               case rel=>exact⟨x+1,by go_num,by omega,by rw[HT3S.out,HT3.out,HTB.out];rfl,rfl⟩
               case measure=>simp[intOf];omega
              |false=>
               go_wp2_with (go_at_call 162;(first|(with_reducible refine hc1.mono ?_)|(with_reducible refine hc2.mono ?_)|(with_reducible refine hc3.mono ?_));rintro e w' ⟨rfl,rfl⟩)
               go_ret
               exact⟨9,rfl,HNO3.out HTB.out,Below.refl _ _⟩
           ·obtain rfl:x=k:=by have:=HL.out;omega
            go_wp2
            go_roundw
            case rel=>exact⟨j+1,by go_num,by omega,by rw[HT2S.out,HT2.out,HA1.out,HL.out,HT3.out];rfl,rfl⟩
            case measure=>simp[intOf];omega
       ·obtain rfl:j=k:=by have:=HL.out;omega
        go_wp2
        go_roundw
        case rel=>exact⟨i+1,by go_num,by omega,by rw[HT1S.out,HT1.out,HB1.out,HL.out,HT2.out];rfl,rfl⟩
        case measure=>simp[intOf];omega
    ·obtain rfl:i=k:=by have:=HL.out;omega
     have ho:IsOrd l.length (bt l):=(tr1_iff hl64).1 (by rw[HL.out];exact HT1.out)
     have HO:=Lib.hid ho
     clear ho HCALL
     obtain⟨wo,rfl⟩: ∃wo:World,wo=wr:=⟨_,rfl⟩
     go_wp2
     go_loopw [8] (fun v8 wr=>R8 l wo v8 wr) (fun v8 _=>i - (intOf v8).toNat)
     case atStart=>exact⟨0,rfl,by omega,rfl,Below.refl _ _⟩
     case round=>
      obtain⟨a,rfl,ha,hla,hbe⟩:=hrel
      have HLA:=Lib.hid hla
      clear hla
      by_cases hlt4:a < i
      ·have hal:a < l.length:=by rw[HL.out];exact hlt4
       have HLAS:=Lib.hid (la1_succ l a)
       go_wp2
       go_loopw [9] (fun v9 wr=>R9 l wo a v9 wr) (fun v9 _=>i - (intOf v9).toNat)
       case atStart=>exact⟨0,rfl,by omega,rfl,hbe⟩
       case round=>
        clear hbe
        obtain⟨b,rfl,hb,hlb,hbe⟩:=hrel
        have HLB:=Lib.hid hlb
        clear hlb
        by_cases hlt5:b < i
        ·have hbl:b < l.length:=by rw[HL.out];exact hlt5
         have HLBS:=Lib.hid (la2_succ l a b)
         have HNO:Hid ((leastB l (upsL l a b) && greatB l (downsL l a b))=false→ChkIs l 7):=Lib.hid (la_no hl64 HKN.out HO.out hal hbl)
         have hr:=h.at_size (Nat.le_refl _) hbe
         have hfu:Fit (upsL l a b):=pick_fit _ _ (by omega)
         have hfd:Fit (downsL l a b):=pick_fit _ _ (by omega)
         go_wp2_with fail
         refine(refAbove_any A i c l a b _ hr hf (by omega) (by omega) (by omega)).mono ?_
         rintro e w1 ⟨A1,n1,c1,rfl,f1⟩
         have hr1:=hr.at_size (Nat.le_refl _) f1.bel
         go_wp2_with fail
         refine(refLeast_any A A1 i c n1 c1 _ _ l (upsL l a b) w1 hr1 hf f1.rd hfu).mono ?_
         rintro e w2 ⟨⟨v,rfl⟩,hd2⟩
         have b2:=Below.then (Below.then hbe f1.bel) (hd2.below (B:=w1.heap.size))
         have hr2:=hr1.at_size (Nat.le_refl _) hd2.below
         clear hr hr1 hbe hd2 f1 hfu
         go_wp2_with fail
         refine(refUnder_any A i c l a b _ hr2 hf (by omega) (by omega) (by omega)).mono ?_
         rintro e w3 ⟨A3,n3,c3,rfl,f3⟩
         have hr3:=hr2.at_size (Nat.le_refl _) f3.bel
         go_wp2_with fail
         refine(refGreatest_any A A3 i c n3 c3 _ _ l (downsL l a b) w3 hr3 hf f3.rd hfd).mono ?_
         rintro e w4 ⟨⟨v2,rfl⟩,hd4⟩
         have b4:=Below.then (Below.then b2 f3.bel) (hd4.below (B:=w3.heap.size))
         clear hr2 hr3 b2 hd4 f3 hfd
         generalize leastB l (upsL l a b)=p1 at*
         generalize greatB l (downsL l a b)=p2 at*
         cases p1 with
         |false=>
          go_wp2_with fail
          go_ret
          exact⟨7,rfl,HNO.out rfl,b4⟩
         |true=>
          cases p2 with
          |false=>
           go_wp2_with fail
           go_ret
           exact⟨7,rfl,HNO.out rfl,b4⟩
          |true=>
           go_wp2_with fail
           go_roundw
           case rel=>exact⟨b+1,by go_num,by omega,by rw[HLBS.out,HLB.out];rfl,b4⟩
           case measure=>simp[intOf];omega
        ·obtain rfl:b=i:=by have:=HL.out;omega
         go_wp2
         go_roundw
         case rel=>exact⟨a+1,by go_num,by omega,by rw[HLAS.out,HLA.out,HL.out,HLB.out];rfl,hbe⟩
         case measure=>simp[intOf];omega
      ·obtain rfl:a=i:=by have:=HL.out;omega
       go_wp2
       go_ret
       exact⟨0,rfl,.inr (.inr (.inr ⟨HKN.out,HO.out,(la1_iff hl64).1 (by rw[HL.out];exact HLA.out),rfl⟩)),hbe⟩
end Go.Proofs.YtphklakjadchmaaGreatDoor.La
