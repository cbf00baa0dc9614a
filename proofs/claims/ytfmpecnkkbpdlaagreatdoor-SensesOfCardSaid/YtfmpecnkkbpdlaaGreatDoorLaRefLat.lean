import Derived.Test.YtfmpecnkkbpdlaaGreatDoorLaLat
import Derived.Test.YtfmpecnkkbpdlaaGreatDoorLaOrd
set_option maxRecDepth 100000
set_option maxHeartbeats 400000
namespace Go.Proofs.YtfmpecnkkbpdlaaGreatDoor.La
open Go.RowKit
theorem Zel (w:World)(k:Nat):Rd nm (w.alloc (.cells #[.int .u64 (k:Int)] 72)) (w.alloc (.cells #[.int .u64 (k:Int)] 72)).heap.size (some ⟨w.heap.size,0,none⟩) 1 1 [k]:=Rd.new w #[.int .u64 (k:Int)] 72 1 [k] rfl rfl (by decide)
def Found (f:Nat→Nat→Bool)(s:List Nat)(v:Nat):Prop:=(lsK f s s.length=true∧v∈s∧ ∀y∈s,f v y=true)∨(lsK f s s.length=false∧v=0)
theorem ZcI {f:Nat→Nat→Bool}{s:List Nat}{i:Nat}(hi:i < s.length)(e:UT f s (s.getD i 0) s.length=true):Found f s s[i]:=by
 refine .inl ⟨KA hi e,List.getElem_mem hi,fun y hy=> ?_⟩
 obtain⟨j,hj,rfl⟩:=List.mem_iff_getElem.1 hy
 have:=List.all_eq_true.1 e j (List.mem_range.2 hj)
 rwa [getD_at hi,getD_at hj] at this
def ZjY (f:Nat→Nat→Bool)(s:List Nat)(w:World)(v6:Value)(wr:World):Prop:= ∃i:Nat,v6= .int .i64 (i:Int)∧i≤s.length∧lsK f s i=false∧Drawn w wr
def LsIn (f:Nat→Nat→Bool)(s:List Nat)(w:World)(i:Nat)(v7 v8:Value)(wr:World):Prop:= ∃j:Nat,v8= .int .i64 (j:Int)∧j≤s.length∧v7= .bool (UT f s (s.getD i 0) j)∧Drawn w wr
theorem Ut (A A2:Option Addr)(n c n2 c2 B B2:Nat)(l s:List Nat)(w:World)(h:Rd nm w B A n c l)(hf:Fit l)(h2:Rd nm w B2 A2 n2 c2 s)(hf2:Fit s):
  Calls Tryz.prog 173 #[.slice A n c,.slice A2 n2 c2] w fun e w'=>(∃v:Nat,e= .returned (.tuple #[.int .u64 (v:Int),.bool (Uk l s)])∧Found (Zh l) s v)∧Drawn w w':=by
 have HL:=Hd h2.len
 have hcap:=h2.cap
 have htop:=h2.top
 unfold maxLen at htop
 go_enter Tryz.func173,Tryz.ntmps173
 go_wp2
 go_loopw [6] (fun v6 wr=>ZjY (Zh l) s w v6 wr) (fun v6 _=>n2 - (intOf v6).toNat)
 case atStart=>exact⟨0,rfl,by omega,rfl,Drawn.refl _⟩
 case round=>
  obtain⟨i,rfl,hi,hls,hd⟩:=hrel
  have HK:=Hd hls
  clear hls
  by_cases hlt:i < n2
  ·obtain⟨b,o,rfl,hbb,hc⟩:=h2.spot (by omega)
   have hi':i < s.length:=by rw[HL.out];exact hlt
   have hcx:wr.cell? ⟨b,o+i,none⟩=some (.int .u64 (s[i]:Int)):=(hd.cell _).trans (hc i hi')
   have hx:=hf2.get i hi'
   have HS:=Hd (Zc3 (Zh l) s i)
   have HX:=Hd (getD_at hi')
   have HT:Hid (UT (Zh l) s (s.getD i 0) s.length=true→Uk l s=true):=Hd fun e=>KA hi' e
   have HFO:Hid (UT (Zh l) s (s.getD i 0) s.length=true→Found (Zh l) s s[i]):=Hd fun e=>ZcI hi' e
   have HC:=Hd hc
   have HR:=Hd h
   have HXC:=Hd (hc i hi')
   clear hc h
   generalize hxx:s[i]=x at*
   have HXX:=Hd hxx
   clear hxx
   go_wp2
   go_loopw [7,8] (fun v7 v8 wr=>LsIn (Zh l) s w i v7 v8 wr) (fun _ v8 _=>n2 - (intOf v8).toNat)
   case atStart=>exact⟨0,rfl,by omega,rfl,hd⟩
   case round=>
    clear hcx hd
    obtain⟨j,rfl,hj,rfl,hd⟩:=hrel
    have hcx:wr.cell? ⟨b,o+i,none⟩=some (.int .u64 (x:Int)):=(hd.cell _).trans HXC.out
    cases hall:UT (Zh l) s (s.getD i 0) j with
    |true=>
     have HA:=Hd hall
     clear hall
     by_cases hlt2:j < n2
     ·have hj':j < s.length:=by rw[HL.out];exact hlt2
      have hcy:wr.cell? ⟨b,o+j,none⟩=some (.int .u64 (s[j]:Int)):=(hd.cell _).trans (HC.out j hj')
      have hy:=hf2.get j hj'
      have HAS:=Hd (UM (Zh l) s (s.getD i 0) j)
      have HY:=Hd (getD_at hj')
      generalize hyy:s[j]=y at*
      clear hyy
      have hcall: ∀W,W.heap=w.heap→Calls Tryz.prog 172 #[.slice A n c,.int .u64 (x:Int),.int .u64 (y:Int)] W fun e w'=>e= .returned (.bool (Zh l x y))∧w'=W:=fun W hW=>Ru A n c B l x y W (HR.out.keep fun _ _=>by rw[hW]) hf hx hy
      have HCALL:=Hd hcall
      clear hcall
      have HE:Hid (UT (Zh l) s (s.getD i 0) (j+1)=Zh l x y):=Hd (by rw[HAS.out,HA.out,HX.out,HY.out,Bool.true_and])
      generalize Zh l x y=r at*
      go_wp2
      go_quiet ((go_at_call 172;exact Calls.quiet_of_same (HCALL.out _ hd.heap)))
      go_wp2
      go_roundw
      case rel=>exact⟨j+1,by go_num,by omega,by rw[HE.out],hd.more _⟩
      case measure=>simp[intOf];omega
     ·obtain rfl:j=n2:=by have:=HL.out;omega
      go_wp2
      exact bodyPost_ret (v:= .tuple #[.int .u64 (x:Int),.bool true]) (by simp[results,Tryz.results173,go_sem]) rfl ⟨⟨x,by rw[HT.out (by rw[HL.out];exact HA.out)],HFO.out (by rw[HL.out];exact HA.out)⟩,hd⟩
    |false=>
     have HA:=Hd hall
     clear hall
     by_cases hlt2:j < n2
     ·have hj':j < s.length:=by rw[HL.out];exact hlt2
      have HAS:=Hd (UM (Zh l) s (s.getD i 0) j)
      go_wp2
      go_quiet (fail)
      go_wp2
      go_roundw
      case rel=>exact⟨j+1,by go_num,by omega,by rw[HAS.out,HA.out];rfl,hd.more _⟩
      case measure=>simp[intOf];omega
     ·obtain rfl:j=n2:=by have:=HL.out;omega
      go_wp2
      go_roundw
      case rel=>exact⟨i+1,by go_num,by omega,by rw[HS.out,HK.out,HL.out,HA.out];rfl,hd⟩
      case measure=>simp[intOf];omega
  ·obtain rfl:i=n2:=by have:=HL.out;omega
   go_wp2
   exact bodyPost_ret (v:= .tuple #[.int .u64 0,.bool false]) (by simp[results,Tryz.results173,go_sem]) rfl ⟨⟨0,by rw[show Uk l s=false from by have:=HK.out;rwa [← HL.out] at this];rfl,.inr ⟨by have:=HK.out;rwa [← HL.out] at this,rfl⟩⟩,hd⟩
theorem VE (A A2:Option Addr)(n c n2 c2 B B2:Nat)(l s:List Nat)(w:World)(h:Rd nm w B A n c l)(hf:Fit l)(h2:Rd nm w B2 A2 n2 c2 s)(hf2:Fit s):
  Calls Tryz.prog 175 #[.slice A n c,.slice A2 n2 c2] w fun e w'=>(∃v:Nat,e= .returned (.tuple #[.int .u64 (v:Int),.bool (Ul l s)])∧Found (fun x y=>Zh l y x) s v)∧Drawn w w':=by
 have HL:=Hd h2.len
 have hcap:=h2.cap
 have htop:=h2.top
 unfold maxLen at htop
 go_enter Tryz.func175,Tryz.ntmps175
 go_wp2
 go_loopw [6] (fun v6 wr=>ZjY (fun x y=>Zh l y x) s w v6 wr) (fun v6 _=>n2 - (intOf v6).toNat)
 case atStart=>exact⟨0,rfl,by omega,rfl,Drawn.refl _⟩
 case round=>
  obtain⟨i,rfl,hi,hls,hd⟩:=hrel
  have HK:=Hd hls
  clear hls
  by_cases hlt:i < n2
  ·obtain⟨b,o,rfl,hbb,hc⟩:=h2.spot (by omega)
   have hi':i < s.length:=by rw[HL.out];exact hlt
   have hcx:wr.cell? ⟨b,o+i,none⟩=some (.int .u64 (s[i]:Int)):=(hd.cell _).trans (hc i hi')
   have hx:=hf2.get i hi'
   have HS:=Hd (Zc3 (fun x y=>Zh l y x) s i)
   have HX:=Hd (getD_at hi')
   have HT:Hid (UT (fun x y=>Zh l y x) s (s.getD i 0) s.length=true→Ul l s=true):=Hd fun e=>KA hi' e
   have HFO:Hid (UT (fun x y=>Zh l y x) s (s.getD i 0) s.length=true→Found (fun x y=>Zh l y x) s s[i]):=Hd fun e=>ZcI hi' e
   have HC:=Hd hc
   have HR:=Hd h
   have HXC:=Hd (hc i hi')
   clear hc h
   generalize hxx:s[i]=x at*
   have HXX:=Hd hxx
   clear hxx
   go_wp2
   go_loopw [7,8] (fun v7 v8 wr=>LsIn (fun x y=>Zh l y x) s w i v7 v8 wr) (fun _ v8 _=>n2 - (intOf v8).toNat)
   case atStart=>exact⟨0,rfl,by omega,rfl,hd⟩
   case round=>
    clear hcx hd
    obtain⟨j,rfl,hj,rfl,hd⟩:=hrel
    have hcx:wr.cell? ⟨b,o+i,none⟩=some (.int .u64 (x:Int)):=(hd.cell _).trans HXC.out
    cases hall:UT (fun x y=>Zh l y x) s (s.getD i 0) j with
    |true=>
     have HA:=Hd hall
     clear hall
     by_cases hlt2:j < n2
     ·have hj':j < s.length:=by rw[HL.out];exact hlt2
      have hcy:wr.cell? ⟨b,o+j,none⟩=some (.int .u64 (s[j]:Int)):=(hd.cell _).trans (HC.out j hj')
      have hy:=hf2.get j hj'
      have HAS:=Hd (UM (fun x y=>Zh l y x) s (s.getD i 0) j)
      have HY:=Hd (getD_at hj')
      generalize hyy:s[j]=y at*
      clear hyy
      have hcall: ∀W,W.heap=w.heap→Calls Tryz.prog 172 #[.slice A n c,.int .u64 (y:Int),.int .u64 (x:Int)] W fun e w'=>e= .returned (.bool (Zh l y x))∧w'=W:=fun W hW=>Ru A n c B l y x W (HR.out.keep fun _ _=>by rw[hW]) hf hy hx
      have HCALL:=Hd hcall
      clear hcall
      have HE:Hid (UT (fun x y=>Zh l y x) s (s.getD i 0) (j+1)=Zh l y x):=Hd (by rw[HAS.out,HA.out,HX.out,HY.out,Bool.true_and])
      generalize Zh l y x=r at*
      go_wp2
      go_quiet ((go_at_call 172;exact Calls.quiet_of_same (HCALL.out _ hd.heap)))
      go_wp2
      go_roundw
      case rel=>exact⟨j+1,by go_num,by omega,by rw[HE.out],hd.more _⟩
      case measure=>simp[intOf];omega
     ·obtain rfl:j=n2:=by have:=HL.out;omega
      go_wp2
      exact bodyPost_ret (v:= .tuple #[.int .u64 (x:Int),.bool true]) (by simp[results,Tryz.results175,go_sem]) rfl ⟨⟨x,by rw[HT.out (by rw[HL.out];exact HA.out)],HFO.out (by rw[HL.out];exact HA.out)⟩,hd⟩
    |false=>
     have HA:=Hd hall
     clear hall
     by_cases hlt2:j < n2
     ·have hj':j < s.length:=by rw[HL.out];exact hlt2
      have HAS:=Hd (UM (fun x y=>Zh l y x) s (s.getD i 0) j)
      go_wp2
      go_quiet (fail)
      go_wp2
      go_roundw
      case rel=>exact⟨j+1,by go_num,by omega,by rw[HAS.out,HA.out];rfl,hd.more _⟩
      case measure=>simp[intOf];omega
     ·obtain rfl:j=n2:=by have:=HL.out;omega
      go_wp2
      go_roundw
      case rel=>exact⟨i+1,by go_num,by omega,by rw[HS.out,HK.out,HL.out,HA.out];rfl,hd⟩
      case measure=>simp[intOf];omega
  ·obtain rfl:i=n2:=by have:=HL.out;omega
   go_wp2
   exact bodyPost_ret (v:= .tuple #[.int .u64 0,.bool false]) (by simp[results,Tryz.results175,go_sem]) rfl ⟨⟨0,by rw[show Ul l s=false from by have:=HK.out;rwa [← HL.out] at this];rfl,.inr ⟨by have:=HK.out;rwa [← HL.out] at this,rfl⟩⟩,hd⟩
theorem Za7 (A A2:Option Addr)(n c n2 c2 B B2:Nat)(l s:List Nat)(w:World)(h:Rd nm w B A n c l)(hf:Fit l)(h2:Rd nm w B2 A2 n2 c2 s)(hf2:Fit s):
  Calls Tryz.prog 173 #[.slice A n c,.slice A2 n2 c2] w fun e w'=>(∃v:Nat,e= .returned (.tuple #[.int .u64 (v:Int),.bool (Uk l s)]))∧Drawn w w':=
 (Ut A A2 n c n2 c2 B B2 l s w h hf h2 hf2).mono fun _ _ ⟨⟨v,he,_⟩,hd⟩=>⟨⟨v,he⟩,hd⟩
theorem KN (A A2:Option Addr)(n c n2 c2 B B2:Nat)(l s:List Nat)(w:World)(h:Rd nm w B A n c l)(hf:Fit l)(h2:Rd nm w B2 A2 n2 c2 s)(hf2:Fit s):
  Calls Tryz.prog 175 #[.slice A n c,.slice A2 n2 c2] w fun e w'=>(∃v:Nat,e= .returned (.tuple #[.int .u64 (v:Int),.bool (Ul l s)]))∧Drawn w w':=
 (VE A A2 n c n2 c2 B B2 l s w h hf h2 hf2).mono fun _ _ ⟨⟨v,he,_⟩,hd⟩=>⟨⟨v,he⟩,hd⟩
def ZjZ (l:List Nat)(a b:Nat)(w:World)(v7 v8:Value)(wr:World):Prop:=
 ∃k:Nat,v8= .int .u64 (k:Int)∧k≤l.length∧ ∃A' n' c',v7= .slice A' n' c'∧Fresh nm 72 w wr A' n' c' (pick (fun i=>Zh l a i && Zh l b i) k)
theorem YN (A:Option Addr)(n c:Nat)(l:List Nat)(a b:Nat)(w:World)(h:Rd nm w w.heap.size A n c l)(hf:Fit l)(ha:a < 18446744073709551616)(hb:b < 18446744073709551616)(hn:n≤1000):
  Calls Tryz.prog 174 #[.slice A n c,.int .u64 (a:Int),.int .u64 (b:Int)] w fun e w'=> ∃A' n' c',e= .returned (.slice A' n' c')∧Fresh nm 72 w w' A' n' c' (upsL l a b):=by
 obtain⟨i0,hi0,hz0,hz1,hz2⟩:=info_parts YU
 have HL:=Hd h.len
 go_enter Tryz.func174,Tryz.ntmps174
 go_wp2
 go_loopw [7,8] (fun v7 v8 wr=>ZjZ l a b w v7 v8 wr) (fun _ v8 _=>n - (intOf v8).toNat)
 case atStart=>exact⟨0,rfl,by omega,none,0,0,rfl,World.ownsRow_nil _ _ _ _,Below.refl _ _⟩
 case round=>
  obtain⟨k,rfl,hk,A',n',c',rfl,hfr⟩:=hrel
  by_cases hlt:k < n
  ·have hlt':k < n:=hlt
   have hr:=h.below hfr.bel
   have hc1: ∀W,(∀j,j < w.heap.size→W.heap[j]?=wr.heap[j]?)→Calls Tryz.prog 172 #[.slice A n c,.int .u64 (a:Int),.int .u64 (k:Int)] W fun e w'=>e= .returned (.bool (Zh l a k))∧W=w':=fun W hW=>Zy A n c w.heap.size l a k W (hr.keep hW) hf ha (by omega)
   have hc2: ∀W,(∀j,j < w.heap.size→W.heap[j]?=wr.heap[j]?)→Calls Tryz.prog 172 #[.slice A n c,.int .u64 (b:Int),.int .u64 (k:Int)] W fun e w'=>e= .returned (.bool (Zh l b k))∧W=w':=fun W hW=>Zy A n c w.heap.size l b k W (hr.keep hW) hf hb (by omega)
   have HC1:=Hd hc1
   have HC2:=Hd hc2
   have HP:=Hd (ZbF (fun i=>Zh l a i && Zh l b i) k)
   have hlen:=Zc4 (fun i=>Zh l a i && Zh l b i) k
   have hnl:=hfr.len
   clear hc1 hc2 hr
   generalize hq:pick (fun i=>Zh l a i && Zh l b i) k=ks at*
   have HQ:=Hd hq
   clear hq
   have HP:Hid (pick (fun i=>Zh l a i && Zh l b i) (k+1)=if Zh l a k && Zh l b k then ks++ [k] else ks):=HP
   generalize Zh l a k=r1 at*
   generalize Zh l b k=r2 at*
   cases r1 with
   |false=>
    go_wp2_with (go_at_call 172;refine(HC1.out _ (fun _ _=>rfl)).mono ?_;rintro e w' ⟨rfl,rfl⟩)
    go_roundw
    case rel=>exact⟨k+1,by go_num,by have:=HL.out;omega,A',n',c',rfl,by rw[HP.out];exact hfr⟩
    case measure=>simp[intOf];omega
   |true=>
    cases r2 with
    |false=>
     go_wp2_with (go_at_call 172;(first|(with_reducible refine(HC1.out _ (fun _ _=>rfl)).mono ?_)|(with_reducible refine(HC2.out _ (fun _ _=>rfl)).mono ?_));rintro e w' ⟨rfl,rfl⟩)
     go_roundw
     case rel=>exact⟨k+1,by go_num,by have:=HL.out;omega,A',n',c',rfl,by rw[HP.out];exact hfr⟩
     case measure=>simp[intOf];omega
    |true=>
     have o1:=Zel wr k
     go_wp2_with (first|(go_at_call 172;(first|(with_reducible refine(HC1.out _ (fun _ _=>rfl)).mono ?_)|(with_reducible refine(HC2.out _ (fun _ _=>rfl)).mono ?_));rintro e w' ⟨rfl,rfl⟩)|(at_builtin;refine Va _ rfl (.tmp 26) (.tmp 28) 22 rfl w.heap.size 72 i0 (.int .u64 0) 8 Tryz.underlying22 hi0 hz0 hz1 hz2 rfl Zc1 (.slice A' n' c') n' ks rfl (hfr.own.alloc _) _ _ 1 1 [k] rfl o1 (by unfold maxLen;omega) (by omega) (by have:=hfr.bel.size;simp;omega) ?_;intro A2 k2 c2 w2 hk2 own2 hg2 ha2))
     go_roundw
     case rel=>exact⟨k+1,by go_num,by have:=HL.out;omega,A2,k2,c2,rfl,by rw[HP.out];exact⟨own2,(hfr.bel.alloc hfr.bel.size _).grown hg2 (Nat.le_trans hfr.bel.size (by simp)) (fun j hj=>(hfr.own.lt j hj).1)⟩⟩
     case measure=>simp[intOf];omega
  ·obtain rfl:k=n:=by have:=HL.out;omega
   go_wp2
   go_ret
   exact⟨A',n',c',rfl,by unfold upsL;rw[HL.out];exact hfr⟩
def Zj0 (l:List Nat)(a b:Nat)(w:World)(v7 v8:Value)(wr:World):Prop:=
 ∃k:Nat,v8= .int .u64 (k:Int)∧k≤l.length∧ ∃A' n' c',v7= .slice A' n' c'∧Fresh nm 72 w wr A' n' c' (pick (fun i=>Zh l i a && Zh l i b) k)
theorem YO (A:Option Addr)(n c:Nat)(l:List Nat)(a b:Nat)(w:World)(h:Rd nm w w.heap.size A n c l)(hf:Fit l)(ha:a < 18446744073709551616)(hb:b < 18446744073709551616)(hn:n≤1000):
  Calls Tryz.prog 176 #[.slice A n c,.int .u64 (a:Int),.int .u64 (b:Int)] w fun e w'=> ∃A' n' c',e= .returned (.slice A' n' c')∧Fresh nm 72 w w' A' n' c' (Vx l a b):=by
 obtain⟨i0,hi0,hz0,hz1,hz2⟩:=info_parts YU
 have HL:=Hd h.len
 go_enter Tryz.func176,Tryz.ntmps176
 go_wp2
 go_loopw [7,8] (fun v7 v8 wr=>Zj0 l a b w v7 v8 wr) (fun _ v8 _=>n - (intOf v8).toNat)
 case atStart=>exact⟨0,rfl,by omega,none,0,0,rfl,World.ownsRow_nil _ _ _ _,Below.refl _ _⟩
 case round=>
  obtain⟨k,rfl,hk,A',n',c',rfl,hfr⟩:=hrel
  by_cases hlt:k < n
  ·have hlt':k < n:=hlt
   have hr:=h.below hfr.bel
   have hc1: ∀W,(∀j,j < w.heap.size→W.heap[j]?=wr.heap[j]?)→Calls Tryz.prog 172 #[.slice A n c,.int .u64 (k:Int),.int .u64 (a:Int)] W fun e w'=>e= .returned (.bool (Zh l k a))∧W=w':=fun W hW=>Zy A n c w.heap.size l k a W (hr.keep hW) hf (by omega) ha
   have hc2: ∀W,(∀j,j < w.heap.size→W.heap[j]?=wr.heap[j]?)→Calls Tryz.prog 172 #[.slice A n c,.int .u64 (k:Int),.int .u64 (b:Int)] W fun e w'=>e= .returned (.bool (Zh l k b))∧W=w':=fun W hW=>Zy A n c w.heap.size l k b W (hr.keep hW) hf (by omega) hb
   have HC1:=Hd hc1
   have HC2:=Hd hc2
   have HP:=Hd (ZbF (fun i=>Zh l i a && Zh l i b) k)
   have hlen:=Zc4 (fun i=>Zh l i a && Zh l i b) k
   have hnl:=hfr.len
   clear hc1 hc2 hr
   generalize hq:pick (fun i=>Zh l i a && Zh l i b) k=ks at*
   have HQ:=Hd hq
   clear hq
   have HP:Hid (pick (fun i=>Zh l i a && Zh l i b) (k+1)=if Zh l k a && Zh l k b then ks++ [k] else ks):=HP
   generalize Zh l k a=r1 at*
   generalize Zh l k b=r2 at*
   cases r1 with
   |false=>
    go_wp2_with (go_at_call 172;refine(HC1.out _ (fun _ _=>rfl)).mono ?_;rintro e w' ⟨rfl,rfl⟩)
    go_roundw
    case rel=>exact⟨k+1,by go_num,by have:=HL.out;omega,A',n',c',rfl,by rw[HP.out];exact hfr⟩
    case measure=>simp[intOf];omega
   |true=>
    cases r2 with
    |false=>
     go_wp2_with (go_at_call 172;(first|(with_reducible refine(HC1.out _ (fun _ _=>rfl)).mono ?_)|(with_reducible refine(HC2.out _ (fun _ _=>rfl)).mono ?_));rintro e w' ⟨rfl,rfl⟩)
     go_roundw
     case rel=>exact⟨k+1,by go_num,by have:=HL.out;omega,A',n',c',rfl,by rw[HP.out];exact hfr⟩
     case measure=>simp[intOf];omega
    |true=>
     have o1:=Zel wr k
     go_wp2_with (first|(go_at_call 172;(first|(with_reducible refine(HC1.out _ (fun _ _=>rfl)).mono ?_)|(with_reducible refine(HC2.out _ (fun _ _=>rfl)).mono ?_));rintro e w' ⟨rfl,rfl⟩)|(at_builtin;refine Va _ rfl (.tmp 26) (.tmp 28) 22 rfl w.heap.size 72 i0 (.int .u64 0) 8 Tryz.underlying22 hi0 hz0 hz1 hz2 rfl Zc1 (.slice A' n' c') n' ks rfl (hfr.own.alloc _) _ _ 1 1 [k] rfl o1 (by unfold maxLen;omega) (by omega) (by have:=hfr.bel.size;simp;omega) ?_;intro A2 k2 c2 w2 hk2 own2 hg2 ha2))
     go_roundw
     case rel=>exact⟨k+1,by go_num,by have:=HL.out;omega,A2,k2,c2,rfl,by rw[HP.out];exact⟨own2,(hfr.bel.alloc hfr.bel.size _).grown hg2 (Nat.le_trans hfr.bel.size (by simp)) (fun j hj=>(hfr.own.lt j hj).1)⟩⟩
     case measure=>simp[intOf];omega
  ·obtain rfl:k=n:=by have:=HL.out;omega
   go_wp2
   go_ret
   exact⟨A',n',c',rfl,by unfold Vx;rw[HL.out];exact hfr⟩
end Go.Proofs.YtfmpecnkkbpdlaaGreatDoor.La
namespace Go.Proofs.YtfmpecnkkbpdlaaGreatDoor.La
open Go.RowKit
section
variable {l:List Nat} (h:Y8 l)
include h
theorem ZN {a b:Nat}(ha:a < l.length)(hb:b < l.length):Zh l a b=bt l a b:=Ym h.known.1.2 ha hb
theorem ZdZ {a b v:Nat}(k:Found (Zh l) (upsL l a b) v):v=ZQ l l.length a b:=by
 by_cases hab:a < l.length∧b < l.length
 ·obtain⟨ha,hb⟩:=hab
  have j:=Zat h ha hb
  have mem: ∀x,x∈upsL l a b↔x < l.length∧bt l a x=true∧bt l b x=true:=fun x=>by
   rw[upsL,UN,Bool.and_eq_true]
   constructor
   ·rintro⟨h1,h2,h3⟩
    exact⟨h1,by rw[← ZN h ha h1];exact h2,by rw[← ZN h hb h1];exact h3⟩
   ·rintro⟨h1,h2,h3⟩
    exact⟨h1,by rw[ZN h ha h1];exact h2,by rw[ZN h hb h1];exact h3⟩
  rcases k with⟨_,hm,hall⟩|⟨hno,_⟩
  ·obtain⟨h1,h2,h3⟩:=(mem v).1 hm
   exact(ZfG h ha hb ⟨h1,h2,h3,fun d hd g1 g2=>by
    rw[← ZN h h1 hd]
    exact hall d ((mem d).2 ⟨hd,g1,g2⟩)⟩).symm
  ·have:=(Qp (Zh l) (upsL l a b)).2 ⟨_,(mem _).2 ⟨j.lt,j.fst,j.snd⟩,fun y hy=>by
    obtain⟨h1,h2,h3⟩:=(mem y).1 hy
    rw[ZN h j.lt h1]
    exact j.least y h1 h2 h3⟩
   rw[hno] at this
   cases this
 ·rw[ZQ,if_neg hab]
  rcases k with⟨_,hm,_⟩|⟨_,hv⟩
  ·obtain⟨_,h2⟩:=(UN _ _ _).1 hm
   rw[Bool.and_eq_true] at h2
   exact absurd ⟨(Yn h2.1).1,(Yn h2.2).1⟩ hab
  ·exact hv
theorem Zd0 {a b v:Nat}(k:Found (fun x y=>Zh l y x) (Vx l a b) v):v=ZQ (Zn l) l.length a b:=by
 by_cases hab:a < l.length∧b < l.length
 ·obtain⟨ha,hb⟩:=hab
  have j:=Zcs h ha hb
  have mem: ∀x,x∈Vx l a b↔x < l.length∧bt l x a=true∧bt l x b=true:=fun x=>by
   rw[Vx,UN,Bool.and_eq_true]
   constructor
   ·rintro⟨h1,h2,h3⟩
    exact⟨h1,by rw[← ZN h h1 ha];exact h2,by rw[← ZN h h1 hb];exact h3⟩
   ·rintro⟨h1,h2,h3⟩
    exact⟨h1,by rw[ZN h h1 ha];exact h2,by rw[ZN h h1 hb];exact h3⟩
  rcases k with⟨_,hm,hall⟩|⟨hno,_⟩
  ·obtain⟨h1,h2,h3⟩:=(mem v).1 hm
   exact(ZfH h ha hb ⟨h1,h2,h3,fun d hd g1 g2=>by
    show bt l d v=true
    rw[← ZN h hd h1]
    exact hall d ((mem d).2 ⟨hd,g1,g2⟩)⟩).symm
  ·have:=(Qp (fun x y=>Zh l y x) (Vx l a b)).2 ⟨_,(mem _).2 ⟨j.lt,j.fst,j.snd⟩,fun y hy=>by
    obtain⟨h1,h2,h3⟩:=(mem y).1 hy
    rw[ZN h h1 j.lt]
    exact j.least y h1 h2 h3⟩
   rw[hno] at this
   cases this
 ·rw[ZQ,if_neg hab]
  rcases k with⟨_,hm,_⟩|⟨_,hv⟩
  ·obtain⟨_,h2⟩:=(UN _ _ _).1 hm
   rw[Bool.and_eq_true] at h2
   exact absurd ⟨(Yn h2.1).2,(Yn h2.2).2⟩ hab
  ·exact hv
theorem Ze2 {v:Nat}(k:Found (Zh l) (List.range l.length) v):v=endN l l.length:=by
 have j:=Zdd h
 rcases k with⟨_,hm,hall⟩|⟨hno,_⟩
 ·have h1:=List.mem_range.1 hm
  exact(Zhv h ⟨h1,fun d hd=>by
   rw[← ZN h h1 hd]
   exact hall d (List.mem_range.2 hd)⟩).symm
 ·have:=(Qp (Zh l) (List.range l.length)).2 ⟨_,List.mem_range.2 j.lt,fun y hy=>by
   rw[ZN h j.lt (List.mem_range.1 hy)]
   exact j.all y (List.mem_range.1 hy)⟩
  rw[hno] at this
  cases this
theorem Ze3 {v:Nat}(k:Found (fun x y=>Zh l y x) (List.range l.length) v):v=endN (Zn l) l.length:=by
 have j:=ZfF h
 rcases k with⟨_,hm,hall⟩|⟨hno,_⟩
 ·have h1:=List.mem_range.1 hm
  exact(Zhw h ⟨h1,fun d hd=>by
   show bt l d v=true
   rw[← ZN h hd h1]
   exact hall d (List.mem_range.2 hd)⟩).symm
 ·have:=(Qp (fun x y=>Zh l y x) (List.range l.length)).2 ⟨_,List.mem_range.2 j.lt,fun y hy=>by
   rw[ZN h (List.mem_range.1 hy) j.lt]
   exact j.all y (List.mem_range.1 hy)⟩
  rw[hno] at this
  cases this
end
def Zk7 (n:Nat)(w:World)(v3 v4:Value)(wr:World):Prop:=
 ∃k:Nat,v4= .int .u64 (k:Int)∧k≤n∧ ∃A' n' c',v3= .slice A' n' c'∧Fresh nm 72 w wr A' n' c' (List.range k)
theorem YR (A:Option Addr)(n c:Nat)(w:World)(hn:n≤1000):
  Calls Tryz.prog 225 #[.slice A n c] w fun e w'=> ∃A' n' c',e= .returned (.slice A' n' c')∧Fresh nm 72 w w' A' n' c' (List.range n):=by
 obtain⟨i0,hi0,hz0,hz1,hz2⟩:=info_parts YU
 go_enter Tryz.func225,Tryz.ntmps225
 go_wp2
 go_loopw [3,4] (fun v3 v4 wr=>Zk7 n w v3 v4 wr) (fun _ v4 _=>n - (intOf v4).toNat)
 case atStart=>exact⟨0,rfl,by omega,none,0,0,rfl,World.ownsRow_nil _ _ _ _,Below.refl _ _⟩
 case round=>
  obtain⟨k,rfl,hk,A',n',c',rfl,hfr⟩:=hrel
  by_cases hlt:k < n
  ·have hlen:=hfr.len
   rw[List.length_range] at hlen
   have HP:=Hd (List.range_succ (n:=k))
   have o1:=Zel wr k
   generalize hq:List.range k=ks at*
   clear hq
   have HN:=Hd hlen
   clear hlen
   go_wp2_with (at_builtin;refine Va _ rfl (.tmp 12) (.tmp 14) 22 rfl w.heap.size 72 i0 (.int .u64 0) 8 Tryz.underlying22 hi0 hz0 hz1 hz2 rfl Zc1 (.slice A' n' c') n' ks rfl (hfr.own.alloc _) _ _ 1 1 [k] rfl o1 (by have:=HN.out;unfold maxLen;omega) (by have:=HN.out;omega) (by have:=hfr.bel.size;simp;omega) ?_;intro A2 k2 c2 w2 hk2 own2 hg2 ha2)
   go_roundw
   case rel=>exact⟨k+1,by go_num,by omega,A2,k2,c2,rfl,by rw[HP.out];exact⟨own2,(hfr.bel.alloc hfr.bel.size _).grown hg2 (Nat.le_trans hfr.bel.size (by simp)) (fun j hj=>(hfr.own.lt j hj).1)⟩⟩
   case measure=>simp[intOf];omega
  ·obtain rfl:k=n:=by omega
   go_wp2
   go_ret
   exact⟨A',n',c',rfl,hfr⟩
theorem Zbq {n:Nat}(h:n≤1000):Fit (List.range n):=fun x hx=>by
 have:=List.mem_range.1 hx
 omega
theorem Z4 (A:Option Addr)(n c:Nat)(a:Nat)(w:World)(hn:n≤1000):Calls Tryz.prog 217 #[.slice A n c,.int .u64 (a:Int)] w fun e w'=>e= .returned (.bool (decide (a < n)))∧w=w':=by
 go_enter Tryz.func217,Tryz.ntmps217
 go_wp2
 go_ret
 exact⟨by simp,rfl⟩
theorem UZ (A:Option Addr)(n c:Nat)(l:List Nat)(a b:Nat)(w:World)(h:Rd nm w w.heap.size A n c l)(hf:Fit l)(hok:Y8 l)(ha:a < 18446744073709551616)(hb:b < 18446744073709551616):
  Calls Tryz.prog 220 #[.slice A n c,.int .u64 (a:Int),.int .u64 (b:Int)] w fun e w'=>e= .returned (.int .u64 (ZQ l n a b:Int))∧Below w.heap.size w w':=by
 have HL:=Hd h.len
 have HOK:=Hd hok
 have hn:n≤64:=by rw[← HL.out];exact hok.known.1.2
 clear hok
 have hfit:Fit (upsL l a b):=KC _ _ (by rw[HL.out];omega)
 go_enter Tryz.func220,Tryz.ntmps220
 go_wp2_with fail
 refine(YN A n c l a b w h hf ha hb (by omega)).mono ?_
 rintro e w1 ⟨A1,n1,c1,rfl,f1⟩
 go_wp2_with fail
 refine(Ut A A1 n c n1 c1 _ _ l (upsL l a b) w1 (h.at_size lR f1.bel) hf f1.rd hfit).mono ?_
 rintro e w2 ⟨⟨v,rfl,hv⟩,hd⟩
 have HV:Hid (ZQ l n a b=v):=Hd (by rw[← HL.out];exact(ZdZ HOK.out hv).symm)
 have hb2:=f1.bel.trans (hd.below (B:=w.heap.size))
 clear hv
 generalize Uk l (upsL l a b)=p at*
 go_wp2_with fail
 go_ret
 exact⟨by rw[HV.out];rfl,hb2⟩
theorem Zal (A:Option Addr)(n c:Nat)(l:List Nat)(w:World)(h:Rd nm w w.heap.size A n c l)(hf:Fit l)(hok:Y8 l):
  Calls Tryz.prog 198 #[.slice A n c] w fun e w'=>e= .returned (.int .u64 (endN l n:Int))∧Below w.heap.size w w':=by
 have HL:=Hd h.len
 have HOK:=Hd hok
 have hn:n≤64:=by rw[← HL.out];exact hok.known.1.2
 clear hok
 go_enter Tryz.func198,Tryz.ntmps198
 go_wp2_with fail
 refine(YR A n c w (by omega)).mono ?_
 rintro e w1 ⟨A1,n1,c1,rfl,f1⟩
 go_wp2_with fail
 refine(Ut A A1 n c n1 c1 _ _ l (List.range n) w1 (h.at_size lR f1.bel) hf f1.rd (Zbq (by omega))).mono ?_
 rintro e w2 ⟨⟨v,rfl,hv⟩,hd⟩
 have HV:Hid (endN l n=v):=Hd (by
  have:=Ze2 HOK.out (v:=v) (by rw[HL.out];exact hv)
  rw[this,HL.out])
 have hb2:=f1.bel.trans (hd.below (B:=w.heap.size))
 clear hv
 generalize Uk l (List.range n)=p at*
 go_wp2_with fail
 go_ret
 exact⟨by rw[HV.out];rfl,hb2⟩
theorem U0 (A:Option Addr)(n c:Nat)(l:List Nat)(a b:Nat)(w:World)(h:Rd nm w w.heap.size A n c l)(hf:Fit l)(hok:Y8 l)(ha:a < 18446744073709551616)(hb:b < 18446744073709551616):
  Calls Tryz.prog 223 #[.slice A n c,.int .u64 (a:Int),.int .u64 (b:Int)] w fun e w'=>e= .returned (.int .u64 (ZQ (Zn l) n a b:Int))∧Below w.heap.size w w':=by
 have HL:=Hd h.len
 have HOK:=Hd hok
 have hn:n≤64:=by rw[← HL.out];exact hok.known.1.2
 clear hok
 have hfit:Fit (Vx l a b):=KC _ _ (by rw[HL.out];omega)
 go_enter Tryz.func223,Tryz.ntmps223
 go_wp2_with fail
 refine(YO A n c l a b w h hf ha hb (by omega)).mono ?_
 rintro e w1 ⟨A1,n1,c1,rfl,f1⟩
 go_wp2_with fail
 refine(VE A A1 n c n1 c1 _ _ l (Vx l a b) w1 (h.at_size lR f1.bel) hf f1.rd hfit).mono ?_
 rintro e w2 ⟨⟨v,rfl,hv⟩,hd⟩
 have HV:Hid (ZQ (Zn l) n a b=v):=Hd (by rw[← HL.out];exact(Zd0 HOK.out hv).symm)
 have hb2:=f1.bel.trans (hd.below (B:=w.heap.size))
 clear hv
 generalize Ul l (Vx l a b)=p at*
 go_wp2_with fail
 go_ret
 exact⟨by rw[HV.out];rfl,hb2⟩
theorem UL (A:Option Addr)(n c:Nat)(l:List Nat)(w:World)(h:Rd nm w w.heap.size A n c l)(hf:Fit l)(hok:Y8 l):
  Calls Tryz.prog 199 #[.slice A n c] w fun e w'=>e= .returned (.int .u64 (endN (Zn l) n:Int))∧Below w.heap.size w w':=by
 have HL:=Hd h.len
 have HOK:=Hd hok
 have hn:n≤64:=by rw[← HL.out];exact hok.known.1.2
 clear hok
 go_enter Tryz.func199,Tryz.ntmps199
 go_wp2_with fail
 refine(YR A n c w (by omega)).mono ?_
 rintro e w1 ⟨A1,n1,c1,rfl,f1⟩
 go_wp2_with fail
 refine(VE A A1 n c n1 c1 _ _ l (List.range n) w1 (h.at_size lR f1.bel) hf f1.rd (Zbq (by omega))).mono ?_
 rintro e w2 ⟨⟨v,rfl,hv⟩,hd⟩
 have HV:Hid (endN (Zn l) n=v):=Hd (by
  have:=Ze3 HOK.out (v:=v) (by rw[HL.out];exact hv)
  rw[this,HL.out])
 have hb2:=f1.bel.trans (hd.below (B:=w.heap.size))
 clear hv
 generalize Ul l (List.range n)=p at*
 go_wp2_with fail
 go_ret
 exact⟨by rw[HV.out];rfl,hb2⟩
end Go.Proofs.YtfmpecnkkbpdlaaGreatDoor.La
