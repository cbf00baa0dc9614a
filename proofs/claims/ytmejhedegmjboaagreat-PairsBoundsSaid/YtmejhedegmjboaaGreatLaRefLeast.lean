import Derived.Test.YtmejhedegmjboaaGreatLaOrd
set_option maxRecDepth 100000
set_option maxHeartbeats 400000
namespace Go.Proofs.YtmejhedegmjboaaGreat.La
open Go.RowKit
theorem Zdm (w:World)(k:Nat):Rd nm (w.alloc (.cells #[.int .u64 (k:Int)] 60)) (w.alloc (.cells #[.int .u64 (k:Int)] 60)).heap.size (some ⟨w.heap.size,0,none⟩) 1 1 [k]:=Rd.new w #[.int .u64 (k:Int)] 60 1 [k] rfl rfl (by decide)
def Found (f:Nat→Nat→Bool)(s:List Nat)(v:Nat):Prop:=(lsK f s s.length=true∧v∈s∧ ∀y∈s,f v y=true)∨(lsK f s s.length=false∧v=0)
theorem Zdn {f:Nat→Nat→Bool}{s:List Nat}{i:Nat}(hi:i < s.length)(e:U1 f s (s.getD i 0) s.length=true):Found f s s[i]:=by
 refine .inl ⟨KF hi e,List.getElem_mem hi,fun y hy=> ?_⟩
 obtain⟨j,hj,rfl⟩:=List.mem_iff_getElem.1 hy
 have:=List.all_eq_true.1 e j (List.mem_range.2 hj)
 rwa [getD_at hi,getD_at hj] at this
def Zma (f:Nat→Nat→Bool)(s:List Nat)(w:World)(v6:Value)(wr:World):Prop:= ∃i:Nat,v6= .int .i64 (i:Int)∧i≤s.length∧lsK f s i=false∧Drawn w wr
def LsIn (f:Nat→Nat→Bool)(s:List Nat)(w:World)(i:Nat)(v7 v8:Value)(wr:World):Prop:= ∃j:Nat,v8= .int .i64 (j:Int)∧j≤s.length∧v7= .bool (U1 f s (s.getD i 0) j)∧Drawn w wr
theorem Ku (A A2:Option Addr)(n c n2 c2 B B2:Nat)(l s:List Nat)(w:World)(h:Rd nm w B A n c l)(hf:Fit l)(h2:Rd nm w B2 A2 n2 c2 s)(hf2:Fit s):
  Calls Tryz.prog 101 #[.slice A n c,.slice A2 n2 c2] w fun e w'=>(∃v:Nat,e= .returned (.tuple #[.int .u64 (v:Int),.bool (UD l s)])∧Found (Zj l) s v)∧Drawn w w':=by
 have HL:=Hd h2.len
 have hcap:=h2.cap
 have htop:=h2.top
 unfold maxLen at htop
 go_enter Tryz.func101,Tryz.ntmps101
 go_wp2
 go_loopw [6] (fun v6 wr=>Zma (Zj l) s w v6 wr) (fun v6 _=>n2 - (intOf v6).toNat)
 case atStart=>exact⟨0,rfl,by omega,rfl,Drawn.refl _⟩
 case round=>(
 obtain⟨i,rfl,hi,hls,hd⟩:=hrel
 have HK:=Hd hls
 clear hls
 by_cases hlt:i < n2
 ·(
 obtain⟨b,o,rfl,hbb,hc⟩:=h2.spot (by omega)
 have hi':i < s.length:=by rw[HL.out];exact hlt
 have hcx:wr.cell? ⟨b,o+i,none⟩=some (.int .u64 (s[i]:Int)):=(hd.cell _).trans (hc i hi')
 have hx:=hf2.get i hi'
 have HS:=Hd (ZcH (Zj l) s i)
 have HX:=Hd (getD_at hi')
 have HT:Hid (U1 (Zj l) s (s.getD i 0) s.length=true→UD l s=true):=Hd fun e=>KF hi' e
 have HFO:Hid (U1 (Zj l) s (s.getD i 0) s.length=true→Found (Zj l) s s[i]):=Hd fun e=>Zdn hi' e
 have HC:=Hd hc
 have HR:=Hd h
 have HXC:=Hd (hc i hi')
 clear hc h
 generalize hxx:s[i]=x at*
 have HXX:=Hd hxx
 clear hxx
 go_wp2
 go_loopw [7,8] (fun v7 v8 wr=>LsIn (Zj l) s w i v7 v8 wr) (fun _ v8 _=>n2 - (intOf v8).toNat)
 case atStart=>exact⟨0,rfl,by omega,rfl,hd⟩
 case round=>(
 clear hcx hd
 obtain⟨j,rfl,hj,rfl,hd⟩:=hrel
 have hcx:wr.cell? ⟨b,o+i,none⟩=some (.int .u64 (x:Int)):=(hd.cell _).trans HXC.out
 cases hall:U1 (Zj l) s (s.getD i 0) j with
 |true=>(
 have HA:=Hd hall
 clear hall
 by_cases hlt2:j < n2
 ·(
 have hj':j < s.length:=by rw[HL.out];exact hlt2
 have hcy:wr.cell? ⟨b,o+j,none⟩=some (.int .u64 (s[j]:Int)):=(hd.cell _).trans (HC.out j hj')
 have hy:=hf2.get j hj'
 have HAS:=Hd (UR (Zj l) s (s.getD i 0) j)
 have HY:=Hd (getD_at hj')
 generalize hyy:s[j]=y at*
 clear hyy
 have hcall: ∀W,W.heap=w.heap→Calls Tryz.prog 100 #[.slice A n c,.int .u64 (x:Int),.int .u64 (y:Int)] W fun e w'=>e= .returned (.bool (Zj l x y))∧w'=W:=fun W hW=>Ri A n c B l x y W (HR.out.keep fun _ _=>by rw[hW]) hf hx hy
 have HCALL:=Hd hcall
 clear hcall
 have HE:Hid (U1 (Zj l) s (s.getD i 0) (j+1)=Zj l x y):=Hd (by rw[HAS.out,HA.out,HX.out,HY.out,Bool.true_and])
 generalize Zj l x y=r at*
 go_wp2
 go_quiet ((go_at_call 100;exact Calls.quiet_of_same (HCALL.out _ hd.heap)))
 go_wp2
 go_roundw
 case rel=>exact⟨j+1,by go_num,by omega,by rw[HE.out],hd.more _⟩
 case measure=>simp[intOf];omega)
 ·obtain rfl:j=n2:=by have:=HL.out;omega
  go_wp2
  exact bodyPost_ret (v:= .tuple #[.int .u64 (x:Int),.bool true]) (by simp[results,Tryz.results101,go_sem]) rfl ⟨⟨x,by rw[HT.out (by rw[HL.out];exact HA.out)],HFO.out (by rw[HL.out];exact HA.out)⟩,hd⟩)
 |false=>(
 have HA:=Hd hall
 clear hall
 by_cases hlt2:j < n2
 ·(
 have hj':j < s.length:=by rw[HL.out];exact hlt2
 have HAS:=Hd (UR (Zj l) s (s.getD i 0) j)
 go_wp2
 go_quiet (fail)
 go_wp2
 go_roundw
 case rel=>exact⟨j+1,by go_num,by omega,by rw[HAS.out,HA.out];rfl,hd.more _⟩
 case measure=>simp[intOf];omega)
 ·(
 obtain rfl:j=n2:=by have:=HL.out;omega
 go_wp2
 go_roundw
 case rel=>exact⟨i+1,by go_num,by omega,by rw[HS.out,HK.out,HL.out,HA.out];rfl,hd⟩
 case measure=>simp[intOf];omega))))
 ·obtain rfl:i=n2:=by have:=HL.out;omega
  go_wp2
  exact bodyPost_ret (v:= .tuple #[.int .u64 0,.bool false]) (by simp[results,Tryz.results101,go_sem]) rfl ⟨⟨0,by rw[show UD l s=false from by have:=HK.out;rwa [← HL.out] at this];rfl,.inr ⟨by have:=HK.out;rwa [← HL.out] at this,rfl⟩⟩,hd⟩)
theorem UN (A A2:Option Addr)(n c n2 c2 B B2:Nat)(l s:List Nat)(w:World)(h:Rd nm w B A n c l)(hf:Fit l)(h2:Rd nm w B2 A2 n2 c2 s)(hf2:Fit s):
  Calls Tryz.prog 103 #[.slice A n c,.slice A2 n2 c2] w fun e w'=>(∃v:Nat,e= .returned (.tuple #[.int .u64 (v:Int),.bool (UE l s)])∧Found (fun x y=>Zj l y x) s v)∧Drawn w w':=by
 have HL:=Hd h2.len
 have hcap:=h2.cap
 have htop:=h2.top
 unfold maxLen at htop
 go_enter Tryz.func103,Tryz.ntmps103
 go_wp2
 go_loopw [6] (fun v6 wr=>Zma (fun x y=>Zj l y x) s w v6 wr) (fun v6 _=>n2 - (intOf v6).toNat)
 case atStart=>exact⟨0,rfl,by omega,rfl,Drawn.refl _⟩
 case round=>(
 obtain⟨i,rfl,hi,hls,hd⟩:=hrel
 have HK:=Hd hls
 clear hls
 by_cases hlt:i < n2
 ·(
 obtain⟨b,o,rfl,hbb,hc⟩:=h2.spot (by omega)
 have hi':i < s.length:=by rw[HL.out];exact hlt
 have hcx:wr.cell? ⟨b,o+i,none⟩=some (.int .u64 (s[i]:Int)):=(hd.cell _).trans (hc i hi')
 have hx:=hf2.get i hi'
 have HS:=Hd (ZcH (fun x y=>Zj l y x) s i)
 have HX:=Hd (getD_at hi')
 have HT:Hid (U1 (fun x y=>Zj l y x) s (s.getD i 0) s.length=true→UE l s=true):=Hd fun e=>KF hi' e
 have HFO:Hid (U1 (fun x y=>Zj l y x) s (s.getD i 0) s.length=true→Found (fun x y=>Zj l y x) s s[i]):=Hd fun e=>Zdn hi' e
 have HC:=Hd hc
 have HR:=Hd h
 have HXC:=Hd (hc i hi')
 clear hc h
 generalize hxx:s[i]=x at*
 have HXX:=Hd hxx
 clear hxx
 go_wp2
 go_loopw [7,8] (fun v7 v8 wr=>LsIn (fun x y=>Zj l y x) s w i v7 v8 wr) (fun _ v8 _=>n2 - (intOf v8).toNat)
 case atStart=>exact⟨0,rfl,by omega,rfl,hd⟩
 case round=>(
 clear hcx hd
 obtain⟨j,rfl,hj,rfl,hd⟩:=hrel
 have hcx:wr.cell? ⟨b,o+i,none⟩=some (.int .u64 (x:Int)):=(hd.cell _).trans HXC.out
 cases hall:U1 (fun x y=>Zj l y x) s (s.getD i 0) j with
 |true=>(
 have HA:=Hd hall
 clear hall
 by_cases hlt2:j < n2
 ·(
 have hj':j < s.length:=by rw[HL.out];exact hlt2
 have hcy:wr.cell? ⟨b,o+j,none⟩=some (.int .u64 (s[j]:Int)):=(hd.cell _).trans (HC.out j hj')
 have hy:=hf2.get j hj'
 have HAS:=Hd (UR (fun x y=>Zj l y x) s (s.getD i 0) j)
 have HY:=Hd (getD_at hj')
 generalize hyy:s[j]=y at*
 clear hyy
 have hcall: ∀W,W.heap=w.heap→Calls Tryz.prog 100 #[.slice A n c,.int .u64 (y:Int),.int .u64 (x:Int)] W fun e w'=>e= .returned (.bool (Zj l y x))∧w'=W:=fun W hW=>Ri A n c B l y x W (HR.out.keep fun _ _=>by rw[hW]) hf hy hx
 have HCALL:=Hd hcall
 clear hcall
 have HE:Hid (U1 (fun x y=>Zj l y x) s (s.getD i 0) (j+1)=Zj l y x):=Hd (by rw[HAS.out,HA.out,HX.out,HY.out,Bool.true_and])
 generalize Zj l y x=r at*
 go_wp2
 go_quiet ((go_at_call 100;exact Calls.quiet_of_same (HCALL.out _ hd.heap)))
 go_wp2
 go_roundw
 case rel=>exact⟨j+1,by go_num,by omega,by rw[HE.out],hd.more _⟩
 case measure=>simp[intOf];omega)
 ·obtain rfl:j=n2:=by have:=HL.out;omega
  go_wp2
  exact bodyPost_ret (v:= .tuple #[.int .u64 (x:Int),.bool true]) (by simp[results,Tryz.results103,go_sem]) rfl ⟨⟨x,by rw[HT.out (by rw[HL.out];exact HA.out)],HFO.out (by rw[HL.out];exact HA.out)⟩,hd⟩)
 |false=>(
 have HA:=Hd hall
 clear hall
 by_cases hlt2:j < n2
 ·(
 have hj':j < s.length:=by rw[HL.out];exact hlt2
 have HAS:=Hd (UR (fun x y=>Zj l y x) s (s.getD i 0) j)
 go_wp2
 go_quiet (fail)
 go_wp2
 go_roundw
 case rel=>exact⟨j+1,by go_num,by omega,by rw[HAS.out,HA.out];rfl,hd.more _⟩
 case measure=>simp[intOf];omega)
 ·(
 obtain rfl:j=n2:=by have:=HL.out;omega
 go_wp2
 go_roundw
 case rel=>exact⟨i+1,by go_num,by omega,by rw[HS.out,HK.out,HL.out,HA.out];rfl,hd⟩
 case measure=>simp[intOf];omega))))
 ·obtain rfl:i=n2:=by have:=HL.out;omega
  go_wp2
  exact bodyPost_ret (v:= .tuple #[.int .u64 0,.bool false]) (by simp[results,Tryz.results103,go_sem]) rfl ⟨⟨0,by rw[show UE l s=false from by have:=HK.out;rwa [← HL.out] at this];rfl,.inr ⟨by have:=HK.out;rwa [← HL.out] at this,rfl⟩⟩,hd⟩)
theorem Zbz (A A2:Option Addr)(n c n2 c2 B B2:Nat)(l s:List Nat)(w:World)(h:Rd nm w B A n c l)(hf:Fit l)(h2:Rd nm w B2 A2 n2 c2 s)(hf2:Fit s):
  Calls Tryz.prog 101 #[.slice A n c,.slice A2 n2 c2] w fun e w'=>(∃v:Nat,e= .returned (.tuple #[.int .u64 (v:Int),.bool (UD l s)]))∧Drawn w w':=
 (Ku A A2 n c n2 c2 B B2 l s w h hf h2 hf2).mono fun _ _ ⟨⟨v,he,_⟩,hd⟩=>⟨⟨v,he⟩,hd⟩
theorem QF (A A2:Option Addr)(n c n2 c2 B B2:Nat)(l s:List Nat)(w:World)(h:Rd nm w B A n c l)(hf:Fit l)(h2:Rd nm w B2 A2 n2 c2 s)(hf2:Fit s):
  Calls Tryz.prog 103 #[.slice A n c,.slice A2 n2 c2] w fun e w'=>(∃v:Nat,e= .returned (.tuple #[.int .u64 (v:Int),.bool (UE l s)]))∧Drawn w w':=
 (UN A A2 n c n2 c2 B B2 l s w h hf h2 hf2).mono fun _ _ ⟨⟨v,he,_⟩,hd⟩=>⟨⟨v,he⟩,hd⟩
def Zmb (l:List Nat)(a b:Nat)(w:World)(v7 v8:Value)(wr:World):Prop:=
 ∃k:Nat,v8= .int .u64 (k:Int)∧k≤l.length∧ ∃A' n' c',v7= .slice A' n' c'∧Fresh nm 60 w wr A' n' c' (pick (fun i=>Zj l a i && Zj l b i) k)
theorem ZbA (A:Option Addr)(n c:Nat)(l:List Nat)(a b:Nat)(w:World)(h:Rd nm w w.heap.size A n c l)(hf:Fit l)(ha:a < 18446744073709551616)(hb:b < 18446744073709551616)(hn:n≤1000):
  Calls Tryz.prog 102 #[.slice A n c,.int .u64 (a:Int),.int .u64 (b:Int)] w fun e w'=> ∃A' n' c',e= .returned (.slice A' n' c')∧Fresh nm 60 w w' A' n' c' (upsL l a b):=by
 obtain⟨i0,hi0,hz0,hz1,hz2⟩:=info_parts ZaX
 have HL:=Hd h.len
 go_enter Tryz.func102,Tryz.ntmps102
 go_wp2
 go_loopw [7,8] (fun v7 v8 wr=>Zmb l a b w v7 v8 wr) (fun _ v8 _=>n - (intOf v8).toNat)
 case atStart=>exact⟨0,rfl,by omega,none,0,0,rfl,World.ownsRow_nil _ _ _ _,Below.refl _ _⟩
 case round=>(
 obtain⟨k,rfl,hk,A',n',c',rfl,hfr⟩:=hrel
 by_cases hlt:k < n
 ·(
 have hlt':k < n:=hlt
 have hr:=h.below hfr.bel
 have hc1: ∀W,(∀j,j < w.heap.size→W.heap[j]?=wr.heap[j]?)→Calls Tryz.prog 100 #[.slice A n c,.int .u64 (a:Int),.int .u64 (k:Int)] W fun e w'=>e= .returned (.bool (Zj l a k))∧W=w':=fun W hW=>ZN A n c w.heap.size l a k W (hr.keep hW) hf ha (by omega)
 have hc2: ∀W,(∀j,j < w.heap.size→W.heap[j]?=wr.heap[j]?)→Calls Tryz.prog 100 #[.slice A n c,.int .u64 (b:Int),.int .u64 (k:Int)] W fun e w'=>e= .returned (.bool (Zj l b k))∧W=w':=fun W hW=>ZN A n c w.heap.size l b k W (hr.keep hW) hf hb (by omega)
 have HC1:=Hd hc1
 have HC2:=Hd hc2
 have HP:=Hd (Za4 (fun i=>Zj l a i && Zj l b i) k)
 have hlen:=ZcJ (fun i=>Zj l a i && Zj l b i) k
 have hnl:=hfr.len
 clear hc1 hc2 hr
 generalize hq:pick (fun i=>Zj l a i && Zj l b i) k=ks at*
 have HQ:=Hd hq
 clear hq
 have HP:Hid (pick (fun i=>Zj l a i && Zj l b i) (k+1)=if Zj l a k && Zj l b k then ks++ [k] else ks):=HP
 generalize Zj l a k=r1 at*
 generalize Zj l b k=r2 at*
 cases r1 with
 |false=>(
 go_wp2_with (go_at_call 100;refine(HC1.out _ (fun _ _=>rfl)).mono ?_;rintro e w' ⟨rfl,rfl⟩)
 go_roundw
 case rel=>exact⟨k+1,by go_num,by have:=HL.out;omega,A',n',c',rfl,by rw[HP.out];exact hfr⟩
 case measure=>simp[intOf];omega)
 |true=>(
 cases r2 with
 |false=>(
 go_wp2_with (go_at_call 100;(first|(with_reducible refine(HC1.out _ (fun _ _=>rfl)).mono ?_)|(with_reducible refine(HC2.out _ (fun _ _=>rfl)).mono ?_));rintro e w' ⟨rfl,rfl⟩)
 go_roundw
 case rel=>exact⟨k+1,by go_num,by have:=HL.out;omega,A',n',c',rfl,by rw[HP.out];exact hfr⟩
 case measure=>simp[intOf];omega)
 |true=>(
 have o1:=Zdm wr k
 go_wp2_with (first|(go_at_call 100;(first|(with_reducible refine(HC1.out _ (fun _ _=>rfl)).mono ?_)|(with_reducible refine(HC2.out _ (fun _ _=>rfl)).mono ?_));rintro e w' ⟨rfl,rfl⟩)|(at_builtin;refine ZA _ rfl (.tmp 26) (.tmp 28) 22 rfl w.heap.size 60 i0 (.int .u64 0) 8 Tryz.underlying22 hi0 hz0 hz1 hz2 rfl ZaW (.slice A' n' c') n' ks rfl (hfr.own.alloc _) _ _ 1 1 [k] rfl o1 (by unfold maxLen;omega) (by omega) (by have:=hfr.bel.size;simp;omega) ?_;intro A2 k2 c2 w2 hk2 own2 hg2 ha2))
 go_roundw
 case rel=>exact⟨k+1,by go_num,by have:=HL.out;omega,A2,k2,c2,rfl,by rw[HP.out];exact⟨own2,(hfr.bel.alloc hfr.bel.size _).grown hg2 (Nat.le_trans hfr.bel.size (by simp)) (fun j hj=>(hfr.own.lt j hj).1)⟩⟩
 case measure=>simp[intOf];omega)))
 ·obtain rfl:k=n:=by have:=HL.out;omega
  go_wp2
  go_ret
  exact⟨A',n',c',rfl,by unfold upsL;rw[HL.out];exact hfr⟩)
def Zmc (l:List Nat)(a b:Nat)(w:World)(v7 v8:Value)(wr:World):Prop:=
 ∃k:Nat,v8= .int .u64 (k:Int)∧k≤l.length∧ ∃A' n' c',v7= .slice A' n' c'∧Fresh nm 60 w wr A' n' c' (pick (fun i=>Zj l i a && Zj l i b) k)
theorem ZbB (A:Option Addr)(n c:Nat)(l:List Nat)(a b:Nat)(w:World)(h:Rd nm w w.heap.size A n c l)(hf:Fit l)(ha:a < 18446744073709551616)(hb:b < 18446744073709551616)(hn:n≤1000):
  Calls Tryz.prog 104 #[.slice A n c,.int .u64 (a:Int),.int .u64 (b:Int)] w fun e w'=> ∃A' n' c',e= .returned (.slice A' n' c')∧Fresh nm 60 w w' A' n' c' (U4 l a b):=by
 obtain⟨i0,hi0,hz0,hz1,hz2⟩:=info_parts ZaX
 have HL:=Hd h.len
 go_enter Tryz.func104,Tryz.ntmps104
 go_wp2
 go_loopw [7,8] (fun v7 v8 wr=>Zmc l a b w v7 v8 wr) (fun _ v8 _=>n - (intOf v8).toNat)
 case atStart=>exact⟨0,rfl,by omega,none,0,0,rfl,World.ownsRow_nil _ _ _ _,Below.refl _ _⟩
 case round=>(
 obtain⟨k,rfl,hk,A',n',c',rfl,hfr⟩:=hrel
 by_cases hlt:k < n
 ·(
 have hlt':k < n:=hlt
 have hr:=h.below hfr.bel
 have hc1: ∀W,(∀j,j < w.heap.size→W.heap[j]?=wr.heap[j]?)→Calls Tryz.prog 100 #[.slice A n c,.int .u64 (k:Int),.int .u64 (a:Int)] W fun e w'=>e= .returned (.bool (Zj l k a))∧W=w':=fun W hW=>ZN A n c w.heap.size l k a W (hr.keep hW) hf (by omega) ha
 have hc2: ∀W,(∀j,j < w.heap.size→W.heap[j]?=wr.heap[j]?)→Calls Tryz.prog 100 #[.slice A n c,.int .u64 (k:Int),.int .u64 (b:Int)] W fun e w'=>e= .returned (.bool (Zj l k b))∧W=w':=fun W hW=>ZN A n c w.heap.size l k b W (hr.keep hW) hf (by omega) hb
 have HC1:=Hd hc1
 have HC2:=Hd hc2
 have HP:=Hd (Za4 (fun i=>Zj l i a && Zj l i b) k)
 have hlen:=ZcJ (fun i=>Zj l i a && Zj l i b) k
 have hnl:=hfr.len
 clear hc1 hc2 hr
 generalize hq:pick (fun i=>Zj l i a && Zj l i b) k=ks at*
 have HQ:=Hd hq
 clear hq
 have HP:Hid (pick (fun i=>Zj l i a && Zj l i b) (k+1)=if Zj l k a && Zj l k b then ks++ [k] else ks):=HP
 generalize Zj l k a=r1 at*
 generalize Zj l k b=r2 at*
 cases r1 with
 |false=>(
 go_wp2_with (go_at_call 100;refine(HC1.out _ (fun _ _=>rfl)).mono ?_;rintro e w' ⟨rfl,rfl⟩)
 go_roundw
 case rel=>exact⟨k+1,by go_num,by have:=HL.out;omega,A',n',c',rfl,by rw[HP.out];exact hfr⟩
 case measure=>simp[intOf];omega)
 |true=>(
 cases r2 with
 |false=>(
 go_wp2_with (go_at_call 100;(first|(with_reducible refine(HC1.out _ (fun _ _=>rfl)).mono ?_)|(with_reducible refine(HC2.out _ (fun _ _=>rfl)).mono ?_));rintro e w' ⟨rfl,rfl⟩)
 go_roundw
 case rel=>exact⟨k+1,by go_num,by have:=HL.out;omega,A',n',c',rfl,by rw[HP.out];exact hfr⟩
 case measure=>simp[intOf];omega)
 |true=>(
 have o1:=Zdm wr k
 go_wp2_with (first|(go_at_call 100;(first|(with_reducible refine(HC1.out _ (fun _ _=>rfl)).mono ?_)|(with_reducible refine(HC2.out _ (fun _ _=>rfl)).mono ?_));rintro e w' ⟨rfl,rfl⟩)|(at_builtin;refine ZA _ rfl (.tmp 26) (.tmp 28) 22 rfl w.heap.size 60 i0 (.int .u64 0) 8 Tryz.underlying22 hi0 hz0 hz1 hz2 rfl ZaW (.slice A' n' c') n' ks rfl (hfr.own.alloc _) _ _ 1 1 [k] rfl o1 (by unfold maxLen;omega) (by omega) (by have:=hfr.bel.size;simp;omega) ?_;intro A2 k2 c2 w2 hk2 own2 hg2 ha2))
 go_roundw
 case rel=>exact⟨k+1,by go_num,by have:=HL.out;omega,A2,k2,c2,rfl,by rw[HP.out];exact⟨own2,(hfr.bel.alloc hfr.bel.size _).grown hg2 (Nat.le_trans hfr.bel.size (by simp)) (fun j hj=>(hfr.own.lt j hj).1)⟩⟩
 case measure=>simp[intOf];omega)))
 ·obtain rfl:k=n:=by have:=HL.out;omega
  go_wp2
  go_ret
  exact⟨A',n',c',rfl,by unfold U4;rw[HL.out];exact hfr⟩)
end Go.Proofs.YtmejhedegmjboaaGreat.La
