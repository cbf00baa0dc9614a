import Derived.Test.YtmejhedegmjboaaGreatLaLat
import Derived.Test.YtmejhedegmjboaaGreatLaRefLeast
set_option maxRecDepth 100000
set_option maxHeartbeats 400000
namespace Go.Proofs.YtmejhedegmjboaaGreat.La
open Go.RowKit
section
variable {l:List Nat} (h:QX l)
include h
theorem KN {a b:Nat}(ha:a < l.length)(hb:b < l.length):Zj l a b=bt l a b:=Yh h.known.1.2 ha hb
theorem Zf9 {v:Nat}(k:Found (Zj l) (List.range l.length) v):v=endN l l.length:=by
 have j:=Zc9 h
 rcases k with⟨_,hm,hall⟩|⟨hno,_⟩
 ·have h1:=List.mem_range.1 hm
  exact(Zh3 h ⟨h1,fun d hd=>by
   rw[← KN h h1 hd]
   exact hall d (List.mem_range.2 hd)⟩).symm
 ·have:=(ZbO (Zj l) (List.range l.length)).2 ⟨_,List.mem_range.2 j.lt,fun y hy=>by
   rw[KN h j.lt (List.mem_range.1 hy)]
   exact j.all y (List.mem_range.1 hy)⟩
  rw[hno] at this
  cases this
theorem Zga {v:Nat}(k:Found (fun x y=>Zj l y x) (List.range l.length) v):v=endN (Zo l) l.length:=by
 have j:=ZfU h
 rcases k with⟨_,hm,hall⟩|⟨hno,_⟩
 ·(
 have h1:=List.mem_range.1 hm
 exact(Zh4 h ⟨h1,fun d hd=>by
  show bt l d v=true
  rw[← KN h hd h1]
  exact hall d (List.mem_range.2 hd)⟩).symm)
 ·have:=(ZbO (fun x y=>Zj l y x) (List.range l.length)).2 ⟨_,List.mem_range.2 j.lt,fun y hy=>by
   rw[KN h (List.mem_range.1 hy) j.lt]
   exact j.all y (List.mem_range.1 hy)⟩
  rw[hno] at this
  cases this
end
def Zm3 (n:Nat)(w:World)(v3 v4:Value)(wr:World):Prop:=
 ∃k:Nat,v4= .int .u64 (k:Int)∧k≤n∧ ∃A' n' c',v3= .slice A' n' c'∧Fresh nm 60 w wr A' n' c' (List.range k)
theorem Kr (A:Option Addr)(n c:Nat)(w:World)(hn:n≤1000):
  Calls Tryz.prog 112 #[.slice A n c] w fun e w'=> ∃A' n' c',e= .returned (.slice A' n' c')∧Fresh nm 60 w w' A' n' c' (List.range n):=by
 obtain⟨i0,hi0,hz0,hz1,hz2⟩:=info_parts ZaX
 go_enter Tryz.func112,Tryz.ntmps112
 go_wp2
 go_loopw [3,4] (fun v3 v4 wr=>Zm3 n w v3 v4 wr) (fun _ v4 _=>n - (intOf v4).toNat)
 case atStart=>exact⟨0,rfl,by omega,none,0,0,rfl,World.ownsRow_nil _ _ _ _,Below.refl _ _⟩
 case round=>(
 obtain⟨k,rfl,hk,A',n',c',rfl,hfr⟩:=hrel
 by_cases hlt:k < n
 ·(
 have hlen:=hfr.len
 rw[List.length_range] at hlen
 have HP:=Hd (List.range_succ (n:=k))
 have o1:=Zdm wr k
 generalize hq:List.range k=ks at*
 clear hq
 have HN:=Hd hlen
 clear hlen
 go_wp2_with (at_builtin;refine ZA _ rfl (.tmp 12) (.tmp 14) 22 rfl w.heap.size 60 i0 (.int .u64 0) 8 Tryz.underlying22 hi0 hz0 hz1 hz2 rfl ZaW (.slice A' n' c') n' ks rfl (hfr.own.alloc _) _ _ 1 1 [k] rfl o1 (by have:=HN.out;unfold maxLen;omega) (by have:=HN.out;omega) (by have:=hfr.bel.size;simp;omega) ?_;intro A2 k2 c2 w2 hk2 own2 hg2 ha2)
 go_roundw
 case rel=>exact⟨k+1,by go_num,by omega,A2,k2,c2,rfl,by rw[HP.out];exact⟨own2,(hfr.bel.alloc hfr.bel.size _).grown hg2 (Nat.le_trans hfr.bel.size (by simp)) (fun j hj=>(hfr.own.lt j hj).1)⟩⟩
 case measure=>simp[intOf];omega)
 ·obtain rfl:k=n:=by omega
  go_wp2
  go_ret
  exact⟨A',n',c',rfl,hfr⟩)
theorem Zbq {n:Nat}(h:n≤1000):Fit (List.range n):=fun x hx=>by
 have:=List.mem_range.1 hx
 omega
theorem Zar (A:Option Addr)(n c:Nat)(l:List Nat)(w:World)(h:Rd nm w w.heap.size A n c l)(hf:Fit l)(hok:QX l):
  Calls Tryz.prog 66 #[.slice A n c] w fun e w'=>e= .returned (.int .u64 (endN l n:Int))∧Below w.heap.size w w':=by
 have HL:=Hd h.len
 have HOK:=Hd hok
 have hn:n≤64:=by rw[← HL.out];exact hok.known.1.2
 clear hok
 go_enter Tryz.func66,Tryz.ntmps66
 go_wp2_with fail
 refine(Kr A n c w (by omega)).mono ?_
 rintro e w1 ⟨A1,n1,c1,rfl,f1⟩
 go_wp2_with fail
 refine(Ku A A1 n c n1 c1 _ _ l (List.range n) w1 (h.at_size lR f1.bel) hf f1.rd (Zbq (by omega))).mono ?_
 rintro e w2 ⟨⟨v,rfl,hv⟩,hd⟩
 have HV:Hid (endN l n=v):=Hd (by
 have:=Zf9 HOK.out (v:=v) (by rw[HL.out];exact hv)
 rw[this,HL.out])
 have hb2:=f1.bel.trans (hd.below (B:=w.heap.size))
 clear hv
 generalize UD l (List.range n)=p at*
 go_wp2_with fail
 go_ret
 exact⟨by rw[HV.out];rfl,hb2⟩
theorem UT (A:Option Addr)(n c:Nat)(l:List Nat)(w:World)(h:Rd nm w w.heap.size A n c l)(hf:Fit l)(hok:QX l):
  Calls Tryz.prog 67 #[.slice A n c] w fun e w'=>e= .returned (.int .u64 (endN (Zo l) n:Int))∧Below w.heap.size w w':=by
 have HL:=Hd h.len
 have HOK:=Hd hok
 have hn:n≤64:=by rw[← HL.out];exact hok.known.1.2
 clear hok
 go_enter Tryz.func67,Tryz.ntmps67
 go_wp2_with fail
 refine(Kr A n c w (by omega)).mono ?_
 rintro e w1 ⟨A1,n1,c1,rfl,f1⟩
 go_wp2_with fail
 refine(UN A A1 n c n1 c1 _ _ l (List.range n) w1 (h.at_size lR f1.bel) hf f1.rd (Zbq (by omega))).mono ?_
 rintro e w2 ⟨⟨v,rfl,hv⟩,hd⟩
 have HV:Hid (endN (Zo l) n=v):=Hd (by
 have:=Zga HOK.out (v:=v) (by rw[HL.out];exact hv)
 rw[this,HL.out])
 have hb2:=f1.bel.trans (hd.below (B:=w.heap.size))
 clear hv
 generalize UE l (List.range n)=p at*
 go_wp2_with fail
 go_ret
 exact⟨by rw[HV.out];rfl,hb2⟩
end Go.Proofs.YtmejhedegmjboaaGreat.La
