import Derived.Test.YtfmpecnkkbpdlaaGreatDoorBoRefF
import Derived.Test.YtfmpecnkkbpdlaaGreatDoorEfEff
import Derived.Test.YtfmpecnkkbpdlaaGreatDoorLaRefCheck
import Derived.Test.YtfmpecnkkbpdlaaGreatDoorLaRefLat
set_option maxRecDepth 100000
set_option maxHeartbeats 2000000
namespace Go.Proofs.YtfmpecnkkbpdlaaGreatDoor.Ef
open Go.RowKit
theorem UB {k:Nat}(h:k < 64):IntKind.u64.wrap ((2:Int) ^ k)=((2 ^ k:Nat):Int):=by
 have h1:(2:Nat) ^ k < 18446744073709551616:=Nat.pow_lt_pow_right (n:=64) (by decide) h
 show(2:Int) ^ k%18446744073709551616=_
 rw[Int.natCast_pow]
 have:((2 ^ k:Nat):Int) < 18446744073709551616:=by omega
 rw[Int.natCast_pow] at this
 exact Int.emod_eq_of_lt (Int.le_of_lt (Int.pow_pos (by decide))) this
def ZkJ (n:Nat)(w:World)(v3 v4:Value)(wr:World):Prop:= ∃i:Nat,v4= .int .i64 (i:Int)∧i≤n∧v3= .int .u64 (topN i:Int)∧wr=w
theorem UL (n:Nat)(hn:n≤64)(w:World):Calls Tryz.prog 200 #[.int .i64 (n:Int)] w fun e w'=>e= .returned (.int .u64 (topN n:Int))∧w=w':=by
 go_enter Tryz.func200,Tryz.ntmps200
 go_wp2
 go_loopw [3,4] (fun v3 v4 wr=>ZkJ n w v3 v4 wr) (fun _ v4 _=>n - (intOf v4).toNat)
 case atStart=>exact⟨0,rfl,by omega,rfl,rfl⟩
 case round=>
  obtain⟨i,rfl,hi,rfl,rfl⟩:=hrel
  by_cases hlt:i < n
  ·have hp:=UB (k:=i) (by omega)
   have ho:=u64_or_nat (topN i) (2 ^ i) (KR (by omega)) (by exact Nat.pow_lt_pow_right (n:=64) (by decide) (by omega))
   rw[ZeD] at ho
   obtain⟨s,hs⟩: ∃s,s=topN (i+1):=⟨_,rfl⟩
   rw[← hs] at ho
   have HS:=Hd hs
   clear hs
   generalize topN i=r at*
   generalize 2 ^ i=p at*
   go_wp2
   go_roundw
   case rel=>exact⟨i+1,by go_num,by omega,by rw[HS.out],rfl⟩
   case measure=>simp[intOf];omega
  ·obtain rfl:i=n:=by omega
   go_wp2
   go_ret
   exact⟨rfl,rfl⟩
section
variable (n:Nat) (hn:n≤64) (w:World)
include hn
theorem Z4 (x:Nat)(hx:x < 18446744073709551616):Calls Tryz.prog 218 #[.int .i64 (n:Int),.int .u64 (x:Int)] w fun e w'=>e= .returned (.bool (hasE true (topN n) x))∧w=w':=by
 have hc:=fun W=>UL n hn W
 have ho:=u64_or_nat x (topN n) hx (KR hn)
 have hr:hasE true (topN n) x=(((x|||topN n:Nat):Int)==(topN n:Int)):=by
  rw[hasE,Bool.true_and,subB]
  by_cases h:x|||topN n=topN n
  ·rw[h];simp
  ·have: ¬((x|||topN n:Nat):Int)=(topN n:Int):=by omega
   rw[beq_eq_false_iff_ne.2 h,beq_eq_false_iff_ne.2 this]
 rw[hr]
 clear hr
 generalize x|||topN n=q at*
 generalize topN n=t at*
 go_enter Tryz.func218,Tryz.ntmps218
 go_wp2_with fail
 refine(hc _).mono ?_
 rintro e w' ⟨rfl,rfl⟩
 go_wp2_with fail
 refine(hc _).mono ?_
 rintro e w' ⟨rfl,rfl⟩
 go_wp2_with fail
 go_ret
 exact⟨rfl,rfl⟩
theorem Zy (x y:Nat)(hx:x < 18446744073709551616)(hy:y < 18446744073709551616):Calls Tryz.prog 222 #[.int .i64 (n:Int),.int .u64 (x:Int),.int .u64 (y:Int)] w fun e w'=>e= .returned (.bool (KT true (topN n) x y))∧w=w':=by
 have h1:=fun W=>Z4 n hn W x hx
 have h2:=fun W=>Z4 n hn W y hy
 have ho:=u64_or_nat x y hx hy
 have hr:(((x|||y:Nat):Int)==(y:Int))=subB x y:=by
  rw[subB]
  by_cases h:x|||y=y
  ·rw[h];simp
  ·have: ¬((x|||y:Nat):Int)=(y:Int):=by omega
   rw[beq_eq_false_iff_ne.2 h,beq_eq_false_iff_ne.2 this]
 rw[KT,U8,Bool.true_and]
 simp only[hasE,Bool.true_and] at h1 h2
 generalize x|||y=q at*
 generalize subB x y=s at*
 generalize subB x (topN n)=r1 at*
 generalize subB y (topN n)=r2 at*
 cases r1 with
 |false=>
  go_enter Tryz.func222,Tryz.ntmps222
  go_wp2_with fail
  refine(h1 _).mono ?_
  rintro e w' ⟨rfl,rfl⟩
  go_wp2_with fail
  go_ret
  exact⟨rfl,rfl⟩
 |true=>
  cases r2 with
  |false=>
   go_enter Tryz.func222,Tryz.ntmps222
   go_wp2_with fail
   refine(h1 _).mono ?_
   rintro e w' ⟨rfl,rfl⟩
   go_wp2_with fail
   refine(h2 _).mono ?_
   rintro e w' ⟨rfl,rfl⟩
   go_wp2_with fail
   go_ret
   exact⟨rfl,rfl⟩
  |true=>
   go_enter Tryz.func222,Tryz.ntmps222
   go_wp2_with fail
   refine(h1 _).mono ?_
   rintro e w' ⟨rfl,rfl⟩
   go_wp2_with fail
   refine(h2 _).mono ?_
   rintro e w' ⟨rfl,rfl⟩
   go_wp2_with fail
   go_ret
   exact⟨rfl,rfl⟩
theorem UZ (x y:Nat)(hx:x < 18446744073709551616)(hy:y < 18446744073709551616):Calls Tryz.prog 221 #[.int .i64 (n:Int),.int .u64 (x:Int),.int .u64 (y:Int)] w fun e w'=>e= .returned (.int .u64 (Zca true (topN n) x y:Int))∧w=w':=by
 have h1:=fun W=>Z4 n hn W x hx
 have h2:=fun W=>Z4 n hn W y hy
 have ho:=u64_or_nat x y hx hy
 rw[Zca,U8,Bool.true_and]
 simp only[hasE,Bool.true_and] at h1 h2
 generalize x|||y=q at*
 generalize subB x (topN n)=r1 at*
 generalize subB y (topN n)=r2 at*
 cases r1 with
 |false=>
  go_enter Tryz.func221,Tryz.ntmps221
  go_wp2_with fail
  refine(h1 _).mono ?_
  rintro e w' ⟨rfl,rfl⟩
  go_wp2_with fail
  go_ret
  exact⟨rfl,rfl⟩
 |true=>
  cases r2 with
  |false=>
   go_enter Tryz.func221,Tryz.ntmps221
   go_wp2_with fail
   refine(h1 _).mono ?_
   rintro e w' ⟨rfl,rfl⟩
   go_wp2_with fail
   refine(h2 _).mono ?_
   rintro e w' ⟨rfl,rfl⟩
   go_wp2_with fail
   go_ret
   exact⟨rfl,rfl⟩
  |true=>
   go_enter Tryz.func221,Tryz.ntmps221
   go_wp2_with fail
   refine(h1 _).mono ?_
   rintro e w' ⟨rfl,rfl⟩
   go_wp2_with fail
   refine(h2 _).mono ?_
   rintro e w' ⟨rfl,rfl⟩
   go_wp2_with fail
   go_ret
   exact⟨rfl,rfl⟩
theorem U0 (x y:Nat)(hx:x < 18446744073709551616)(hy:y < 18446744073709551616):Calls Tryz.prog 224 #[.int .i64 (n:Int),.int .u64 (x:Int),.int .u64 (y:Int)] w fun e w'=>e= .returned (.int .u64 (Zcb true (topN n) x y:Int))∧w=w':=by
 have h1:=fun W=>Z4 n hn W x hx
 have h2:=fun W=>Z4 n hn W y hy
 have ho:=u64_and_nat x y hx hy
 rw[Zcb,U8,Bool.true_and]
 simp only[hasE,Bool.true_and] at h1 h2
 generalize x &&& y=q at*
 generalize subB x (topN n)=r1 at*
 generalize subB y (topN n)=r2 at*
 cases r1 with
 |false=>
  go_enter Tryz.func224,Tryz.ntmps224
  go_wp2_with fail
  refine(h1 _).mono ?_
  rintro e w' ⟨rfl,rfl⟩
  go_wp2_with fail
  go_ret
  exact⟨rfl,rfl⟩
 |true=>
  cases r2 with
  |false=>
   go_enter Tryz.func224,Tryz.ntmps224
   go_wp2_with fail
   refine(h1 _).mono ?_
   rintro e w' ⟨rfl,rfl⟩
   go_wp2_with fail
   refine(h2 _).mono ?_
   rintro e w' ⟨rfl,rfl⟩
   go_wp2_with fail
   go_ret
   exact⟨rfl,rfl⟩
  |true=>
   go_enter Tryz.func224,Tryz.ntmps224
   go_wp2_with fail
   refine(h1 _).mono ?_
   rintro e w' ⟨rfl,rfl⟩
   go_wp2_with fail
   refine(h2 _).mono ?_
   rintro e w' ⟨rfl,rfl⟩
   go_wp2_with fail
   go_ret
   exact⟨rfl,rfl⟩
end
end Go.Proofs.YtfmpecnkkbpdlaaGreatDoor.Ef
namespace Go.Proofs.YtfmpecnkkbpdlaaGreatDoor.Bo
open Go.RowKit
def RSrt (B:Nat)(w:World)(t:Nat)(A:Option Addr)(n c m:Nat)(S:Sr):Prop:=
 (t=0∧A=none∧n=0∧c=0∧m=0∧S=dead)∨(t=1∧m=0∧ ∃l,Rd La.nm w B A n c l∧La.Fit l∧La.checkN l=0∧S=laS l)∨(t=2∧A=none∧n=0∧c=0∧m≤64∧S=efS true (Ef.topN m))
theorem RSrt.below {B:Nat}{w W:World}{t:Nat}{A:Option Addr}{n c m:Nat}{S:Sr}(h:RSrt B w t A n c m S)(hb:Below B w W):RSrt B W t A n c m S:=by
 rcases h with h|⟨h1,h2,l,h3,h4⟩|h
 ·exact .inl h
 ·exact .inr (.inl ⟨h1,h2,l,h3.below hb,h4⟩)
 ·exact .inr (.inr h)
theorem RSrt.mono {B B':Nat}{w:World}{t:Nat}{A:Option Addr}{n c m:Nat}{S:Sr}(h:RSrt B w t A n c m S)(hb:B≤B'):RSrt B' w t A n c m S:=by
 rcases h with h|⟨h1,h2,l,h3,h4⟩|h
 ·exact .inl h
 ·exact .inr (.inl ⟨h1,h2,l,h3.mono hb,h4⟩)
 ·exact .inr (.inr h)
theorem RSrt.keep {w W:World}{t:Nat}{A:Option Addr}{n c m:Nat}{S:Sr}(h:RSrt w.heap.size w t A n c m S)(hb:Below w.heap.size w W):RSrt W.heap.size W t A n c m S:=(h.below hb).mono hb.size
theorem st3 {w:World}{g:Nat}{a b c:Value}(h:w.heap[g]?=some (.cells #[a,b,c] 36 (0,0)))(x y z:Value):
  (((w.setCell ⟨g,0,none⟩ x).setCell ⟨g,1,none⟩ y).setCell ⟨g,2,none⟩ z).heap[g]?=some (.cells #[x,y,z] 36 (0,0)):=by
 have h1:=Zj (i:=0) h x
 have h2:=Zj (i:=1) h1 y
 have h3:=Zj (i:=2) h2 z
 simpa using h3
theorem Zbc {B:Nat}{w w1:World}(h:Below B w w1)(g:Nat)(hg:B≤g)(x y z:Value):Below B w (((w1.setCell ⟨g,0,none⟩ x).setCell ⟨g,1,none⟩ y).setCell ⟨g,2,none⟩ z):=
 ((h.setCell (p:=⟨g,0,none⟩) hg x).setCell (p:=⟨g,1,none⟩) hg y).setCell (p:=⟨g,2,none⟩) hg z
theorem V8 (t:Nat)(A:Option Addr)(n c m:Nat)(S:Sr)(x:Nat)(w:World)(h:RSrt w.heap.size w t A n c m S)(hx:x < 18446744073709551616):
  Calls Tryz.prog 191 #[rsV t A n c m,.int .u64 (x:Int)] w fun e w'=>e= .returned (.bool (S.has x))∧Below w.heap.size w w':=by
 have hal:Below w.heap.size w (w.alloc (.cells #[.int .i64 (t:Int),.slice A n c,.int .i64 (m:Int)] 36)):=bA
 unfold rsV
 rcases h with⟨rfl,rfl,rfl,rfl,rfl,rfl⟩|⟨rfl,rfl,l,h1,h2,h3,rfl⟩|⟨rfl,rfl,rfl,rfl,h1,rfl⟩
 ·go_enter Tryz.func191,Tryz.ntmps191
  go_wp2
  go_ret
  exact⟨rfl,hal⟩
 ·have hr:=h1.at_size lR hal
  have hlen:=h1.len
  have hok:=La.VM h3
  have h64:=hok.known.1.2
  have HC:=Hd (show Calls Tryz.prog 217 #[.slice A n c,.int .u64 (x:Int)] (w.alloc (.cells #[.int .i64 ((1:Nat):Int),.slice A n c,.int .i64 ((0:Nat):Int)] 36)) fun e w'=>e= .returned (.bool ((laS l).has x))∧Below (w.alloc (.cells #[.int .i64 ((1:Nat):Int),.slice A n c,.int .i64 ((0:Nat):Int)] 36)).heap.size (w.alloc (.cells #[.int .i64 ((1:Nat):Int),.slice A n c,.int .i64 ((0:Nat):Int)] 36)) w' from
   (La.Z4 A n c x _ (by omega)).mono fun _ _ k=>⟨by rw[k.1, ← hlen];rfl,ZA k.2⟩)
  generalize (laS l).has x=r at HC ⊢
  have HAL:=Hd hal
  have hbx:=heap_alloc_new w (.cells #[.int .i64 ((1:Nat):Int),.slice A n c,.int .i64 ((0:Nat):Int)] 36)
  have hz0:=(Za (i:=0) hbx).trans rfl
  clear hr hlen hok h64 h1 h2 h3 hal hbx
  go_enter Tryz.func191,Tryz.ntmps191
  go_wp2_with fail
  refine HC.out.mono ?_
  rintro e w1 ⟨rfl,hb⟩
  replace hz0:=Zc hz0 hb
  cases r with
  |false=>
   go_wp2_with fail
   go_ret
   exact⟨rfl,HAL.out.trans (hb.mono HAL.out.size)⟩
  |true=>
   go_wp2_with fail
   go_ret
   exact⟨rfl,HAL.out.trans (hb.mono HAL.out.size)⟩
 ·have HC:=Hd fun W=>(Ef.Z4 m h1 W x hx)
  have HE:Hid (∀v,v=(efS true (Ef.topN m)).has x→v=(efS true (Ef.topN m)).has x):=Hd fun _ h=>h
  have HAL:=Hd hal
  clear hal
  go_enter Tryz.func191,Tryz.ntmps191
  go_wp2_with fail
  refine(HC.out _).mono ?_
  rintro e w1 ⟨rfl,rfl⟩
  go_wp2_with fail
  go_ret
  exact⟨rfl,HAL.out⟩
theorem QZ (t:Nat)(A:Option Addr)(n c m:Nat)(S:Sr)(x y:Nat)(w:World)(h:RSrt w.heap.size w t A n c m S)(hx:x < 18446744073709551616)(hy:y < 18446744073709551616):
  Calls Tryz.prog 195 #[rsV t A n c m,.int .u64 (x:Int),.int .u64 (y:Int)] w fun e w'=>e= .returned (.bool (S.below x y))∧Below w.heap.size w w':=by
 have hal:Below w.heap.size w (w.alloc (.cells #[.int .i64 (t:Int),.slice A n c,.int .i64 (m:Int)] 36)):=bA
 unfold rsV
 rcases h with⟨rfl,rfl,rfl,rfl,rfl,rfl⟩|⟨rfl,rfl,l,h1,h2,h3,rfl⟩|⟨rfl,rfl,rfl,rfl,h1,rfl⟩
 ·go_enter Tryz.func195,Tryz.ntmps195
  go_wp2
  go_ret
  exact⟨rfl,hal⟩
 ·have hr:=h1.at_size lR hal
  have hlen:=h1.len
  have hok:=La.VM h3
  have h64:=hok.known.1.2
  have HC:=Hd (show Calls Tryz.prog 172 #[.slice A n c,.int .u64 (x:Int),.int .u64 (y:Int)] (w.alloc (.cells #[.int .i64 ((1:Nat):Int),.slice A n c,.int .i64 ((0:Nat):Int)] 36)) fun e w'=>e= .returned (.bool ((laS l).below x y))∧Below (w.alloc (.cells #[.int .i64 ((1:Nat):Int),.slice A n c,.int .i64 ((0:Nat):Int)] 36)).heap.size (w.alloc (.cells #[.int .i64 ((1:Nat):Int),.slice A n c,.int .i64 ((0:Nat):Int)] 36)) w' from
   (La.Zy A n c _ l x y _ hr h2 hx hy).mono fun _ _ k=>⟨k.1,ZA k.2⟩)
  generalize (laS l).below x y=r at HC ⊢
  have HAL:=Hd hal
  have hbx:=heap_alloc_new w (.cells #[.int .i64 ((1:Nat):Int),.slice A n c,.int .i64 ((0:Nat):Int)] 36)
  have hz0:=(Za (i:=0) hbx).trans rfl
  clear hr hlen hok h64 h1 h2 h3 hal hbx
  go_enter Tryz.func195,Tryz.ntmps195
  go_wp2_with fail
  refine HC.out.mono ?_
  rintro e w1 ⟨rfl,hb⟩
  replace hz0:=Zc hz0 hb
  cases r with
  |false=>
   go_wp2_with fail
   go_ret
   exact⟨rfl,HAL.out.trans (hb.mono HAL.out.size)⟩
  |true=>
   go_wp2_with fail
   go_ret
   exact⟨rfl,HAL.out.trans (hb.mono HAL.out.size)⟩
 ·have HC:=Hd fun W=>(Ef.Zy m h1 W x y hx hy)
  have HE:Hid (∀v,v=(efS true (Ef.topN m)).below x y→v=(efS true (Ef.topN m)).below x y):=Hd fun _ h=>h
  have HAL:=Hd hal
  clear hal
  go_enter Tryz.func195,Tryz.ntmps195
  go_wp2_with fail
  refine(HC.out _).mono ?_
  rintro e w1 ⟨rfl,rfl⟩
  go_wp2_with fail
  go_ret
  exact⟨rfl,HAL.out⟩
theorem RV (t:Nat)(A:Option Addr)(n c m:Nat)(S:Sr)(w:World)(h:RSrt w.heap.size w t A n c m S):
  Calls Tryz.prog 120 #[rsV t A n c m] w fun e w'=>e= .returned (.int .u64 (S.bot:Int))∧Below w.heap.size w w':=by
 have hal:Below w.heap.size w (w.alloc (.cells #[.int .i64 (t:Int),.slice A n c,.int .i64 (m:Int)] 36)):=bA
 unfold rsV
 rcases h with⟨rfl,rfl,rfl,rfl,rfl,rfl⟩|⟨rfl,rfl,l,h1,h2,h3,rfl⟩|⟨rfl,rfl,rfl,rfl,h1,rfl⟩
 ·go_enter Tryz.func120,Tryz.ntmps120
  go_wp2
  go_ret
  exact⟨rfl,hal⟩
 ·have hr:=h1.at_size lR hal
  have hlen:=h1.len
  have hok:=La.VM h3
  have h64:=hok.known.1.2
  have HC:=Hd (show Calls Tryz.prog 198 #[.slice A n c] (w.alloc (.cells #[.int .i64 ((1:Nat):Int),.slice A n c,.int .i64 ((0:Nat):Int)] 36)) fun e w'=>e= .returned (.int .u64 ((laS l).bot:Int))∧Below (w.alloc (.cells #[.int .i64 ((1:Nat):Int),.slice A n c,.int .i64 ((0:Nat):Int)] 36)).heap.size (w.alloc (.cells #[.int .i64 ((1:Nat):Int),.slice A n c,.int .i64 ((0:Nat):Int)] 36)) w' from
   (La.Zal A n c l _ hr h2 hok).mono fun _ _ k=>⟨by rw[k.1, ← hlen];rfl,k.2⟩)
  generalize (laS l).bot=r at HC ⊢
  have HAL:=Hd hal
  have hbx:=heap_alloc_new w (.cells #[.int .i64 ((1:Nat):Int),.slice A n c,.int .i64 ((0:Nat):Int)] 36)
  have hz0:=(Za (i:=0) hbx).trans rfl
  clear hr hlen hok h64 h1 h2 h3 hal hbx
  go_enter Tryz.func120,Tryz.ntmps120
  go_wp2_with fail
  refine HC.out.mono ?_
  rintro e w1 ⟨rfl,hb⟩
  replace hz0:=Zc hz0 hb
  go_wp2_with fail
  go_ret
  exact⟨rfl,HAL.out.trans (hb.mono HAL.out.size)⟩
 ·go_enter Tryz.func120,Tryz.ntmps120
  go_wp2
  go_ret
  exact⟨rfl,hal⟩
theorem Kq (t:Nat)(A:Option Addr)(n c m:Nat)(S:Sr)(w:World)(h:RSrt w.heap.size w t A n c m S):
  Calls Tryz.prog 122 #[rsV t A n c m] w fun e w'=>e= .returned (.int .u64 (S.top:Int))∧Below w.heap.size w w':=by
 have hal:Below w.heap.size w (w.alloc (.cells #[.int .i64 (t:Int),.slice A n c,.int .i64 (m:Int)] 36)):=bA
 unfold rsV
 rcases h with⟨rfl,rfl,rfl,rfl,rfl,rfl⟩|⟨rfl,rfl,l,h1,h2,h3,rfl⟩|⟨rfl,rfl,rfl,rfl,h1,rfl⟩
 ·go_enter Tryz.func122,Tryz.ntmps122
  go_wp2
  go_ret
  exact⟨rfl,hal⟩
 ·have hr:=h1.at_size lR hal
  have hlen:=h1.len
  have hok:=La.VM h3
  have h64:=hok.known.1.2
  have HC:=Hd (show Calls Tryz.prog 199 #[.slice A n c] (w.alloc (.cells #[.int .i64 ((1:Nat):Int),.slice A n c,.int .i64 ((0:Nat):Int)] 36)) fun e w'=>e= .returned (.int .u64 ((laS l).top:Int))∧Below (w.alloc (.cells #[.int .i64 ((1:Nat):Int),.slice A n c,.int .i64 ((0:Nat):Int)] 36)).heap.size (w.alloc (.cells #[.int .i64 ((1:Nat):Int),.slice A n c,.int .i64 ((0:Nat):Int)] 36)) w' from
   (La.UL A n c l _ hr h2 hok).mono fun _ _ k=>⟨by rw[k.1, ← hlen];rfl,k.2⟩)
  generalize (laS l).top=r at HC ⊢
  have HAL:=Hd hal
  have hbx:=heap_alloc_new w (.cells #[.int .i64 ((1:Nat):Int),.slice A n c,.int .i64 ((0:Nat):Int)] 36)
  have hz0:=(Za (i:=0) hbx).trans rfl
  clear hr hlen hok h64 h1 h2 h3 hal hbx
  go_enter Tryz.func122,Tryz.ntmps122
  go_wp2_with fail
  refine HC.out.mono ?_
  rintro e w1 ⟨rfl,hb⟩
  replace hz0:=Zc hz0 hb
  go_wp2_with fail
  go_ret
  exact⟨rfl,HAL.out.trans (hb.mono HAL.out.size)⟩
 ·have HC:=Hd fun W=>(Ef.UL m h1 W)
  have HE:Hid (∀v,v=(efS true (Ef.topN m)).top→v=(efS true (Ef.topN m)).top):=Hd fun _ h=>h
  have HAL:=Hd hal
  clear hal
  go_enter Tryz.func122,Tryz.ntmps122
  go_wp2_with fail
  refine(HC.out _).mono ?_
  rintro e w1 ⟨rfl,rfl⟩
  go_wp2_with fail
  go_ret
  exact⟨rfl,HAL.out⟩
theorem Zew (t:Nat)(A:Option Addr)(n c m:Nat)(S:Sr)(x y:Nat)(w:World)(h:RSrt w.heap.size w t A n c m S)(hS:S.Ok)(hx:S.has x=true)(hy:S.has y=true):
  Calls Tryz.prog 194 #[rsV t A n c m,.int .u64 (x:Int),.int .u64 (y:Int)] w fun e w'=>e= .returned (.int .u64 (S.join x y:Int))∧Below w.heap.size w w':=by
 have hal:Below w.heap.size w (w.alloc (.cells #[.int .i64 (t:Int),.slice A n c,.int .i64 (m:Int)] 36)):=bA
 have HA:=Hd fun W (hW:Below w.heap.size w W)=>hx▸V8 t A n c m S x W (h.keep hW) (hS.fit _ hx)
 have HB:=Hd fun W (hW:Below w.heap.size w W)=>hy▸V8 t A n c m S y W (h.keep hW) (hS.fit _ hy)
 have hxf:=hS.fit _ hx
 have hyf:=hS.fit _ hy
 clear hS
 unfold rsV at HA HB ⊢
 have HAL:=Hd hal
 clear hal
 rcases h with⟨rfl,rfl,rfl,rfl,rfl,rfl⟩|⟨rfl,rfl,l,h1,h2,h3,rfl⟩|⟨rfl,rfl,rfl,rfl,h1,rfl⟩
 ·cases hx
 ·have hlen:=h1.len
  have hok:=La.VM h3
  have h64:=hok.known.1.2
  have hbx:=heap_alloc_new w (.cells #[.int .i64 ((1:Nat):Int),.slice A n c,.int .i64 ((0:Nat):Int)] 36)
  have hz0:=(Za (i:=0) hbx).trans rfl
  have hz1:=(Za (i:=1) hbx).trans rfl
  have hz2:=(Za (i:=2) hbx).trans rfl
  have HC:=Hd fun W (hW:Below w.heap.size w W)=>(show Calls Tryz.prog 220 #[.slice A n c,.int .u64 (x:Int),.int .u64 (y:Int)] W fun e w'=>e= .returned (.int .u64 ((laS l).join x y:Int))∧Below W.heap.size W w' from
   (La.UZ A n c l x y W (h1.at_size lR hW) h2 hok hxf hyf).mono fun _ _ k=>⟨by rw[k.1, ← hlen];rfl,k.2⟩)
  generalize (laS l).join x y=r at HC ⊢
  clear hlen hok h64 h1 h2 h3 hbx hx hy hxf hyf
  go_enter Tryz.func194,Tryz.ntmps194
  go_wp2_with fail
  refine(HA.out _ HAL.out).mono ?_
  rintro e w1 ⟨rfl,hb1⟩
  replace hz0:=Zc hz0 hb1
  replace hz1:=Zc hz1 hb1
  replace hz2:=Zc hz2 hb1
  have HB1:=Hd (HAL.out.trans (hb1.mono HAL.out.size))
  clear hb1
  go_wp2_with fail
  refine(HB.out _ HB1.out).mono ?_
  rintro e w2 ⟨rfl,hb2⟩
  replace hz0:=Zc hz0 hb2
  replace hz1:=Zc hz1 hb2
  replace hz2:=Zc hz2 hb2
  have HB2:=Hd (HB1.out.trans (hb2.mono HB1.out.size))
  clear hb2
  go_wp2_with fail
  refine(HC.out _ HB2.out).mono ?_
  rintro e w3 ⟨rfl,hb3⟩
  go_wp2_with fail
  go_ret
  exact⟨rfl,HB2.out.trans (hb3.mono HB2.out.size)⟩
 ·have HC:=Hd fun W=>Ef.UZ m h1 W x y hxf hyf
  have hbx:=heap_alloc_new w (.cells #[.int .i64 ((2:Nat):Int),.slice none 0 0,.int .i64 (m:Int)] 36)
  have hz0:=(Za (i:=0) hbx).trans rfl
  have hz1:=(Za (i:=1) hbx).trans rfl
  have hz2:=(Za (i:=2) hbx).trans rfl
  clear hbx hx hy hxf hyf
  go_enter Tryz.func194,Tryz.ntmps194
  go_wp2_with fail
  refine(HA.out _ HAL.out).mono ?_
  rintro e w1 ⟨rfl,hb1⟩
  replace hz0:=Zc hz0 hb1
  replace hz1:=Zc hz1 hb1
  replace hz2:=Zc hz2 hb1
  have HB1:=Hd (HAL.out.trans (hb1.mono HAL.out.size))
  clear hb1
  go_wp2_with fail
  refine(HB.out _ HB1.out).mono ?_
  rintro e w2 ⟨rfl,hb2⟩
  replace hz0:=Zc hz0 hb2
  replace hz1:=Zc hz1 hb2
  replace hz2:=Zc hz2 hb2
  have HB2:=Hd (HB1.out.trans (hb2.mono HB1.out.size))
  clear hb2
  go_wp2_with fail
  refine(HC.out _).mono ?_
  rintro e w3 ⟨rfl,rfl⟩
  go_wp2_with fail
  go_ret
  exact⟨rfl,HB2.out⟩
theorem Zex (t:Nat)(A:Option Addr)(n c m:Nat)(S:Sr)(x y:Nat)(w:World)(h:RSrt w.heap.size w t A n c m S)(hS:S.Ok)(hx:S.has x=true)(hy:S.has y=true):
  Calls Tryz.prog 196 #[rsV t A n c m,.int .u64 (x:Int),.int .u64 (y:Int)] w fun e w'=>e= .returned (.int .u64 (S.meet x y:Int))∧Below w.heap.size w w':=by
 have hal:Below w.heap.size w (w.alloc (.cells #[.int .i64 (t:Int),.slice A n c,.int .i64 (m:Int)] 36)):=bA
 have HA:=Hd fun W (hW:Below w.heap.size w W)=>hx▸V8 t A n c m S x W (h.keep hW) (hS.fit _ hx)
 have HB:=Hd fun W (hW:Below w.heap.size w W)=>hy▸V8 t A n c m S y W (h.keep hW) (hS.fit _ hy)
 have hxf:=hS.fit _ hx
 have hyf:=hS.fit _ hy
 clear hS
 unfold rsV at HA HB ⊢
 have HAL:=Hd hal
 clear hal
 rcases h with⟨rfl,rfl,rfl,rfl,rfl,rfl⟩|⟨rfl,rfl,l,h1,h2,h3,rfl⟩|⟨rfl,rfl,rfl,rfl,h1,rfl⟩
 ·cases hx
 ·have hlen:=h1.len
  have hok:=La.VM h3
  have h64:=hok.known.1.2
  have hbx:=heap_alloc_new w (.cells #[.int .i64 ((1:Nat):Int),.slice A n c,.int .i64 ((0:Nat):Int)] 36)
  have hz0:=(Za (i:=0) hbx).trans rfl
  have hz1:=(Za (i:=1) hbx).trans rfl
  have hz2:=(Za (i:=2) hbx).trans rfl
  have HC:=Hd fun W (hW:Below w.heap.size w W)=>(show Calls Tryz.prog 223 #[.slice A n c,.int .u64 (x:Int),.int .u64 (y:Int)] W fun e w'=>e= .returned (.int .u64 ((laS l).meet x y:Int))∧Below W.heap.size W w' from
   (La.U0 A n c l x y W (h1.at_size lR hW) h2 hok hxf hyf).mono fun _ _ k=>⟨by rw[k.1, ← hlen];rfl,k.2⟩)
  generalize (laS l).meet x y=r at HC ⊢
  clear hlen hok h64 h1 h2 h3 hbx hx hy hxf hyf
  go_enter Tryz.func196,Tryz.ntmps196
  go_wp2_with fail
  refine(HA.out _ HAL.out).mono ?_
  rintro e w1 ⟨rfl,hb1⟩
  replace hz0:=Zc hz0 hb1
  replace hz1:=Zc hz1 hb1
  replace hz2:=Zc hz2 hb1
  have HB1:=Hd (HAL.out.trans (hb1.mono HAL.out.size))
  clear hb1
  go_wp2_with fail
  refine(HB.out _ HB1.out).mono ?_
  rintro e w2 ⟨rfl,hb2⟩
  replace hz0:=Zc hz0 hb2
  replace hz1:=Zc hz1 hb2
  replace hz2:=Zc hz2 hb2
  have HB2:=Hd (HB1.out.trans (hb2.mono HB1.out.size))
  clear hb2
  go_wp2_with fail
  refine(HC.out _ HB2.out).mono ?_
  rintro e w3 ⟨rfl,hb3⟩
  go_wp2_with fail
  go_ret
  exact⟨rfl,HB2.out.trans (hb3.mono HB2.out.size)⟩
 ·have HC:=Hd fun W=>Ef.U0 m h1 W x y hxf hyf
  have hbx:=heap_alloc_new w (.cells #[.int .i64 ((2:Nat):Int),.slice none 0 0,.int .i64 (m:Int)] 36)
  have hz0:=(Za (i:=0) hbx).trans rfl
  have hz1:=(Za (i:=1) hbx).trans rfl
  have hz2:=(Za (i:=2) hbx).trans rfl
  clear hbx hx hy hxf hyf
  go_enter Tryz.func196,Tryz.ntmps196
  go_wp2_with fail
  refine(HA.out _ HAL.out).mono ?_
  rintro e w1 ⟨rfl,hb1⟩
  replace hz0:=Zc hz0 hb1
  replace hz1:=Zc hz1 hb1
  replace hz2:=Zc hz2 hb1
  have HB1:=Hd (HAL.out.trans (hb1.mono HAL.out.size))
  clear hb1
  go_wp2_with fail
  refine(HB.out _ HB1.out).mono ?_
  rintro e w2 ⟨rfl,hb2⟩
  replace hz0:=Zc hz0 hb2
  replace hz1:=Zc hz1 hb2
  replace hz2:=Zc hz2 hb2
  have HB2:=Hd (HB1.out.trans (hb2.mono HB1.out.size))
  clear hb2
  go_wp2_with fail
  refine(HC.out _).mono ?_
  rintro e w3 ⟨rfl,rfl⟩
  go_wp2_with fail
  go_ret
  exact⟨rfl,HB2.out⟩
theorem Zb8 (k:Int)(w:World):
  Calls Tryz.prog 22 #[.int .i64 k] w fun e w'=> ∃t A n c m,e= .returned (rsV t A n c m)∧(∀B,RSrt B w' t A n c m (if 0≤k∧k≤64 then efS true (Ef.topN k.toNat) else dead))∧Below w.heap.size w w':=by
 by_cases hk:0≤k∧k≤64
 ·rw[if_pos hk]
  obtain⟨q,rfl⟩: ∃q:Nat,k=(q:Int):=⟨k.toNat,by omega⟩
  have h0: ¬(q:Int) < 0:=by omega
  have h1: ¬64 < (q:Int):=by omega
  have HQ:Hid (q≤64):=Hd (by omega)
  clear hk
  go_enter Tryz.func22,Tryz.ntmps22
  go_wp2
  exact bodyPost_ret (results_cell_row (P:=Tryz.prog) rfl _ _ w.heap.size 36 _ (0,0) _ rfl (heap_alloc_new w _) Tryz.underlying36 rfl rfl) rfl ⟨2,none,0,0,q,rfl,fun _=> .inr (.inr ⟨rfl,rfl,rfl,rfl,HQ.out,rfl⟩),bA⟩
 ·rw[if_neg hk]
  by_cases h0:k < 0
  ·clear hk
   go_enter Tryz.func22,Tryz.ntmps22
   go_wp2
   exact bodyPost_ret (results_cell_row (P:=Tryz.prog) rfl _ _ w.heap.size 36 _ (0,0) _ rfl (heap_alloc_new w _) Tryz.underlying36 rfl rfl) rfl ⟨0,none,0,0,0,rfl,fun _=> .inl ⟨rfl,rfl,rfl,rfl,rfl,rfl⟩,bA⟩
  ·have h1:64 < k:=by omega
   clear hk
   go_enter Tryz.func22,Tryz.ntmps22
   go_wp2
   exact bodyPost_ret (results_cell_row (P:=Tryz.prog) rfl _ _ w.heap.size 36 _ (0,0) _ rfl (heap_alloc_new w _) Tryz.underlying36 rfl rfl) rfl ⟨0,none,0,0,0,rfl,fun _=> .inl ⟨rfl,rfl,rfl,rfl,rfl,rfl⟩,bA⟩
theorem Yw (A:Option Addr)(n c:Nat)(l:List Nat)(w:World)(B:Nat)(hB:B≤w.heap.size)(h:Rd La.nm w B A n c l)(hf:La.Fit l):
  Calls Tryz.prog 21 #[.slice A n c] w fun e w'=> ∃t A n c m,e= .returned (rsV t A n c m)∧RSrt B w' t A n c m (if La.checkN l=0 then laS l else dead)∧Below w.heap.size w w':=by
 have hal:Below w.heap.size w (w.alloc (.cells #[.int .i64 0,.slice none 0 0,.int .i64 0] 36)):=bA
 have hnew:=heap_alloc_new w (.cells #[.int .i64 0,.slice none 0 0,.int .i64 0] 36)
 have HC:=Hd (La.VO A n c l _ (h.at_size hB hal) hf)
 have HR:=Hd h
 have HF:=Hd hf
 have HAL:=Hd hal
 have hlt:w.heap.size < (w.alloc (.cells #[.int .i64 0,.slice none 0 0,.int .i64 0] 36)).heap.size:=by simp
 clear h hf hal
 by_cases hx0:La.checkN l=0
 ·rw[if_pos hx0]
  have HX0:=Hd hx0
  clear hx0
  go_enter Tryz.func21,Tryz.ntmps21
  go_wp2_with fail
  refine HC.out.mono ?_
  rintro e w1 ⟨x,rfl,hx,hb⟩
  obtain rfl:x=0:=(La.Zbx hx).trans HX0.out
  have hnew1:=(hb.block w.heap.size hlt).trans hnew
  have HB:=Hd (HAL.out.trans (hb.mono HAL.out.size))
  clear hx hb HC hnew hlt
  have hf0:w1.frozen? ⟨w.heap.size,0,none⟩=false:=Zb hnew1
  have hf1:w1.frozen? ⟨w.heap.size,1,none⟩=false:=Zb hnew1
  have hf2:w1.frozen? ⟨w.heap.size,2,none⟩=false:=Zb hnew1
  have hc0:=(Za (i:=0) hnew1).trans rfl
  have hc1:=(Za (i:=1) hnew1).trans rfl
  have hc2:=(Za (i:=2) hnew1).trans rfl
  have HN:=Hd hnew1
  clear hnew1
  go_wp2
  have hblk:=st3 HN.out (.int .i64 1) (.slice A n c) (.int .i64 0)
  have hb3:=Zbc HB.out w.heap.size lR (.int .i64 1) (.slice A n c) (.int .i64 0)
  exact bodyPost_ret (results_cell_row (P:=Tryz.prog) rfl _ _ w.heap.size 36 _ (0,0) _ rfl hblk Tryz.underlying36 rfl rfl) rfl ⟨1,A,n,c,0,rfl,.inr (.inl ⟨rfl,rfl,l,HR.out.below (hb3.mono hB),HF.out,HX0.out,rfl⟩),hb3⟩
 ·rw[if_neg hx0]
  have HX0:=Hd hx0
  clear hx0
  go_enter Tryz.func21,Tryz.ntmps21
  go_wp2_with fail
  refine HC.out.mono ?_
  rintro e w1 ⟨x,rfl,hx,hb⟩
  have hne:((x:Int) !=0)=true:=by have:=La.Zbx hx;have h2:=HX0.out;simp;omega
  have hnew1:=(hb.block w.heap.size hlt).trans hnew
  have HB:=Hd (HAL.out.trans (hb.mono HAL.out.size))
  clear hx hb HC hnew hlt
  have hf0:w1.frozen? ⟨w.heap.size,0,none⟩=false:=Zb hnew1
  have hf1:w1.frozen? ⟨w.heap.size,1,none⟩=false:=Zb hnew1
  have hf2:w1.frozen? ⟨w.heap.size,2,none⟩=false:=Zb hnew1
  have hc0:=(Za (i:=0) hnew1).trans rfl
  have hc1:=(Za (i:=1) hnew1).trans rfl
  have hc2:=(Za (i:=2) hnew1).trans rfl
  have HN:=Hd hnew1
  clear hnew1
  go_wp2
  have hblk:=st3 HN.out (.int .i64 0) (.slice none 0 0) (.int .i64 0)
  have hb3:=Zbc HB.out w.heap.size lR (.int .i64 0) (.slice none 0 0) (.int .i64 0)
  exact bodyPost_ret (results_cell_row (P:=Tryz.prog) rfl _ _ w.heap.size 36 _ (0,0) _ rfl hblk Tryz.underlying36 rfl rfl) rfl ⟨0,none,0,0,0,rfl,.inl ⟨rfl,rfl,rfl,rfl,rfl,rfl⟩,hb3⟩
end Go.Proofs.YtfmpecnkkbpdlaaGreatDoor.Bo
namespace Go.Proofs.YtfmpecnkkbpdlaaGreatDoor.Bo
open Go.RowKit
theorem RSrt.rhas {w:World}{t:Nat}{A:Option Addr}{n c m:Nat}{S:Sr}(h:RSrt w.heap.size w t A n c m S):RHas w (rsV t A n c m) S:=fun W hW x hx=>V8 t A n c m S x W (h.keep hW) hx
end Go.Proofs.YtfmpecnkkbpdlaaGreatDoor.Bo
