import Derived.Test.YtphklakjadchmaaGreatDoorLaLat
import Derived.Test.YtphklakjadchmaaGreatDoorLaRefCheck
import Derived.Test.YtphklakjadchmaaGreatDoorBoRefT
import Derived.Test.YtphklakjadchmaaGreatDoorEfEff
import Derived.Test.YtphklakjadchmaaGreatDoorOpd
namespace Go.Proofs.YtphklakjadchmaaGreatDoor.Ef
open Go.RowKit
theorem two_pow {k:Nat}(h:k < 64):IntKind.u64.wrap ((2:Int) ^ k)=((2 ^ k:Nat):Int):=by
 have h1:(2:Nat) ^ k < 18446744073709551616:=Nat.pow_lt_pow_right (n:=64) (by decide) h
 show(2:Int) ^ k%18446744073709551616=_
 rw[Int.natCast_pow]
 have:((2 ^ k:Nat):Int) < 18446744073709551616:=by omega
 rw[Int.natCast_pow] at this
 exact Int.emod_eq_of_lt (Int.le_of_lt (Int.pow_pos (by decide))) this
def TopRel (n:Nat)(w:World)(v3 v4:Value)(wr:World):Prop:= ∃i:Nat,v4= .int .i64 (i:Int)∧i≤n∧v3= .int .u64 (topN i:Int)∧wr=w
set_option maxRecDepth 100000 in
set_option maxHeartbeats 400000 in
theorem refTop_any (n:Nat)(hn:n≤64)(w:World):Calls Tryz.prog 199 #[.int .i64 (n:Int)] w fun e w'=>e= .returned (.int .u64 (topN n:Int))∧w=w':=by
 go_enter Tryz.func199,Tryz.ntmps199
 go_wp2
 go_loopw [3,4] (fun v3 v4 wr=>TopRel n w v3 v4 wr) (fun _ v4 _=>n - (intOf v4).toNat)
 case atStart=>exact⟨0,rfl,by omega,rfl,rfl⟩
 case round=>
  obtain⟨i,rfl,hi,rfl,rfl⟩:=hrel
  by_cases hlt:i < n
  ·have hp:=two_pow (k:=i) (by omega)
   have ho:=u64_or_nat (topN i) (2 ^ i) (topN_lt (by omega)) (by exact Nat.pow_lt_pow_right (n:=64) (by decide) (by omega))
   rw[topN_succ] at ho
   obtain⟨s,hs⟩: ∃s,s=topN (i+1):=⟨_,rfl⟩
   rw[← hs] at ho
   have HS:=Lib.hid hs
   clear hs
   generalize topN i=r at*
   generalize 2 ^ i=p at*
   go_wp2
   go_roundw
   case rel=>exact⟨i+1,by go_num,by omega,by rw[HS.out],rfl⟩
   case measure=>simp[intOf];omega
  ·obtain rfl:i=n:=by omega
   go_wp2
   go_ret
   exact⟨rfl,rfl⟩
section
variable (n:Nat) (hn:n≤64) (w:World)
include hn
set_option maxRecDepth 100000 in
set_option maxHeartbeats 400000 in
theorem refHas_any (x:Nat)(hx:x < 18446744073709551616):Calls Tryz.prog 189 #[.int .i64 (n:Int),.int .u64 (x:Int)] w fun e w'=>e= .returned (.bool (hasE true (topN n) x))∧w=w':=by
 have hc:=fun W=>refTop_any n hn W
 have ho:=u64_or_nat x (topN n) hx (topN_lt hn)
 have hr:hasE true (topN n) x=(((x|||topN n:Nat):Int)==(topN n:Int)):=by
  rw[hasE,Bool.true_and,subB]
  by_cases h:x|||topN n=topN n
  ·rw[h];simp
  ·have: ¬((x|||topN n:Nat):Int)=(topN n:Int):=by omega
   rw[beq_eq_false_iff_ne.2 h,beq_eq_false_iff_ne.2 this]
 rw[hr]
 clear hr
 generalize x|||topN n=q at*
 generalize topN n=t at*
 go_enter Tryz.func189,Tryz.ntmps189
 go_wp2_with fail
 refine(hc _).mono ?_
 rintro e w' ⟨rfl,rfl⟩
 go_wp2_with fail
 refine(hc _).mono ?_
 rintro e w' ⟨rfl,rfl⟩
 go_wp2_with fail
 go_ret
 exact⟨rfl,rfl⟩
set_option maxRecDepth 100000 in
set_option maxHeartbeats 400000 in
theorem refBelow_any (x y:Nat)(hx:x < 18446744073709551616)(hy:y < 18446744073709551616):Calls Tryz.prog 170 #[.int .i64 (n:Int),.int .u64 (x:Int),.int .u64 (y:Int)] w fun e w'=>e= .returned (.bool (belowE true (topN n) x y))∧w=w':=by
 have h1:=fun W=>refHas_any n hn W x hx
 have h2:=fun W=>refHas_any n hn W y hy
 have ho:=u64_or_nat x y hx hy
 have hr:(((x|||y:Nat):Int)==(y:Int))=subB x y:=by
  rw[subB]
  by_cases h:x|||y=y
  ·rw[h];simp
  ·have: ¬((x|||y:Nat):Int)=(y:Int):=by omega
   rw[beq_eq_false_iff_ne.2 h,beq_eq_false_iff_ne.2 this]
 rw[belowE,bothE,Bool.true_and]
 simp only[hasE,Bool.true_and] at h1 h2
 generalize x|||y=q at*
 generalize subB x y=s at*
 generalize subB x (topN n)=r1 at*
 generalize subB y (topN n)=r2 at*
 cases r1 with
 |false=>
  go_enter Tryz.func170,Tryz.ntmps170
  go_wp2_with fail
  refine(h1 _).mono ?_
  rintro e w' ⟨rfl,rfl⟩
  go_wp2_with fail
  go_ret
  exact⟨rfl,rfl⟩
 |true=>
  cases r2 with
  |false=>
   go_enter Tryz.func170,Tryz.ntmps170
   go_wp2_with fail
   refine(h1 _).mono ?_
   rintro e w' ⟨rfl,rfl⟩
   go_wp2_with fail
   refine(h2 _).mono ?_
   rintro e w' ⟨rfl,rfl⟩
   go_wp2_with fail
   go_ret
   exact⟨rfl,rfl⟩
  |true=>
   go_enter Tryz.func170,Tryz.ntmps170
   go_wp2_with fail
   refine(h1 _).mono ?_
   rintro e w' ⟨rfl,rfl⟩
   go_wp2_with fail
   refine(h2 _).mono ?_
   rintro e w' ⟨rfl,rfl⟩
   go_wp2_with fail
   go_ret
   exact⟨rfl,rfl⟩
end
end Go.Proofs.YtphklakjadchmaaGreatDoor.Ef
namespace Go.Proofs.YtphklakjadchmaaGreatDoor.Bo
open Go.RowKit
def RSrt (B:Nat)(w:World)(t:Nat)(A:Option Addr)(n c m:Nat)(S:Sr):Prop:=
 (t=0∧A=none∧n=0∧c=0∧m=0∧S=dead)∨(t=1∧m=0∧ ∃l,Rd La.nm w B A n c l∧La.Fit l∧La.checkN l=0∧S=laS l)∨(t=2∧A=none∧n=0∧c=0∧m≤64∧S=efS true (Ef.topN m))
theorem RSrt.below {B:Nat}{w W:World}{t:Nat}{A:Option Addr}{n c m:Nat}{S:Sr}(h:RSrt B w t A n c m S)(hb:Below B w W):RSrt B W t A n c m S:=by
 rcases h with h|⟨h1,h2,l,h3,h4⟩|h
 ·exact .inl h
 ·exact .inr (.inl ⟨h1,h2,l,h3.below hb,h4⟩)
 ·exact .inr (.inr h)
theorem RSrt.mono {B B':Nat}{w:World}{t:Nat}{A:Option Addr}{n c m:Nat}{S:Sr}(h:RSrt B w t A n c m S)(hb:B≤B'):RSrt B' w t A n c m S:=by
 rcases h with h|⟨h1,h2,l,h3,h4⟩|h
 ·exact .inl h
 ·exact .inr (.inl ⟨h1,h2,l,h3.mono hb,h4⟩)
 ·exact .inr (.inr h)
theorem RSrt.keep {w W:World}{t:Nat}{A:Option Addr}{n c m:Nat}{S:Sr}(h:RSrt w.heap.size w t A n c m S)(hb:Below w.heap.size w W):RSrt W.heap.size W t A n c m S:=(h.below hb).mono hb.size
theorem st3 {w:World}{g:Nat}{a b c:Value}(h:w.heap[g]?=some (.cells #[a,b,c] 36 (0,0)))(x y z:Value):
  (((w.setCell ⟨g,0,none⟩ x).setCell ⟨g,1,none⟩ y).setCell ⟨g,2,none⟩ z).heap[g]?=some (.cells #[x,y,z] 36 (0,0)):=by
 have h1:=set_blk (i:=0) h x
 have h2:=set_blk (i:=1) h1 y
 have h3:=set_blk (i:=2) h2 z
 simpa using h3
theorem st3_below {B:Nat}{w w1:World}(h:Below B w w1)(g:Nat)(hg:B≤g)(x y z:Value):Below B w (((w1.setCell ⟨g,0,none⟩ x).setCell ⟨g,1,none⟩ y).setCell ⟨g,2,none⟩ z):=
 ((h.setCell (p:=⟨g,0,none⟩) hg x).setCell (p:=⟨g,1,none⟩) hg y).setCell (p:=⟨g,2,none⟩) hg z
set_option maxRecDepth 100000 in
set_option maxHeartbeats 2000000 in
theorem rbelow_any (t:Nat)(A:Option Addr)(n c m:Nat)(S:Sr)(x y:Nat)(w:World)(h:RSrt w.heap.size w t A n c m S)(hx:x < 18446744073709551616)(hy:y < 18446744073709551616):
  Calls Tryz.prog 107 #[rsV t A n c m,.int .u64 (x:Int),.int .u64 (y:Int)] w fun e w'=>e= .returned (.bool (S.below x y))∧Below w.heap.size w w':=by
 have hal:Below w.heap.size w (w.alloc (.cells #[.int .i64 (t:Int),.slice A n c,.int .i64 (m:Int)] 36)):=(Below.refl _ _).alloc (Nat.le_refl _) _
 unfold rsV
 rcases h with⟨rfl,rfl,rfl,rfl,rfl,rfl⟩|⟨rfl,rfl,l,h1,h2,h3,rfl⟩|⟨rfl,rfl,rfl,rfl,h1,rfl⟩
 ·go_enter Tryz.func107,Tryz.ntmps107
  go_wp2
  go_ret
  exact⟨rfl,hal⟩
 ·have hr:=h1.at_size (Nat.le_refl _) hal
  have hlen:=h1.len
  have hok:=La.latOK_of h3
  have h64:=hok.known.1.2
  have HC:=Lib.hid (show Calls Tryz.prog 162 #[.slice A n c,.int .u64 (x:Int),.int .u64 (y:Int)] (w.alloc (.cells #[.int .i64 ((1:Nat):Int),.slice A n c,.int .i64 ((0:Nat):Int)] 36)) fun e w'=>e= .returned (.bool ((laS l).below x y))∧Below (w.alloc (.cells #[.int .i64 ((1:Nat):Int),.slice A n c,.int .i64 ((0:Nat):Int)] 36)).heap.size (w.alloc (.cells #[.int .i64 ((1:Nat):Int),.slice A n c,.int .i64 ((0:Nat):Int)] 36)) w' from
   (La.refBelow_any A n c _ l x y _ hr h2 hx hy).mono fun _ _ k=>⟨k.1,same_below k.2⟩)
  generalize (laS l).below x y=r at HC ⊢
  have HAL:=Lib.hid hal
  have hbx:=heap_alloc_new w (.cells #[.int .i64 ((1:Nat):Int),.slice A n c,.int .i64 ((0:Nat):Int)] 36)
  have hz0:=(cell_blk (i:=0) hbx).trans rfl
  clear hr hlen hok h64 h1 h2 h3 hal hbx
  go_enter Tryz.func107,Tryz.ntmps107
  go_wp2_with fail
  refine HC.out.mono ?_
  rintro e w1 ⟨rfl,hb⟩
  replace hz0:=cell_old hz0 hb
  cases r with
  |false=>
   go_wp2_with fail
   go_ret
   exact⟨rfl,HAL.out.trans (hb.mono HAL.out.size)⟩
  |true=>
   go_wp2_with fail
   go_ret
   exact⟨rfl,HAL.out.trans (hb.mono HAL.out.size)⟩
 ·have HC:=Lib.hid fun W=>(Ef.refBelow_any m h1 W x y hx hy)
  have HE:Hid (∀v,v=(efS true (Ef.topN m)).below x y→v=(efS true (Ef.topN m)).below x y):=Lib.hid fun _ h=>h
  have HAL:=Lib.hid hal
  clear hal
  go_enter Tryz.func107,Tryz.ntmps107
  go_wp2_with fail
  refine(HC.out _).mono ?_
  rintro e w1 ⟨rfl,rfl⟩
  go_wp2_with fail
  go_ret
  exact⟨rfl,HAL.out⟩
set_option maxRecDepth 100000 in
set_option maxHeartbeats 2000000 in
theorem effects_any (k:Int)(w:World):
  Calls Tryz.prog 28 #[.int .i64 k] w fun e w'=> ∃t A n c m,e= .returned (rsV t A n c m)∧(∀B,RSrt B w' t A n c m (if 0≤k∧k≤64 then efS true (Ef.topN k.toNat) else dead))∧Below w.heap.size w w':=by
 by_cases hk:0≤k∧k≤64
 ·rw[if_pos hk]
  obtain⟨q,rfl⟩: ∃q:Nat,k=(q:Int):=⟨k.toNat,by omega⟩
  have h0: ¬(q:Int) < 0:=by omega
  have h1: ¬64 < (q:Int):=by omega
  have HQ:Hid (q≤64):=Lib.hid (by omega)
  clear hk
  go_enter Tryz.func28,Tryz.ntmps28
  go_wp2
  exact bodyPost_ret (results_cell_row (P:=Tryz.prog) rfl _ _ w.heap.size 36 _ (0,0) _ rfl (heap_alloc_new w _) Tryz.underlying36 rfl rfl) rfl ⟨2,none,0,0,q,rfl,fun _=> .inr (.inr ⟨rfl,rfl,rfl,rfl,HQ.out,rfl⟩),(Below.refl _ _).alloc (Nat.le_refl _) _⟩
 ·rw[if_neg hk]
  by_cases h0:k < 0
  ·clear hk
   go_enter Tryz.func28,Tryz.ntmps28
   go_wp2
   exact bodyPost_ret (results_cell_row (P:=Tryz.prog) rfl _ _ w.heap.size 36 _ (0,0) _ rfl (heap_alloc_new w _) Tryz.underlying36 rfl rfl) rfl ⟨0,none,0,0,0,rfl,fun _=> .inl ⟨rfl,rfl,rfl,rfl,rfl,rfl⟩,(Below.refl _ _).alloc (Nat.le_refl _) _⟩
  ·have h1:64 < k:=by omega
   clear hk
   go_enter Tryz.func28,Tryz.ntmps28
   go_wp2
   exact bodyPost_ret (results_cell_row (P:=Tryz.prog) rfl _ _ w.heap.size 36 _ (0,0) _ rfl (heap_alloc_new w _) Tryz.underlying36 rfl rfl) rfl ⟨0,none,0,0,0,rfl,fun _=> .inl ⟨rfl,rfl,rfl,rfl,rfl,rfl⟩,(Below.refl _ _).alloc (Nat.le_refl _) _⟩
set_option maxRecDepth 100000 in
set_option maxHeartbeats 2000000 in
theorem labels_any (A:Option Addr)(n c:Nat)(l:List Nat)(w:World)(B:Nat)(hB:B≤w.heap.size)(h:Rd La.nm w B A n c l)(hf:La.Fit l):
  Calls Tryz.prog 27 #[.slice A n c] w fun e w'=> ∃t A n c m,e= .returned (rsV t A n c m)∧RSrt B w' t A n c m (if La.checkN l=0 then laS l else dead)∧Below w.heap.size w w':=by
 have hal:Below w.heap.size w (w.alloc (.cells #[.int .i64 0,.slice none 0 0,.int .i64 0] 36)):=(Below.refl _ _).alloc (Nat.le_refl _) _
 have hnew:=heap_alloc_new w (.cells #[.int .i64 0,.slice none 0 0,.int .i64 0] 36)
 have HC:=Lib.hid (La.refCheck_any A n c l _ (h.at_size hB hal) hf)
 have HR:=Lib.hid h
 have HF:=Lib.hid hf
 have HAL:=Lib.hid hal
 have hlt:w.heap.size < (w.alloc (.cells #[.int .i64 0,.slice none 0 0,.int .i64 0] 36)).heap.size:=by simp
 clear h hf hal
 by_cases hx0:La.checkN l=0
 ·rw[if_pos hx0]
  have HX0:=Lib.hid hx0
  clear hx0
  go_enter Tryz.func27,Tryz.ntmps27
  go_wp2_with fail
  refine HC.out.mono ?_
  rintro e w1 ⟨x,rfl,hx,hb⟩
  obtain rfl:x=0:=(La.checkN_of hx).trans HX0.out
  have hnew1:=(hb.block w.heap.size hlt).trans hnew
  have HB:=Lib.hid (HAL.out.trans (hb.mono HAL.out.size))
  clear hx hb HC hnew hlt
  have hf0:w1.frozen? ⟨w.heap.size,0,none⟩=false:=frozen_blk hnew1
  have hf1:w1.frozen? ⟨w.heap.size,1,none⟩=false:=frozen_blk hnew1
  have hf2:w1.frozen? ⟨w.heap.size,2,none⟩=false:=frozen_blk hnew1
  have hc0:=(cell_blk (i:=0) hnew1).trans rfl
  have hc1:=(cell_blk (i:=1) hnew1).trans rfl
  have hc2:=(cell_blk (i:=2) hnew1).trans rfl
  have HN:=Lib.hid hnew1
  clear hnew1
  go_wp2
  have hblk:=st3 HN.out (.int .i64 1) (.slice A n c) (.int .i64 0)
  have hb3:=st3_below HB.out w.heap.size (Nat.le_refl _) (.int .i64 1) (.slice A n c) (.int .i64 0)
  exact bodyPost_ret (results_cell_row (P:=Tryz.prog) rfl _ _ w.heap.size 36 _ (0,0) _ rfl hblk Tryz.underlying36 rfl rfl) rfl ⟨1,A,n,c,0,rfl,.inr (.inl ⟨rfl,rfl,l,HR.out.below (hb3.mono hB),HF.out,HX0.out,rfl⟩),hb3⟩
 ·rw[if_neg hx0]
  have HX0:=Lib.hid hx0
  clear hx0
  go_enter Tryz.func27,Tryz.ntmps27
  go_wp2_with fail
  refine HC.out.mono ?_
  rintro e w1 ⟨x,rfl,hx,hb⟩
  have hne:((x:Int) !=0)=true:=by have:=La.checkN_of hx;have h2:=HX0.out;simp;omega
  have hnew1:=(hb.block w.heap.size hlt).trans hnew
  have HB:=Lib.hid (HAL.out.trans (hb.mono HAL.out.size))
  clear hx hb HC hnew hlt
  have hf0:w1.frozen? ⟨w.heap.size,0,none⟩=false:=frozen_blk hnew1
  have hf1:w1.frozen? ⟨w.heap.size,1,none⟩=false:=frozen_blk hnew1
  have hf2:w1.frozen? ⟨w.heap.size,2,none⟩=false:=frozen_blk hnew1
  have hc0:=(cell_blk (i:=0) hnew1).trans rfl
  have hc1:=(cell_blk (i:=1) hnew1).trans rfl
  have hc2:=(cell_blk (i:=2) hnew1).trans rfl
  have HN:=Lib.hid hnew1
  clear hnew1
  go_wp2
  have hblk:=st3 HN.out (.int .i64 0) (.slice none 0 0) (.int .i64 0)
  have hb3:=st3_below HB.out w.heap.size (Nat.le_refl _) (.int .i64 0) (.slice none 0 0) (.int .i64 0)
  exact bodyPost_ret (results_cell_row (P:=Tryz.prog) rfl _ _ w.heap.size 36 _ (0,0) _ rfl hblk Tryz.underlying36 rfl rfl) rfl ⟨0,none,0,0,0,rfl,.inl ⟨rfl,rfl,rfl,rfl,rfl,rfl⟩,hb3⟩
end Go.Proofs.YtphklakjadchmaaGreatDoor.Bo
namespace Go.Proofs.YtphklakjadchmaaGreatDoor
open Go.RowKit
theorem results_cc {P:Program}{fn:Func}{p p2:Tmp}{ty:TypeId}(h:fn.results= #[.cell p ty,.cell p2 ty])(tmps:Array Value)(w:World)(g g2:Nat)(t:TypeId)(cs cs2:Array Value)(fr fr2:Nat×Nat)(d:TypeDesc)
  (hp:tmps.getD p undef= .pointer (some ⟨g,0,none⟩)) (hg:w.heap[g]?=some (.cells cs t fr)) (hp2:tmps.getD p2 undef= .pointer (some ⟨g2,0,none⟩)) (hg2:w.heap[g2]?=some (.cells cs2 t fr2))
  (hu:P.underlying ty=some d) (hd:(match d with| .struct _| .array _ _=>true|_=>false)=true) (hi:(P.info? ty).map (·.size)=some cs.size) (hi2:(P.info? ty).map (·.size)=some cs2.size):
  (results fn tmps).run P w= .ok (.tuple #[.agg cs,.agg cs2]) w:=by
 have hp':tmps[p]?.getD undef= .pointer (some ⟨g,0,none⟩):=by simpa using hp
 have hp2':tmps[p2]?.getD undef= .pointer (some ⟨g2,0,none⟩):=by simpa using hp2
 simp[results,h,hp',hp2',asAddr,run_loadVar_row w g t ty cs fr d hg hu hd hi,run_loadVar_row w g2 t ty cs2 fr2 d hg2 hu hd hi2]
theorem z_blk {w:World}{g:Nat}{A:Option Addr}{n c:Nat}{k:Int}(h:w.heap[g]?=some (.cells #[.slice A n c,.int .i64 k] 24 (0,0))):w.cell? ⟨g,0,none⟩=some (.slice A n c)∧w.cell? ⟨g,1,none⟩=some (.int .i64 k):=⟨(cell_blk (i:=0) h).trans rfl,(cell_blk (i:=1) h).trans rfl⟩
theorem st3b {w:World}{g:Nat}{a b c:Value}(h:w.heap[g]?=some (.cells #[a,b,c] 36 (0,0)))(x y z:Value):
  (((w.setCell ⟨g,0,none⟩ x).setCell ⟨g,1,none⟩ y).setCell ⟨g,2,none⟩ z).heap[g]?=some (.cells #[x,y,z] 36 (0,0)):=by
 have h1:=set_blk (i:=0) h x
 have h2:=set_blk (i:=1) h1 y
 have h3:=set_blk (i:=2) h2 z
 simpa using h3
theorem st3_off {w:World}{g b:Nat}(h:b≠g)(x y z:Value):(((w.setCell ⟨g,0,none⟩ x).setCell ⟨g,1,none⟩ y).setCell ⟨g,2,none⟩ z).heap[b]?=w.heap[b]?:=
 (Below.heap_setCell _ _ _ _ h).trans ((Below.heap_setCell _ _ _ _ h).trans (Below.heap_setCell _ _ _ _ h))
def ZSo (w:World)(g:Nat):Prop:=w.heap[g]?=some (.cells #[.int .i64 0,.slice none 0 0,.int .i64 0] 36 (0,0))
theorem ZSo.keep {w W:World}{g:Nat}(h:ZSo w g)(hb:Below w.heap.size w W):ZSo W g:=(hb.block g (lt_blk h)).trans h
set_option maxRecDepth 100000 in
set_option maxHeartbeats 4000000 in
theorem doc_any (A:Option Addr)(n c:Nat)(k:Int)(rows:List Nat)(w:World)(h:Rd La.nm w w.heap.size A n c rows)(hf:La.Fit rows):
  Calls Tryz.prog 7 #[zV A n c k] w fun e w'=> ∃t1 B1 m1 d1 e1 t2 B2 m2 d2 e2,e= .returned (.tuple #[Bo.rsV t1 B1 m1 d1 e1,Bo.rsV t2 B2 m2 d2 e2])∧Bo.RSrt w.heap.size w' t1 B1 m1 d1 e1 (laOf rows)∧Bo.RSrt w.heap.size w' t2 B2 m2 d2 e2 (efOf k)∧Below w.heap.size w w':=by
 have HR:=Lib.hid h
 have HF:=Lib.hid hf
 have hzb:Below w.heap.size w (w.alloc (.cells #[.slice A n c,.int .i64 k] 24)):=(Below.refl _ _).alloc (Nat.le_refl _) _
 have hz:=z_blk (heap_alloc_new w (.cells #[.slice A n c,.int .i64 k] 24))
 obtain⟨wa,hwa⟩: ∃wa,w.alloc (.cells #[.slice A n c,.int .i64 k] 24)=wa:=⟨_,rfl⟩
 rw[hwa] at hz hzb
 have hsa:wa.heap.size=w.heap.size+1:=by rw[← hwa,World.size_alloc]
 have hy1:ZSo (wa.alloc (.cells #[.int .i64 0,.slice none 0 0,.int .i64 0] 36)) wa.heap.size:=heap_alloc_new wa _
 obtain⟨wb,hwb⟩: ∃wb,wa.alloc (.cells #[.int .i64 0,.slice none 0 0,.int .i64 0] 36)=wb:=⟨_,rfl⟩
 have hbb:Below wa.heap.size wa wb:=hwb▸(Below.refl _ _).alloc (Nat.le_refl _) _
 have hsb:wb.heap.size=w.heap.size+1+1:=by rw[← hwb,World.size_alloc,hsa]
 rw[hwb,hsa] at hy1
 have hy2:ZSo (wb.alloc (.cells #[.int .i64 0,.slice none 0 0,.int .i64 0] 36)) wb.heap.size:=heap_alloc_new wb _
 obtain⟨w1,hw1⟩: ∃w1,wb.alloc (.cells #[.int .i64 0,.slice none 0 0,.int .i64 0] 36)=w1:=⟨_,rfl⟩
 have hbc:Below wb.heap.size wb w1:=hw1▸(Below.refl _ _).alloc (Nat.le_refl _) _
 rw[hw1,hsb] at hy2
 replace hy1:=hy1.keep hbc
 have hac:=hbb.trans (hbc.mono hbb.size)
 have hz0:=cell_old hz.1 hac
 have hz1:=cell_old hz.2 hac
 have hb:=hzb.trans (hac.mono hzb.size)
 have HB:=Lib.hid hb
 have hS:Hid (∀W,Below w1.heap.size w1 W→W.cell? ⟨w.heap.size,0,none⟩=some (.slice A n c)∧W.cell? ⟨w.heap.size,1,none⟩=some (.int .i64 k)):=Lib.hid fun W hW=>⟨cell_old hz0 hW,cell_old hz1 hW⟩
 clear hzb hz hsa hbb hsb hbc hac hz0 hz1 hb h hf
 subst hwa hwb
 unfold zV
 go_enter Tryz.func7,Tryz.ntmps7
 go_wp2_with fail
 try rw[hw1]
 clear hw1
 refine wp_region_ord [0,1,3,4,2,5,6,7] [2,5,6,7] 8 (fun W=>W.cell? ⟨w.heap.size,0,none⟩=some (.slice A n c)∧W.cell? ⟨w.heap.size,1,none⟩=some (.int .i64 k)) (by kernel_rfl) (by kernel_rfl) (by kernel_rfl) (by kernel_rfl) (fun _ _ _ _ _ h=>h) (hS.out _ (Below.refl _ w1).drew) ?_
 simp only[steps,List.getElem?_cons_zero,List.getElem?_cons_succ]
 repeat(first
  |(refine ord_no rfl ?_;simp only[Act.put,List.setIfInBounds_toArray,List.set_cons_zero,List.set_cons_succ])
  |(refine ord_yes (v:= ?_) rfl rfl ?_ ?_;rotate_left;(focus(rintro w' ⟨x0,x1⟩;go_simp;try with_reducible rfl));simp only[Act.put,List.setIfInBounds_toArray,List.set_cons_zero,List.set_cons_succ]))
 have hv:Below w1.heap.size w1 w1.drew:=(Below.refl _ _).drew
 have HV:=Lib.hid hv
 replace hy1:=hy1.keep hv
 replace hy2:=hy2.keep hv
 clear hv
 generalize w1.drew=w2 at*
 refine ord_hard rfl rfl (fun K hK=> ?_)
 go_simp
 have HB2:=Lib.hid (HB.out.trans (HV.out.mono HB.out.size))
 refine(Bo.labels_any A n c rows w2 w.heap.size HB2.out.size (HR.out.below HB2.out) HF.out).mono ?_
 rintro e w3 ⟨t1,B1,m1,d1,e1,rfl,hr1,hv⟩
 have HR1:=Lib.hid hr1
 have HV3:=Lib.hid (HV.out.trans (hv.mono HV.out.size))
 replace hy1:=hy1.keep hv
 replace hy2:=hy2.keep hv
 clear hr1 hv
 refine hK.out _ _ (fun _=>hS.out _ HV3.out) ?_
 clear hK K
 try simp only[Act.put,List.setIfInBounds_toArray,List.set_cons_zero,List.set_cons_succ]
 refine ord_hard rfl rfl (fun K hK=> ?_)
 go_simp
 refine(Bo.effects_any k w3).mono ?_
 rintro e w4 ⟨t2,B2,m2,d2,e2,rfl,hr2,hv⟩
 have HR2:=Lib.hid (hr2 w.heap.size)
 have HR1':=Lib.hid (HR1.out.below (hv.mono (HB.out.trans (HV3.out.mono HB.out.size)).size))
 have HV4:=Lib.hid (HV3.out.trans (hv.mono HV3.out.size))
 replace hy1:=hy1.keep hv
 replace hy2:=hy2.keep hv
 clear hr2 hv HR1
 refine hK.out _ _ (fun _=>hS.out _ HV4.out) ?_
 clear hK K
 try simp only[Act.put,List.setIfInBounds_toArray,List.set_cons_zero,List.set_cons_succ]
 unfold Bo.rsV
 have HB4:=Lib.hid (HB.out.trans (HV4.out.mono HB.out.size))
 have o0:w4.cell? ⟨w.heap.size+1,0,none⟩=some (.int .i64 0):=by rw[cell_blk hy1];rfl
 have o1:w4.cell? ⟨w.heap.size+1,1,none⟩=some (.slice none 0 0):=by rw[cell_blk hy1];rfl
 have o2:w4.cell? ⟨w.heap.size+1,2,none⟩=some (.int .i64 0):=by rw[cell_blk hy1];rfl
 have f0:w4.frozen? ⟨w.heap.size+1,0,none⟩=false:=frozen_blk hy1
 have f1:w4.frozen? ⟨w.heap.size+1,1,none⟩=false:=frozen_blk hy1
 have f2:w4.frozen? ⟨w.heap.size+1,2,none⟩=false:=frozen_blk hy1
 have hz4:=hS.out _ HV4.out
 refine ord_hard rfl rfl (fun K hK=> ?_)
 go_simp
 obtain⟨w5,hw5⟩: ∃w5,w5=((w4.setCell ⟨w.heap.size+1,0,none⟩ (.int .i64 (t1:Int))).setCell ⟨w.heap.size+1,1,none⟩ (.slice B1 m1 d1)).setCell ⟨w.heap.size+1,2,none⟩ (.int .i64 (e1:Int)):=⟨_,rfl⟩
 have hk1:w5.heap[w.heap.size+1]?=some (.cells #[.int .i64 (t1:Int),.slice B1 m1 d1,.int .i64 (e1:Int)] 36 (0,0)):=hw5▸st3b hy1 _ _ _
 have hk2:ZSo w5 (w.heap.size+1+1):=(hw5▸st3_off (by omega) _ _ _:w5.heap[w.heap.size+1+1]?=w4.heap[w.heap.size+1+1]?).trans hy2
 have hb5:Below (w.heap.size+1) w4 w5:=hw5▸(((Below.refl _ w4).setCell (p:=⟨w.heap.size+1,0,none⟩) (Nat.le_refl _) _).setCell (p:=⟨w.heap.size+1,1,none⟩) (Nat.le_refl _) _).setCell (p:=⟨w.heap.size+1,2,none⟩) (Nat.le_refl _) _
 have hz5:w5.cell? ⟨w.heap.size,0,none⟩=some (.slice A n c)∧w5.cell? ⟨w.heap.size,1,none⟩=some (.int .i64 k):=⟨(hb5.cell (p:=⟨w.heap.size,0,none⟩) (Nat.lt_succ_self _)).trans hz4.1,(hb5.cell (p:=⟨w.heap.size,1,none⟩) (Nat.lt_succ_self _)).trans hz4.2⟩
 have hb50:Below w.heap.size w4 w5:=⟨hb5.os,hb5.tape,hb5.output,hb5.size,fun b hb=>hb5.block b (by omega)⟩
 have HR15:=Lib.hid (HR1'.out.below hb50)
 have HR25:=Lib.hid (HR2.out.below hb50)
 have HB5:=Lib.hid (HB4.out.trans hb50)
 rw[← hw5]
 clear hw5 o0 o1 o2 f0 f1 f2 hy1 hy2 hb5 hb50 hz4 HR1' HR2 HV3 HV4 HV HB4
 refine hK.out _ _ (fun _=>hz5) ?_
 clear hK K
 try simp only[Act.put,List.setIfInBounds_toArray,List.set_cons_zero,List.set_cons_succ]
 have o0:w5.cell? ⟨w.heap.size+1+1,0,none⟩=some (.int .i64 0):=by rw[cell_blk hk2];rfl
 have o1:w5.cell? ⟨w.heap.size+1+1,1,none⟩=some (.slice none 0 0):=by rw[cell_blk hk2];rfl
 have o2:w5.cell? ⟨w.heap.size+1+1,2,none⟩=some (.int .i64 0):=by rw[cell_blk hk2];rfl
 have f0:w5.frozen? ⟨w.heap.size+1+1,0,none⟩=false:=frozen_blk hk2
 have f1:w5.frozen? ⟨w.heap.size+1+1,1,none⟩=false:=frozen_blk hk2
 have f2:w5.frozen? ⟨w.heap.size+1+1,2,none⟩=false:=frozen_blk hk2
 refine ord_hard rfl rfl (fun K hK=> ?_)
 go_simp
 obtain⟨w6,hw6⟩: ∃w6,w6=((w5.setCell ⟨w.heap.size+1+1,0,none⟩ (.int .i64 (t2:Int))).setCell ⟨w.heap.size+1+1,1,none⟩ (.slice B2 m2 d2)).setCell ⟨w.heap.size+1+1,2,none⟩ (.int .i64 (e2:Int)):=⟨_,rfl⟩
 have hk62:w6.heap[w.heap.size+1+1]?=some (.cells #[.int .i64 (t2:Int),.slice B2 m2 d2,.int .i64 (e2:Int)] 36 (0,0)):=hw6▸st3b hk2 _ _ _
 have hk61:w6.heap[w.heap.size+1]?=some (.cells #[.int .i64 (t1:Int),.slice B1 m1 d1,.int .i64 (e1:Int)] 36 (0,0)):=(hw6▸st3_off (by omega) _ _ _:w6.heap[w.heap.size+1]?=w5.heap[w.heap.size+1]?).trans hk1
 have hb6:Below (w.heap.size+1+1) w5 w6:=hw6▸(((Below.refl _ w5).setCell (p:=⟨w.heap.size+1+1,0,none⟩) (Nat.le_refl _) _).setCell (p:=⟨w.heap.size+1+1,1,none⟩) (Nat.le_refl _) _).setCell (p:=⟨w.heap.size+1+1,2,none⟩) (Nat.le_refl _) _
 have hz6:w6.cell? ⟨w.heap.size,0,none⟩=some (.slice A n c)∧w6.cell? ⟨w.heap.size,1,none⟩=some (.int .i64 k):=⟨(hb6.cell (p:=⟨w.heap.size,0,none⟩) (by show w.heap.size < w.heap.size+1+1;omega)).trans hz5.1,(hb6.cell (p:=⟨w.heap.size,1,none⟩) (by show w.heap.size < w.heap.size+1+1;omega)).trans hz5.2⟩
 have hb60:Below w.heap.size w5 w6:=⟨hb6.os,hb6.tape,hb6.output,hb6.size,fun b hb=>hb6.block b (by omega)⟩
 have HR16:=Lib.hid (HR15.out.below hb60)
 have HR26:=Lib.hid (HR25.out.below hb60)
 have HB6:=Lib.hid (HB5.out.trans hb60)
 rw[← hw6]
 clear hw6 o0 o1 o2 f0 f1 f2 hk1 hk2 hb6 hb60 hz5 HR15 HR25 HB5
 refine hK.out _ _ (fun _=>hz6) ?_
 clear hK K hz6
 try simp only[Act.put,List.setIfInBounds_toArray,List.set_cons_zero,List.set_cons_succ]
 refine ord_end ?_
 go_wp2_with fail
 exact bodyPost_ret (results_cc (P:=Tryz.prog) rfl _ _ (w.heap.size+1) (w.heap.size+1+1) 36 _ _ (0,0) (0,0) _ rfl hk61 rfl hk62 Tryz.underlying36 rfl rfl rfl) rfl ⟨t1,B1,m1,d1,e1,t2,B2,m2,d2,e2,rfl,HR16.out,HR26.out,HB6.out⟩
end Go.Proofs.YtphklakjadchmaaGreatDoor
