import Derived.Test.YtmejhedegmjboaaGreatBoRefT
import Derived.Test.YtmejhedegmjboaaGreatEfRef
import Derived.Test.YtmejhedegmjboaaGreatLaRefCheck
import Derived.Test.YtmejhedegmjboaaGreatLaRefLat
set_option maxRecDepth 100000
set_option maxHeartbeats 2000000
namespace Go.Proofs.YtmejhedegmjboaaGreat.Bo
open Go.RowKit
def RSrt (B:Nat)(w:World)(t:Nat)(A:Option Addr)(n c m:Nat)(S:Sr):Prop:=
 (t=0∧A=none∧n=0∧c=0∧m=0∧S=dead)∨(t=1∧m=0∧ ∃l,Rd La.nm w B A n c l∧La.Fit l∧La.checkN l=0∧S=laS l)∨(t=2∧A=none∧n=0∧c=0∧m≤64∧S=efS true (Ef.topN m))
theorem RSrt.below {B:Nat}{w W:World}{t:Nat}{A:Option Addr}{n c m:Nat}{S:Sr}(h:RSrt B w t A n c m S)(hb:Below B w W):RSrt B W t A n c m S:=by
 rcases h with h|⟨h1,h2,l,h3,h4⟩|h
 ·exact .inl h
 ·exact .inr (.inl ⟨h1,h2,l,h3.below hb,h4⟩)
 ·exact .inr (.inr h)
theorem RSrt.mono {B B':Nat}{w:World}{t:Nat}{A:Option Addr}{n c m:Nat}{S:Sr}(h:RSrt B w t A n c m S)(hb:B≤B'):RSrt B' w t A n c m S:=by
 rcases h with h|⟨h1,h2,l,h3,h4⟩|h
 ·exact .inl h
 ·exact .inr (.inl ⟨h1,h2,l,h3.mono hb,h4⟩)
 ·exact .inr (.inr h)
theorem RSrt.keep {w W:World}{t:Nat}{A:Option Addr}{n c m:Nat}{S:Sr}(h:RSrt w.heap.size w t A n c m S)(hb:Below w.heap.size w W):RSrt W.heap.size W t A n c m S:=(h.below hb).mono hb.size
theorem st3 {w:World}{g:Nat}{a b c:Value}(h:w.heap[g]?=some (.cells #[a,b,c] 37 (0,0)))(x y z:Value):
  (((w.setCell ⟨g,0,none⟩ x).setCell ⟨g,1,none⟩ y).setCell ⟨g,2,none⟩ z).heap[g]?=some (.cells #[x,y,z] 37 (0,0)):=by
 have h1:=Zm (i:=0) h x
 have h2:=Zm (i:=1) h1 y
 have h3:=Zm (i:=2) h2 z
 simpa using h3
theorem Zbe {B:Nat}{w w1:World}(h:Below B w w1)(g:Nat)(hg:B≤g)(x y z:Value):Below B w (((w1.setCell ⟨g,0,none⟩ x).setCell ⟨g,1,none⟩ y).setCell ⟨g,2,none⟩ z):=
 ((h.setCell (p:=⟨g,0,none⟩) hg x).setCell (p:=⟨g,1,none⟩) hg y).setCell (p:=⟨g,2,none⟩) hg z
theorem VY (t:Nat)(A:Option Addr)(n c m:Nat)(S:Sr)(x y:Nat)(w:World)(h:RSrt w.heap.size w t A n c m S)(hx:x < 18446744073709551616)(hy:y < 18446744073709551616):
  Calls Tryz.prog 69 #[rsV t A n c m,.int .u64 (x:Int),.int .u64 (y:Int)] w fun e w'=>e= .returned (.bool (S.below x y))∧Below w.heap.size w w':=by
 have hal:Below w.heap.size w (w.alloc (.cells #[.int .i64 (t:Int),.slice A n c,.int .i64 (m:Int)] 37)):=bA
 unfold rsV
 rcases h with⟨rfl,rfl,rfl,rfl,rfl,rfl⟩|⟨rfl,rfl,l,h1,h2,h3,rfl⟩|⟨rfl,rfl,rfl,rfl,h1,rfl⟩
 ·go_enter Tryz.func69,Tryz.ntmps69
  go_wp2
  go_ret
  exact⟨rfl,hal⟩
 ·(
 have hr:=h1.at_size lR hal
 have hlen:=h1.len
 have hok:=La.Yq h3
 have h64:=hok.known.1.2
 have HC:=Hd (show Calls Tryz.prog 100 #[.slice A n c,.int .u64 (x:Int),.int .u64 (y:Int)] (w.alloc (.cells #[.int .i64 ((1:Nat):Int),.slice A n c,.int .i64 ((0:Nat):Int)] 37)) fun e w'=>e= .returned (.bool ((laS l).below x y))∧Below (w.alloc (.cells #[.int .i64 ((1:Nat):Int),.slice A n c,.int .i64 ((0:Nat):Int)] 37)).heap.size (w.alloc (.cells #[.int .i64 ((1:Nat):Int),.slice A n c,.int .i64 ((0:Nat):Int)] 37)) w' from
  (La.ZN A n c _ l x y _ hr h2 hx hy).mono fun _ _ k=>⟨k.1,ZH k.2⟩)
 generalize (laS l).below x y=r at HC ⊢
 have HAL:=Hd hal
 have hbx:=heap_alloc_new w (.cells #[.int .i64 ((1:Nat):Int),.slice A n c,.int .i64 ((0:Nat):Int)] 37)
 have hz0:=(Zb (i:=0) hbx).trans rfl
 clear hr hlen hok h64 h1 h2 h3 hal hbx
 go_enter Tryz.func69,Tryz.ntmps69
 go_wp2_with fail
 refine HC.out.mono ?_
 rintro e w1 ⟨rfl,hb⟩
 replace hz0:=Za hz0 hb
 cases r with
 |false=>(
 go_wp2_with fail
 go_ret
 exact⟨rfl,HAL.out.trans (hb.mono HAL.out.size)⟩)
 |true=>(
 go_wp2_with fail
 go_ret
 exact⟨rfl,HAL.out.trans (hb.mono HAL.out.size)⟩))
 ·(
 have HC:=Hd fun W=>(Ef.ZN m h1 W x y hx hy)
 have HE:Hid (∀v,v=(efS true (Ef.topN m)).below x y→v=(efS true (Ef.topN m)).below x y):=Hd fun _ h=>h
 have HAL:=Hd hal
 clear hal
 go_enter Tryz.func69,Tryz.ntmps69
 go_wp2_with fail
 refine(HC.out _).mono ?_
 rintro e w1 ⟨rfl,rfl⟩
 go_wp2_with fail
 go_ret
 exact⟨rfl,HAL.out⟩)
theorem ZhE (t:Nat)(A:Option Addr)(n c m:Nat)(S:Sr)(w:World)(h:RSrt w.heap.size w t A n c m S):
  Calls Tryz.prog 38 #[rsV t A n c m] w fun e w'=>e= .returned (.int .u64 (S.bot:Int))∧Below w.heap.size w w':=by
 have hal:Below w.heap.size w (w.alloc (.cells #[.int .i64 (t:Int),.slice A n c,.int .i64 (m:Int)] 37)):=bA
 unfold rsV
 rcases h with⟨rfl,rfl,rfl,rfl,rfl,rfl⟩|⟨rfl,rfl,l,h1,h2,h3,rfl⟩|⟨rfl,rfl,rfl,rfl,h1,rfl⟩
 ·go_enter Tryz.func38,Tryz.ntmps38
  go_wp2
  go_ret
  exact⟨rfl,hal⟩
 ·(
 have hr:=h1.at_size lR hal
 have hlen:=h1.len
 have hok:=La.Yq h3
 have h64:=hok.known.1.2
 have HC:=Hd (show Calls Tryz.prog 66 #[.slice A n c] (w.alloc (.cells #[.int .i64 ((1:Nat):Int),.slice A n c,.int .i64 ((0:Nat):Int)] 37)) fun e w'=>e= .returned (.int .u64 ((laS l).bot:Int))∧Below (w.alloc (.cells #[.int .i64 ((1:Nat):Int),.slice A n c,.int .i64 ((0:Nat):Int)] 37)).heap.size (w.alloc (.cells #[.int .i64 ((1:Nat):Int),.slice A n c,.int .i64 ((0:Nat):Int)] 37)) w' from
  (La.Zar A n c l _ hr h2 hok).mono fun _ _ k=>⟨by rw[k.1, ← hlen];rfl,k.2⟩)
 generalize (laS l).bot=r at HC ⊢
 have HAL:=Hd hal
 have hbx:=heap_alloc_new w (.cells #[.int .i64 ((1:Nat):Int),.slice A n c,.int .i64 ((0:Nat):Int)] 37)
 have hz0:=(Zb (i:=0) hbx).trans rfl
 clear hr hlen hok h64 h1 h2 h3 hal hbx
 go_enter Tryz.func38,Tryz.ntmps38
 go_wp2_with fail
 refine HC.out.mono ?_
 rintro e w1 ⟨rfl,hb⟩
 replace hz0:=Za hz0 hb
 go_wp2_with fail
 go_ret
 exact⟨rfl,HAL.out.trans (hb.mono HAL.out.size)⟩)
 ·go_enter Tryz.func38,Tryz.ntmps38
  go_wp2
  go_ret
  exact⟨rfl,hal⟩
theorem ZhF (t:Nat)(A:Option Addr)(n c m:Nat)(S:Sr)(w:World)(h:RSrt w.heap.size w t A n c m S):
  Calls Tryz.prog 40 #[rsV t A n c m] w fun e w'=>e= .returned (.int .u64 (S.top:Int))∧Below w.heap.size w w':=by
 have hal:Below w.heap.size w (w.alloc (.cells #[.int .i64 (t:Int),.slice A n c,.int .i64 (m:Int)] 37)):=bA
 unfold rsV
 rcases h with⟨rfl,rfl,rfl,rfl,rfl,rfl⟩|⟨rfl,rfl,l,h1,h2,h3,rfl⟩|⟨rfl,rfl,rfl,rfl,h1,rfl⟩
 ·go_enter Tryz.func40,Tryz.ntmps40
  go_wp2
  go_ret
  exact⟨rfl,hal⟩
 ·(
 have hr:=h1.at_size lR hal
 have hlen:=h1.len
 have hok:=La.Yq h3
 have h64:=hok.known.1.2
 have HC:=Hd (show Calls Tryz.prog 67 #[.slice A n c] (w.alloc (.cells #[.int .i64 ((1:Nat):Int),.slice A n c,.int .i64 ((0:Nat):Int)] 37)) fun e w'=>e= .returned (.int .u64 ((laS l).top:Int))∧Below (w.alloc (.cells #[.int .i64 ((1:Nat):Int),.slice A n c,.int .i64 ((0:Nat):Int)] 37)).heap.size (w.alloc (.cells #[.int .i64 ((1:Nat):Int),.slice A n c,.int .i64 ((0:Nat):Int)] 37)) w' from
  (La.UT A n c l _ hr h2 hok).mono fun _ _ k=>⟨by rw[k.1, ← hlen];rfl,k.2⟩)
 generalize (laS l).top=r at HC ⊢
 have HAL:=Hd hal
 have hbx:=heap_alloc_new w (.cells #[.int .i64 ((1:Nat):Int),.slice A n c,.int .i64 ((0:Nat):Int)] 37)
 have hz0:=(Zb (i:=0) hbx).trans rfl
 clear hr hlen hok h64 h1 h2 h3 hal hbx
 go_enter Tryz.func40,Tryz.ntmps40
 go_wp2_with fail
 refine HC.out.mono ?_
 rintro e w1 ⟨rfl,hb⟩
 replace hz0:=Za hz0 hb
 go_wp2_with fail
 go_ret
 exact⟨rfl,HAL.out.trans (hb.mono HAL.out.size)⟩)
 ·(
 have HC:=Hd fun W=>(Ef.UT m h1 W)
 have HE:Hid (∀v,v=(efS true (Ef.topN m)).top→v=(efS true (Ef.topN m)).top):=Hd fun _ h=>h
 have HAL:=Hd hal
 clear hal
 go_enter Tryz.func40,Tryz.ntmps40
 go_wp2_with fail
 refine(HC.out _).mono ?_
 rintro e w1 ⟨rfl,rfl⟩
 go_wp2_with fail
 go_ret
 exact⟨rfl,HAL.out⟩)
theorem ZbZ (k:Int)(w:World):
  Calls Tryz.prog 29 #[.int .i64 k] w fun e w'=> ∃t A n c m,e= .returned (rsV t A n c m)∧(∀B,RSrt B w' t A n c m (if 0≤k∧k≤64 then efS true (Ef.topN k.toNat) else dead))∧Below w.heap.size w w':=by
 by_cases hk:0≤k∧k≤64
 ·(
 rw[if_pos hk]
 obtain⟨q,rfl⟩: ∃q:Nat,k=(q:Int):=⟨k.toNat,by omega⟩
 have h0: ¬(q:Int) < 0:=by omega
 have h1: ¬64 < (q:Int):=by omega
 have HQ:Hid (q≤64):=Hd (by omega)
 clear hk
 go_enter Tryz.func29,Tryz.ntmps29
 go_wp2
 exact bodyPost_ret (results_cell_row (P:=Tryz.prog) rfl _ _ w.heap.size 37 _ (0,0) _ rfl (heap_alloc_new w _) Tryz.underlying37 rfl rfl) rfl ⟨2,none,0,0,q,rfl,fun _=> .inr (.inr ⟨rfl,rfl,rfl,rfl,HQ.out,rfl⟩),bA⟩)
 ·(
 rw[if_neg hk]
 by_cases h0:k < 0
 ·clear hk
  go_enter Tryz.func29,Tryz.ntmps29
  go_wp2
  exact bodyPost_ret (results_cell_row (P:=Tryz.prog) rfl _ _ w.heap.size 37 _ (0,0) _ rfl (heap_alloc_new w _) Tryz.underlying37 rfl rfl) rfl ⟨0,none,0,0,0,rfl,fun _=> .inl ⟨rfl,rfl,rfl,rfl,rfl,rfl⟩,bA⟩
 ·(
 have h1:64 < k:=by omega
 clear hk
 go_enter Tryz.func29,Tryz.ntmps29
 go_wp2
 exact bodyPost_ret (results_cell_row (P:=Tryz.prog) rfl _ _ w.heap.size 37 _ (0,0) _ rfl (heap_alloc_new w _) Tryz.underlying37 rfl rfl) rfl ⟨0,none,0,0,0,rfl,fun _=> .inl ⟨rfl,rfl,rfl,rfl,rfl,rfl⟩,bA⟩))
theorem YG (A:Option Addr)(n c:Nat)(l:List Nat)(w:World)(B:Nat)(hB:B≤w.heap.size)(h:Rd La.nm w B A n c l)(hf:La.Fit l):
  Calls Tryz.prog 28 #[.slice A n c] w fun e w'=> ∃t A n c m,e= .returned (rsV t A n c m)∧RSrt B w' t A n c m (if La.checkN l=0 then laS l else dead)∧Below w.heap.size w w':=by
 have hal:Below w.heap.size w (w.alloc (.cells #[.int .i64 0,.slice none 0 0,.int .i64 0] 37)):=bA
 have hnew:=heap_alloc_new w (.cells #[.int .i64 0,.slice none 0 0,.int .i64 0] 37)
 have HC:=Hd (La.Za9 A n c l _ (h.at_size hB hal) hf)
 have HR:=Hd h
 have HF:=Hd hf
 have HAL:=Hd hal
 have hlt:w.heap.size < (w.alloc (.cells #[.int .i64 0,.slice none 0 0,.int .i64 0] 37)).heap.size:=by simp
 clear h hf hal
 by_cases hx0:La.checkN l=0
 ·(
 rw[if_pos hx0]
 have HX0:=Hd hx0
 clear hx0
 go_enter Tryz.func28,Tryz.ntmps28
 go_wp2_with fail
 refine HC.out.mono ?_
 rintro e w1 ⟨x,rfl,hx,hb⟩
 obtain rfl:x=0:=(La.ZaU hx).trans HX0.out
 have hnew1:=(hb.block w.heap.size hlt).trans hnew
 have HB:=Hd (HAL.out.trans (hb.mono HAL.out.size))
 clear hx hb HC hnew hlt
 have hf0:w1.frozen? ⟨w.heap.size,0,none⟩=false:=Zc hnew1
 have hf1:w1.frozen? ⟨w.heap.size,1,none⟩=false:=Zc hnew1
 have hf2:w1.frozen? ⟨w.heap.size,2,none⟩=false:=Zc hnew1
 have hc0:=(Zb (i:=0) hnew1).trans rfl
 have hc1:=(Zb (i:=1) hnew1).trans rfl
 have hc2:=(Zb (i:=2) hnew1).trans rfl
 have HN:=Hd hnew1
 clear hnew1
 go_wp2
 have hblk:=st3 HN.out (.int .i64 1) (.slice A n c) (.int .i64 0)
 have hb3:=Zbe HB.out w.heap.size lR (.int .i64 1) (.slice A n c) (.int .i64 0)
 exact bodyPost_ret (results_cell_row (P:=Tryz.prog) rfl _ _ w.heap.size 37 _ (0,0) _ rfl hblk Tryz.underlying37 rfl rfl) rfl ⟨1,A,n,c,0,rfl,.inr (.inl ⟨rfl,rfl,l,HR.out.below (hb3.mono hB),HF.out,HX0.out,rfl⟩),hb3⟩)
 ·(
 rw[if_neg hx0]
 have HX0:=Hd hx0
 clear hx0
 go_enter Tryz.func28,Tryz.ntmps28
 go_wp2_with fail
 refine HC.out.mono ?_
 rintro e w1 ⟨x,rfl,hx,hb⟩
 have hne:((x:Int) !=0)=true:=by have:=La.ZaU hx;have h2:=HX0.out;simp;omega
 have hnew1:=(hb.block w.heap.size hlt).trans hnew
 have HB:=Hd (HAL.out.trans (hb.mono HAL.out.size))
 clear hx hb HC hnew hlt
 have hf0:w1.frozen? ⟨w.heap.size,0,none⟩=false:=Zc hnew1
 have hf1:w1.frozen? ⟨w.heap.size,1,none⟩=false:=Zc hnew1
 have hf2:w1.frozen? ⟨w.heap.size,2,none⟩=false:=Zc hnew1
 have hc0:=(Zb (i:=0) hnew1).trans rfl
 have hc1:=(Zb (i:=1) hnew1).trans rfl
 have hc2:=(Zb (i:=2) hnew1).trans rfl
 have HN:=Hd hnew1
 clear hnew1
 go_wp2
 have hblk:=st3 HN.out (.int .i64 0) (.slice none 0 0) (.int .i64 0)
 have hb3:=Zbe HB.out w.heap.size lR (.int .i64 0) (.slice none 0 0) (.int .i64 0)
 exact bodyPost_ret (results_cell_row (P:=Tryz.prog) rfl _ _ w.heap.size 37 _ (0,0) _ rfl hblk Tryz.underlying37 rfl rfl) rfl ⟨0,none,0,0,0,rfl,.inl ⟨rfl,rfl,rfl,rfl,rfl,rfl⟩,hb3⟩)
end Go.Proofs.YtmejhedegmjboaaGreat.Bo
