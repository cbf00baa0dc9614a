/- The document's sorts: what asked makes, and what their methods tell. No condition but sizes. -/
import Derived.Test.YtnlgfiffhahpfaaGreatDoorRefT
import Derived.Test.YtnlgfiffhahpfaaGreatDoorLaRefLat
import Derived.Test.YtnlgfiffhahpfaaGreatDoorLaRefCheck
import Derived.Test.YtnlgfiffhahpfaaGreatDoorEfRef
namespace Go.Proofs.YtnlgfiffhahpfaaGreatDoor
open Go.RowKit

/-- A sort of the document's: nothing, labels, or sets of effects. -/
def RSrt (B : Nat) (w : World) (t : Nat) (A : Option Addr) (n c m : Nat) (S : Sr) : Prop :=
  (t = 0 ∧ A = none ∧ n = 0 ∧ c = 0 ∧ m = 0 ∧ S = dead) ∨ (t = 1 ∧ m = 0 ∧ ∃ l, Rd La.nm w B A n c l ∧ La.Fit l ∧ La.checkN l = 0 ∧ S = laS l) ∨ (t = 2 ∧ A = none ∧ n = 0 ∧ c = 0 ∧ m ≤ 64 ∧ S = efS true (Ef.topN m))
theorem RSrt.below {B : Nat} {w W : World} {t : Nat} {A : Option Addr} {n c m : Nat} {S : Sr} (h : RSrt B w t A n c m S) (hb : Below B w W) : RSrt B W t A n c m S := by
  rcases h with h | ⟨h1, h2, l, h3, h4⟩ | h
  · exact .inl h
  · exact .inr (.inl ⟨h1, h2, l, h3.below hb, h4⟩)
  · exact .inr (.inr h)
theorem RSrt.mono {B B' : Nat} {w : World} {t : Nat} {A : Option Addr} {n c m : Nat} {S : Sr} (h : RSrt B w t A n c m S) (hb : B ≤ B') : RSrt B' w t A n c m S := by
  rcases h with h | ⟨h1, h2, l, h3, h4⟩ | h
  · exact .inl h
  · exact .inr (.inl ⟨h1, h2, l, h3.mono hb, h4⟩)
  · exact .inr (.inr h)
theorem RSrt.keep {w W : World} {t : Nat} {A : Option Addr} {n c m : Nat} {S : Sr} (h : RSrt w.heap.size w t A n c m S) (hb : Below w.heap.size w W) : RSrt W.heap.size W t A n c m S := (h.below hb).mono hb.size

theorem st3 {w : World} {g : Nat} {a b c : Value} (h : w.heap[g]? = some (.cells #[a, b, c] 31 (0, 0))) (x y z : Value) :
    (((w.setCell ⟨g, 0, none⟩ x).setCell ⟨g, 1, none⟩ y).setCell ⟨g, 2, none⟩ z).heap[g]? = some (.cells #[x, y, z] 31 (0, 0)) := by
  have h1 := set_blk (i := 0) h x
  have h2 := set_blk (i := 1) h1 y
  have h3 := set_blk (i := 2) h2 z
  simpa using h3
theorem st3_below {B : Nat} {w w1 : World} (h : Below B w w1) (g : Nat) (hg : B ≤ g) (x y z : Value) : Below B w (((w1.setCell ⟨g, 0, none⟩ x).setCell ⟨g, 1, none⟩ y).setCell ⟨g, 2, none⟩ z) :=
  ((h.setCell (p := ⟨g, 0, none⟩) hg x).setCell (p := ⟨g, 1, none⟩) hg y).setCell (p := ⟨g, 2, none⟩) hg z
theorem la_below_eq (l : List Nat) (x y : Nat) : (laS l).below x y = La.belowB l x y := rfl

set_option maxRecDepth 100000 in
set_option maxHeartbeats 2000000 in
theorem rhas_any (t : Nat) (A : Option Addr) (n c m : Nat) (S : Sr) (x : Nat) (w : World) (h : RSrt w.heap.size w t A n c m S) (hx : x < 18446744073709551616) :
    Calls Tryz.prog 28 #[rsV t A n c m, .int .u64 (x : Int)] w fun e w' => e = .returned (.bool (S.has x)) ∧ Below w.heap.size w w' := by
  have hal : Below w.heap.size w (w.alloc (.cells #[.int .i64 (t : Int), .slice A n c, .int .i64 (m : Int)] 31)) := (Below.refl _ _).alloc (Nat.le_refl _) _
  unfold rsV
  rcases h with ⟨rfl, rfl, rfl, rfl, rfl, rfl⟩ | ⟨rfl, rfl, l, h1, h2, h3, rfl⟩ | ⟨rfl, rfl, rfl, rfl, h1, rfl⟩
  · go_enter Tryz.func28, Tryz.ntmps28
    go_wp2
    go_ret
    exact ⟨rfl, hal⟩
  · have hr := h1.at_size (Nat.le_refl _) hal
    have hlen := h1.len
    have hok := La.latOK_of h3
    have h64 := hok.known.1.2
    have HC := Lib.hid (show Calls Tryz.prog 91 #[.slice A n c, .int .u64 (x : Int)] (w.alloc (.cells #[.int .i64 ((1 : Nat) : Int), .slice A n c, .int .i64 ((0 : Nat) : Int)] 31)) fun e w' => e = .returned (.bool ((laS l).has x)) ∧ Below (w.alloc (.cells #[.int .i64 ((1 : Nat) : Int), .slice A n c, .int .i64 ((0 : Nat) : Int)] 31)).heap.size (w.alloc (.cells #[.int .i64 ((1 : Nat) : Int), .slice A n c, .int .i64 ((0 : Nat) : Int)] 31)) w' from
      (La.refHas_any A n c x _ (by omega)).mono fun _ _ k => ⟨by rw [k.1, ← hlen]; rfl, same_below k.2⟩)
    generalize (laS l).has x = r at HC ⊢
    have HAL := Lib.hid hal
    have hbx := heap_alloc_new w (.cells #[.int .i64 ((1 : Nat) : Int), .slice A n c, .int .i64 ((0 : Nat) : Int)] 31)
    have hz0 := (cell_blk (i := 0) hbx).trans rfl
    clear hr hlen hok h64 h1 h2 h3 hal hbx
    go_enter Tryz.func28, Tryz.ntmps28
    go_wp2_with fail
    refine HC.out.mono ?_
    rintro e w1 ⟨rfl, hb⟩
    replace hz0 := cell_old hz0 hb
    cases r with
    | false =>
      go_wp2_with fail
      go_ret
      exact ⟨rfl, HAL.out.trans (hb.mono HAL.out.size)⟩
    | true =>
      go_wp2_with fail
      go_ret
      exact ⟨rfl, HAL.out.trans (hb.mono HAL.out.size)⟩
  · have HC := Lib.hid fun W => (Ef.refHas_any m h1 W x hx)
    have HE : Hid (∀ v, v = (efS true (Ef.topN m)).has x → v = (efS true (Ef.topN m)).has x) := Lib.hid fun _ h => h
    have HAL := Lib.hid hal
    clear hal
    go_enter Tryz.func28, Tryz.ntmps28
    go_wp2_with fail
    refine (HC.out _).mono ?_
    rintro e w1 ⟨rfl, rfl⟩
    go_wp2_with fail
    go_ret
    exact ⟨rfl, HAL.out⟩

set_option maxRecDepth 100000 in
set_option maxHeartbeats 2000000 in
theorem rbelow_any (t : Nat) (A : Option Addr) (n c m : Nat) (S : Sr) (x y : Nat) (w : World) (h : RSrt w.heap.size w t A n c m S) (hx : x < 18446744073709551616) (hy : y < 18446744073709551616) :
    Calls Tryz.prog 34 #[rsV t A n c m, .int .u64 (x : Int), .int .u64 (y : Int)] w fun e w' => e = .returned (.bool (S.below x y)) ∧ Below w.heap.size w w' := by
  have hal : Below w.heap.size w (w.alloc (.cells #[.int .i64 (t : Int), .slice A n c, .int .i64 (m : Int)] 31)) := (Below.refl _ _).alloc (Nat.le_refl _) _
  unfold rsV
  rcases h with ⟨rfl, rfl, rfl, rfl, rfl, rfl⟩ | ⟨rfl, rfl, l, h1, h2, h3, rfl⟩ | ⟨rfl, rfl, rfl, rfl, h1, rfl⟩
  · go_enter Tryz.func34, Tryz.ntmps34
    go_wp2
    go_ret
    exact ⟨rfl, hal⟩
  · have hr := h1.at_size (Nat.le_refl _) hal
    have hlen := h1.len
    have hok := La.latOK_of h3
    have h64 := hok.known.1.2
    have HC := Lib.hid (show Calls Tryz.prog 99 #[.slice A n c, .int .u64 (x : Int), .int .u64 (y : Int)] (w.alloc (.cells #[.int .i64 ((1 : Nat) : Int), .slice A n c, .int .i64 ((0 : Nat) : Int)] 31)) fun e w' => e = .returned (.bool ((laS l).below x y)) ∧ Below (w.alloc (.cells #[.int .i64 ((1 : Nat) : Int), .slice A n c, .int .i64 ((0 : Nat) : Int)] 31)).heap.size (w.alloc (.cells #[.int .i64 ((1 : Nat) : Int), .slice A n c, .int .i64 ((0 : Nat) : Int)] 31)) w' from
      (La.refBelow_any A n c _ l x y _ hr h2 hx hy).mono fun _ _ k => ⟨k.1, same_below k.2⟩)
    generalize (laS l).below x y = r at HC ⊢
    have HAL := Lib.hid hal
    have hbx := heap_alloc_new w (.cells #[.int .i64 ((1 : Nat) : Int), .slice A n c, .int .i64 ((0 : Nat) : Int)] 31)
    have hz0 := (cell_blk (i := 0) hbx).trans rfl
    clear hr hlen hok h64 h1 h2 h3 hal hbx
    go_enter Tryz.func34, Tryz.ntmps34
    go_wp2_with fail
    refine HC.out.mono ?_
    rintro e w1 ⟨rfl, hb⟩
    replace hz0 := cell_old hz0 hb
    cases r with
    | false =>
      go_wp2_with fail
      go_ret
      exact ⟨rfl, HAL.out.trans (hb.mono HAL.out.size)⟩
    | true =>
      go_wp2_with fail
      go_ret
      exact ⟨rfl, HAL.out.trans (hb.mono HAL.out.size)⟩
  · have HC := Lib.hid fun W => (Ef.refBelow_any m h1 W x y hx hy)
    have HE : Hid (∀ v, v = (efS true (Ef.topN m)).below x y → v = (efS true (Ef.topN m)).below x y) := Lib.hid fun _ h => h
    have HAL := Lib.hid hal
    clear hal
    go_enter Tryz.func34, Tryz.ntmps34
    go_wp2_with fail
    refine (HC.out _).mono ?_
    rintro e w1 ⟨rfl, rfl⟩
    go_wp2_with fail
    go_ret
    exact ⟨rfl, HAL.out⟩

set_option maxRecDepth 100000 in
set_option maxHeartbeats 2000000 in
theorem rbot_any (t : Nat) (A : Option Addr) (n c m : Nat) (S : Sr) (w : World) (h : RSrt w.heap.size w t A n c m S) :
    Calls Tryz.prog 29 #[rsV t A n c m] w fun e w' => e = .returned (.int .u64 (S.bot : Int)) ∧ Below w.heap.size w w' := by
  have hal : Below w.heap.size w (w.alloc (.cells #[.int .i64 (t : Int), .slice A n c, .int .i64 (m : Int)] 31)) := (Below.refl _ _).alloc (Nat.le_refl _) _
  unfold rsV
  rcases h with ⟨rfl, rfl, rfl, rfl, rfl, rfl⟩ | ⟨rfl, rfl, l, h1, h2, h3, rfl⟩ | ⟨rfl, rfl, rfl, rfl, h1, rfl⟩
  · go_enter Tryz.func29, Tryz.ntmps29
    go_wp2
    go_ret
    exact ⟨rfl, hal⟩
  · have hr := h1.at_size (Nat.le_refl _) hal
    have hlen := h1.len
    have hok := La.latOK_of h3
    have h64 := hok.known.1.2
    have HC := Lib.hid (show Calls Tryz.prog 93 #[.slice A n c] (w.alloc (.cells #[.int .i64 ((1 : Nat) : Int), .slice A n c, .int .i64 ((0 : Nat) : Int)] 31)) fun e w' => e = .returned (.int .u64 ((laS l).bot : Int)) ∧ Below (w.alloc (.cells #[.int .i64 ((1 : Nat) : Int), .slice A n c, .int .i64 ((0 : Nat) : Int)] 31)).heap.size (w.alloc (.cells #[.int .i64 ((1 : Nat) : Int), .slice A n c, .int .i64 ((0 : Nat) : Int)] 31)) w' from
      (La.refBottom_any A n c l _ hr h2 hok).mono fun _ _ k => ⟨by rw [k.1, ← hlen]; rfl, k.2⟩)
    generalize (laS l).bot = r at HC ⊢
    have HAL := Lib.hid hal
    have hbx := heap_alloc_new w (.cells #[.int .i64 ((1 : Nat) : Int), .slice A n c, .int .i64 ((0 : Nat) : Int)] 31)
    have hz0 := (cell_blk (i := 0) hbx).trans rfl
    clear hr hlen hok h64 h1 h2 h3 hal hbx
    go_enter Tryz.func29, Tryz.ntmps29
    go_wp2_with fail
    refine HC.out.mono ?_
    rintro e w1 ⟨rfl, hb⟩
    replace hz0 := cell_old hz0 hb
    go_wp2_with fail
    go_ret
    exact ⟨rfl, HAL.out.trans (hb.mono HAL.out.size)⟩
  · go_enter Tryz.func29, Tryz.ntmps29
    go_wp2
    go_ret
    exact ⟨rfl, hal⟩

set_option maxRecDepth 100000 in
set_option maxHeartbeats 2000000 in
theorem rtop_any (t : Nat) (A : Option Addr) (n c m : Nat) (S : Sr) (w : World) (h : RSrt w.heap.size w t A n c m S) :
    Calls Tryz.prog 30 #[rsV t A n c m] w fun e w' => e = .returned (.int .u64 (S.top : Int)) ∧ Below w.heap.size w w' := by
  have hal : Below w.heap.size w (w.alloc (.cells #[.int .i64 (t : Int), .slice A n c, .int .i64 (m : Int)] 31)) := (Below.refl _ _).alloc (Nat.le_refl _) _
  unfold rsV
  rcases h with ⟨rfl, rfl, rfl, rfl, rfl, rfl⟩ | ⟨rfl, rfl, l, h1, h2, h3, rfl⟩ | ⟨rfl, rfl, rfl, rfl, h1, rfl⟩
  · go_enter Tryz.func30, Tryz.ntmps30
    go_wp2
    go_ret
    exact ⟨rfl, hal⟩
  · have hr := h1.at_size (Nat.le_refl _) hal
    have hlen := h1.len
    have hok := La.latOK_of h3
    have h64 := hok.known.1.2
    have HC := Lib.hid (show Calls Tryz.prog 94 #[.slice A n c] (w.alloc (.cells #[.int .i64 ((1 : Nat) : Int), .slice A n c, .int .i64 ((0 : Nat) : Int)] 31)) fun e w' => e = .returned (.int .u64 ((laS l).top : Int)) ∧ Below (w.alloc (.cells #[.int .i64 ((1 : Nat) : Int), .slice A n c, .int .i64 ((0 : Nat) : Int)] 31)).heap.size (w.alloc (.cells #[.int .i64 ((1 : Nat) : Int), .slice A n c, .int .i64 ((0 : Nat) : Int)] 31)) w' from
      (La.refTop_any A n c l _ hr h2 hok).mono fun _ _ k => ⟨by rw [k.1, ← hlen]; rfl, k.2⟩)
    generalize (laS l).top = r at HC ⊢
    have HAL := Lib.hid hal
    have hbx := heap_alloc_new w (.cells #[.int .i64 ((1 : Nat) : Int), .slice A n c, .int .i64 ((0 : Nat) : Int)] 31)
    have hz0 := (cell_blk (i := 0) hbx).trans rfl
    clear hr hlen hok h64 h1 h2 h3 hal hbx
    go_enter Tryz.func30, Tryz.ntmps30
    go_wp2_with fail
    refine HC.out.mono ?_
    rintro e w1 ⟨rfl, hb⟩
    replace hz0 := cell_old hz0 hb
    go_wp2_with fail
    go_ret
    exact ⟨rfl, HAL.out.trans (hb.mono HAL.out.size)⟩
  · have HC := Lib.hid fun W => (Ef.refTop_any m h1 W)
    have HE : Hid (∀ v, v = (efS true (Ef.topN m)).top → v = (efS true (Ef.topN m)).top) := Lib.hid fun _ h => h
    have HAL := Lib.hid hal
    clear hal
    go_enter Tryz.func30, Tryz.ntmps30
    go_wp2_with fail
    refine (HC.out _).mono ?_
    rintro e w1 ⟨rfl, rfl⟩
    go_wp2_with fail
    go_ret
    exact ⟨rfl, HAL.out⟩

set_option maxRecDepth 100000 in
set_option maxHeartbeats 2000000 in
theorem rjoin_any (t : Nat) (A : Option Addr) (n c m : Nat) (S : Sr) (x y : Nat) (w : World) (h : RSrt w.heap.size w t A n c m S) (hS : S.Ok) (hx : S.has x = true) (hy : S.has y = true) :
    Calls Tryz.prog 33 #[rsV t A n c m, .int .u64 (x : Int), .int .u64 (y : Int)] w fun e w' => e = .returned (.int .u64 (S.join x y : Int)) ∧ Below w.heap.size w w' := by
  have hal : Below w.heap.size w (w.alloc (.cells #[.int .i64 (t : Int), .slice A n c, .int .i64 (m : Int)] 31)) := (Below.refl _ _).alloc (Nat.le_refl _) _
  have HA := Lib.hid fun W (hW : Below w.heap.size w W) => hx ▸ rhas_any t A n c m S x W (h.keep hW) (hS.fit _ hx)
  have HB := Lib.hid fun W (hW : Below w.heap.size w W) => hy ▸ rhas_any t A n c m S y W (h.keep hW) (hS.fit _ hy)
  have hxf := hS.fit _ hx
  have hyf := hS.fit _ hy
  clear hS
  unfold rsV at HA HB ⊢
  have HAL := Lib.hid hal
  clear hal
  rcases h with ⟨rfl, rfl, rfl, rfl, rfl, rfl⟩ | ⟨rfl, rfl, l, h1, h2, h3, rfl⟩ | ⟨rfl, rfl, rfl, rfl, h1, rfl⟩
  · cases hx
  · have hlen := h1.len
    have hok := La.latOK_of h3
    have h64 := hok.known.1.2
    have hbx := heap_alloc_new w (.cells #[.int .i64 ((1 : Nat) : Int), .slice A n c, .int .i64 ((0 : Nat) : Int)] 31)
    have hz0 := (cell_blk (i := 0) hbx).trans rfl
    have hz1 := (cell_blk (i := 1) hbx).trans rfl
    have hz2 := (cell_blk (i := 2) hbx).trans rfl
    have HC := Lib.hid fun W (hW : Below w.heap.size w W) => (show Calls Tryz.prog 97 #[.slice A n c, .int .u64 (x : Int), .int .u64 (y : Int)] W fun e w' => e = .returned (.int .u64 ((laS l).join x y : Int)) ∧ Below W.heap.size W w' from
      (La.refJoin_any A n c l x y W (h1.at_size (Nat.le_refl _) hW) h2 hok hxf hyf).mono fun _ _ k => ⟨by rw [k.1, ← hlen]; rfl, k.2⟩)
    generalize (laS l).join x y = r at HC ⊢
    clear hlen hok h64 h1 h2 h3 hbx hx hy hxf hyf
    go_enter Tryz.func33, Tryz.ntmps33
    go_wp2_with fail
    refine (HA.out _ HAL.out).mono ?_
    rintro e w1 ⟨rfl, hb1⟩
    replace hz0 := cell_old hz0 hb1
    replace hz1 := cell_old hz1 hb1
    replace hz2 := cell_old hz2 hb1
    have HB1 := Lib.hid (HAL.out.trans (hb1.mono HAL.out.size))
    clear hb1
    go_wp2_with fail
    refine (HB.out _ HB1.out).mono ?_
    rintro e w2 ⟨rfl, hb2⟩
    replace hz0 := cell_old hz0 hb2
    replace hz1 := cell_old hz1 hb2
    replace hz2 := cell_old hz2 hb2
    have HB2 := Lib.hid (HB1.out.trans (hb2.mono HB1.out.size))
    clear hb2
    go_wp2_with fail
    refine (HC.out _ HB2.out).mono ?_
    rintro e w3 ⟨rfl, hb3⟩
    go_wp2_with fail
    go_ret
    exact ⟨rfl, HB2.out.trans (hb3.mono HB2.out.size)⟩
  · have HC := Lib.hid fun W => Ef.refJoin_any m h1 W x y hxf hyf
    have hbx := heap_alloc_new w (.cells #[.int .i64 ((2 : Nat) : Int), .slice none 0 0, .int .i64 (m : Int)] 31)
    have hz0 := (cell_blk (i := 0) hbx).trans rfl
    have hz1 := (cell_blk (i := 1) hbx).trans rfl
    have hz2 := (cell_blk (i := 2) hbx).trans rfl
    clear hbx hx hy hxf hyf
    go_enter Tryz.func33, Tryz.ntmps33
    go_wp2_with fail
    refine (HA.out _ HAL.out).mono ?_
    rintro e w1 ⟨rfl, hb1⟩
    replace hz0 := cell_old hz0 hb1
    replace hz1 := cell_old hz1 hb1
    replace hz2 := cell_old hz2 hb1
    have HB1 := Lib.hid (HAL.out.trans (hb1.mono HAL.out.size))
    clear hb1
    go_wp2_with fail
    refine (HB.out _ HB1.out).mono ?_
    rintro e w2 ⟨rfl, hb2⟩
    replace hz0 := cell_old hz0 hb2
    replace hz1 := cell_old hz1 hb2
    replace hz2 := cell_old hz2 hb2
    have HB2 := Lib.hid (HB1.out.trans (hb2.mono HB1.out.size))
    clear hb2
    go_wp2_with fail
    refine (HC.out _).mono ?_
    rintro e w3 ⟨rfl, rfl⟩
    go_wp2_with fail
    go_ret
    exact ⟨rfl, HB2.out⟩

set_option maxRecDepth 100000 in
set_option maxHeartbeats 2000000 in
theorem rmeet_any (t : Nat) (A : Option Addr) (n c m : Nat) (S : Sr) (x y : Nat) (w : World) (h : RSrt w.heap.size w t A n c m S) (hS : S.Ok) (hx : S.has x = true) (hy : S.has y = true) :
    Calls Tryz.prog 35 #[rsV t A n c m, .int .u64 (x : Int), .int .u64 (y : Int)] w fun e w' => e = .returned (.int .u64 (S.meet x y : Int)) ∧ Below w.heap.size w w' := by
  have hal : Below w.heap.size w (w.alloc (.cells #[.int .i64 (t : Int), .slice A n c, .int .i64 (m : Int)] 31)) := (Below.refl _ _).alloc (Nat.le_refl _) _
  have HA := Lib.hid fun W (hW : Below w.heap.size w W) => hx ▸ rhas_any t A n c m S x W (h.keep hW) (hS.fit _ hx)
  have HB := Lib.hid fun W (hW : Below w.heap.size w W) => hy ▸ rhas_any t A n c m S y W (h.keep hW) (hS.fit _ hy)
  have hxf := hS.fit _ hx
  have hyf := hS.fit _ hy
  clear hS
  unfold rsV at HA HB ⊢
  have HAL := Lib.hid hal
  clear hal
  rcases h with ⟨rfl, rfl, rfl, rfl, rfl, rfl⟩ | ⟨rfl, rfl, l, h1, h2, h3, rfl⟩ | ⟨rfl, rfl, rfl, rfl, h1, rfl⟩
  · cases hx
  · have hlen := h1.len
    have hok := La.latOK_of h3
    have h64 := hok.known.1.2
    have hbx := heap_alloc_new w (.cells #[.int .i64 ((1 : Nat) : Int), .slice A n c, .int .i64 ((0 : Nat) : Int)] 31)
    have hz0 := (cell_blk (i := 0) hbx).trans rfl
    have hz1 := (cell_blk (i := 1) hbx).trans rfl
    have hz2 := (cell_blk (i := 2) hbx).trans rfl
    have HC := Lib.hid fun W (hW : Below w.heap.size w W) => (show Calls Tryz.prog 101 #[.slice A n c, .int .u64 (x : Int), .int .u64 (y : Int)] W fun e w' => e = .returned (.int .u64 ((laS l).meet x y : Int)) ∧ Below W.heap.size W w' from
      (La.refMeet_any A n c l x y W (h1.at_size (Nat.le_refl _) hW) h2 hok hxf hyf).mono fun _ _ k => ⟨by rw [k.1, ← hlen]; rfl, k.2⟩)
    generalize (laS l).meet x y = r at HC ⊢
    clear hlen hok h64 h1 h2 h3 hbx hx hy hxf hyf
    go_enter Tryz.func35, Tryz.ntmps35
    go_wp2_with fail
    refine (HA.out _ HAL.out).mono ?_
    rintro e w1 ⟨rfl, hb1⟩
    replace hz0 := cell_old hz0 hb1
    replace hz1 := cell_old hz1 hb1
    replace hz2 := cell_old hz2 hb1
    have HB1 := Lib.hid (HAL.out.trans (hb1.mono HAL.out.size))
    clear hb1
    go_wp2_with fail
    refine (HB.out _ HB1.out).mono ?_
    rintro e w2 ⟨rfl, hb2⟩
    replace hz0 := cell_old hz0 hb2
    replace hz1 := cell_old hz1 hb2
    replace hz2 := cell_old hz2 hb2
    have HB2 := Lib.hid (HB1.out.trans (hb2.mono HB1.out.size))
    clear hb2
    go_wp2_with fail
    refine (HC.out _ HB2.out).mono ?_
    rintro e w3 ⟨rfl, hb3⟩
    go_wp2_with fail
    go_ret
    exact ⟨rfl, HB2.out.trans (hb3.mono HB2.out.size)⟩
  · have HC := Lib.hid fun W => Ef.refMeet_any m h1 W x y hxf hyf
    have hbx := heap_alloc_new w (.cells #[.int .i64 ((2 : Nat) : Int), .slice none 0 0, .int .i64 (m : Int)] 31)
    have hz0 := (cell_blk (i := 0) hbx).trans rfl
    have hz1 := (cell_blk (i := 1) hbx).trans rfl
    have hz2 := (cell_blk (i := 2) hbx).trans rfl
    clear hbx hx hy hxf hyf
    go_enter Tryz.func35, Tryz.ntmps35
    go_wp2_with fail
    refine (HA.out _ HAL.out).mono ?_
    rintro e w1 ⟨rfl, hb1⟩
    replace hz0 := cell_old hz0 hb1
    replace hz1 := cell_old hz1 hb1
    replace hz2 := cell_old hz2 hb1
    have HB1 := Lib.hid (HAL.out.trans (hb1.mono HAL.out.size))
    clear hb1
    go_wp2_with fail
    refine (HB.out _ HB1.out).mono ?_
    rintro e w2 ⟨rfl, hb2⟩
    replace hz0 := cell_old hz0 hb2
    replace hz1 := cell_old hz1 hb2
    replace hz2 := cell_old hz2 hb2
    have HB2 := Lib.hid (HB1.out.trans (hb2.mono HB1.out.size))
    clear hb2
    go_wp2_with fail
    refine (HC.out _).mono ?_
    rintro e w3 ⟨rfl, rfl⟩
    go_wp2_with fail
    go_ret
    exact ⟨rfl, HB2.out⟩

theorem zero31 (W : World) : (zeroValue 31).run Tryz.prog W = .ok (rsV 0 none 0 0 0) W := by kernel_rfl

set_option maxRecDepth 100000 in
set_option maxHeartbeats 2000000 in
theorem effects_any (k : Int) (w : World) :
    Calls Tryz.prog 23 #[.int .i64 k] w fun e w' => ∃ t A n c m, e = .returned (rsV t A n c m) ∧ (∀ B, RSrt B w' t A n c m (if 0 ≤ k ∧ k ≤ 64 then efS true (Ef.topN k.toNat) else dead)) ∧ Below w.heap.size w w' := by
  by_cases hk : 0 ≤ k ∧ k ≤ 64
  · rw [if_pos hk]
    obtain ⟨q, rfl⟩ : ∃ q : Nat, k = (q : Int) := ⟨k.toNat, by omega⟩
    have h0 : ¬ (q : Int) < 0 := by omega
    have h1 : ¬ 64 < (q : Int) := by omega
    have HQ : Hid (q ≤ 64) := Lib.hid (by omega)
    clear hk
    go_enter Tryz.func23, Tryz.ntmps23
    go_wp2
    exact bodyPost_ret (results_cell_row (P := Tryz.prog) rfl _ _ w.heap.size 31 _ (0, 0) _ rfl (heap_alloc_new w _) Tryz.underlying31 rfl rfl) rfl ⟨2, none, 0, 0, q, rfl, fun _ => .inr (.inr ⟨rfl, rfl, rfl, rfl, HQ.out, rfl⟩), (Below.refl _ _).alloc (Nat.le_refl _) _⟩
  · rw [if_neg hk]
    by_cases h0 : k < 0
    · clear hk
      go_enter Tryz.func23, Tryz.ntmps23
      go_wp2
      exact bodyPost_ret (results_cell_row (P := Tryz.prog) rfl _ _ w.heap.size 31 _ (0, 0) _ rfl (heap_alloc_new w _) Tryz.underlying31 rfl rfl) rfl ⟨0, none, 0, 0, 0, rfl, fun _ => .inl ⟨rfl, rfl, rfl, rfl, rfl, rfl⟩, (Below.refl _ _).alloc (Nat.le_refl _) _⟩
    · have h1 : 64 < k := by omega
      clear hk
      go_enter Tryz.func23, Tryz.ntmps23
      go_wp2
      exact bodyPost_ret (results_cell_row (P := Tryz.prog) rfl _ _ w.heap.size 31 _ (0, 0) _ rfl (heap_alloc_new w _) Tryz.underlying31 rfl rfl) rfl ⟨0, none, 0, 0, 0, rfl, fun _ => .inl ⟨rfl, rfl, rfl, rfl, rfl, rfl⟩, (Below.refl _ _).alloc (Nat.le_refl _) _⟩

set_option maxRecDepth 100000 in
set_option maxHeartbeats 2000000 in
theorem labels_any (A : Option Addr) (n c : Nat) (l : List Nat) (w : World) (B : Nat) (hB : B ≤ w.heap.size) (h : Rd La.nm w B A n c l) (hf : La.Fit l) :
    Calls Tryz.prog 24 #[.slice A n c] w fun e w' => ∃ t A n c m, e = .returned (rsV t A n c m) ∧ RSrt B w' t A n c m (if La.checkN l = 0 then laS l else dead) ∧ Below w.heap.size w w' := by
  have hal : Below w.heap.size w (w.alloc (.cells #[.int .i64 0, .slice none 0 0, .int .i64 0] 31)) := (Below.refl _ _).alloc (Nat.le_refl _) _
  have hnew := heap_alloc_new w (.cells #[.int .i64 0, .slice none 0 0, .int .i64 0] 31)
  have HC := Lib.hid (La.refCheck_any A n c l _ (h.at_size hB hal) hf)
  have HR := Lib.hid h
  have HF := Lib.hid hf
  have HAL := Lib.hid hal
  have hlt : w.heap.size < (w.alloc (.cells #[.int .i64 0, .slice none 0 0, .int .i64 0] 31)).heap.size := by simp
  clear h hf hal
  by_cases hx0 : La.checkN l = 0
  · rw [if_pos hx0]
    have HX0 := Lib.hid hx0
    clear hx0
    go_enter Tryz.func24, Tryz.ntmps24
    go_wp2_with fail
    refine HC.out.mono ?_
    rintro e w1 ⟨x, rfl, hx, hb⟩
    obtain rfl : x = 0 := (La.checkN_of hx).trans HX0.out
    have hnew1 := (hb.block w.heap.size hlt).trans hnew
    have HB := Lib.hid (HAL.out.trans (hb.mono HAL.out.size))
    clear hx hb HC hnew hlt
    have hf0 : w1.frozen? ⟨w.heap.size, 0, none⟩ = false := frozen_blk hnew1
    have hf1 : w1.frozen? ⟨w.heap.size, 1, none⟩ = false := frozen_blk hnew1
    have hf2 : w1.frozen? ⟨w.heap.size, 2, none⟩ = false := frozen_blk hnew1
    have hc0 := (cell_blk (i := 0) hnew1).trans rfl
    have hc1 := (cell_blk (i := 1) hnew1).trans rfl
    have hc2 := (cell_blk (i := 2) hnew1).trans rfl
    have HN := Lib.hid hnew1
    clear hnew1
    go_wp2
    have hblk := st3 HN.out (.int .i64 1) (.slice A n c) (.int .i64 0)
    have hb3 := st3_below HB.out w.heap.size (Nat.le_refl _) (.int .i64 1) (.slice A n c) (.int .i64 0)
    exact bodyPost_ret (results_cell_row (P := Tryz.prog) rfl _ _ w.heap.size 31 _ (0, 0) _ rfl hblk Tryz.underlying31 rfl rfl) rfl ⟨1, A, n, c, 0, rfl, .inr (.inl ⟨rfl, rfl, l, HR.out.below (hb3.mono hB), HF.out, HX0.out, rfl⟩), hb3⟩
  · rw [if_neg hx0]
    have HX0 := Lib.hid hx0
    clear hx0
    go_enter Tryz.func24, Tryz.ntmps24
    go_wp2_with fail
    refine HC.out.mono ?_
    rintro e w1 ⟨x, rfl, hx, hb⟩
    have hne : ((x : Int) != 0) = true := by have := La.checkN_of hx; have h2 := HX0.out; simp; omega
    have hnew1 := (hb.block w.heap.size hlt).trans hnew
    have HB := Lib.hid (HAL.out.trans (hb.mono HAL.out.size))
    clear hx hb HC hnew hlt
    have hf0 : w1.frozen? ⟨w.heap.size, 0, none⟩ = false := frozen_blk hnew1
    have hf1 : w1.frozen? ⟨w.heap.size, 1, none⟩ = false := frozen_blk hnew1
    have hf2 : w1.frozen? ⟨w.heap.size, 2, none⟩ = false := frozen_blk hnew1
    have hc0 := (cell_blk (i := 0) hnew1).trans rfl
    have hc1 := (cell_blk (i := 1) hnew1).trans rfl
    have hc2 := (cell_blk (i := 2) hnew1).trans rfl
    have HN := Lib.hid hnew1
    clear hnew1
    go_wp2
    have hblk := st3 HN.out (.int .i64 0) (.slice none 0 0) (.int .i64 0)
    have hb3 := st3_below HB.out w.heap.size (Nat.le_refl _) (.int .i64 0) (.slice none 0 0) (.int .i64 0)
    exact bodyPost_ret (results_cell_row (P := Tryz.prog) rfl _ _ w.heap.size 31 _ (0, 0) _ rfl hblk Tryz.underlying31 rfl rfl) rfl ⟨0, none, 0, 0, 0, rfl, .inl ⟨rfl, rfl, rfl, rfl, rfl, rfl⟩, hb3⟩

set_option maxRecDepth 100000 in
set_option maxHeartbeats 2000000 in
theorem asked_any (A : Option Addr) (n c : Nat) (s : Bool) (k z : Int) (A1 : Option Addr) (n1 c1 : Nat) (A2 : Option Addr) (n2 c2 : Nat) (rows : List Nat) (w : World) (h : Rd La.nm w w.heap.size A n c rows) (hf : La.Fit rows) :
    Calls Tryz.prog 6 #[gV A n c s k z A1 n1 c1 A2 n2 c2] w fun e w' => ∃ t A n c m, e = .returned (rsV t A n c m) ∧ RSrt w.heap.size w' t A n c m (srOf rows s k) ∧ Below w.heap.size w w' := by
  have hal : Below w.heap.size w ((w.alloc (.cells #[.slice A n c, .bool s, .int .i64 k, .int .i64 z, .slice A1 n1 c1, .slice A2 n2 c2] 25)).alloc (.cells #[.int .i64 0, .slice none 0 0, .int .i64 0] 31)) := ((Below.refl _ _).alloc (Nat.le_refl _) _).alloc (by simp) _
  have h1 := h.at_size (Nat.le_refl _) hal
  have hnew := heap_alloc_new (w.alloc (.cells #[.slice A n c, .bool s, .int .i64 k, .int .i64 z, .slice A1 n1 c1, .slice A2 n2 c2] 25)) (.cells #[.int .i64 0, .slice none 0 0, .int .i64 0] 31)
  have hsz : (w.alloc (.cells #[.slice A n c, .bool s, .int .i64 k, .int .i64 z, .slice A1 n1 c1, .slice A2 n2 c2] 25)).heap.size = w.heap.size + 1 := by simp
  rw [hsz] at hnew
  have hlt : w.heap.size + 1 < ((w.alloc (.cells #[.slice A n c, .bool s, .int .i64 k, .int .i64 z, .slice A1 n1 c1, .slice A2 n2 c2] 25)).alloc (.cells #[.int .i64 0, .slice none 0 0, .int .i64 0] 31)).heap.size := by simp
  unfold gV srOf
  have HAL := Lib.hid hal
  cases s with
  | true =>
    have HC := Lib.hid (effects_any k ((w.alloc (.cells #[.slice A n c, .bool true, .int .i64 k, .int .i64 z, .slice A1 n1 c1, .slice A2 n2 c2] 25)).alloc (.cells #[.int .i64 0, .slice none 0 0, .int .i64 0] 31)))
    rw [if_pos rfl]
    generalize (if 0 ≤ k ∧ k ≤ 64 then efS true (Ef.topN k.toNat) else dead) = S0 at HC ⊢
    clear h h1 hal hsz
    go_enter Tryz.func6, Tryz.ntmps6
    go_wp2_with fail
    refine HC.out.mono ?_
    rintro e w1 ⟨t', A', n', c', m', rfl, hR, hb⟩
    have hnew1 := (hb.block (w.heap.size + 1) hlt).trans hnew
    have HB := Lib.hid (HAL.out.trans (hb.mono HAL.out.size))
    have HRS := Lib.hid (hR w.heap.size)
    clear hR hb HC hnew hlt
    have hf0 : w1.frozen? ⟨w.heap.size + 1, 0, none⟩ = false := frozen_blk hnew1
    have hf1 : w1.frozen? ⟨w.heap.size + 1, 1, none⟩ = false := frozen_blk hnew1
    have hf2 : w1.frozen? ⟨w.heap.size + 1, 2, none⟩ = false := frozen_blk hnew1
    have hc0 := (cell_blk (i := 0) hnew1).trans rfl
    have hc1 := (cell_blk (i := 1) hnew1).trans rfl
    have hc2 := (cell_blk (i := 2) hnew1).trans rfl
    have HN := Lib.hid hnew1
    clear hnew1
    unfold rsV
    go_wp2
    have hblk := st3 HN.out (.int .i64 (t' : Int)) (.slice A' n' c') (.int .i64 (m' : Int))
    have hb3 := st3_below HB.out (w.heap.size + 1) (by omega) (.int .i64 (t' : Int)) (.slice A' n' c') (.int .i64 (m' : Int))
    exact bodyPost_ret (results_cell_row (P := Tryz.prog) rfl _ _ (w.heap.size + 1) 31 _ (0, 0) _ rfl hblk Tryz.underlying31 rfl rfl) rfl ⟨t', A', n', c', m', rfl, HRS.out.below (st3_below (B := w.heap.size) (Below.refl _ _) (w.heap.size + 1) (by omega) (.int .i64 (t' : Int)) (.slice A' n' c') (.int .i64 (m' : Int))), hb3⟩
  | false =>
    have HC := Lib.hid (labels_any A n c rows ((w.alloc (.cells #[.slice A n c, .bool false, .int .i64 k, .int .i64 z, .slice A1 n1 c1, .slice A2 n2 c2] 25)).alloc (.cells #[.int .i64 0, .slice none 0 0, .int .i64 0] 31)) w.heap.size hal.size (h.below hal) hf)
    rw [if_neg (by decide)]
    generalize (if La.checkN rows = 0 then laS rows else dead) = S0 at HC ⊢
    clear h h1 hal hsz
    go_enter Tryz.func6, Tryz.ntmps6
    go_wp2_with fail
    refine HC.out.mono ?_
    rintro e w1 ⟨t', A', n', c', m', rfl, hR, hb⟩
    have hnew1 := (hb.block (w.heap.size + 1) hlt).trans hnew
    have HB := Lib.hid (HAL.out.trans (hb.mono HAL.out.size))
    have HRS := Lib.hid hR
    clear hR hb HC hnew hlt
    have hf0 : w1.frozen? ⟨w.heap.size + 1, 0, none⟩ = false := frozen_blk hnew1
    have hf1 : w1.frozen? ⟨w.heap.size + 1, 1, none⟩ = false := frozen_blk hnew1
    have hf2 : w1.frozen? ⟨w.heap.size + 1, 2, none⟩ = false := frozen_blk hnew1
    have hc0 := (cell_blk (i := 0) hnew1).trans rfl
    have hc1 := (cell_blk (i := 1) hnew1).trans rfl
    have hc2 := (cell_blk (i := 2) hnew1).trans rfl
    have HN := Lib.hid hnew1
    clear hnew1
    unfold rsV
    go_wp2
    have hblk := st3 HN.out (.int .i64 (t' : Int)) (.slice A' n' c') (.int .i64 (m' : Int))
    have hb3 := st3_below HB.out (w.heap.size + 1) (by omega) (.int .i64 (t' : Int)) (.slice A' n' c') (.int .i64 (m' : Int))
    exact bodyPost_ret (results_cell_row (P := Tryz.prog) rfl _ _ (w.heap.size + 1) 31 _ (0, 0) _ rfl hblk Tryz.underlying31 rfl rfl) rfl ⟨t', A', n', c', m', rfl, HRS.out.below (st3_below (B := w.heap.size) (Below.refl _ _) (w.heap.size + 1) (by omega) (.int .i64 (t' : Int)) (.slice A' n' c') (.int .i64 (m' : Int))), hb3⟩
end Go.Proofs.YtnlgfiffhahpfaaGreatDoor
