/- What turned and below tell of sides. No condition but sizes. -/
import Derived.Test.YtmiconjmeaammaaGreatDoorRepS
import Derived.Test.YtmiconjmeaammaaGreatDoorSpMath
namespace Go.Proofs.YtmiconjmeaammaaGreatDoor
open Go.RowKit

/-- A side in a cell. -/
def sc (s : Nat) : Value := .int .u8 (s : Int)
/-- A block that was just made. -/
theorem heap_at (w : World) (o : Obj) {g : Nat} (h : g = w.heap.size) : (w.alloc o).heap[g]? = some o := by subst h; exact heap_alloc_new w o
/-- A block that is known whole, as a slice. -/
theorem rd_lit {α : Type} {enc : α → Value} {W : World} {g n : Nat} {cs : Array Value} {E : TypeId} {l : List α} (hg : W.heap[g]? = some (.cells cs E (0, 0))) (hcs : cs.toList = l.map enc) (hn : l.length = n) (hm : n ≤ maxLen) : Rd enc W W.heap.size (some ⟨g, 0, none⟩) n n l := by
  refine ⟨hn, Nat.le_refl _, hm, (fun h => by cases h), fun _ => ⟨g, 0, rfl, lt_blk hg, fun j hj => ?_⟩⟩
  rw [cell_blk hg, ← Array.getElem?_toList, hcs]
  simp [hj]
theorem sc_one (s : Nat) : (sc s).oneCell' = true := rfl

set_option maxRecDepth 100000 in
theorem turned_any (s : Nat) (w : World) : Calls Tryz.prog 98 #[.int .u8 (s : Int)] w fun e w' => e = .returned (.int .u8 (turnS s : Int)) ∧ w = w' := by
  by_cases h0 : s = 0
  · subst h0
    go_enter Tryz.func98, Tryz.ntmps98
    go_wp2
    go_ret
    exact ⟨rfl, rfl⟩
  have h0' : ((s : Int) == 0) = false := by simp; omega
  by_cases h1 : s = 1
  · subst h1
    go_enter Tryz.func98, Tryz.ntmps98
    go_wp2
    go_ret
    exact ⟨rfl, rfl⟩
  have h1' : ((s : Int) == 1) = false := by simp; omega
  have HT : Hid (turnS s = 2) := Lib.hid (by unfold turnS; rw [if_neg h0, if_neg h1])
  go_enter Tryz.func98, Tryz.ntmps98
  go_wp2
  go_ret
  exact ⟨by rw [HT.out]; rfl, rfl⟩

set_option maxRecDepth 100000 in
set_option maxHeartbeats 1000000 in
theorem below_any (x : Nd) (s : Nat) (w : World) (h0 : 0 ≤ x.n) (h8 : x.n ≤ 8) :
    Calls Tryz.prog 155 #[ndv x, .int .u8 (s : Int)] w fun e w' => ∃ A n c, e = .returned (.slice A n c) ∧ Rd sc w' w'.heap.size A n c (belowS x s).reverse ∧ Below w.heap.size w w' := by
  have HB : Hid (belowS x s = if x.k = 4 then [2] else if x.k = 5 then [turnS s, s] else List.replicate x.n.toNat s) := Lib.hid rfl
  unfold ndv
  obtain ⟨xk, xm, xs, xn, xlv, xln, xpv, xpn, xev, xen⟩ := x
  simp only at h0 h8 HB ⊢
  obtain ⟨q, rfl⟩ := Int.eq_ofNat_of_zero_le h0
  have hal : Below w.heap.size w (w.alloc (.cells #[.int .u8 xk, .int .i64 xm, .string (str xs), .int .i64 (q : Int), .bool xlv, .int .u64 xln, .bool xpv, .int .u64 xpn, .bool xev, .int .u64 xen] 110)) := (Below.refl _ _).alloc (Nat.le_refl _) _
  by_cases h4 : xk = 4
  · subst h4
    rw [if_pos rfl] at HB
    go_enter Tryz.func155, Tryz.ntmps155
    go_wp2
    go_ret
    refine ⟨_, _, _, rfl, ?_, hal.alloc hal.size _⟩
    rw [HB.out]
    exact rd_lit (heap_at _ _ (by simp)) rfl rfl (by unfold maxLen; omega)
  have h4' : (xk == 4) = false := by simpa using h4
  rw [if_neg h4] at HB
  by_cases h5 : xk = 5
  · subst h5
    rw [if_pos rfl] at HB
    go_enter Tryz.func155, Tryz.ntmps155
    go_wp2_with fail
    refine (turned_any s _).mono ?_
    rintro e w1 ⟨rfl, rfl⟩
    go_wp2_with fail
    go_ret
    refine ⟨_, _, _, rfl, ?_, hal.alloc hal.size _⟩
    rw [HB.out]
    exact rd_lit (heap_at _ _ (by simp)) rfl rfl (by unfold maxLen; omega)
  have h5' : (xk == 5) = false := by simpa using h5
  rw [if_neg h5, Int.toNat_natCast] at HB
  have HAL := Lib.hid hal
  clear hal
  go_enter Tryz.func155, Tryz.ntmps155
  go_wp2_with fail
  refine (repeat_anyS (w.heap.size + 1) 0 1 (s : Int) q _ (by omega) ?_ ?_).mono ?_
  · simp
  · rw [World.cell?_alloc_at _ _ _ _ (by simp)]
    rfl
  rintro e w6 ⟨g, rfl, hg, hb⟩
  go_wp2_with fail
  go_ret
  refine ⟨_, _, _, rfl, ?_, ?_⟩
  · rw [HB.out, List.reverse_replicate]
    refine ⟨List.length_replicate, Nat.le_refl _, by unfold maxLen; omega, (fun h => by cases h), fun h => ⟨g, 0, rfl, lt_blk hg, fun j hj => ?_⟩⟩
    rw [cell_blk hg]
    simp only [List.length_replicate] at hj
    simp [sc, hj]
  · have h1 := HAL.out.alloc HAL.out.size (.cells #[.int .u8 (s : Int)] 104)
    exact h1.trans (hb.mono h1.size)
end Go.Proofs.YtmiconjmeaammaaGreatDoor
