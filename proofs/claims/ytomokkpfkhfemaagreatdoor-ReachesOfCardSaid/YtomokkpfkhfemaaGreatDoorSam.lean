/- What SameBools, SameBoolLists and square tell of such lists. No condition but sizes. -/
import Derived.Test.YtomokkpfkhfemaaGreatDoorOf
import Derived.Deep.QuietTactic
import Derived.BigQuiet
namespace Go.Proofs.YtomokkpfkhfemaaGreatDoor
open Go.RowKit

/-- The first k are told alike. -/
def sameK (n : Nat) (f f' : Nat → Bool) : Bool := (List.range n).all fun j => f j == f' j
theorem sameK_iff {n : Nat} {f f' : Nat → Bool} : sameK n f f' = true ↔ ∀ j, j < n → f j = f' j := by simp [sameK]
theorem sameK_no {n j : Nat} {f f' : Nat → Bool} (hj : j < n) (h : f j ≠ f' j) : sameK n f f' = false := Bool.eq_false_iff.2 fun e => h (sameK_iff.1 e j hj)
theorem sameSq_no {n i : Nat} {P Q : Nat → Nat → Bool} (hi : i < n) (h : sameK n (P i) (Q i) = false) : sameSq n P Q = false := Bool.eq_false_iff.2 fun e => by
  rw [sameK_iff.2 (sameSq_iff.1 e i hi)] at h
  cases h

def BkRel (n : Nat) (f f' : Nat → Bool) (w : World) (v5 : Value) (wr : World) : Prop := ∃ k : Nat, v5 = .int .i64 (k : Int) ∧ k ≤ n ∧ (∀ j, j < k → f j = f' j) ∧ La.Drawn w wr

set_option maxRecDepth 100000 in
set_option maxHeartbeats 1000000 in
theorem bools_any (g g' n : Nat) (f f' : Nat → Bool) (w : World) (h : w.heap[g]? = some (.cells (bls f n n) 4 (0, 0))) (h' : w.heap[g']? = some (.cells (bls f' n n) 4 (0, 0))) (hn : n ≤ 64) (x : Bool) (hx : sameK n f f' = x) :
    Calls Tryz.prog 16 #[.slice (some ⟨g, 0, none⟩) n n, .slice (some ⟨g', 0, none⟩) n n] w fun e w' => e = .returned (.bool x) ∧ Below w.heap.size w w' := by
  have H := Lib.hid h
  have H' := Lib.hid h'
  have HX := Lib.hid hx
  have hne0 : ((n : Int) != (n : Int)) = false := by simp
  clear h h' hx
  go_enter Tryz.func16, Tryz.ntmps16
  go_wp2
  go_loopw [5] (fun v5 wr => BkRel n f f' w v5 wr) (fun v5 _ => n - (intOf v5).toNat)
  case atStart => exact ⟨0, rfl, by omega, fun j hj => absurd hj (Nat.not_lt_zero j), La.Drawn.refl _⟩
  case round =>
    obtain ⟨k, rfl, hk, hd0, hd⟩ := hrel
    have HD := Lib.hid hd0
    clear hd0
    by_cases hlt : k < n
    · have e1 := (hd.cell ⟨g, k, none⟩).trans ((cell_blk (i := k) H.out).trans (bls_at hlt))
      have e2 := (hd.cell ⟨g', k, none⟩).trans ((cell_blk (i := k) H'.out).trans (bls_at hlt))
      rw [decide_eq_true hlt, Bool.true_and] at e1 e2
      obtain ⟨u, hu⟩ : ∃ u, u = f k := ⟨_, rfl⟩
      obtain ⟨v, hv⟩ : ∃ v, v = f' k := ⟨_, rfl⟩
      rw [← hu] at e1
      rw [← hv] at e2
      by_cases huv : u = v
      · have HD2 : Hid (∀ j, j < k + 1 → f j = f' j) := Lib.hid fun j hj => by
          by_cases e : j = k
          · subst e; rw [← hu, ← hv, huv]
          · exact HD.out j (by omega)
        clear hu hv
        subst huv
        cases u
        all_goals (
          go_wp2
          go_quiet (fail)
          go_wp2
          go_roundw
          case rel => exact ⟨k + 1, by go_num, by omega, HD2.out, hd.more _⟩
          case measure => simp [intOf]; omega)
      · have HE : Hid (false = x) := Lib.hid (by rw [← HX.out, sameK_no hlt (by rw [← hu, ← hv]; exact huv)])
        clear hu hv
        obtain ⟨rfl, rfl⟩ | ⟨rfl, rfl⟩ : (u = true ∧ v = false) ∨ (u = false ∧ v = true) := by
          cases u <;> cases v <;> simp_all
        all_goals (
          clear huv
          go_wp2
          go_quiet (fail)
          go_wp2
          go_ret
          exact ⟨by rw [← HE.out]; rfl, (hd.more _).below⟩)
    · obtain rfl : k = n := by omega
      have HE : Hid (true = x) := Lib.hid (by rw [← HX.out, sameK_iff.2 HD.out])
      go_wp2
      go_ret
      exact ⟨by rw [← HE.out]; rfl, hd.below⟩

/-- Lists as they read: each of n bools, n of them. -/
def RowsAt (w : World) (A : Option Addr) (n : Nat) (gs : Nat → Nat) (Q : Nat → Nat → Bool) : Prop :=
  ∀ i, i < n → ∃ g, A = some ⟨g, 0, none⟩ ∧ w.cell? ⟨g, i, none⟩ = some (.slice (some ⟨gs i, 0, none⟩) n n) ∧ w.heap[gs i]? = some (.cells (bls (Q i) n n) 4 (0, 0))
theorem RowsAt.keep {w w' : World} {A : Option Addr} {n : Nat} {gs : Nat → Nat} {Q : Nat → Nat → Bool} (h : RowsAt w A n gs Q) (hb : Below w.heap.size w w') : RowsAt w' A n gs Q := fun i hi => by
  obtain ⟨g, e, c, b⟩ := h i hi
  exact ⟨g, e, (hb.cell (block_lt_of_cell c)).trans c, (hb.block _ (lt_blk b)).trans b⟩
def SqRel (n : Nat) (P Q : Nat → Nat → Bool) (w : World) (v5 : Value) (wr : World) : Prop := ∃ k : Nat, v5 = .int .i64 (k : Int) ∧ k ≤ n ∧ (∀ i, i < k → sameK n (P i) (Q i) = true) ∧ Below w.heap.size w wr

set_option maxRecDepth 100000 in
set_option maxHeartbeats 1000000 in
theorem same_any (n : Nat) (A1 : Option Addr) (c1 : Nat) (A2 : Option Addr) (c2 : Nat) (gs gs' : Nat → Nat) (P Q : Nat → Nat → Bool) (w : World) (h : RowsAt w A1 n gs P) (h' : RowsAt w A2 n gs' Q) (hn : n ≤ 64) (x : Bool) (hx : sameSq n P Q = x) :
    Calls Tryz.prog 7 #[.slice A1 n c1, .slice A2 n c2] w fun e w' => e = .returned (.bool x) ∧ Below w.heap.size w w' := by
  have H := Lib.hid h
  have H' := Lib.hid h'
  have HX := Lib.hid hx
  have hne0 : ((n : Int) != (n : Int)) = false := by simp
  clear h h' hx
  go_enter Tryz.func7, Tryz.ntmps7
  go_wp2
  go_loopw [5] (fun v5 wr => SqRel n P Q w v5 wr) (fun v5 _ => n - (intOf v5).toNat)
  case atStart => exact ⟨0, rfl, by omega, fun j hj => absurd hj (Nat.not_lt_zero j), Below.refl _ _⟩
  case round =>
    obtain ⟨k, rfl, hk, hd0, hb⟩ := hrel
    have HD := Lib.hid hd0
    clear hd0
    by_cases hlt : k < n
    · have hS := H.out.keep hb
      have hS' := H'.out.keep hb
      obtain ⟨g, rfl, c10, r1⟩ := hS k hlt
      obtain ⟨g', rfl, c20, r2⟩ := hS' k hlt
      obtain ⟨y, hy⟩ : ∃ y, sameK n (P k) (Q k) = y := ⟨_, rfl⟩
      have hcall : ∀ N, Calls Tryz.prog 16 #[.slice (some ⟨gs k, 0, none⟩) n n, .slice (some ⟨gs' k, 0, none⟩) n n] (wr.drewN N) fun e w' => e = .returned (.bool y) ∧ Below wr.heap.size wr w' := fun N =>
        (bools_any (gs k) (gs' k) n (P k) (Q k) (wr.drewN N) r1 r2 hn y hy).mono fun e w' h => ⟨h.1, (La.below_drewN wr N).trans h.2⟩
      have HCALL := Lib.hid hcall
      have HY := Lib.hid hy
      have HC1 := Lib.hid c10
      have HC2 := Lib.hid c20
      clear hS hS' hcall hy
      go_wp2
      refine wp_region_ord [0, 1, 2, 3, 4, 5, 6, 7, 8, 9] [8] 10 (fun w' => w'.cell? ⟨g, k, none⟩ = some (.slice (some ⟨gs k, 0, none⟩) n n) ∧ w'.cell? ⟨g', k, none⟩ = some (.slice (some ⟨gs' k, 0, none⟩) n n)) (by kernel_rfl) (by kernel_rfl) (by kernel_rfl) (by kernel_rfl) (fun _ _ _ _ _ h => h) ⟨c10, c20⟩ ?_
      simp only [steps, List.getElem?_cons_zero, List.getElem?_cons_succ]
      repeat (first
        | (refine ord_yes (v := ?_) rfl rfl ?_ ?_; rotate_left; (focus (rintro w' ⟨c0, c00⟩; go_simp; try with_reducible rfl)); simp only [Act.put, List.setIfInBounds_toArray, List.set_cons_zero, List.set_cons_succ]))
      refine ord_hard rfl rfl (fun K hK => ?_)
      go_simp
      refine (HCALL.out 1).mono ?_
      rintro e w2 ⟨rfl, hb2⟩
      refine hK.out _ _ (fun _ => ⟨(hb2.cell (p := ⟨g, k, none⟩) (block_lt_of_cell HC1.out)).trans HC1.out, (hb2.cell (p := ⟨g', k, none⟩) (block_lt_of_cell HC2.out)).trans HC2.out⟩) ?_
      clear hK K
      have HB2 := Lib.hid (hb.trans (hb2.mono hb.size))
      clear c10 c20 hb hb2 HCALL
      cases y with
      | true =>
        repeat (first
          | (refine ord_yes (v := ?_) rfl rfl ?_ ?_; rotate_left; (focus (rintro w' ⟨c0, c00⟩; go_simp; try with_reducible rfl)); simp only [Act.put, List.setIfInBounds_toArray, List.set_cons_zero, List.set_cons_succ]))
        refine ord_end ?_
        have HD2 : Hid (∀ i, i < k + 1 → sameK n (P i) (Q i) = true) := Lib.hid fun j hj => by
          by_cases e : j = k
          · subst e; exact HY.out
          · exact HD.out j (by omega)
        go_wp2
        go_roundw
        case rel => exact ⟨k + 1, by go_num, by omega, HD2.out, HB2.out⟩
        case measure => simp [intOf]; omega
      | false =>
        repeat (first
          | (refine ord_yes (v := ?_) rfl rfl ?_ ?_; rotate_left; (focus (rintro w' ⟨c0, c00⟩; go_simp; try with_reducible rfl)); simp only [Act.put, List.setIfInBounds_toArray, List.set_cons_zero, List.set_cons_succ]))
        refine ord_end ?_
        have HE : Hid (false = x) := Lib.hid (by rw [← HX.out, sameSq_no hlt HY.out])
        go_wp2
        go_ret
        exact ⟨by rw [← HE.out]; rfl, HB2.out⟩
    · obtain rfl : k = n := by omega
      have HE : Hid (true = x) := Lib.hid (by rw [← HX.out, sameSq_iff.2 fun i hi => sameK_iff.1 (HD.out i hi)])
      go_wp2
      go_ret
      exact ⟨by rw [← HE.out]; rfl, hb⟩


end Go.Proofs.YtomokkpfkhfemaaGreatDoor
