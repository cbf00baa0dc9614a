/- What texts.Sorted does. Condition: the texts can be read. -/
import Derived.Test.YtkjeejaecagbaaaGreatDoorNeigh
namespace Go.Proofs.YtkjeejaecagbaaaGreatDoor
open Go.RowKit Go.Shelf

attribute [local go_sem] Oper.semAt_some

/-- Each is ahead of the next one. -/
def rises (ss : List (List UInt8)) : Bool := (pairs ss).all fun x => decide (x.1 < x.2)

theorem all_of_prefix {pre ys : List (List UInt8 × List UInt8)} {x : List UInt8 × List UInt8} (h : pre ++ [x] <+: ys) (hx : ¬ x.1 < x.2) : (ys.all fun x => decide (x.1 < x.2)) = false := by
  obtain ⟨t, rfl⟩ := h
  simp [hx]

set_option maxRecDepth 100000 in
set_option maxHeartbeats 2000000 in
theorem sorted_wide (A : Option Addr) (m c : Nat) (ss : List (List UInt8)) (w : World) (hL : Rd txt w w.heap.size A m c ss) :
    CallsIn Fence.wide 5 Tryz.prog 9 #[.slice A m c] w fun e w' => e = .returned (.bool (rises ss)) ∧ Below w.heap.size w w' := by
  have hro : Fence.wide.round = none := rfl
  have h18 : Fence.wide.fn 23 := trivial
  refine callsIn_of_wp_marks Tryz.func9 rfl trivial ?_ hro
  simp only [Tryz.ntmps9, List.size_toArray, List.length_cons, List.length_nil, Nat.reduceAdd, Nat.reduceSub, Array.replicate_succ, Array.replicate_zero, List.push_toArray, List.append_toArray, List.nil_append, List.cons_append]
  gi_wp2_with (gi_at_call 23; refine (neighbours_in Fence.wide _ trivial rfl A m c _).mono ?_; rintro e w2 ⟨rfl, rfl⟩)
  have k1 : Below w.heap.size w (w.alloc (.cells #[.bool false] 4)) := (Below.refl _ w).alloc (Nat.le_refl _) _
  have k2 : Below w.heap.size w ((w.alloc (.cells #[.bool false] 4)).alloc (.cells #[.slice A m c] 22)) := k1.alloc (by simp) _
  have c1 : Boxed ((w.alloc (.cells #[.bool false] 4)).alloc (.cells #[.slice A m c] 22)) w.heap.size 4 (.bool false) := (Boxed.new w 4 (.bool false)).alloc _
  have c2 : Boxed ((w.alloc (.cells #[.bool false] 4)).alloc (.cells #[.slice A m c] 22)) (w.heap.size + 1) 22 (.slice A m c) := by have := Boxed.new (w.alloc (.cells #[.bool false] 4)) 22 (.slice A m c); simpa using this
  have hsz : ((w.alloc (.cells #[.bool false] 4)).alloc (.cells #[.slice A m c] 22)).heap.size = w.heap.size + 2 := by simp
  generalize (w.alloc (.cells #[.bool false] 4)).alloc (.cells #[.slice A m c] 22) = w3 at *
  refine wpIn_rangeFunc_ownF hro (by decide) (gf := 78) (lb := #[.pointer (some ⟨w.heap.size + 1, 0, none⟩)]) rfl trivial (enters_of Tryz.func78 (by kernel_rfl) rfl)
    (neighbours_stops (5 - 1) (by decide) (w.heap.size + 1) w.heap.size A m c ss w3 (by omega) (by omega) c2.cell (hL.below k2)) keepAt_t (keepAt_b (by omega) (by omega)) (Below.refl _ _) (fun _ => rfl)
    (fun pre W => (Boxed W w.heap.size 4 (.bool false) ∧ Below w.heap.size w W) ∧ ∀ x ∈ pre, x.1 < x.2)
    (fun c pre W => (Boxed W w.heap.size 4 (.bool false) ∧ Below w.heap.size w W) ∧ c = .ret ∧ ∃ (p : List (List UInt8 × List UInt8)) (x : List UInt8 × List UInt8), pre = p ++ [x] ∧ ¬ x.1 < x.2)
    (OwnFrom.and (OwnFrom.and (Own.from (boxed_own _ _ _) _) (ownFrom_below (Nat.le_refl _) (by omega))) (fun _ _ _ _ hs _ _ => hs))
    (fun _ => OwnFrom.and (OwnFrom.and (Own.from (boxed_own _ _ _) _) (ownFrom_below (Nat.le_refl _) (by omega))) (fun _ _ _ _ hs _ _ => hs))
    ⟨⟨c1, k2⟩, by simp⟩
    (fun x => { tmps := #[.slice A m c, undef, .pointer (some ⟨w.heap.size, 0, none⟩), txt x.1, txt x.2, .slice A m c, .func (.func 78) #[] #[.pointer (some ⟨w.heap.size + 1, 0, none⟩)], txt x.1, txt x.2, undef, undef, undef], defers := [] }) ?assign ?body ?done ?stop
  case assign =>
    intro l x W K hK
    gi_wp2
    simpa using hK
  case body =>
    rintro l pre x W ⟨⟨hB, hW⟩, hall⟩ hlt
    have hcn := hB.cell
    have hfn := hB.frozen
    have hls := less_str x.1 x.2
    rw [show txt x.1 = .string (str x.1) from rfl, show txt x.2 = .string (str x.2) from rfl]
    by_cases hx : x.1 < x.2
    · rw [decide_eq_true hx] at hls
      have HA : Hid (∀ y ∈ pre ++ [x], y.1 < y.2) := by
        intro y hy
        rcases List.mem_append.1 hy with h | h
        · exact hall y h
        · obtain rfl : y = x := by simpa using h
          exact hx
      clear hall hx
      generalize str x.1 = q at *
      generalize str x.2 = q' at *
      gi_wp2
      exact ⟨KeepsOthers.refl _, ⟨Below.refl _ _, rfl⟩, ⟨hB, hW⟩, HA.out⟩
    · rw [decide_eq_false hx] at hls
      have HX := Lib.hid hx
      clear hall hx
      generalize str x.1 = q at *
      generalize str x.2 = q' at *
      gi_wp2
      have hle : w.heap.size ≤ (⟨w.heap.size, 0, none⟩ : Addr).block := Nat.le_refl _
      exact ⟨KeepsOthers.setCell _ _ _, ⟨hB.set _, hW.setCell (p := ⟨w.heap.size, 0, none⟩) hle _⟩, rfl, _, _, rfl, HX.out⟩
  case done =>
    rintro D ys W hD rfl ⟨⟨hB, hW⟩, hall⟩ hK
    have HR : Hid (rises ss = true) := by show _ = _; simp only [rises, List.all_eq_true, decide_eq_true_eq]; exact hall
    have hcn := hB.cell
    have hfn := hB.frozen
    clear hall
    gi_wp2
    have hK' := (KeepsOthers.setCell W ⟨w.heap.size, 0, none⟩ (.bool true)).same D _ hK rfl
    refine ⟨by simp, .inl ⟨_, _, rfl, run_takeDeferred hK', ?_⟩⟩
    have hc5 := cell_kept (hB.set (.bool true)).cell (grownBy_putObj' _ D (.deferred none)) (fun r e => by cases e; exact ⟨_, hK', rfl⟩)
    refine ⟨.bool true, ?_, by rw [HR.out], (hW.setCell (p := ⟨w.heap.size, 0, none⟩) (Nat.le_refl _) _).trans (belowK_b (w := w) (Nat.le_refl _) _ D _ _ (by omega) hK' rfl rfl)⟩
    simp [results, Tryz.f9, go_sem, hc5]
  case stop =>
    rintro D c pre W hD hpre ⟨⟨hB, hW⟩, rfl, p, x, rfl, hx⟩ hK
    have HR : Hid (rises ss = false) := all_of_prefix hpre hx
    have hcn := hB.cell
    have hfn := hB.frozen
    clear hpre hx
    gi_wp2
    refine ⟨by simp, .inl ⟨_, _, rfl, run_takeDeferred hK, ?_⟩⟩
    have hc5 := cell_kept hB.cell (grownBy_putObj' _ D (.deferred none)) (fun r e => by cases e; exact ⟨_, hK, rfl⟩)
    refine ⟨.bool false, ?_, by rw [HR.out], hW.trans (belowK_b (w := w) (Nat.le_refl _) W D _ _ (by omega) hK rfl rfl)⟩
    simp [results, Tryz.f9, go_sem, hc5]

theorem rises_any (A : Option Addr) (m c : Nat) (ss : List (List UInt8)) (w : World) (hL : Rd txt w w.heap.size A m c ss) :
    Calls Tryz.prog 9 #[.slice A m c] w fun e w' => e = .returned (.bool (rises ss)) ∧ Below w.heap.size w w' :=
  callsIn_wide.1 (sorted_wide A m c ss w hL)

theorem rises_iff {ss : List (List UInt8)} : rises ss = true ↔ Up ss := by
  simp only [rises, List.all_eq_true, decide_eq_true_eq]
  induction ss with
  | nil => simp [pairs]
  | cons a l ih =>
    cases l with
    | nil => simp [pairs]
    | cons b l =>
      have hp : pairs (a :: b :: l) = (a, b) :: pairs (b :: l) := rfl
      rw [hp]
      simp only [List.mem_cons, forall_eq_or_imp]
      rw [ih]
      constructor
      · rintro ⟨h1, h2⟩
        refine List.pairwise_cons.2 ⟨fun x hx => ?_, h2⟩
        rcases List.mem_cons.1 hx with rfl | hx
        · exact h1
        · exact lt_trans' h1 ((List.pairwise_cons.1 h2).1 x hx)
      · intro h
        exact ⟨(List.pairwise_cons.1 h).1 b List.mem_cons_self, (List.pairwise_cons.1 h).2⟩
end Go.Proofs.YtkjeejaecagbaaaGreatDoor
