/- What leadOn does: the rows of a block become the least that lead on and have what they had. No condition but sizes. -/
import Derived.Test.YtnoigcaapnjcgaaGreatDoorClos
import Derived.Test.YtnoigcaapnjcgaaGreatDoorCheck
import Derived.WalkMore
import Derived.ScopeJumps
import Derived.LoopTactic
namespace Go.Proofs.YtnoigcaapnjcgaaGreatDoor
open Go.RowKit

theorem Way.fit {n : Nat} {R : Nat → Nat → Bool} {l : List Nat} (h : Way n R l) (hn : n ≤ 64) : Fit l := fun x hx =>
  Nat.lt_of_lt_of_le (h.lt x hx) (Nat.pow_le_pow_right (n := 2) (by decide) hn)

/-- The numbers of a block. -/
def numsAt (w : World) (g : Nat) : List Nat := match w.heap[g]? with
  | some (.cells cs _ _) => cs.toList.map fun v => (intOf v).toNat
  | _ => []

theorem numsAt_cl {w : World} {g : Nat} {l : List Nat} (h : w.heap[g]? = some (.cells (cl l) 53 (0, 0))) : numsAt w g = l := by
  unfold numsAt
  rw [h]
  simp only [cl, List.map_map]
  conv => rhs; rw [← List.map_id l]
  apply List.map_congr_left
  intro x _
  simp [nm, intOf]

/-- A body that begins with a label to which it jumps back. -/
theorem wp_scope_back {P : Program} {rest : Code} {Q : Exit → Act → World → Prop} {a : Act} {w : World} (J : Act → World → Prop) (μ : Act → World → Nat) (hJ : J a w)
    (hp : ∀ a w, J a w → rest.wp P (Exit.jump 0 (fun a' w' => J a' w' ∧ μ a' w' < μ a w) Q) a w) : (Code.scope ((Code.label 0).seq rest)).wp P Q a w := by
  refine wp_scope_jumps 0 J μ rfl (wp_seq (wp_label ?_)) (fun a w h => wp_seq (wp_skip (hp a w h)))
  refine wp_mono (hp a w hJ) ?_
  intro e a' w' hh
  cases e with
  | goto l' => exact ⟨hh.1, hh.2.1⟩
  | normal => exact hh
  | exit id => exact hh
  | ret => exact hh
  | panic ch => exact hh
  | outgrown => exact hh

/-- What is held at the label. -/
structure Lead (n : Nat) (R : Nat → Nat → Bool) (w : World) (g : Nat) (wr : World) (l : List Nat) : Prop where
  way : Way n R l
  blk : wr.heap[g]? = some (.cells (cl l) 53 (0, 0))
  kept : Kept (fun b => b = g) w wr

def LeadJ (n : Nat) (R : Nat → Nat → Bool) (w : World) (g : Nat) (a' : Act) (w' : World) : Prop :=
  ∃ (l : List Nat) (u1 u2 u3 u4 u5 u6 u7 u8 u9 u10 u11 u12 u13 u14 u15 u16 u17 u18 u19 u20 u21 u22 u23 u24 u25 u26 u27 u28 : Value), Lead n R w g w' l ∧ a' = { tmps := #[.slice (some ⟨g, 0, none⟩) n n, u1, u2, u3, u4, u5, u6, u7, u8, u9, u10, u11, u12, u13, u14, u15, u16, u17, u18, u19, u20, u21, u22, u23, u24, u25, u26, u27, u28], defers := [] }

/-- In a pass that began with l: i rows are gone through. -/
def LdRel (n : Nat) (R : Nat → Nat → Bool) (w : World) (g : Nat) (l : List Nat) (v2 v7 : Value) (wr : World) : Prop :=
  ∃ (i : Nat) (b : Bool) (l2 : List Nat), v7 = .int .i64 (i : Int) ∧ i ≤ n ∧ v2 = .bool b ∧ Lead n R w g wr l2 ∧ room n l2 ≤ room n l ∧ (b = true → room n l2 < room n l) ∧ (b = false → l2 = l ∧ ∀ x, x < i → aboveN l (l.getD x 0) l.length = l.getD x 0)

theorem Lead.put {n : Nat} {R : Nat → Nat → Bool} {w wr : World} {g i : Nat} {l : List Nat} (h : Lead n R w g wr l) (hi : i < n) :
    Lead n R w g (wr.setCell ⟨g, i, none⟩ (.int .u64 (aboveN l (l.getD i 0) n : Int))) (l.set i (aboveN l (l.getD i 0) n)) := by
  have hw := h.way.above hi
  rw [h.way.len] at hw
  exact ⟨hw, by rw [set_blk h.blk, cl_set], h.kept.setCell (p := ⟨g, i, none⟩) (.inl rfl) _⟩

theorem Lead.grew {n : Nat} {R : Nat → Nat → Bool} {l : List Nat} (h : Way n R l) {i : Nat} (hi : i < n) (hne : aboveN l (l.getD i 0) n ≠ l.getD i 0) : room n (l.set i (aboveN l (l.getD i 0) n)) < room n l := by
  have hw := h.above hi
  rw [h.len] at hw
  refine room_lt h.len hi hw.lt ?_
  have := aboveN_le l (l.getD i 0) n
  omega

theorem Lead.same {l : List Nat} {i n : Nat} (hi : i < l.length) (he : aboveN l (l.getD i 0) n = l.getD i 0) : l.set i (aboveN l (l.getD i 0) n) = l := by
  rw [he]
  exact set_getD hi

set_option maxRecDepth 100000 in
set_option maxHeartbeats 1000000 in
theorem leadOn_any (g n : Nat) (R : Nat → Nat → Bool) (l : List Nat) (w : World) (hn : n ≤ 64) (h0 : Lead n R w g w l) :
    Calls Tryz.prog 14 #[.slice (some ⟨g, 0, none⟩) n n] w fun e w' => e = .returned (.tuple #[]) ∧ ∃ l', Lead n R w g w' l' ∧ Clos R (bt l') := by
  have H0 := Lib.hid h0
  clear h0
  go_enter Tryz.func14, Tryz.ntmps14
  go_wp2
  refine wp_scope_back (LeadJ n R w g) (fun _ w' => room n (numsAt w' g)) ⟨l, _, _, _, _, _, _, _, _, _, _, _, _, _, _, _, _, _, _, _, _, _, _, _, _, _, _, _, _, H0.out, rfl⟩ ?_
  · rintro a' w' ⟨l, u1, u2, u3, u4, u5, u6, u7, u8, u9, u10, u11, u12, u13, u14, u15, u16, u17, u18, u19, u20, u21, u22, u23, u24, u25, u26, u27, u28, hL, rfl⟩
    have HR := Lib.hid (numsAt_cl hL.blk)
    have HL := Lib.hid hL
    clear hL
    go_wp2
    go_loopw [2, 7] (fun v2 v7 wr => LdRel n R w g l v2 v7 wr) (fun _ v7 _ => n - (intOf v7).toNat)
    case atStart => exact ⟨0, false, l, rfl, by omega, rfl, HL.out, Nat.le_refl _, (fun h => by cases h), fun _ => ⟨rfl, fun x hx => absurd hx (by omega)⟩⟩
    case round =>
      obtain ⟨i, b, l2, rfl, hi, rfl, hL2, hroom, hgt, hgf⟩ := hrel
      have HG1 := Lib.hid hgt
      have HG2 := Lib.hid hgf
      have HRM := Lib.hid hroom
      clear hgt hgf hroom
      by_cases hlt : i < n
      · have hi2 : i < l2.length := by rw [hL2.way.len]; exact hlt
        have hcx := (cell_blk (i := i) hL2.blk).trans (cl_at hi2)
        have hfz : wr.frozen? ⟨g, i, none⟩ = false := frozen_blk hL2.blk
        have hrd := rd_blk hL2.blk hL2.way.len (by omega)
        have hfit := hL2.way.fit hn
        have hx := hfit.get i hi2
        have HX := Lib.hid (getD_at hi2)
        have HP := Lib.hid (Lead.put hL2 hlt)
        have HGR := Lib.hid (Lead.grew hL2.way hlt)
        have HSM := Lib.hid (Lead.same (n := n) hi2)
        have hcall := above_any _ n n _ l2 l2[i] wr hrd hfit hx
        have HW := Lib.hid hL2
        rw [← HX.out] at hcall hcx hx
        clear hrd hL2
        generalize hy : aboveN l2 (l2.getD i 0) n = y at *
        generalize hxx : l2.getD i 0 = x at *
        have HY := Lib.hid hy
        have HXX := Lib.hid hxx
        clear hy hxx
        cases b with
        | true =>
          go_wp2_with (go_at_call 64; refine hcall.mono ?_; rintro e w2 ⟨rfl, rfl⟩)
          go_roundw
          case rel =>
            refine ⟨i + 1, true, _, by go_num, by omega, rfl, HP.out, ?_, ?_, (fun h => by cases h)⟩
            · by_cases e : y = x
              · rw [HSM.out e]; exact HRM.out
              · have := HGR.out e; have := HRM.out; omega
            · intro _
              have h1 := HG1.out (by simp)
              by_cases e : y = x
              · rw [HSM.out e]; exact h1
              · have := HGR.out e; omega
          case measure => simp [intOf]; omega
        | false =>
          by_cases e : y = x
          · subst e
            have hne : ((y : Int) != (y : Int)) = false := by simp
            go_wp2_with (go_at_call 64; refine hcall.mono ?_; rintro e w2 ⟨rfl, rfl⟩)
            go_roundw
            case rel =>
              obtain ⟨e1, e2⟩ := HG2.out (by simp)
              refine ⟨i + 1, false, _, by go_num, by omega, rfl, HP.out, ?_, (fun h => by cases h), fun _ => ?_⟩
              · rw [HSM.out (by simp)]; exact HRM.out
              · rw [HSM.out (by simp)]
                refine ⟨e1, fun z hz => ?_⟩
                by_cases ez : z = i
                · subst ez
                  rw [← e1, HW.out.way.len, HXX.out]
                  exact HY.out
                · exact e2 z (by omega)
            case measure => simp [intOf]; omega
          · have hne : ((y : Int) != (x : Int)) = true := by simp; omega
            go_wp2_with (go_at_call 64; refine hcall.mono ?_; rintro e w2 ⟨rfl, rfl⟩)
            go_roundw
            case rel =>
              refine ⟨i + 1, true, _, by go_num, by omega, rfl, HP.out, ?_, ?_, (fun h => by cases h)⟩
              · have := HGR.out e; have := HRM.out; omega
              · intro _
                have := HGR.out e; have := HRM.out; omega
            case measure => simp [intOf]; omega
      · obtain rfl : i = n := by omega
        cases b with
        | true =>
          go_wp2
          go_step3
          refine ⟨rfl, ⟨l2, _, _, _, _, _, _, _, _, _, _, _, _, _, _, _, _, _, _, _, _, _, _, _, _, _, _, _, _, hL2, rfl⟩, ?_⟩
          show room _ (numsAt wr g) < room _ (numsAt _ g)
          rw [HR.out, numsAt_cl hL2.blk]
          exact HG1.out (by simp)
        | false =>
          obtain ⟨e1, e2⟩ := HG2.out (by simp)
          have HE := Lib.hid e2
          clear e2
          subst e1
          have HD : Hid (Clos R (bt l2)) := Lib.hid (hL2.way.done HE.out)
          have HF := Lib.hid hL2
          clear hL2
          go_wp2
          simp only [Exit.jump]
          go_end0
          exact ⟨rfl, l2, HF.out, HD.out⟩
end Go.Proofs.YtnoigcaapnjcgaaGreatDoor
