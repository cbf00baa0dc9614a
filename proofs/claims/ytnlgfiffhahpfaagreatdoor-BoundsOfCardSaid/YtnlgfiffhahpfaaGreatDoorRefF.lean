/- The document's has, constants and From. No condition but sizes. -/
import Derived.Test.YtnlgfiffhahpfaaGreatDoorRsM
import Derived.Test.YtnlgfiffhahpfaaGreatDoorRefT
namespace Go.Proofs.YtnlgfiffhahpfaaGreatDoor
open Go.RowKit

def tmc (t : Tm) : List Value := [.bool t.1, .int .u64 (t.2 : Int)]
theorem tmc_len (t : Tm) : (tmc t).length = 2 := rfl
theorem tmc_one (l : List Tm) : ∀ u ∈ l.flatMap tmc, u.oneCell' = true := by
  intro u hu
  obtain ⟨x, _, hx⟩ := List.mem_flatMap.1 hu
  simp only [tmc, List.mem_cons, List.not_mem_nil, or_false] at hx
  rcases hx with rfl | rfl <;> rfl
theorem tm_inf : (Tryz.prog.info? 75).map (fun i => (i.zero, i.size, i.bytes)) = some (some (.agg #[.bool false, .int .u64 0]), 2, 16) := by kernel_rfl
theorem tm_at {w : World} {B n c : Nat} {A : Option Addr} {l : List Tm} (h : Rs tmc 2 w B A n c l) {k : Nat} (hk : k < l.length) : ∃ b o, A = some ⟨b, o, none⟩ ∧ b < B ∧ w.cell? ⟨b, o + k * 2, none⟩ = some (.bool l[k].1) ∧ w.cell? ⟨b, o + k * 2 + 1, none⟩ = some (.int .u64 (l[k].2 : Int)) := by
  obtain ⟨b, o, e, hb, hc⟩ := h.spot (by have := h.len; omega)
  exact ⟨b, o, e, hb, hc k hk 0 _ rfl, hc k hk 1 _ rfl⟩

theorem below_drewN (w : World) (q : Nat) : Below w.heap.size w (w.drewN q) := ⟨rfl, rfl, rfl, Nat.le_refl _, fun _ _ => rfl⟩

def HsRel (out : List Tm) (t : Tm) (w : World) (v5 : Value) (wr : World) : Prop := ∃ k : Nat, v5 = .int .i64 (k : Int) ∧ k ≤ out.length ∧ t ∉ out.take k ∧ Below w.heap.size w wr
theorem not_take {out : List Tm} {t : Tm} {k : Nat} (hk : k < out.length) (h : t ∉ out.take k) (hne : t ≠ out[k]) : t ∉ out.take (k + 1) := by
  rw [List.take_succ_eq_append_getElem hk, List.mem_append, List.mem_singleton]
  exact fun e => e.elim h hne

set_option maxRecDepth 100000 in
set_option maxHeartbeats 2000000 in
theorem hasT_any (A : Option Addr) (n c B : Nat) (out : List Tm) (v : Bool) (z : Nat) (w : World) (r : Bool) (h : Rs tmc 2 w B A n c out) (hB : B ≤ w.heap.size) (hr : decide ((v, z) ∈ out) = r) :
    Calls Tryz.prog 96 #[.slice A n c, tmv v z] w fun e w' => e = .returned (.bool r) ∧ Below w.heap.size w w' := by
  have hal : Below w.heap.size w (w.alloc (.cells #[.bool v, .int .u64 (z : Int)] 75)) := (Below.refl _ _).alloc (Nat.le_refl _) _
  have HL := Lib.hid h.len
  have htop := h.top
  have hcap := h.cap
  unfold maxLen at htop
  have HR := Lib.hid (h.at_size hB hal)
  have hbx := heap_alloc_new w (.cells #[.bool v, .int .u64 (z : Int)] 75)
  have hz0 := (cell_blk (i := 0) hbx).trans rfl
  have hz1 := (cell_blk (i := 1) hbx).trans rfl
  have HAL := Lib.hid hal
  have HRR := Lib.hid hr
  clear h hbx hal hr
  unfold tmv
  go_enter Tryz.func96, Tryz.ntmps96
  go_wp2_with fail
  obtain ⟨w0, hw0⟩ : ∃ w0, w0 = w.alloc (.cells #[.bool v, .int .u64 (z : Int)] 75) := ⟨_, rfl⟩
  rw [← hw0] at hz0 hz1 HAL HR ⊢
  clear hw0
  go_loopw [5] (fun v5 wr => HsRel out (v, z) w0 v5 wr) (fun v5 _ => n - (intOf v5).toNat)
  case atStart => exact ⟨0, rfl, by omega, by simp, Below.refl _ _⟩
  case round =>
    obtain ⟨k, rfl, hk, hno, hb⟩ := hrel
    by_cases hlt : k < n
    · have hk' : k < out.length := by rw [HL.out]; exact hlt
      have hrr := HR.out.at_size (Nat.le_refl _) hb
      replace hz0 := cell_old hz0 hb
      replace hz1 := cell_old hz1 hb
      obtain ⟨b, o, rfl, hbb, c0, c1⟩ := tm_at hrr hk'
      by_cases he : (v, z) = out[k]
      · have HT : Hid (r = true) := Lib.hid (by rw [← HRR.out]; exact decide_eq_true (by rw [he]; exact List.getElem_mem hk'))
        rw [← he] at c0 c1
        have HB := Lib.hid hb
        clear hrr hbb hno hk' he hb HRR
        go_wp2
        go_quiet (fail)
        go_wp2
        go_ret
        refine ⟨by rw [HT.out]; rfl, ?_⟩
        exact HAL.out.trans (((Below.trans HB.out ((below_drewN _ _).mono HB.out.size))).mono HAL.out.size)
      · have HN := Lib.hid (not_take hk' hno he)
        replace hz0 : _ = some (Value.bool v) := hz0
        replace hz1 : _ = some (Value.int .u64 (z : Int)) := hz1
        obtain ⟨x, hx⟩ : ∃ x, x = out[k] := ⟨_, rfl⟩
        rw [← hx] at he c0 c1
        obtain ⟨xv, xz⟩ := x
        simp only at c0 c1
        have hne : (xv = v ∧ ((xz : Int) == (z : Int)) = false) ∨ (xv = true ∧ v = false) ∨ (xv = false ∧ v = true) := by
          cases xv <;> cases v <;> simp <;> intro e2 <;> exact he (by rw [show xz = z by omega])
        have HLT := Lib.hid hlt
        have HB := Lib.hid hb
        clear hrr hbb hno hk' he hx hb HRR
        rcases hne with ⟨rfl, hq⟩ | ⟨rfl, rfl⟩ | ⟨rfl, rfl⟩
        all_goals (
          go_wp2
          go_quiet (fail)
          go_wp2
          go_roundw
          case rel => exact ⟨k + 1, by go_num, by have := HLT.out; have := HL.out; omega, HN.out, HB.out.trans ((below_drewN _ _).mono HB.out.size)⟩
          case measure =>
            have := HLT.out
            simp [intOf]
            omega)
    · obtain rfl : k = n := by have := HL.out; omega
      have HT : Hid (r = false) := Lib.hid (by
        rw [← HRR.out]
        refine decide_eq_false ?_
        rwa [List.take_of_length_le (by rw [HL.out]; exact Nat.le_refl _)] at hno)
      clear hno
      go_wp2
      go_ret
      exact ⟨by rw [HT.out]; rfl, HAL.out.trans (hb.mono HAL.out.size)⟩
end Go.Proofs.YtnlgfiffhahpfaaGreatDoor
