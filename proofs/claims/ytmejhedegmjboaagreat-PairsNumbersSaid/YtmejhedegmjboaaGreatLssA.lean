/- What EqualFunc, ContainsFunc and their like tell of spots and of lists of bools. Condition: they can be read. -/
import Derived.Test.YtmejhedegmjboaaGreatSns
namespace Go.Proofs.YtmejhedegmjboaaGreat
open Go.RowKit

theorem any_next {α : Type} {f : α → Bool} {l : List α} {i : Nat} (hi : i < l.length) (h : (l.take i).any f = false) : (l.take (i + 1)).any f = f l[i] := by
  rw [List.take_succ_eq_append_getElem hi, List.any_append, h]
  simp
theorem any_on {α : Type} {f : α → Bool} {l : List α} {i : Nat} (hi : i < l.length) (h : f l[i] = true) : l.any f = true := List.any_eq_true.2 ⟨_, List.getElem_mem hi, h⟩
def othR (n : Nat) (r : List Bool) : Bool := !decide (r.length = n)
theorem int_eq (a b : Nat) : ((a : Int) == (b : Int)) = decide (a = b) := by
  by_cases h : a = b
  · subst h; simp
  · rw [decide_eq_false h, beq_eq_false_iff_ne]
    omega
theorem int_ne (a b : Nat) : ((a : Int) != (b : Int)) = !decide (a = b) := by rw [bne, int_eq]

def AnRel {α : Type} (f : α → Bool) (l : List α) (w : World) (v8 : Value) (wr : World) : Prop := ∃ i : Nat, v8 = .int .i64 (i : Int) ∧ i ≤ l.length ∧ (l.take i).any f = false ∧ Below w.heap.size w wr




set_option maxRecDepth 100000 in
set_option maxHeartbeats 1000000 in
theorem other_any (A : Option Addr) (m c g n : Nat) (w : World) (h : w.cell? ⟨g, 0, none⟩ = some (.int .i64 (n : Int))) : Calls Tryz.prog 149 #[.slice A m c, .pointer (some ⟨g, 0, none⟩)] w fun e w' => e = .returned (.bool (!decide (m = n))) ∧ w = w' := by
  rw [← int_ne]
  generalize hd : ((m : Int) != (n : Int)) = d at *
  go_enter Tryz.func149, Tryz.ntmps149
  go_wp2
  go_ret
  exact ⟨rfl, rfl⟩

set_option maxRecDepth 100000 in
set_option maxHeartbeats 1000000 in
theorem indexR_any (A : Option Addr) (m c g n : Nat) (l : List (List Bool)) (w : World) (h : BRows w w.heap.size A m c l) (hg : w.cell? ⟨g, 0, none⟩ = some (.int .i64 (n : Int))) :
    Calls Tryz.prog 162 #[.slice A m c, .func (.func 149) #[] #[.pointer (some ⟨g, 0, none⟩)]] w fun e w' => (∃ k : Int, e = .returned (.int .i64 k) ∧ (l.any (othR n) = true → 0 ≤ k) ∧ (l.any (othR n) = false → k = -1)) ∧ Below w.heap.size w w' := by
  have HR := Lib.hid h
  have HG := Lib.hid hg
  have HL := Lib.hid h.len
  obtain ⟨hcap, htop⟩ := h.top
  unfold maxLen at htop
  clear h hg
  go_enter Tryz.func162, Tryz.ntmps162
  go_wp2
  go_loopw [8] (fun v8 wr => AnRel (othR n) l w v8 wr) (fun v8 _ => m - (intOf v8).toNat)
  case atStart => exact ⟨0, rfl, by omega, rfl, Below.refl _ _⟩
  case round =>
    obtain ⟨i, rfl, hi, hall, hb⟩ := hrel
    by_cases hlt : i < m
    · have hi' : i < l.length := by rw [HL.out]; exact hlt
      obtain ⟨b, o, A', n', c', rfl, hbb, e0, hrow⟩ := (HR.out.at_size (Nat.le_refl _) hb).row hi'
      obtain ⟨r, hr⟩ : ∃ r, othR n l[i] = r := ⟨_, rfl⟩
      have HST := Lib.hid (any_next (f := othR n) hi' hall)
      have HON := Lib.hid (fun e : othR n l[i] = true => any_on hi' e)
      have hrl := hrow.len
      rw [hr] at HST HON
      have hc := other_any A' n' c' g n wr (cell_old HG.out hb)
      rw [show (!decide (n' = n)) = r by rw [← hr, othR, hrl]] at hc
      have HC := Lib.hid hc
      have HB := Lib.hid hb
      have HLT := Lib.hid hlt
      have hdk : decide ((i : Int) < (m : Int)) = true := decide_eq_true (by omega)
      clear hall hr hbb hb hi' hlt hc hrow hrl
      go_wp2_with fail
      refine HC.out.mono ?_
      rintro e w1 ⟨rfl, rfl⟩
      clear HC e0 hdk
      cases r with
      | true =>
        have HA := Lib.hid (HON.out rfl)
        clear HON HST
        go_wp2_with fail
        go_ret
        exact ⟨⟨_, rfl, fun _ => by omega, fun e => by rw [HA.out] at e; cases e⟩, HB.out⟩
      | false =>
        clear HON
        go_wp2_with fail
        go_roundw
        case rel => exact ⟨i + 1, by go_num, by have := HLT.out; have := HL.out; omega, HST.out, HB.out⟩
        case measure =>
          have := HLT.out
          simp [intOf]
          omega
    · obtain rfl : i = m := by have := HL.out; omega
      have HE : Hid (l.any (othR n) = false) := Lib.hid (by rw [← hall, List.take_of_length_le (by rw [HL.out]; omega)])
      clear hall hlt
      go_wp2
      go_ret
      exact ⟨⟨_, rfl, (fun e => by rw [HE.out] at e; cases e), fun _ => rfl⟩, hb⟩

set_option maxRecDepth 100000 in
set_option maxHeartbeats 1000000 in
theorem containsR_any (A : Option Addr) (m c g n : Nat) (l : List (List Bool)) (w : World) (h : BRows w w.heap.size A m c l) (hg : w.cell? ⟨g, 0, none⟩ = some (.int .i64 (n : Int))) :
    Calls Tryz.prog 151 #[.slice A m c, .func (.func 149) #[] #[.pointer (some ⟨g, 0, none⟩)]] w fun e w' => e = .returned (.bool (l.any (othR n))) ∧ Below w.heap.size w w' := by
  have hc := indexR_any A m c g n l w h hg
  clear h
  generalize l.any (othR n) = r at *
  go_enter Tryz.func151, Tryz.ntmps151
  go_wp2_with fail
  refine hc.mono ?_
  rintro e w1 ⟨⟨k, rfl, h1, h2⟩, hb⟩
  have hd : decide ((0 : Int) ≤ k) = r := by
    cases r with
    | true => exact decide_eq_true (h1 rfl)
    | false => rw [h2 rfl]; rfl
  clear h1 h2 hc
  go_wp2_with fail
  go_ret
  exact ⟨rfl, hb⟩

end Go.Proofs.YtmejhedegmjboaaGreat
