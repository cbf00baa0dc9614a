/- What SameNums does. Conditions: sizes alone. -/
import Derived.Test.YtnlgfiffhahpfaaGreatDoorLaTurned
import Derived.Deep.QuietTactic
import Derived.BigQuiet
namespace Go.Proofs.YtnlgfiffhahpfaaGreatDoor.La
open Go.RowKit

theorem nm_size' (w : World) : (Go.sizeOf 73).run Tryz.prog w = .ok 1 w := by kernel_rfl

theorem own_block_all {E : TypeId} {w : World} {base g n c : Nat} {xs : List Value} (h : w.ownsRow base E 1 (.slice (some ⟨g, 0, none⟩) n c) n xs) (hc : n = c) : w.heap[g]? = some (.cells xs.toArray E (0, 0)) ∧ base ≤ g := by
  rcases h.2 with ⟨hv, _⟩ | ⟨g', cap, cur, hv, hb, hg, hnc, hcm, hcs, htake⟩
  · cases hv
  · injection hv with h1 h2 h3
    injection h1 with h1
    injection h1 with h1
    subst h1
    subst h3
    subst hc
    refine ⟨?_, hb⟩
    rw [hg]
    have : cur = xs.toArray := by
      apply Array.toList_inj.1
      rw [← htake, List.take_of_length_le (by rw [Array.length_toList, hcs]; exact Nat.le_refl _)]
    rw [this]

theorem slice_to {P : Program} (W : World) (t e : TypeId) (ht : P.underlying t = some (.slice e)) (hz : ∀ w, (Go.sizeOf e).run P w = .ok 1 w) (g n c hi : Nat) (h2 : hi ≤ c) :
    (Instr.slice t (.slice (some ⟨g, 0, none⟩) n c) none (some (.int .i64 (hi : Int))) none).run P W = .ok (.slice (some ⟨g, 0, none⟩) hi c) W := by
  have he : P.elem t = e := by simp [Program.elem, ht]
  have ht' : P.underlying t = some (.slice (P.elem t)) := by rw [he]; exact ht
  rw [run_slice_h W t _ _ _ ht' .i64 _ (by omega) (by omega), he, hz]
  simp [Result.andThen, sliced, Addr.add]

def SameE (l l' : List Nat) (w : World) (e : Ending) (w' : World) : Prop := (∃ b, e = .returned (.bool b) ∧ (b = true ↔ l = l')) ∧ Drawn w w'
theorem sameE_no {l l' : List Nat} {w w' : World} (h : l ≠ l') (hw : Drawn w w') : SameE l l' w (.returned (.bool false)) w' := ⟨⟨false, rfl, (fun e => by cases e), fun e => absurd e h⟩, hw⟩
theorem sameE_yes {l l' : List Nat} {w w' : World} (h : l = l') (hw : Drawn w w') : SameE l l' w (.returned (.bool true)) w' := ⟨⟨true, rfl, fun _ => h, fun _ => rfl⟩, hw⟩

def SaRel (l l' : List Nat) (w : World) (i5 : Value) (wr : World) : Prop := ∃ k : Nat, i5 = .int .i64 (k : Int) ∧ k ≤ l.length ∧ l.take k = l'.take k ∧ Drawn w wr

set_option maxRecDepth 100000 in
set_option maxHeartbeats 400000 in
theorem same_any (B B' : Nat) (A A' : Option Addr) (n n' c c' : Nat) (l l' : List Nat) (w : World) (h : Rd nm w B A n c l) (h' : Rd nm w B' A' n' c' l') :
    Calls Tryz.prog 13 #[.slice A n c, .slice A' n' c'] w (SameE l l' w) := by
  have HL := Lib.hid h.len
  have HL' := Lib.hid h'.len
  have hcap := h.cap
  have htop := h.top
  unfold maxLen at htop
  have hcap' := h'.cap
  have htop' := h'.top
  unfold maxLen at htop'
  go_enter Tryz.func13, Tryz.ntmps13
  by_cases hnn : n = n'
  · subst hnn
    have hne0 : ((n : Int) != (n : Int)) = false := by simp
    go_wp2
    go_loopw [5] (fun i5 wr => SaRel l l' w i5 wr) (fun i5 _ => n - (intOf i5).toNat)
    case atStart => exact ⟨0, rfl, by omega, by simp, Drawn.refl _⟩
    case round =>
      obtain ⟨k, rfl, hk, htk, hd⟩ := hrel
      have HT := Lib.hid htk
      clear htk
      by_cases hlt : k < n
      · obtain ⟨b, o, rfl, _, hc⟩ := h.spot (by omega)
        obtain ⟨b', o', rfl, _, hc'⟩ := h'.spot (by omega)
        have hl : k < l.length := by have := HL.out; omega
        have hl' : k < l'.length := by have := HL'.out; omega
        have e1 : wr.cell? ⟨b, o + k, none⟩ = some (.int .u64 (l[k] : Int)) := (hd.cell _).trans (hc k hl)
        have e2 : wr.cell? ⟨b', o' + k, none⟩ = some (.int .u64 (l'[k] : Int)) := (hd.cell _).trans (hc' k hl')
        have HS : Hid (l.take (k + 1) = l'.take (k + 1) ↔ l[k] = l'[k]) := Lib.hid (by
          rw [List.take_succ_eq_append_getElem hl, List.take_succ_eq_append_getElem hl', HT.out, List.append_cancel_left_eq]
          exact ⟨(fun h => by injection h), (fun h => by rw [h])⟩)
        have HD : Hid (l = l' → l[k] = l'[k]) := Lib.hid (by rintro rfl; rfl)
        clear hc hc'
        generalize l[k] = u at *
        generalize l'[k] = v at *
        by_cases huv : u = v
        · subst huv
          have hne : ((u : Int) != (u : Int)) = false := by simp
          go_wp2
          go_quiet (fail)
          go_wp2
          go_roundw
          case rel => exact ⟨k + 1, by go_num, by omega, HS.out.2 (by simp), hd.more _⟩
          case measure => simp [intOf]; omega
        · have hne : ((u : Int) != (v : Int)) = true := by simp; omega
          go_wp2
          go_quiet (fail)
          go_wp2
          go_ret
          exact sameE_no (fun e => huv (HD.out e)) (hd.more _)
      · obtain rfl : k = n := by have := HL.out; omega
        have HE : Hid (l = l') := Lib.hid (by
          have := HT.out
          rwa [List.take_of_length_le (by rw [HL.out]; exact Nat.le_refl _), List.take_of_length_le (by rw [HL'.out]; exact Nat.le_refl _)] at this)
        go_wp2
        go_ret
        exact sameE_yes HE.out hd
  · have hne0 : ((n : Int) != (n' : Int)) = true := by simp; omega
    go_wp2
    go_ret
    exact sameE_no (fun e => hnn (by rw [← HL.out, ← HL'.out, e])) (Drawn.refl _)
end Go.Proofs.YtnlgfiffhahpfaaGreatDoor.La
