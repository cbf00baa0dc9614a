/- What the document's Of and Put tell. Condition: nodes and terms can be read. -/
import Derived.Test.YtlcbcggcmmlfdaaRefBelow
namespace Go.Proofs.Ytlcbcggcmmlfdaa
open Go.RowKit

/-- The spots of a body that may be, as those of its tree. -/
theorem body_spots {l : List Nd} (hc : checkB l = 0) : ∃ (x : Nd) (ks : F), l = (F.cons x ks .nil).flat ∧ (F.cons x ks .nil).wf ∧ labT 0 (.cons x ks .nil) [0] = labB l ∧ effT 0 (.cons x ks .nil) [0] = effB l := by
  obtain ⟨h1, h2, f, rfl, fn, fw, ht⟩ := body_of hc
  cases f with
  | nil => simp [F.num] at fn
  | cons x ks r =>
    obtain rfl : r = .nil := by
      cases r with
      | nil => rfl
      | cons _ _ _ => simp [F.num] at fn
    have e := sds_flat (.cons x ks .nil) [0] [] [] fw rfl
    rw [List.append_nil, List.append_nil] at e
    have e' : sds (F.cons x ks .nil).flat [0] = (F.cons x ks .nil).sd [0] := by rw [e]; exact List.append_nil _
    refine ⟨x, ks, rfl, fw, ?_, ?_⟩
    · unfold labT labB
      rw [if_pos hc, e']
    · unfold effT effB
      rw [if_pos hc, e']

set_option maxRecDepth 100000 in
set_option maxHeartbeats 1000000 in
theorem refOf_any (A : Option Addr) (n c : Nat) (l : List Nd) (w : World) (hr : Ns w w.heap.size A n c l) (hf : ∀ x ∈ l, x.Fits) :
    Calls Try.prog 33 #[.slice A n c] w fun e w' => ∃ v u, e = .returned (.tuple #[v, u]) ∧ Told w w' v u (labB l) (effB l) := by
  have hcheck := refCheck_any A n c l w hr hf
  have HR := Lib.hid hr
  clear hf
  by_cases hc : checkB l = 0
  case neg =>
    have hne : ((checkB l : Int) != 0) = true := by simp; omega
    have HL : Hid (labB l = [] ∧ effB l = []) := Lib.hid (by unfold labB effB; rw [if_neg hc, if_neg hc]; exact ⟨rfl, rfl⟩)
    generalize checkB l = r at *
    go_enter Try.func33, Try.ntmps33
    go_wp2_with fail
    refine hcheck.mono ?_
    rintro e w1 ⟨rfl, hb1⟩
    go_wp2
    refine bodyPost_ret (v := .tuple #[.slice none 0 0, .slice none 0 0]) (by simp [results, Try.results33, go_sem]) rfl ⟨_, _, rfl, ?_⟩
    rw [HL.out.1, HL.out.2]
    exact ⟨World.ownsRow_nil _ _ _ _, World.ownsRow_nil _ _ _ _, (fun _ e => by cases e), hb1⟩
  obtain ⟨x, ks, e1, hw, e3, e4⟩ := body_spots hc
  have hl := check_len hc
  have hn : n ≤ 1000 := by rw [← hr.len]; omega
  rw [hc] at hcheck
  have HB := fun (W : World) (hb : Below w.heap.size w W) => refBelow_any A n c w.heap.size l hn _ x ks 0 0 W [] (Nat.le_refl _) hw (by rw [List.drop_zero, ← e1, List.append_nil]) (by omega) (HR.out.below hb) hb.size
  have HB := Lib.hid HB
  rw [e3, e4] at HB
  clear hc hr e1 hw e3 e4 hl
  go_enter Try.func33, Try.ntmps33
  go_wp2_with fail
  refine hcheck.mono ?_
  rintro e w1 ⟨rfl, hb1⟩
  clear hcheck
  go_wp2_with fail
  refine (HB.out w1 hb1).mono ?_
  rintro e w2 ⟨v, u, rfl, hT⟩
  go_wp2
  refine bodyPost_ret (v := .tuple #[v, u]) (by simp [results, Try.results33, go_sem]) rfl ⟨_, _, rfl, own_lower hT.o2 hb1.size, own_lower hT.o3 hb1.size, hT.ap, hb1.trans (hT.bel.mono hb1.size)⟩



end Go.Proofs.Ytlcbcggcmmlfdaa
