/- What the document's Check, End and Deep tell; where the tree at a place ends. No condition but sizes. -/
import Derived.Test.YtlcbcggcmmlfdaaRefWalk
namespace Go.Proofs.Ytlcbcggcmmlfdaa
open Go.RowKit

theorem chk_suffix : ∀ (a b : List Nd) (st : List Nat), chk (a ++ b) st = 0 → ∃ st', chk b st' = 0
  | [], b, st, h => ⟨st, h⟩
  | x :: a, b, [], h => by simp [chk] at h
  | x :: a, b, d :: st, h => by
    rw [List.cons_append, chk_one] at h
    split at h
    · split at h
      · cases h
      · exact chk_suffix a b _ h
    · cases h

theorem F.end_is {f : F} {d k d' : Nat} {x : Nd} {ks : F} {dpost : List Nat} (hk : k < (f.deps d).length) (e : (f.deps d).drop k = (F.cons x ks .nil).deps d' ++ dpost) (h3 : ∀ y, dpost.head? = some y → y ≤ d') :
    EndIs (f.deps d) k (k + (F.cons x ks .nil).flat.length) := by
  have hdl : (F.cons x ks .nil).deps d' = d' :: ks.deps (d' + 1) := by simp [F.deps]
  have hfl : (F.cons x ks .nil).flat.length = (ks.deps (d' + 1)).length + 1 := by rw [F.deps_len]; simp [F.flat]
  rw [hdl] at e
  generalize f.deps d = ds at *
  have hlen : ds.length - k = (ks.deps (d' + 1)).length + 1 + dpost.length := by
    have := congrArg List.length e
    rw [List.length_drop] at this
    rw [this]
    simp
    omega
  have at' : ∀ j (h : k + j < ds.length), ds[k + j] = (d' :: ks.deps (d' + 1) ++ dpost)[j]'(by simp; omega) := fun j h => by
    have h1 : (ds.drop k)[j]'(by rw [List.length_drop]; omega) = ds[k + j] := by simp
    rw [← h1]
    simp only [e]
  have hk0 : ds[k] = d' := by
    have := at' 0 (by omega)
    simpa using this
  refine ⟨by omega, by omega, fun j hj h1 h2 => ?_, fun h => ?_⟩
  · obtain ⟨i, rfl⟩ : ∃ i, j = k + (i + 1) := ⟨j - k - 1, by omega⟩
    rw [hk0, at' (i + 1) hj]
    have hi : i < (ks.deps (d' + 1)).length := by omega
    simp only [List.cons_append, List.getElem_cons_succ]
    rw [List.getElem_append_left hi]
    have := F.deps_ge ks (d' + 1) _ (List.getElem_mem hi)
    omega
  · rw [hk0]
    have h' := at' ((F.cons x ks .nil).flat.length) h
    rw [h']
    have hle : (d' :: ks.deps (d' + 1)).length ≤ (F.cons x ks .nil).flat.length := by rw [hfl]; simp
    rw [List.getElem_append_right hle]
    refine h3 _ ?_
    rw [List.head?_eq_getElem?]
    have e0 : (F.cons x ks .nil).flat.length - (d' :: ks.deps (d' + 1)).length = 0 := by rw [hfl]; simp
    simp only [e0]
    rw [List.getElem?_eq_getElem]

/-- The tree at a place of a body that may be. -/
theorem body_at {l : List Nd} (h : checkB l = 0) {k : Nat} (hk : k < l.length) : ∃ (ks : F) (post : List Nd), (F.cons l[k] ks .nil).wf ∧ (F.cons l[k] ks .nil).ht ≤ F.top (depB l) ∧ F.top (depB l) ≤ 16 ∧
    l.drop k = (F.cons l[k] ks .nil).flat ++ post ∧ EndIs (depB l) k (k + (F.cons l[k] ks .nil).flat.length) ∧ (0 < k → (F.cons l[k] ks .nil).ht < F.top (depB l)) ∧ (∃ st, chk post st = 0) ∧ (depB l).length = l.length := by
  obtain ⟨h1, h2, f, rfl, n, wf, ht⟩ := body_of h
  obtain ⟨_, e⟩ := body_is n wf ht h2
  have hne : f ≠ .nil := by rintro rfl; simp [F.num] at n
  have htop := F.top_deps f 0 hne
  rw [Nat.zero_add, Nat.zero_add] at htop
  obtain ⟨x, ks, d', post, dpost, e1, e2, e3, w, g1, g2, g3, g4⟩ := F.split f 1 k hk wf
  have hx : f.flat[k] = x := by
    have : (f.flat.drop k)[0]'(by rw [List.length_drop]; omega) = f.flat[k] := by simp
    rw [← this]
    simp only [e1]
    rfl
  have hdl : (f.deps 1).length = f.flat.length := F.deps_len f 1
  have hend := F.end_is (by rw [hdl]; exact hk) e2 g3
  rw [e, htop, hx]
  refine ⟨ks, post, w, by omega, ht, e1, hend, fun h0 => g4 h0 n, ?_, hdl⟩
  have hc : chk f.flat [1] = 0 := by
    have := h
    unfold checkB at this
    rwa [if_neg h1, if_neg (by omega)] at this
  have h5 : chk (f.flat.take k ++ ((F.cons x ks .nil).flat ++ post)) [1] = 0 := by rw [← e1, List.take_append_drop]; exact hc
  rw [← List.append_assoc] at h5
  exact chk_suffix _ _ _ h5

/-- Where the walk stops. -/
theorem walk_end {l : List Nd} (h : checkB l = 0) {k nx dp er : Nat} (hk : k < l.length) (hw : WalkIs l k 1 nx dp er) : er = 0 ∧ EndIs (depB l) k nx ∧ (k = 0 → dp = F.top (depB l)) := by
  obtain ⟨ks, post, wf, ht, ht16, e1, hend, _, ⟨st, hst⟩, _⟩ := body_at h hk
  have h0 : ∀ st, chk (l.drop k) (1 :: st) = chk post st := fun st => by
    rw [e1]
    have := F.chk_flat (F.cons l[k] ks .nil) 1 post st wf (by omega)
    simpa [F.num] using this
  rcases hw with ⟨rfl, hlt, y, cs, wy, hy, e2, hle, hdp⟩ | ⟨hne, hall⟩
  · rw [e1] at e2
    obtain ⟨hf, hp⟩ := F.flat_inj _ _ _ _ wf wy rfl e2
    have hlen : nx = k + (F.cons l[k] ks .nil).flat.length := by
      have h3 := congrArg List.length e1
      rw [hp, List.length_append, List.length_drop, List.length_drop] at h3
      omega
    refine ⟨rfl, by rw [hlen]; exact hend, fun hk0 => ?_⟩
    subst hk0
    obtain ⟨_, h2, f, rfl, n, wf', ht'⟩ := body_of h
    obtain ⟨_, e⟩ := body_is n wf' ht' h2
    have hne : f ≠ .nil := by rintro rfl; simp [F.num] at n
    have htop := F.top_deps f 0 hne
    rw [Nat.zero_add, Nat.zero_add] at htop
    rw [e, htop]
    have e4 : f.flat ++ [] = (F.cons f.flat[0] ks .nil).flat ++ post := by rw [List.append_nil]; exact e1
    obtain ⟨hff, _⟩ := F.flat_inj _ _ _ _ wf' wf (by rw [n]; rfl) e4
    rw [← hf, ← hff] at hdp
    omega
  · have := hall st
    rw [h0 st, hst] at this
    exact absurd this.symm hne

set_option maxRecDepth 100000 in
set_option maxHeartbeats 400000 in
theorem refCheck_any (A : Option Addr) (n c : Nat) (l : List Nd) (w : World) (h : Ns w w.heap.size A n c l) (hf : ∀ x ∈ l, x.Fits) :
    Calls Try.prog 30 #[.slice A n c] w fun e w' => e = .returned (.int .i64 (checkB l : Int)) ∧ Below w.heap.size w w' := by
  have HL := Lib.hid h.len
  by_cases h0 : n = 0
  · have hl : l = [] := List.eq_nil_of_length_eq_zero (by rw [HL.out, h0])
    have HC : Hid (checkB l = 1) := by subst hl; exact rfl
    subst h0
    go_enter Try.func30, Try.ntmps30
    go_wp2
    go_ret
    exact ⟨by rw [HC.out]; rfl, Below.refl _ _⟩
  have hne : l ≠ [] := by
    intro e
    have := HL.out
    rw [e] at this
    exact h0 this.symm
  have h0' : ((n : Int) == 0) = false := by simp; omega
  by_cases h128 : 128 < n
  · have HC : Hid (checkB l = 3) := Lib.hid (by unfold checkB; rw [if_neg hne, if_pos (by rw [HL.out]; exact h128)])
    have h128' : (128 : Int) < (n : Int) := by omega
    go_enter Try.func30, Try.ntmps30
    go_wp2
    go_ret
    exact ⟨by rw [HC.out]; rfl, Below.refl _ _⟩
  have h128' : ¬ (128 : Int) < (n : Int) := by omega
  have HC : Hid (checkB l = chk l [1]) := by
    refine Lib.hid ?_
    unfold checkB
    rw [if_neg hne, if_neg (by rw [HL.out]; omega)]
  have hw := walk_any A n c w.heap.size l hf n 0 1 w (by omega) (by omega) (by omega) (by omega) h (Nat.le_refl _)
  clear hf hne
  go_enter Try.func30, Try.ntmps30
  go_wp2_with fail
  refine hw.mono ?_
  rintro e w1 ⟨nx, dp, er, rfl, hW, hb⟩
  rcases hW with ⟨rfl, hlt, y, cs, wy, hy, e2, hle, hdp⟩ | ⟨hne, hall⟩
  · have HT : Hid (chk l [1] = chk (l.drop nx) []) := by
      refine Lib.hid ?_
      have := F.chk_flat (F.cons y cs .nil) 1 (l.drop nx) [] wy (by omega)
      rw [List.drop_zero] at e2
      rw [← e2] at this
      simpa [F.num] using this
    clear e2 wy hy hdp hw
    by_cases hnx : nx < n
    · have HE : Hid (checkB l = 4) := by
        refine Lib.hid ?_
        rw [HC.out, HT.out, List.drop_eq_getElem_cons (by rw [HL.out]; exact hnx)]
        rfl
      go_wp2
      go_ret
      exact ⟨by rw [HE.out]; rfl, hb⟩
    · have HE : Hid (checkB l = 0) := by
        refine Lib.hid ?_
        rw [HC.out, HT.out, List.drop_eq_nil_of_le (by rw [HL.out]; omega)]
        rfl
      go_wp2
      go_ret
      exact ⟨by rw [HE.out]; rfl, hb⟩
  · have HE : Hid (checkB l = er) := by
      refine Lib.hid ?_
      have := hall []
      rw [List.drop_zero] at this
      rw [HC.out, this]
    have hne' : ((er : Int) == 0) = false := by simp; omega
    clear hall hw
    go_wp2
    go_ret
    exact ⟨by rw [HE.out]; rfl, hb⟩


end Go.Proofs.Ytlcbcggcmmlfdaa
