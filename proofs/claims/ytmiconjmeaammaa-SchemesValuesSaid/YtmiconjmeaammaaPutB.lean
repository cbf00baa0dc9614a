/- What Put tells. Condition: nodes and terms can be read. -/
import Derived.Test.YtmiconjmeaammaaPut
namespace Go.Proofs.Ytmiconjmeaammaa
open Go.RowKit

theorem lab_in : ∀ (l : List Nd) (k : Nat) (ss : List Nat), ∀ p ∈ lab k l ss, p.n < k + l.length ∧ p.p ≤ 2
  | [], _, _, p, h => by simp [lab] at h
  | _ :: _, _, [], p, h => by simp [lab] at h
  | x :: l, k, s :: ss, p, h => by
    simp only [lab, List.mem_append] at h
    rcases h with h | h
    · unfold labS at h
      split at h
      · simp only [List.mem_cons, List.not_mem_nil, or_false] at h
        rcases h with rfl | rfl <;> simp
      · simp only [List.mem_cons, List.not_mem_nil, or_false] at h
        subst h
        simp
    · have := lab_in l (k + 1) ss p h
      rw [List.length_cons]
      omega
theorem eff_in : ∀ (l : List Nd) (k : Nat) (ss : List Nat), ∀ p ∈ eff k l ss, p.n < k + l.length ∧ p.p ≤ 2
  | [], _, _, p, h => by simp [eff] at h
  | _ :: _, _, [], p, h => by simp [eff] at h
  | x :: l, k, s :: ss, p, h => by
    simp only [eff, List.mem_append] at h
    rcases h with h | h
    · unfold effS at h
      split at h
      · simp only [List.mem_cons, List.not_mem_nil, or_false] at h
        subst h
        simp
      · simp at h
    · have := eff_in l (k + 1) ss p h
      rw [List.length_cons]
      omega
theorem labB_in (l : List Nd) : ∀ p ∈ labB l, p.n < l.length ∧ p.p ≤ 2 := by
  unfold labB
  split
  · intro p hp
    have := lab_in l 0 _ p hp
    omega
  · simp
theorem effB_in (l : List Nd) : ∀ p ∈ effB l, p.n < l.length ∧ p.p ≤ 2 := by
  unfold effB
  split
  · intro p hp
    have := eff_in l 0 _ p hp
    omega
  · simp

/-- What Put tells: its error, and the body. -/
def putR (l : List Nd) (ts us : List Tm) : Nat := if checkB l ≠ 0 then 4 else if ts.length = (labB l).length ∧ us.length = (effB l).length then 0 else 1
def putV (l : List Nd) (ts us : List Tm) : List Nd := if putR l ts us = 0 then putB l ts us else []

set_option maxRecDepth 100000 in
set_option maxHeartbeats 2000000 in
theorem put_any (A A1 A2 : Option Addr) (n c n1 c1 n2 c2 : Nat) (l : List Nd) (ts us : List Tm) (w : World) (hr : Ns w w.heap.size A n c l) (hf : ∀ x ∈ l, x.Fits) (h1 : Rs tmc 2 w w.heap.size A1 n1 c1 ts) (h2 : Rs tmc 2 w w.heap.size A2 n2 c2 us) :
    Calls Try.prog 21 #[.slice A n c, .slice A1 n1 c1, .slice A2 n2 c2] w fun e w' => ∃ A' k c', e = .returned (.tuple #[.slice A' k c', .int .i64 (putR l ts us : Int)]) ∧ w'.ownsRow w.heap.size 64 10 (.slice A' k c') k ((putV l ts us).flatMap ndc) ∧ Below w.heap.size w w' := by
  have HF := Lib.hid hf
  have HR := Lib.hid hr
  have H1 := Lib.hid h1
  have H2 := Lib.hid h2
  have hcheck := check_any A n c l w hr hf
  have HL1 := Lib.hid h1.len
  have HL2 := Lib.hid h2.len
  have HLN := Lib.hid hr.len
  clear hf hr h1 h2
  go_enter Try.func21, Try.ntmps21
  go_wp2_with fail
  refine hcheck.mono ?_
  rintro e w1 ⟨rfl, hb1⟩
  clear hcheck
  by_cases hc : checkB l = 0
  case neg =>
    have hne : ((checkB l : Int) != 0) = true := by simp; omega
    have HP : Hid (putR l ts us = 4 ∧ putV l ts us = []) := Lib.hid (by
      have h4 : putR l ts us = 4 := by unfold putR; rw [if_pos hc]
      exact ⟨h4, by unfold putV; rw [h4, if_neg (by decide)]⟩)
    clear hc
    generalize checkB l = r at *
    go_wp2
    refine bodyPost_ret (v := .tuple #[.slice none 0 0, .int .i64 4]) (by simp [results, Try.results21, go_sem]) rfl ⟨none, 0, 0, by rw [HP.out.1]; rfl, by rw [HP.out.2]; exact World.ownsRow_nil _ _ _ _, hb1⟩
  rw [hc]
  go_wp2_with fail
  refine (of_any A n c l w1 (HR.out.at_size (Nat.le_refl _) hb1) HF.out).mono ?_
  rintro e w2 ⟨v, u, rfl, hT⟩
  have hb2 := hb1.trans (hT.bel.mono hb1.size)
  have hl1 := labB_len l
  have hl2 := effB_len l
  obtain ⟨Av, cv, rfl⟩ := rs_own_form hT.o2
  obtain ⟨Au, cu, rfl⟩ := rs_own_form hT.o3
  have HT := Lib.hid hT
  have HPF : Hid (∀ ts us, ts.length = (labB l).length → us.length = (effB l).length → fillB (fillB l (labB l) ts) (effB l) us = putB l ts us) := Lib.hid fun ts us => putB_fill hc
  have hn0 := check_len hc
  rw [HLN.out] at hn0
  have HP : Hid (putR l ts us = if n1 = (labB l).length ∧ n2 = (effB l).length then 0 else 1) := Lib.hid (by unfold putR; rw [if_neg (by simp [hc]), HL1.out, HL2.out])
  have HLI := Lib.hid (labB_in l)
  have HEI := Lib.hid (effB_in l)
  clear hT hc
  generalize labB l = ls at *
  generalize effB l = es at *
  generalize hkl : ls.length = kl at *
  generalize hke : es.length = ke at *
  have HKL := Lib.hid hkl
  have HKE := Lib.hid hke
  clear hkl hke
  by_cases g1 : n1 = kl
  case neg =>
    have g1' : ((n1 : Int) != (kl : Int)) = true := by simp; omega
    have HQ : Hid (putR l ts us = 1 ∧ putV l ts us = []) := Lib.hid (by
      have h4 : putR l ts us = 1 := by rw [HP.out, if_neg (by omega)]
      exact ⟨h4, by unfold putV; rw [h4, if_neg (by decide)]⟩)
    go_wp2
    refine bodyPost_ret (v := .tuple #[.slice none 0 0, .int .i64 1]) (by simp [results, Try.results21, go_sem]) rfl ⟨none, 0, 0, by rw [HQ.out.1]; rfl, by rw [HQ.out.2]; exact World.ownsRow_nil _ _ _ _, hb2⟩
  subst g1
  have g1' : ((n1 : Int) != (n1 : Int)) = false := by simp
  by_cases g2 : n2 = ke
  case neg =>
    have g2' : ((n2 : Int) != (ke : Int)) = true := by simp; omega
    have HQ : Hid (putR l ts us = 1 ∧ putV l ts us = []) := Lib.hid (by
      have h4 : putR l ts us = 1 := by rw [HP.out, if_neg (by omega)]
      exact ⟨h4, by unfold putV; rw [h4, if_neg (by decide)]⟩)
    go_wp2
    refine bodyPost_ret (v := .tuple #[.slice none 0 0, .int .i64 1]) (by simp [results, Try.results21, go_sem]) rfl ⟨none, 0, 0, by rw [HQ.out.1]; rfl, by rw [HQ.out.2]; exact World.ownsRow_nil _ _ _ _, hb2⟩
  subst g2
  have g2' : ((n2 : Int) != (n2 : Int)) = false := by simp
  have HQ : Hid (putR l ts us = 0 ∧ putV l ts us = putB l ts us) := Lib.hid (by
    have h4 : putR l ts us = 0 := by rw [HP.out, if_pos ⟨rfl, rfl⟩]
    exact ⟨h4, by unfold putV; rw [h4, if_pos rfl]⟩)
  go_wp2_with fail
  refine (clone_any A n c w2.heap.size l w2 (HR.out.at_size (Nat.le_refl _) hb2) (Nat.le_refl _) (by omega) (by omega)).mono ?_
  rintro e w3 ⟨A3, c3, rfl, hown, hb3⟩
  go_wp2_with fail
  refine (finderIn_any A3 n c3 _).mono ?_
  rintro e w4 ⟨rfl, rfl⟩
  have hal : Below w3.heap.size w3 (w3.alloc (.cells #[.slice A3 n c3] 22)) := (Below.refl _ _).alloc (Nat.le_refl _) _
  have hbox : (w3.alloc (.cells #[.slice A3 n c3] 22)).cell? ⟨w3.heap.size, 0, none⟩ = some (.slice A3 n c3) := (cell_blk (heap_alloc_new w3 _)).trans rfl
  have hb4 : Below w2.heap.size w2 (w3.alloc (.cells #[.slice A3 n c3] 22)) := hb3.trans (hal.mono hb3.size)
  have hown4 := own_behind hown hal
  have hne : (Value.slice A3 n c3).ownBlock ≠ some w3.heap.size := fun e => by have := (own_block hown e).2.1; omega
  have hs1 : Rs spc 5 w2 w2.heap.size Av n1 cv ls := by
    have := HT.out.o2
    rw [HKL.out] at this
    exact Rs.of_own spc_len (by decide) this
  have hs2 : Rs spc 5 w2 w2.heap.size Au n2 cu es := by
    have := HT.out.o3
    rw [HKE.out] at this
    exact Rs.of_own spc_len (by decide) this
  have ht1 := H1.out.at_size (Nat.le_refl _) hb2
  have ht2 := H2.out.at_size (Nat.le_refl _) hb2
  replace hs1 := hs1.below hb4
  replace hs2 := hs2.below hb4
  replace ht1 := ht1.below hb4
  replace ht2 := ht2.below hb4
  have hsz4 := hb4.size
  have hbx := World.block_lt_of_cell? (w3.alloc (.cells #[.slice A3 n c3] 22)) ⟨w3.heap.size, 0, none⟩ hbox
  generalize w3.alloc (.cells #[.slice A3 n c3] 22) = w4 at *
  generalize w3.heap.size = bx at *
  go_wp2_with fail
  refine (fill_any bx w2.heap.size w2.heap.size A3 Av A1 n c3 n1 cv c1 l ls ts w4 hbox hne hown4 hs1 ht1 (Nat.le_refl _) hsz4 (by rw [← HLN.out]; exact HLI.out)).mono ?_
  rintro e w5 ⟨rfl, hown5, hk5⟩
  have hlow5 : ∀ k, k < w2.heap.size → w5.heap[k]? = w4.heap[k]? := fun k h => hk5.block k (by omega) fun e => by have := (own_block hown4 e).1; omega
  have hbox5 := (hk5.cell (p := ⟨bx, 0, none⟩) hbx hne).trans hbox
  go_wp2_with fail
  refine (fill_any bx w2.heap.size w2.heap.size A3 Au A2 n c3 n2 cu c2 _ es us w5 hbox5 hne hown5 (hs2.keep hlow5) (ht2.keep hlow5) (Nat.le_refl _) (Nat.le_trans hsz4 hk5.size) (by rw [← HLN.out]; exact HEI.out)).mono ?_
  rintro e w6 ⟨rfl, hown6, hk6⟩
  have hb5 : Below w2.heap.size w4 w5 := hk5.below hsz4 fun b e => (own_block hown4 e).1
  have hb6 : Below w2.heap.size w5 w6 := hk6.below (Nat.le_trans hsz4 hk5.size) fun b e => (own_block hown4 e).1
  have hbe := hb2.trans (((hb4.trans hb5).trans hb6).mono hb2.size)
  have hfin : w6.ownsRow w.heap.size 64 10 (.slice A3 n c3) n ((putV l ts us).flatMap ndc) := by
    rw [HQ.out.2, ← HPF.out ts us HL1.out HL2.out]
    refine ⟨hown6.1, ?_⟩
    rcases hown6.2 with h | ⟨g, cap, cur, hv, hg, r⟩
    · exact .inl h
    · exact .inr ⟨g, cap, cur, hv, Nat.le_trans hb2.size hg, r⟩
  go_wp2
  exact bodyPost_ret (v := .tuple #[.slice A3 n c3, .int .i64 0]) (by simp [results, Try.results21, go_sem]) rfl ⟨A3, n, c3, by rw [HQ.out.1]; rfl, hfin, hbe⟩
end Go.Proofs.Ytmiconjmeaammaa
