/- What the document's Of and Put tell. Condition: nodes and terms can be read. -/
import Derived.Test.YtmiconjmeaammaaGreatDoorRefBelow
namespace Go.Proofs.YtmiconjmeaammaaGreatDoor
open Go.RowKit

/-- The spots of a body that may be, as those of its tree. -/
theorem body_spots {l : List Nd} (hc : checkB l = 0) : ∃ (x : Nd) (ks : F), l = (F.cons x ks .nil).flat ∧ (F.cons x ks .nil).wf ∧ labT 0 (.cons x ks .nil) [0] = labB l ∧ effT 0 (.cons x ks .nil) [0] = effB l := by
  obtain ⟨h1, h2, f, rfl, fn, fw, ht⟩ := body_of hc
  cases f with
  | nil => simp [F.num] at fn
  | cons x ks r =>
    obtain rfl : r = .nil := by
      cases r with
      | nil => rfl
      | cons _ _ _ => simp [F.num] at fn
    have e := sds_flat (.cons x ks .nil) [0] [] [] fw rfl
    rw [List.append_nil, List.append_nil] at e
    have e' : sds (F.cons x ks .nil).flat [0] = (F.cons x ks .nil).sd [0] := by rw [e]; exact List.append_nil _
    refine ⟨x, ks, rfl, fw, ?_, ?_⟩
    · unfold labT labB
      rw [if_pos hc, e']
    · unfold effT effB
      rw [if_pos hc, e']

set_option maxRecDepth 100000 in
set_option maxHeartbeats 1000000 in
theorem refOf_any (A : Option Addr) (n c : Nat) (l : List Nd) (w : World) (hr : Ns w w.heap.size A n c l) (hf : ∀ x ∈ l, x.Fits) :
    Calls Tryz.prog 36 #[.slice A n c] w fun e w' => ∃ v u, e = .returned (.tuple #[v, u]) ∧ Told w w' v u (labB l) (effB l) := by
  have hcheck := refCheck_any A n c l w hr hf
  have HR := Lib.hid hr
  clear hf
  by_cases hc : checkB l = 0
  case neg =>
    have hne : ((checkB l : Int) != 0) = true := by simp; omega
    have HL : Hid (labB l = [] ∧ effB l = []) := Lib.hid (by unfold labB effB; rw [if_neg hc, if_neg hc]; exact ⟨rfl, rfl⟩)
    generalize checkB l = r at *
    go_enter Tryz.func36, Tryz.ntmps36
    go_wp2_with fail
    refine hcheck.mono ?_
    rintro e w1 ⟨rfl, hb1⟩
    go_wp2
    refine bodyPost_ret (v := .tuple #[.slice none 0 0, .slice none 0 0]) (by simp [results, Tryz.results36, go_sem]) rfl ⟨_, _, rfl, ?_⟩
    rw [HL.out.1, HL.out.2]
    exact ⟨World.ownsRow_nil _ _ _ _, World.ownsRow_nil _ _ _ _, (fun _ e => by cases e), hb1⟩
  obtain ⟨x, ks, e1, hw, e3, e4⟩ := body_spots hc
  have hl := check_len hc
  have hn : n ≤ 1000 := by rw [← hr.len]; omega
  rw [hc] at hcheck
  have HB := fun (W : World) (hb : Below w.heap.size w W) => refBelow_any A n c w.heap.size l hn _ x ks 0 0 W [] (Nat.le_refl _) hw (by rw [List.drop_zero, ← e1, List.append_nil]) (by omega) (HR.out.below hb) hb.size
  have HB := Lib.hid HB
  rw [e3, e4] at HB
  clear hc hr e1 hw e3 e4 hl
  go_enter Tryz.func36, Tryz.ntmps36
  go_wp2_with fail
  refine hcheck.mono ?_
  rintro e w1 ⟨rfl, hb1⟩
  clear hcheck
  go_wp2_with fail
  refine (HB.out w1 hb1).mono ?_
  rintro e w2 ⟨v, u, rfl, hT⟩
  go_wp2
  refine bodyPost_ret (v := .tuple #[v, u]) (by simp [results, Tryz.results36, go_sem]) rfl ⟨_, _, rfl, own_lower hT.o2 hb1.size, own_lower hT.o3 hb1.size, hT.ap, hb1.trans (hT.bel.mono hb1.size)⟩

theorem set2_far {W : World} {g a b : Nat} {u v : Value} {p : Addr} (h : p.block ≠ g) : ((W.setCell ⟨g, a, none⟩ u).setCell ⟨g, b, none⟩ v).cell? p = W.cell? p :=
  (World.cell?_setCell_other _ ⟨g, b, none⟩ p v (fun e => h (by rw [← e]))).trans (World.cell?_setCell_other W ⟨g, a, none⟩ p u (fun e => h (by rw [← e])))

theorem lab_part : ∀ (l : List Nd) (k : Nat) (ss : List Nat), ∀ p ∈ lab k l ss, p.p = 0 ∨ p.p = 1
  | [], _, _, p, h => by simp [lab] at h
  | _ :: _, _, [], p, h => by simp [lab] at h
  | x :: l, k, s :: ss, p, h => by
    simp only [lab, List.mem_append] at h
    rcases h with h | h
    · unfold labS at h
      split at h
      · simp only [List.mem_cons, List.not_mem_nil, or_false] at h
        rcases h with rfl | rfl <;> simp
      · simp only [List.mem_cons, List.not_mem_nil, or_false] at h
        subst h
        simp
    · exact lab_part l (k + 1) ss p h
theorem eff_part : ∀ (l : List Nd) (k : Nat) (ss : List Nat), ∀ p ∈ eff k l ss, p.p = 2
  | [], _, _, p, h => by simp [eff] at h
  | _ :: _, _, [], p, h => by simp [eff] at h
  | x :: l, k, s :: ss, p, h => by
    simp only [eff, List.mem_append] at h
    rcases h with h | h
    · unfold effS at h
      split at h
      · simp only [List.mem_cons, List.not_mem_nil, or_false] at h
        subst h
        rfl
      · simp at h
    · exact eff_part l (k + 1) ss p h
theorem labB_part (l : List Nd) : ∀ p ∈ labB l, p.p = 0 ∨ p.p = 1 := by
  unfold labB
  split
  · exact lab_part l 0 _
  · simp
theorem effB_part (l : List Nd) : ∀ p ∈ effB l, p.p = 2 := by
  unfold effB
  split
  · exact eff_part l 0 _
  · simp

set_option maxRecDepth 100000 in
set_option maxHeartbeats 8000000 in
theorem refPut_any (A A1 A2 : Option Addr) (n c n1 c1 n2 c2 : Nat) (l : List Nd) (ts us : List Tm) (w : World) (hr : Ns w w.heap.size A n c l) (hf : ∀ x ∈ l, x.Fits) (h1 : Rs tmc 2 w w.heap.size A1 n1 c1 ts) (h2 : Rs tmc 2 w w.heap.size A2 n2 c2 us) :
    Calls Tryz.prog 38 #[.slice A n c, .slice A1 n1 c1, .slice A2 n2 c2] w fun e w' => ∃ A' k c', e = .returned (.tuple #[.slice A' k c', .int .i64 (putR l ts us : Int)]) ∧ w'.ownsRow w.heap.size 110 10 (.slice A' k c') k ((putV l ts us).flatMap ndc) ∧ Below w.heap.size w w' := by
  have HF := Lib.hid hf
  have HR := Lib.hid hr
  have H1 := Lib.hid h1
  have H2 := Lib.hid h2
  have hcheck := refCheck_any A n c l w hr hf
  have HL1 := Lib.hid h1.len
  have HL2 := Lib.hid h2.len
  have HLN := Lib.hid hr.len
  have htop1 := h1.top
  have hcap1 := h1.cap
  have htop2 := h2.top
  have hcap2 := h2.cap
  unfold maxLen at htop1 htop2
  have hmx : Tryz.prog.follows .mixedOrders = true := by kernel_rfl
  clear hf hr h1 h2
  go_enter Tryz.func38, Tryz.ntmps38
  go_wp2_with fail
  refine hcheck.mono ?_
  rintro e w1 ⟨rfl, hb1⟩
  clear hcheck
  by_cases hc : checkB l = 0
  case neg =>
    have hne : ((checkB l : Int) != 0) = true := by simp; omega
    have HP : Hid (putR l ts us = 4 ∧ putV l ts us = []) := Lib.hid (by
      have h4 : putR l ts us = 4 := by unfold putR; rw [if_pos hc]
      exact ⟨h4, by unfold putV; rw [h4, if_neg (by decide)]⟩)
    clear hc
    generalize checkB l = r at *
    go_wp2
    refine bodyPost_ret (v := .tuple #[.slice none 0 0, .int .i64 4]) (by simp [results, Tryz.results38, go_sem]) rfl ⟨none, 0, 0, by rw [HP.out.1]; rfl, by rw [HP.out.2]; exact World.ownsRow_nil _ _ _ _, hb1⟩
  rw [hc]
  go_wp2_with fail
  refine (refOf_any A n c l w1 (HR.out.at_size (Nat.le_refl _) hb1) HF.out).mono ?_
  rintro e w2 ⟨v, u, rfl, hT⟩
  have hb2 := hb1.trans (hT.bel.mono hb1.size)
  have hl1 := labB_len l
  have hl2 := effB_len l
  obtain ⟨Av, cv, rfl⟩ := rs_own_form hT.o2
  obtain ⟨Au, cu, rfl⟩ := rs_own_form hT.o3
  have HT := Lib.hid hT
  have HPF : Hid (∀ ts us, ts.length = (labB l).length → us.length = (effB l).length → fillB (fillB l (labB l) ts) (effB l) us = putB l ts us) := Lib.hid fun ts us => putB_fill hc
  have hn0 := check_len hc
  rw [HLN.out] at hn0
  have HP : Hid (putR l ts us = if n1 = (labB l).length ∧ n2 = (effB l).length then 0 else 1) := Lib.hid (by unfold putR; rw [if_neg (by simp [hc]), HL1.out, HL2.out])
  have HLI := Lib.hid (labB_in l)
  have HEI := Lib.hid (effB_in l)
  have HLP := Lib.hid (labB_part l)
  have HEP := Lib.hid (effB_part l)
  clear hT hc
  generalize labB l = ls at *
  generalize effB l = es at *
  generalize hkl : ls.length = kl at *
  generalize hke : es.length = ke at *
  have HKL := Lib.hid hkl
  have HKE := Lib.hid hke
  clear hkl hke
  by_cases g1 : n1 = kl
  case neg =>
    have g1' : ((n1 : Int) != (kl : Int)) = true := by simp; omega
    have HQ : Hid (putR l ts us = 1 ∧ putV l ts us = []) := Lib.hid (by
      have h4 : putR l ts us = 1 := by rw [HP.out, if_neg (by omega)]
      exact ⟨h4, by unfold putV; rw [h4, if_neg (by decide)]⟩)
    go_wp2
    refine bodyPost_ret (v := .tuple #[.slice none 0 0, .int .i64 1]) (by simp [results, Tryz.results38, go_sem]) rfl ⟨none, 0, 0, by rw [HQ.out.1]; rfl, by rw [HQ.out.2]; exact World.ownsRow_nil _ _ _ _, hb2⟩
  subst g1
  have g1' : ((n1 : Int) != (n1 : Int)) = false := by simp
  by_cases g2 : n2 = ke
  case neg =>
    have g2' : ((n2 : Int) != (ke : Int)) = true := by simp; omega
    have HQ : Hid (putR l ts us = 1 ∧ putV l ts us = []) := Lib.hid (by
      have h4 : putR l ts us = 1 := by rw [HP.out, if_neg (by omega)]
      exact ⟨h4, by unfold putV; rw [h4, if_neg (by decide)]⟩)
    go_wp2
    refine bodyPost_ret (v := .tuple #[.slice none 0 0, .int .i64 1]) (by simp [results, Tryz.results38, go_sem]) rfl ⟨none, 0, 0, by rw [HQ.out.1]; rfl, by rw [HQ.out.2]; exact World.ownsRow_nil _ _ _ _, hb2⟩
  subst g2
  have g2' : ((n2 : Int) != (n2 : Int)) = false := by simp
  have HQ : Hid (putR l ts us = 0 ∧ putV l ts us = putB l ts us) := Lib.hid (by
    have h4 : putR l ts us = 0 := by rw [HP.out, if_pos ⟨rfl, rfl⟩]
    exact ⟨h4, by unfold putV; rw [h4, if_pos rfl]⟩)
  have hr2 := HR.out.at_size (Nat.le_refl _) hb2
  have hs1 : Rs spc 5 w2 w2.heap.size Av n1 cv ls := by
    have := HT.out.o2
    rw [HKL.out] at this
    exact Rs.of_own spc_len (by decide) this
  have hs2 : Rs spc 5 w2 w2.heap.size Au n2 cu es := by
    have := HT.out.o3
    rw [HKE.out] at this
    exact Rs.of_own spc_len (by decide) this
  have ht1 := H1.out.at_size (Nat.le_refl _) hb2
  have ht2 := H2.out.at_size (Nat.le_refl _) hb2
  clear HP HT
  go_wp2_with (at_builtin; refine wpList_append_nd rfl (.const (.slice none 0 0)) (.tmp 33) rfl w2.heap.size _ 0 [] rfl (World.ownsRow_nil _ _ _ _) _ A n c l rfl hr2 (by omega) (Nat.le_refl _) ?_; intro A3 k3 c3 w3 HK3 HA3)
  obtain rfl : k3 = n := by have := HK3.out; omega
  have hown := HA3.out.own
  rw [List.nil_append] at hown
  have hb3 : Below w2.heap.size w2 w3 := (Below.refl _ _).grown HA3.out.grown (Nat.le_refl _) fun j hj => by cases hj
  have HSL : Hid (∀ W, Below w2.heap.size w2 W → Rs spc 5 W w2.heap.size Av n1 cv ls ∧ Rs tmc 2 W w2.heap.size A1 n1 c1 ts) := Lib.hid fun W h => ⟨hs1.below h, ht1.below h⟩
  have HSE : Hid (∀ W, Below w2.heap.size w2 W → Rs spc 5 W w2.heap.size Au n2 cu es ∧ Rs tmc 2 W w2.heap.size A2 n2 c2 us) := Lib.hid fun W h => ⟨hs2.below h, ht2.below h⟩
  have H0 : Hid (FlRel ls ts l w2.heap.size A3 k3 c3 w3 (.int .i64 0) w3) := Lib.hid ⟨0, rfl, Nat.zero_le _, by simpa [fillB] using hown, Kept.refl _ _⟩
  have HO3 := Lib.hid hown
  have HB3 := Lib.hid hb3
  clear hown hb3 hs1 hs2 ht1 ht2 hr2 HA3 HK3
  go_loopw [11] (fun v11 wr => FlRel ls ts l w2.heap.size A3 k3 c3 w3 v11 wr) (fun v11 _ => n1 - (intOf v11).toNat)
  case atStart => exact H0.out
  case round =>
    clear H0
    obtain ⟨k, rfl, hk, hown, hkp⟩ := hrel
    have hbr : Below w2.heap.size w2 wr := HB3.out.trans (hkp.below HB3.out.size fun b e => (own_block HO3.out e).1)
    by_cases hlt : k < n1
    · have hk1 : k < ls.length := by rw [HKL.out]; exact hlt
      have hk2 : k < ts.length := by rw [HL1.out]; exact hlt
      obtain ⟨hps, hts⟩ := HSL.out wr hbr
      obtain ⟨b1, o1, rfl, hb1', s0, s1, s2, s3, s4⟩ := spot_at hps hk1
      obtain ⟨b2, o2, rfl, hb2', t0, t1⟩ := term_at hts hk2
      obtain ⟨hpn, -⟩ := HLI.out _ (List.getElem_mem hk1)
      have hpp := HLP.out _ (List.getElem_mem hk1)
      have HSTEP : Hid (fillB l (ls.take (k + 1)) (ts.take (k + 1)) = (fillB l (ls.take k) (ts.take k)).set ls[k].n (((fillB l (ls.take k) (ts.take k)).getD ls[k].n ⟨0, 0, [], 0, false, 0, false, 0, false, 0⟩).put ls[k].p ts[k])) := by
        refine Lib.hid ?_
        rw [List.take_succ_eq_append_getElem hk1, List.take_succ_eq_append_getElem hk2]
        exact fill_snoc _ _ l _ _ (by rw [List.length_take, List.length_take]; omega)
      have hmk := rs_own_len ndc_len (by decide) hown
      generalize fillB l (ls.take k) (ts.take k) = mk at *
      generalize hmk1 : fillB l (ls.take (k + 1)) (ts.take (k + 1)) = mk1 at *
      have HMK1 := Lib.hid hmk1
      clear hmk1
      generalize ls[k] = q at *
      generalize ts[k] = t at *
      obtain ⟨qn, qp, qs, qv, qz⟩ := q
      simp only at s0 s1 s2 s3 s4 hpn hpp HSTEP
      rw [HLN.out] at hpn
      have hald : Below wr.heap.size wr wr.drew := (Below.refl _ _).drew
      obtain ⟨wd, hwd⟩ : ∃ wd, wd = wr.drew := ⟨_, rfl⟩
      rw [← hwd] at hald
      have hownd := own_behind hown hald
      obtain ⟨g, rfl, hgb, hgl, hgc, hgf⟩ := own_node hownd (k := qn) (by omega)
      have HWD := Lib.hid hwd
      have HS0 : Hid (wd.cell? ⟨b1, o1 + k * 5, none⟩ = some (.int .i64 (qn : Int)) ∧ wd.cell? ⟨b2, o2 + k * 2, none⟩ = some (.bool t.1) ∧ wd.cell? ⟨b2, o2 + k * 2 + 1, none⟩ = some (.int .u64 t.2)) := Lib.hid (by rw [hwd]; exact ⟨s0, t0, t1⟩)
      have hg1 : b1 ≠ g := by omega
      have hg2 : b2 ≠ g := by omega
      have hqm : qn < mk.length := by omega
      rw [List.getD_eq_getElem?_getD, List.getElem?_eq_getElem hqm, Option.getD_some] at HSTEP
      have HKP := Lib.hid (hkp.trans (Kept.of_below hald))
      have HHW := Lib.hid hownd
      clear hps hts hown hkp hk1 hk2 s2 s3 s4 hald hownd hwd
      rcases hpp with rfl | rfl
      · replace s1 : wr.cell? ⟨b1, o1 + k * 5 + 1, none⟩ = some (.int .u8 0) := s1
        have hc0 := hgc 4 _ rfl
        have hc1 := hgc 5 _ rfl
        have hz0 := hgf (qn * 10 + 4)
        have hz1 := hgf (qn * 10 + 5)
        have HW := Lib.hid (own_put HHW.out hqm 0 (by decide) t)
        rw [← HSTEP.out] at HW
        have HKW : Hid (Kept (fun b => (Value.slice (some ⟨g, 0, none⟩) k3 c3).ownBlock = some b) w3 ((wd.setCell ⟨g, qn * 10 + 4, none⟩ (.bool t.1)).setCell ⟨g, qn * 10 + 5, none⟩ (.int .u64 t.2))) := Lib.hid ((HKP.out.setCell (p := ⟨g, qn * 10 + 4, none⟩) (.inl rfl) _).setCell (p := ⟨g, qn * 10 + 5, none⟩) (.inl rfl) _)
        have HREL := Lib.hid (show FlRel ls ts l w2.heap.size (some ⟨g, 0, none⟩) k3 c3 w3 (.int .i64 ((k : Int) + 1)) ((wd.setCell ⟨g, qn * 10 + 4, none⟩ (.bool t.1)).setCell ⟨g, qn * 10 + 5, none⟩ (.int .u64 t.2)) from ⟨k + 1, by go_num, by rw [HKL.out]; omega, by rw [HMK1.out]; exact HW.out, HKW.out⟩)
        have HCC := Lib.hid (And.intro (And.intro hc0 hc1) (And.intro hz0 hz1))
        clear hgc hgf HW HKW HHW HKP HSTEP HMK1 hc0 hc1 hz0 hz1
        go_wp2_with fail
        refine wp_region_ord [0, 1, 2, 3, 4, 5, 6, 7, 8, 9, 10, 11, 12] [12] 13 (fun w' => w'.cell? ⟨b1, o1 + k * 5, none⟩ = some (.int .i64 (qn : Int)) ∧ w'.cell? ⟨b2, o2 + k * 2, none⟩ = some (.bool t.1) ∧ w'.cell? ⟨b2, o2 + k * 2 + 1, none⟩ = some (.int .u64 t.2)) hmx (by kernel_rfl) (by kernel_rfl) (by kernel_rfl) (fun _ _ _ _ _ h => h) ⟨s0, t0, t1⟩ ?_
        simp only [steps, List.getElem?_cons_zero, List.getElem?_cons_succ]
        repeat (first | (refine ord_yes (v := ?_) rfl rfl ?_ ?_; rotate_left; (focus (rintro w' ⟨hS0, hS1, hS2⟩; go_simp; try with_reducible rfl)); try simp only [Act.put, List.setIfInBounds_toArray, List.set_cons_zero, List.set_cons_succ]))
        refine ord_hard rfl rfl (fun K hK => ?_)
        rw [← HWD.out]
        obtain ⟨⟨hc0, hc1⟩, hz0, hz1⟩ := HCC.out
        have hc1' : (wd.setCell ⟨g, qn * 10 + 4, none⟩ (.bool t.1)).cell? ⟨g, qn * 10 + 5, none⟩ = some _ := (World.cell?_setCell_other wd ⟨g, qn * 10 + 4, none⟩ ⟨g, qn * 10 + 5, none⟩ (.bool t.1) (by simp)).trans hc1
        go_simp
        refine hK.out _ _ (fun _ => ⟨(set2_far (p := ⟨b1, o1 + k * 5, none⟩) hg1).trans HS0.out.1, (set2_far (p := ⟨b2, o2 + k * 2, none⟩) hg2).trans HS0.out.2.1, (set2_far (p := ⟨b2, o2 + k * 2 + 1, none⟩) hg2).trans HS0.out.2.2⟩) ?_
        clear hK K hc0 hc1 hz0 hz1 hc1'
        refine ord_end ?_
        clear HCC HWD HS0 s0 t0 t1
        generalize (wd.setCell ⟨g, qn * 10 + 4, none⟩ (.bool t.1)).setCell ⟨g, qn * 10 + 5, none⟩ (.int .u64 t.2) = we at *
        go_wp2
        go_roundw
        case rel => exact HREL.out
        case measure => simp [intOf]; omega
      · replace s1 : wr.cell? ⟨b1, o1 + k * 5 + 1, none⟩ = some (.int .u8 1) := s1
        have hc0 := hgc 6 _ rfl
        have hc1 := hgc 7 _ rfl
        have hz0 := hgf (qn * 10 + 6)
        have hz1 := hgf (qn * 10 + 7)
        have HW := Lib.hid (own_put HHW.out hqm 1 (by decide) t)
        rw [← HSTEP.out] at HW
        have HKW : Hid (Kept (fun b => (Value.slice (some ⟨g, 0, none⟩) k3 c3).ownBlock = some b) w3 ((wd.setCell ⟨g, qn * 10 + 6, none⟩ (.bool t.1)).setCell ⟨g, qn * 10 + 7, none⟩ (.int .u64 t.2))) := Lib.hid ((HKP.out.setCell (p := ⟨g, qn * 10 + 6, none⟩) (.inl rfl) _).setCell (p := ⟨g, qn * 10 + 7, none⟩) (.inl rfl) _)
        have HREL := Lib.hid (show FlRel ls ts l w2.heap.size (some ⟨g, 0, none⟩) k3 c3 w3 (.int .i64 ((k : Int) + 1)) ((wd.setCell ⟨g, qn * 10 + 6, none⟩ (.bool t.1)).setCell ⟨g, qn * 10 + 7, none⟩ (.int .u64 t.2)) from ⟨k + 1, by go_num, by rw [HKL.out]; omega, by rw [HMK1.out]; exact HW.out, HKW.out⟩)
        have HCC := Lib.hid (And.intro (And.intro hc0 hc1) (And.intro hz0 hz1))
        clear hgc hgf HW HKW HHW HKP HSTEP HMK1 hc0 hc1 hz0 hz1
        go_wp2_with fail
        refine wp_region_ord [0, 1, 2, 3, 4, 5, 6, 7, 8, 9, 10, 11, 12] [12] 13 (fun w' => w'.cell? ⟨b1, o1 + k * 5, none⟩ = some (.int .i64 (qn : Int)) ∧ w'.cell? ⟨b2, o2 + k * 2, none⟩ = some (.bool t.1) ∧ w'.cell? ⟨b2, o2 + k * 2 + 1, none⟩ = some (.int .u64 t.2)) hmx (by kernel_rfl) (by kernel_rfl) (by kernel_rfl) (fun _ _ _ _ _ h => h) ⟨s0, t0, t1⟩ ?_
        simp only [steps, List.getElem?_cons_zero, List.getElem?_cons_succ]
        repeat (first | (refine ord_yes (v := ?_) rfl rfl ?_ ?_; rotate_left; (focus (rintro w' ⟨hS0, hS1, hS2⟩; go_simp; try with_reducible rfl)); try simp only [Act.put, List.setIfInBounds_toArray, List.set_cons_zero, List.set_cons_succ]))
        refine ord_hard rfl rfl (fun K hK => ?_)
        rw [← HWD.out]
        obtain ⟨⟨hc0, hc1⟩, hz0, hz1⟩ := HCC.out
        have hc1' : (wd.setCell ⟨g, qn * 10 + 6, none⟩ (.bool t.1)).cell? ⟨g, qn * 10 + 7, none⟩ = some _ := (World.cell?_setCell_other wd ⟨g, qn * 10 + 6, none⟩ ⟨g, qn * 10 + 7, none⟩ (.bool t.1) (by simp)).trans hc1
        go_simp
        refine hK.out _ _ (fun _ => ⟨(set2_far (p := ⟨b1, o1 + k * 5, none⟩) hg1).trans HS0.out.1, (set2_far (p := ⟨b2, o2 + k * 2, none⟩) hg2).trans HS0.out.2.1, (set2_far (p := ⟨b2, o2 + k * 2 + 1, none⟩) hg2).trans HS0.out.2.2⟩) ?_
        clear hK K hc0 hc1 hz0 hz1 hc1'
        refine ord_end ?_
        clear HCC HWD HS0 s0 t0 t1
        generalize (wd.setCell ⟨g, qn * 10 + 6, none⟩ (.bool t.1)).setCell ⟨g, qn * 10 + 7, none⟩ (.int .u64 t.2) = we at *
        go_wp2
        go_roundw
        case rel => exact HREL.out
        case measure => simp [intOf]; omega
    · obtain rfl : k = n1 := by have := HKL.out; omega
      have e1 : ls.take k = ls := List.take_of_length_le (by rw [HKL.out]; exact Nat.le_refl _)
      have e2 : ts.take k = ts := List.take_of_length_le (by rw [HL1.out]; exact Nat.le_refl _)
      rw [e1, e2] at hown
      obtain ⟨l2, hl2'⟩ : ∃ x, fillB l ls ts = x := ⟨_, rfl⟩
      have HL2B := Lib.hid hl2'
      rw [hl2'] at hown
      obtain ⟨w4, hw4⟩ : ∃ x, x = wr := ⟨_, rfl⟩
      rw [← hw4] at hown hbr ⊢
      have HB4 := Lib.hid hbr
      have HO4 := Lib.hid hown
      have H04 : Hid (FlRel es us l2 w2.heap.size A3 k3 c3 w4 (.int .i64 0) w4) := Lib.hid ⟨0, rfl, Nat.zero_le _, by simpa [fillB] using hown, Kept.refl _ _⟩
      clear hown hbr hkp hl2' e1 e2 hw4 hk hlt
      go_wp2
      go_loopw [12] (fun v11 wr => FlRel es us l2 w2.heap.size A3 k3 c3 w4 v11 wr) (fun v11 _ => n2 - (intOf v11).toNat)
      case atStart => exact H04.out
      case round =>
        clear H04
        obtain ⟨k_, rfl, hk, hown, hkp⟩ := hrel
        have hbr : Below w2.heap.size w2 wr := HB4.out.trans (hkp.below HB4.out.size fun b e => (own_block HO4.out e).1)
        by_cases hlt : k_ < n2
        · have hk1 : k_ < es.length := by rw [HKE.out]; exact hlt
          have hk2 : k_ < us.length := by rw [HL2.out]; exact hlt
          obtain ⟨hps, hts⟩ := HSE.out wr hbr
          obtain ⟨b1, o1, rfl, hb1', s0, s1, s2, s3, s4⟩ := spot_at hps hk1
          obtain ⟨b2, o2, rfl, hb2', t0, t1⟩ := term_at hts hk2
          obtain ⟨hpn, -⟩ := HEI.out _ (List.getElem_mem hk1)
          have hpp := HEP.out _ (List.getElem_mem hk1)
          have HSTEP : Hid (fillB l2 (es.take (k_ + 1)) (us.take (k_ + 1)) = (fillB l2 (es.take k_) (us.take k_)).set es[k_].n (((fillB l2 (es.take k_) (us.take k_)).getD es[k_].n ⟨0, 0, [], 0, false, 0, false, 0, false, 0⟩).put es[k_].p us[k_])) := by
            refine Lib.hid ?_
            rw [List.take_succ_eq_append_getElem hk1, List.take_succ_eq_append_getElem hk2]
            exact fill_snoc _ _ l2 _ _ (by rw [List.length_take, List.length_take]; omega)
          have hmk := rs_own_len ndc_len (by decide) hown
          generalize fillB l2 (es.take k_) (us.take k_) = mk at *
          generalize hmk1 : fillB l2 (es.take (k_ + 1)) (us.take (k_ + 1)) = mk1 at *
          have HMK1 := Lib.hid hmk1
          clear hmk1
          generalize es[k_] = q at *
          generalize us[k_] = t at *
          obtain ⟨qn, qp, qs, qv, qz⟩ := q
          simp only at s0 s1 s2 s3 s4 hpn hpp HSTEP
          rw [HLN.out] at hpn
          have hald : Below wr.heap.size wr wr.drew := (Below.refl _ _).drew
          obtain ⟨wd, hwd⟩ : ∃ wd, wd = wr.drew := ⟨_, rfl⟩
          rw [← hwd] at hald
          have hownd := own_behind hown hald
          obtain ⟨g, rfl, hgb, hgl, hgc, hgf⟩ := own_node hownd (k := qn) (by omega)
          have HWD := Lib.hid hwd
          have HS0 : Hid (wd.cell? ⟨b1, o1 + k_ * 5, none⟩ = some (.int .i64 (qn : Int)) ∧ wd.cell? ⟨b2, o2 + k_ * 2, none⟩ = some (.bool t.1) ∧ wd.cell? ⟨b2, o2 + k_ * 2 + 1, none⟩ = some (.int .u64 t.2)) := Lib.hid (by rw [hwd]; exact ⟨s0, t0, t1⟩)
          have hg1 : b1 ≠ g := by omega
          have hg2 : b2 ≠ g := by omega
          have hqm : qn < mk.length := by omega
          rw [List.getD_eq_getElem?_getD, List.getElem?_eq_getElem hqm, Option.getD_some] at HSTEP
          have HKP := Lib.hid (hkp.trans (Kept.of_below hald))
          have HHW := Lib.hid hownd
          clear hps hts hown hkp hk1 hk2 s2 s3 s4 hald hownd hwd
          subst hpp
          clear s1
          have hc0 := hgc 8 _ rfl
          have hc1 := hgc 9 _ rfl
          have hz0 := hgf (qn * 10 + 8)
          have hz1 := hgf (qn * 10 + 9)
          have HW := Lib.hid (own_put HHW.out hqm 2 (by decide) t)
          rw [← HSTEP.out] at HW
          have HKW : Hid (Kept (fun b => (Value.slice (some ⟨g, 0, none⟩) k3 c3).ownBlock = some b) w4 ((wd.setCell ⟨g, qn * 10 + 8, none⟩ (.bool t.1)).setCell ⟨g, qn * 10 + 9, none⟩ (.int .u64 t.2))) := Lib.hid ((HKP.out.setCell (p := ⟨g, qn * 10 + 8, none⟩) (.inl rfl) _).setCell (p := ⟨g, qn * 10 + 9, none⟩) (.inl rfl) _)
          have HREL := Lib.hid (show FlRel es us l2 w2.heap.size (some ⟨g, 0, none⟩) k3 c3 w4 (.int .i64 ((k_ : Int) + 1)) ((wd.setCell ⟨g, qn * 10 + 8, none⟩ (.bool t.1)).setCell ⟨g, qn * 10 + 9, none⟩ (.int .u64 t.2)) from ⟨k_ + 1, by go_num, by rw [HKE.out]; omega, by rw [HMK1.out]; exact HW.out, HKW.out⟩)
          have HCC := Lib.hid (And.intro (And.intro hc0 hc1) (And.intro hz0 hz1))
          clear hgc hgf HW HKW HHW HKP HSTEP HMK1 hc0 hc1 hz0 hz1
          go_wp2_with fail
          refine wp_region_ord [0, 1, 2, 3, 4, 5, 6, 7, 8, 9, 10, 11, 12] [12] 13 (fun w' => w'.cell? ⟨b1, o1 + k_ * 5, none⟩ = some (.int .i64 (qn : Int)) ∧ w'.cell? ⟨b2, o2 + k_ * 2, none⟩ = some (.bool t.1) ∧ w'.cell? ⟨b2, o2 + k_ * 2 + 1, none⟩ = some (.int .u64 t.2)) hmx (by kernel_rfl) (by kernel_rfl) (by kernel_rfl) (fun _ _ _ _ _ h => h) ⟨s0, t0, t1⟩ ?_
          simp only [steps, List.getElem?_cons_zero, List.getElem?_cons_succ]
          repeat (first | (refine ord_yes (v := ?_) rfl rfl ?_ ?_; rotate_left; (focus (rintro w' ⟨hS0, hS1, hS2⟩; go_simp; try with_reducible rfl)); try simp only [Act.put, List.setIfInBounds_toArray, List.set_cons_zero, List.set_cons_succ]))
          refine ord_hard rfl rfl (fun K hK => ?_)
          rw [← HWD.out]
          obtain ⟨⟨hc0, hc1⟩, hz0, hz1⟩ := HCC.out
          have hc1' : (wd.setCell ⟨g, qn * 10 + 8, none⟩ (.bool t.1)).cell? ⟨g, qn * 10 + 9, none⟩ = some _ := (World.cell?_setCell_other wd ⟨g, qn * 10 + 8, none⟩ ⟨g, qn * 10 + 9, none⟩ (.bool t.1) (by simp)).trans hc1
          go_simp
          refine hK.out _ _ (fun _ => ⟨(set2_far (p := ⟨b1, o1 + k_ * 5, none⟩) hg1).trans HS0.out.1, (set2_far (p := ⟨b2, o2 + k_ * 2, none⟩) hg2).trans HS0.out.2.1, (set2_far (p := ⟨b2, o2 + k_ * 2 + 1, none⟩) hg2).trans HS0.out.2.2⟩) ?_
          clear hK K hc0 hc1 hz0 hz1 hc1'
          refine ord_end ?_
          clear HCC HWD HS0 s0 t0 t1
          generalize (wd.setCell ⟨g, qn * 10 + 8, none⟩ (.bool t.1)).setCell ⟨g, qn * 10 + 9, none⟩ (.int .u64 t.2) = we at *
          go_wp2
          go_roundw
          case rel => exact HREL.out
          case measure => simp [intOf]; omega
        · obtain rfl : k_ = n2 := by have := HKE.out; omega
          have e1 : es.take k_ = es := List.take_of_length_le (by rw [HKE.out]; exact Nat.le_refl _)
          have e2 : us.take k_ = us := List.take_of_length_le (by rw [HL2.out]; exact Nat.le_refl _)
          rw [e1, e2] at hown
          have hbe := hb2.trans (hbr.mono hb2.size)
          have hfin : wr.ownsRow w.heap.size 110 10 (.slice A3 k3 c3) k3 ((putV l ts us).flatMap ndc) := by
            rw [HQ.out.2, ← HPF.out ts us HL1.out HL2.out, HL2B.out]
            exact own_lower hown hb2.size
          have HFIN := Lib.hid hfin
          have HBE := Lib.hid hbe
          clear hown hbr hkp hfin hbe e1 e2
          go_wp2
          exact bodyPost_ret (v := .tuple #[.slice A3 k3 c3, .int .i64 0]) (by simp [results, Tryz.results38, go_sem]) rfl ⟨A3, k3, c3, by rw [HQ.out.1]; rfl, HFIN.out, HBE.out⟩
end Go.Proofs.YtmiconjmeaammaaGreatDoor
