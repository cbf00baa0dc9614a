/- What schemes.Ground tells. Condition: what comes in can be read. -/
import Derived.Test.YtfmpecnkkbpdlaaGreatOps
namespace Go.Proofs.YtfmpecnkkbpdlaaGreat
open Go.RowKit

theorem own_baseN {w : World} {b b' E sz n : Nat} {v : Value} {xs : List Value} (h : w.ownsRow b E sz v n xs) (hb : b' ≤ b) : w.ownsRow b' E sz v n xs := by
  refine ⟨h.1, ?_⟩
  rcases h.2 with h | ⟨g, cap, cur, hv, hg, r⟩
  · exact .inl h
  · exact .inr ⟨g, cap, cur, hv, Nat.le_trans hb hg, r⟩

set_option maxRecDepth 100000 in
set_option maxHeartbeats 8000000 in
theorem schGround_any (s : Sch) (A : Option Addr) (n c : Nat) (A1 : Option Addr) (n1 c1 : Nat) (A2 : Option Addr) (n2 c2 : Nat) (A3 : Option Addr) (n3 c3 : Nat) (u : List Nat) (A4 : Option Addr) (n4 c4 : Nat) (q : List Nat) (w : World) (h : SchAt w s A n c A1 n1 c1 A2 n2 c2) (hu : Rd La.nm w w.heap.size A3 n3 c3 u) (hq : Rd La.nm w w.heap.size A4 n4 c4 q) (x : Nat) (hx : s.grE u q = x) :
    Calls Tryz.prog 31 #[schV s A n c A1 n1 c1 A2 n2 c2, .slice A3 n3 c3, .slice A4 n4 c4] w fun e w' => ∃ A' k c', e = .returned (.tuple #[.slice A' k c', .int .i64 (x : Int)]) ∧ w'.ownsRow w.heap.size 91 10 (.slice A' k c') k ((s.grN u q).flatMap ndc) ∧ Below w.heap.size w w' := by
  obtain ⟨lv, ev, bo, sl, se⟩ := s
  unfold schV
  have hal : Below w.heap.size w (w.alloc (.cells #[.int .i64 lv, .int .i64 ev, .slice A n c, .slice A1 n1 c1, .slice A2 n2 c2] 47)) := (Below.refl _ _).alloc (Nat.le_refl _) _
  have hz := Box.new w lv ev A n c A1 n1 c1 A2 n2 c2
  have H := Lib.hid h
  have HU := Lib.hid hu
  have HQ := Lib.hid hq
  have HR := Lib.hid hx
  have hc := check_any A n c bo _ (h.keep hal).b h.bf
  have HB := Lib.hid hal
  have HSZ : Hid (w.heap.size ≤ w.heap.size) := Lib.hid (Nat.le_refl _)
  clear h hu hq hx hal
  have hz2 := hz.z2
  go_enter Tryz.func31, Tryz.ntmps31
  go_wp2_with fail
  generalize w.alloc (.cells #[.int .i64 lv, .int .i64 ev, .slice A n c, .slice A1 n1 c1, .slice A2 n2 c2] 47) = wa at *
  obtain ⟨g, hg⟩ : ∃ g, w.heap.size = g := ⟨_, rfl⟩
  have HG := Lib.hid hg
  rw [hg] at hz hz2
  simp only [hg]
  clear hg
  refine hc.mono ?_
  rintro e w1 ⟨rfl, hv⟩
  replace hz := hz.keep hv
  have hb2 := HB.out.trans (hv.mono HB.out.size)
  clear HB hc hv hz2 wa HSZ
  have HB := Lib.hid hb2
  clear hb2
  by_cases h0 : checkB bo = 0
  case neg =>
    have hne : ((checkB bo : Int) != 0) = true := by simp; omega
    have HN : Hid (Sch.grN ⟨lv, ev, bo, sl, se⟩ u q = [] ∧ checkB bo = x) := Lib.hid (by
      have hr := HR.out
      unfold Sch.grE at hr
      rw [if_neg h0] at hr
      refine ⟨?_, hr⟩
      unfold Sch.grN
      rw [if_neg]
      unfold Sch.grE
      rw [if_neg h0]
      exact h0)
    rw [HN.out.2] at hne ⊢
    clear HR hz h0
    go_wp2_with fail
    refine bodyPost_ret (v := .tuple #[.slice none 0 0, .int .i64 (x : Int)]) (by simp [results, Tryz.results31, go_sem]) rfl ⟨none, 0, 0, rfl, by rw [HN.out.1]; exact World.ownsRow_nil _ _ _ _, HB.out⟩
  have H0 := Lib.hid h0
  rw [h0]
  clear h0
  obtain ⟨kl, hkl⟩ : ∃ k, (labB bo).length = k := ⟨_, rfl⟩
  obtain ⟨ke, hke⟩ : ∃ k, (effB bo).length = k := ⟨_, rfl⟩
  have HKL := Lib.hid (show kl ≤ 256 by rw [← hkl]; exact labB_len bo)
  have HKE := Lib.hid (show ke ≤ 256 by rw [← hke]; exact Nat.le_trans (effB_len bo) (by decide))
  have hc := of_len A n c bo _ _ kl ke w1 (H.out.keep HB.out).b H.out.bf rfl rfl hkl hke
  have HU1 := Lib.hid (labB_u64 H.out.bt)
  have HU2 := Lib.hid (effB_u64 H.out.bt)
  clear hkl hke
  have hz2 := hz.z2
  simp only at HU1 HU2
  obtain ⟨f1, hf1⟩ : ∃ f, fitS u lv (labB bo) = f := ⟨_, rfl⟩
  obtain ⟨f2, hf2⟩ : ∃ f, fitS q ev (effB bo) = f := ⟨_, rfl⟩
  have HX : Hid ((f1 && f2) = false → x = 1 ∧ Sch.grN ⟨lv, ev, bo, sl, se⟩ u q = []) := Lib.hid fun e => by
    have e1 : Sch.grE ⟨lv, ev, bo, sl, se⟩ u q = 1 := by
      unfold Sch.grE
      rw [if_pos H0.out]
      simp only
      rw [hf1, hf2, e]
      rfl
    refine ⟨by rw [← HR.out, e1], ?_⟩
    unfold Sch.grN
    rw [e1]
    rfl
  have HY : Hid ((f1 && f2) = true → x = 0 ∧ Sch.grN ⟨lv, ev, bo, sl, se⟩ u q = putB bo ((labB bo).map (grT u)) ((effB bo).map (grT q)) ∧ putR bo ((labB bo).map (grT u)) ((effB bo).map (grT q)) = 0 ∧ (∀ p ∈ labB bo, lackS u p = false) ∧ ∀ p ∈ effB bo, lackS q p = false) := Lib.hid fun e => by
    rw [Bool.and_eq_true] at e
    have e1 : Sch.grE ⟨lv, ev, bo, sl, se⟩ u q = 0 := Sch.grE_is.2 ⟨H0.out, hf1.trans e.1, hf2.trans e.2⟩
    refine ⟨by rw [← HR.out, e1], ?_, ?_, (fitS_is.1 (hf1.trans e.1)).2, (fitS_is.1 (hf2.trans e.2)).2⟩
    · unfold Sch.grN
      rw [if_pos e1]
    · unfold putR
      rw [if_neg (by simp [H0.out]), if_pos (by simp)]
  have HF1 := Lib.hid hf1
  have HF2 := Lib.hid hf2
  clear hf1 hf2 HR
  generalize labB bo = ls at *
  generalize effB bo = es at *
  go_wp2_with fail
  refine hc.mono ?_
  rintro e w2 ⟨B1, d1, B2, d2, rfl, hT⟩
  have hv := hT.bel
  replace hz := hz.keep hv
  have hb2 := HB.out.trans (hv.mono HB.out.size)
  have H1 := Lib.hid hT.r1
  have H2 := Lib.hid hT.r2
  clear HB hc hv hz2 hT w1
  have HB := Lib.hid hb2
  clear hb2
  have hz0 := hz.z0
  have hz1 := hz.z1
  have hc := fit_any B1 A3 kl d1 n3 c3 lv ls u w2 H1.out HU1.out (HU.out.at_size (Nat.le_refl _) HB.out) f1 HF1.out
  go_wp2_with fail
  refine hc.mono ?_
  rintro e w3 ⟨rfl, hv⟩
  replace hz := hz.keep hv
  have hb2 := HB.out.trans (hv.mono HB.out.size)
  have h1 := H1.out.at_size (Nat.le_refl _) hv
  have h2 := H2.out.at_size (Nat.le_refl _) hv
  clear HB hc hv hz0 hz1 H1 H2 HF1 w2
  have HB := Lib.hid hb2
  have H1 := Lib.hid h1
  have H2 := Lib.hid h2
  clear hb2 h1 h2
  cases f1 with
  | false =>
    obtain ⟨rfl, hG⟩ := HX.out rfl
    have HG2 := Lib.hid hG
    clear hG HX HY HF2
    go_wp2_with fail
    refine bodyPost_ret (v := .tuple #[.slice none 0 0, .int .i64 1]) (by simp [results, Tryz.results31, go_sem]) rfl ⟨none, 0, 0, rfl, by rw [HG2.out]; exact World.ownsRow_nil _ _ _ _, HB.out⟩
  | true =>
  have hz1 := hz.z1
  have hc := fit_any B2 A4 ke d2 n4 c4 ev es q w3 H2.out HU2.out (HQ.out.at_size (Nat.le_refl _) HB.out) f2 HF2.out
  go_wp2_with fail
  refine hc.mono ?_
  rintro e w4 ⟨rfl, hv⟩
  replace hz := hz.keep hv
  have hb2 := HB.out.trans (hv.mono HB.out.size)
  have h1 := H1.out.at_size (Nat.le_refl _) hv
  have h2 := H2.out.at_size (Nat.le_refl _) hv
  clear HB hc hv hz1 H1 H2 HF2 w3
  have HB := Lib.hid hb2
  have H1 := Lib.hid h1
  have H2 := Lib.hid h2
  clear hb2 h1 h2
  cases f2 with
  | false =>
    obtain ⟨rfl, hG⟩ := HX.out rfl
    have HG2 := Lib.hid hG
    clear hG HX HY
    go_wp2_with fail
    refine bodyPost_ret (v := .tuple #[.slice none 0 0, .int .i64 1]) (by simp [results, Tryz.results31, go_sem]) rfl ⟨none, 0, 0, rfl, by rw [HG2.out]; exact World.ownsRow_nil _ _ _ _, HB.out⟩
  | true =>
  obtain ⟨rfl, hG, hP, hk1, hk2⟩ := HY.out rfl
  have HG2 := Lib.hid hG
  have HP := Lib.hid hP
  have HK1 := Lib.hid hk1
  have HK2 := Lib.hid hk2
  clear hG hP hk1 hk2 HX HY
  go_wp2_with fail
  refine wp_region_ord [0, 1, 2, 3, 4, 6, 7, 8, 5, 9, 10, 11, 12, 13, 14] [5, 9, 10] 15 (fun w' => Box w' g lv ev A n c A1 n1 c1 A2 n2 c2) (by kernel_rfl) (by kernel_rfl) (by kernel_rfl) (by kernel_rfl) (fun _ _ _ _ _ h => h) (hz.keep (Below.refl _ w4).drew) ?_
  simp only [steps, List.getElem?_cons_zero, List.getElem?_cons_succ]
  repeat (first
    | (refine ord_no rfl ?_; simp only [Act.put, List.setIfInBounds_toArray, List.set_cons_zero, List.set_cons_succ])
    | (refine ord_yes (v := ?_) rfl rfl ?_ ?_; rotate_left; (focus (rintro w' ⟨hS0, hS1, hS2, hS3, hS4⟩; go_simp; try with_reducible rfl)); simp only [Act.put, List.setIfInBounds_toArray, List.set_cons_zero, List.set_cons_succ]))
  have hv : Below w4.heap.size w4 w4.drew := (Below.refl _ _).drew
  replace hz := hz.keep hv
  have hb2 := HB.out.trans (hv.mono HB.out.size)
  have h1 := H1.out.at_size (Nat.le_refl _) hv
  have h2 := H2.out.at_size (Nat.le_refl _) hv
  clear hv HB H1 H2
  have HB := Lib.hid hb2
  have H1 := Lib.hid h1
  have H2 := Lib.hid h2
  clear hb2 h1 h2
  generalize w4.drew = w5 at *
  refine ord_hard rfl rfl (fun K hK => ?_)
  go_simp
  refine (eachT_any B1 kl d1 ls A3 n3 c3 u w5 H1.out HU1.out HKL.out (HU.out.at_size (Nat.le_refl _) HB.out) HK1.out).mono ?_
  rintro e w6 ⟨g1, rfl, -, hr1, hv⟩
  replace hz := hz.keep hv
  have hb2 := HB.out.trans (hv.mono HB.out.size)
  have h2 := H2.out.at_size (Nat.le_refl _) hv
  clear hv HB H1 H2
  have HB := Lib.hid hb2
  have H2 := Lib.hid h2
  clear hb2 h2
  refine hK.out _ _ (fun _ => hz) ?_
  clear hK K
  try simp only [Act.put, List.setIfInBounds_toArray, List.set_cons_zero, List.set_cons_succ]
  repeat (first
    | (refine ord_no rfl ?_; simp only [Act.put, List.setIfInBounds_toArray, List.set_cons_zero, List.set_cons_succ])
    | (refine ord_yes (v := ?_) rfl rfl ?_ ?_; rotate_left; (focus (rintro w' ⟨hS0, hS1, hS2, hS3, hS4⟩; go_simp; try with_reducible rfl)); simp only [Act.put, List.setIfInBounds_toArray, List.set_cons_zero, List.set_cons_succ]))
  refine ord_hard rfl rfl (fun K hK => ?_)
  go_simp
  refine (eachT_any B2 ke d2 es A4 n4 c4 q w6 H2.out HU2.out HKE.out (HQ.out.at_size (Nat.le_refl _) HB.out) HK2.out).mono ?_
  rintro e w7 ⟨g2, rfl, -, hr2, hv⟩
  replace hz := hz.keep hv
  have hb2 := HB.out.trans (hv.mono HB.out.size)
  replace hr1 := hr1.at_size (Nat.le_refl _) hv
  clear hv HB H2
  have HB := Lib.hid hb2
  clear hb2
  refine hK.out _ _ (fun _ => hz) ?_
  clear hK K
  try simp only [Act.put, List.setIfInBounds_toArray, List.set_cons_zero, List.set_cons_succ]
  repeat (first
    | (refine ord_no rfl ?_; simp only [Act.put, List.setIfInBounds_toArray, List.set_cons_zero, List.set_cons_succ])
    | (refine ord_yes (v := ?_) rfl rfl ?_ ?_; rotate_left; (focus (rintro w' ⟨hS0, hS1, hS2, hS3, hS4⟩; go_simp; try with_reducible rfl)); simp only [Act.put, List.setIfInBounds_toArray, List.set_cons_zero, List.set_cons_succ]))
  refine ord_hard rfl rfl (fun K hK => ?_)
  go_simp
  refine (put_any A (some ⟨g1, 0, none⟩) (some ⟨g2, 0, none⟩) n c kl kl ke ke bo _ _ w7 (H.out.keep HB.out).b H.out.bf hr1 hr2).mono ?_
  rintro e w8 ⟨A', k, c', rfl, hown, hv⟩
  replace hz := hz.keep hv
  have hb2 := HB.out.trans (hv.mono HB.out.size)
  have hV : putV bo (ls.map (grT u)) (es.map (grT q)) = Sch.grN ⟨lv, ev, bo, sl, se⟩ u q := by
    unfold putV
    rw [if_pos HP.out, HG2.out]
  rw [hV] at hown
  rw [HP.out]
  have HO := Lib.hid (own_baseN hown HB.out.size)
  clear hv HB hr1 hr2 hown hV
  have HB := Lib.hid hb2
  clear hb2
  refine hK.out _ _ (fun _ => hz) ?_
  clear hK K
  try simp only [Act.put, List.setIfInBounds_toArray, List.set_cons_zero, List.set_cons_succ]
  repeat (first
    | (refine ord_no rfl ?_; simp only [Act.put, List.setIfInBounds_toArray, List.set_cons_zero, List.set_cons_succ])
    | (refine ord_yes (v := ?_) rfl rfl ?_ ?_; rotate_left; (focus (rintro w' ⟨hS0, hS1, hS2, hS3, hS4⟩; go_simp; try with_reducible rfl)); simp only [Act.put, List.setIfInBounds_toArray, List.set_cons_zero, List.set_cons_succ]))
  refine ord_end ?_
  go_wp2_with fail
  refine bodyPost_ret (v := .tuple #[.slice A' k c', .int .i64 0]) (by simp [results, Tryz.results31, go_sem]) rfl ⟨A', k, c', rfl, HO.out, HB.out⟩
end Go.Proofs.YtfmpecnkkbpdlaaGreat
