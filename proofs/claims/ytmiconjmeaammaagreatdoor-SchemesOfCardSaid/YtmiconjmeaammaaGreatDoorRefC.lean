/- RefV; RefG; RefC: merged. -/
import Derived.Test.YtmiconjmeaammaaGreatDoorGrd
import Derived.Test.YtmiconjmeaammaaGreatDoorRefPut
import Derived.Test.YtmiconjmeaammaaGreatDoorBoRefS

/- The document's values of spots, Check and Ground. Condition: what comes in can be read. -/
namespace Go.Proofs.YtmiconjmeaammaaGreatDoor
open Go.RowKit

/-- None of the first i lacks a value; their terms stand in a row of one's own. -/
def VaRel (u : List Nat) (l : List Sp) (w : World) (v6 v7 : Value) (wr : World) : Prop :=
  ∃ (i : Nat) (A : Option Addr) (N c : Nat), v7 = .int .i64 (i : Int) ∧ v6 = .slice A N c ∧ i ≤ l.length ∧ (l.take i).any (lackS u) = false ∧ wr.ownsRow w.heap.size 89 2 (.slice A N c) N (((l.take i).map (grT u)).flatMap tmc) ∧ Below w.heap.size w wr

set_option maxRecDepth 100000 in
set_option maxHeartbeats 4000000 in
theorem values_ref (A A2 : Option Addr) (m c n c2 : Nat) (l : List Sp) (u : List Nat) (w : World) (h : Rs spc 5 w w.heap.size A m c l) (hz : ∀ p ∈ l, U64 p.z) (hu : Rd La.nm w w.heap.size A2 n c2 u) (hm : m ≤ 256) :
    Calls Tryz.prog 37 #[.slice A m c, .slice A2 n c2] w fun e w' => ∃ A' k c', e = .returned (.tuple #[.slice A' k c', .bool (!l.any (lackS u))]) ∧ (l.any (lackS u) = false → w'.ownsRow w.heap.size 89 2 (.slice A' k c') k ((l.map (grT u)).flatMap tmc)) ∧ Below w.heap.size w w' := by
  have HR := Lib.hid h
  have HU := Lib.hid hu
  have HZ := Lib.hid hz
  have HL := Lib.hid h.len
  have HUL := Lib.hid hu.len
  have htop := h.top
  have hcap := h.cap
  unfold maxLen at htop
  have hun : n ≤ 9223372036854775807 := by have := hu.top; have := hu.cap; unfold maxLen at *; omega
  clear h hu hz
  go_enter Tryz.func37, Tryz.ntmps37
  go_wp2
  go_loopw [6, 7] (fun v6 v7 wr => VaRel u l w v6 v7 wr) (fun _ v7 _ => m - (intOf v7).toNat)
  case atStart => exact ⟨0, none, 0, 0, rfl, rfl, by omega, rfl, World.ownsRow_nil _ _ _ _, Below.refl _ _⟩
  case round =>
    obtain ⟨i, B, N, d, rfl, rfl, hi, hall, hown, hb⟩ := hrel
    by_cases hlt : i < m
    · have hi' : i < l.length := by rw [HL.out]; exact hlt
      obtain ⟨b, o, rfl, hbb, e0, e1, e2, e3, e4⟩ := spot_at (HR.out.at_size (Nat.le_refl _) hb) hi'
      have hz := HZ.out _ (List.getElem_mem hi')
      have HST := Lib.hid (lk_step hi' hall)
      have HON := Lib.hid (fun e : lackS u l[i] = true => lk_on hi' e)
      have HTK : Hid (((l.take (i + 1)).map (grT u)).flatMap tmc = ((l.take i).map (grT u) ++ [grT u l[i]]).flatMap tmc) := Lib.hid (by rw [List.take_succ_eq_append_getElem hi', List.map_append]; rfl)
      have hN : N = i := by
        have := rs_own_len tmc_len (by decide) hown
        rw [List.length_map, List.length_take] at this
        omega
      generalize (l.take i).map (grT u) = ts at *
      generalize l[i] = x at *
      obtain ⟨xn, xp, xs, xv, xz⟩ := x
      simp only at e3 e4 hz
      obtain ⟨z, rfl, hzz⟩ := hz.nat
      have HB := Lib.hid hb
      have HOWN := Lib.hid hown
      have HLT := Lib.hid hlt
      have hi9 : i ≤ 1000 := by omega
      have hdef : lackS u ⟨xn, xp, xs, xv, (z : Int)⟩ = (xv && decide (n ≤ z)) := by
        rw [← HUL.out]
        rfl
      rw [hdef] at HST HON
      have hsz0 := hb.size
      have HW := Lib.hid (wrap_len (k := n) (by omega))
      have ways : (xv = false ∧ grT u ⟨xn, xp, xs, xv, (z : Int)⟩ = (false, (z : Int))) ∨ (xv = true ∧ n ≤ z) ∨ (xv = true ∧ ∃ hlt2 : z < n, ∃ q : Nat, (∃ b2 o2, A2 = some ⟨b2, o2, none⟩ ∧ wr.cell? ⟨b2, o2 + z, none⟩ = some (.int .u64 (q : Int))) ∧ grT u ⟨xn, xp, xs, xv, (z : Int)⟩ = (false, (q : Int))) := by
        cases xv with
        | false => exact .inl ⟨rfl, rfl⟩
        | true =>
          by_cases hnz : n ≤ z
          · exact .inr (.inl ⟨rfl, hnz⟩)
          · have hlz : z < n := by omega
            have hlu : z < u.length := by rw [HUL.out]; exact hlz
            obtain ⟨b2, o2, eA, hb2, hcv⟩ := (HU.out.at_size (Nat.le_refl _) HB.out).spot (by omega)
            refine .inr (.inr ⟨rfl, hlz, u[z], ⟨b2, o2, eA, hcv z hlu⟩, ?_⟩)
            unfold grT
            simp [hlu]
      clear hall hi hi' hbb hb hown hlt hdef e0 e1 e2 hz
      subst hN
      rcases ways with ⟨rfl, hg⟩ | ⟨rfl, hnz⟩ | ⟨rfl, hlz, q, ⟨b2, o2, rfl, hcq⟩, hg⟩
      case inr.inl =>
        have HA := Lib.hid (HON.out (by simpa using hnz))
        have hge : decide (n ≤ z) = true := decide_eq_true hnz
        have hge2 : (n : Int) ≤ (z : Int) := by omega
        have hal := HB.out.alloc hsz0 (.cells #[.bool true, .int .u64 (z : Int)] 89)
        have HAL := Lib.hid hal
        have hw := HW.out
        clear HON HST hal
        go_wp2_with fail
        refine bodyPost_ret (v := .tuple #[.slice none 0 0, .bool false]) (by simp [results, Tryz.results37, go_sem]) rfl ⟨none, 0, 0, by rw [HA.out]; rfl, (fun e => by rw [HA.out] at e; cases e), HAL.out⟩
      case inl =>
        rw [hg] at HTK
        have hst := HST.out
        have HST2 := Lib.hid (show (l.take (N + 1)).any (lackS u) = false by rw [hst]; rfl)
        clear HON HST hst hg
        have ho2 := (HOWN.out.alloc (.cells #[.bool false, .int .u64 (z : Int)] 89)).alloc (.cells #[.bool false, .int .u64 (z : Int)] 89)
        have hb2 := (HB.out.alloc hsz0 (.cells #[.bool false, .int .u64 (z : Int)] 89)).alloc (by simp; omega) (.cells #[.bool false, .int .u64 (z : Int)] 89)
        have hrd : Rs tmc 2 ((wr.alloc (.cells #[.bool false, .int .u64 (z : Int)] 89)).alloc (.cells #[.bool false, .int .u64 (z : Int)] 89)) ((wr.alloc (.cells #[.bool false, .int .u64 (z : Int)] 89)).alloc (.cells #[.bool false, .int .u64 (z : Int)] 89)).heap.size (some ⟨wr.heap.size + 1, 0, none⟩) 1 1 [(false, (z : Int))] := by
          have h1 := heap_alloc_new (wr.alloc (.cells #[.bool false, .int .u64 (z : Int)] 89)) (.cells #[.bool false, .int .u64 (z : Int)] 89)
          rw [World.size_alloc] at h1
          exact BkAt.rs tmc_len (show BkAt tmc 89 _ _ [(false, (z : Int))] from h1) (by simp)
        have HO2 := Lib.hid ho2
        have HRD := Lib.hid hrd
        have HB2 := Lib.hid hb2
        have hN1 : N + 1 ≤ 100000 := by omega
        have hsz := hb2.size
        clear ho2 hrd hb2
        go_wp2_with (at_builtin; refine wpList_append_rs tmc_len (by decide) tmc_one Tryz.underlying96 tm_inf rfl (by decide) rfl (.tmp 34) (.tmp 36) rfl w.heap.size _ N ts rfl HO2.out _ _ 1 1 [(false, (z : Int))] rfl HRD.out hN1 hsz ?_; intro A' k' c' w' HK HAP)
        have hgr := HB2.out.grown HAP.out.grown hsz fun j hj => (HO2.out.lt j hj).1
        go_roundw
        case rel => exact ⟨N + 1, A', k', c', by go_num, rfl, by have := HLT.out; have := HL.out; omega, HST2.out, by rw [HTK.out]; exact HAP.out.own, hgr⟩
        case measure =>
          have := HLT.out
          simp [intOf]
          omega
      case inr.inr =>
        rw [hg] at HTK
        have hst := HST.out
        have HST2 := Lib.hid (show (l.take (N + 1)).any (lackS u) = false by rw [hst]; simp; omega)
        clear HON HST hst hg
        have hw := HW.out
        have hge : decide (n ≤ z) = false := decide_eq_false (by omega)
        have hcq2 : (wr.alloc (.cells #[.bool true, .int .u64 (z : Int)] 89)).cell? ⟨b2, o2 + z, none⟩ = some (.int .u64 (q : Int)) := cell_old hcq ((Below.refl _ _).alloc (Nat.le_refl _) _)
        have ho2 := (HOWN.out.alloc (.cells #[.bool false, .int .u64 (q : Int)] 89)).alloc (.cells #[.bool false, .int .u64 (q : Int)] 89)
        have hb2 := (HB.out.alloc hsz0 (.cells #[.bool false, .int .u64 (q : Int)] 89)).alloc (by simp; omega) (.cells #[.bool false, .int .u64 (q : Int)] 89)
        have hrd : Rs tmc 2 ((wr.alloc (.cells #[.bool false, .int .u64 (q : Int)] 89)).alloc (.cells #[.bool false, .int .u64 (q : Int)] 89)) ((wr.alloc (.cells #[.bool false, .int .u64 (q : Int)] 89)).alloc (.cells #[.bool false, .int .u64 (q : Int)] 89)).heap.size (some ⟨wr.heap.size + 1, 0, none⟩) 1 1 [(false, (q : Int))] := by
          have h1 := heap_alloc_new (wr.alloc (.cells #[.bool false, .int .u64 (q : Int)] 89)) (.cells #[.bool false, .int .u64 (q : Int)] 89)
          rw [World.size_alloc] at h1
          exact BkAt.rs tmc_len (show BkAt tmc 89 _ _ [(false, (q : Int))] from h1) (by simp)
        have HO2 := Lib.hid ho2
        have HRD := Lib.hid hrd
        have HB2 := Lib.hid hb2
        have hN1 : N + 1 ≤ 100000 := by omega
        have hsz := hb2.size
        clear ho2 hrd hb2
        go_wp2_with (at_builtin; refine wpList_append_rs tmc_len (by decide) tmc_one Tryz.underlying96 tm_inf rfl (by decide) rfl (.tmp 34) (.tmp 36) rfl w.heap.size _ N ts rfl HO2.out _ _ 1 1 [(false, (q : Int))] rfl HRD.out hN1 hsz ?_; intro A' k' c' w' HK HAP)
        have hgr := HB2.out.grown HAP.out.grown hsz fun j hj => (HO2.out.lt j hj).1
        go_roundw
        case rel => exact ⟨N + 1, A', k', c', by go_num, rfl, by have := HLT.out; have := HL.out; omega, HST2.out, by rw [HTK.out]; exact HAP.out.own, hgr⟩
        case measure =>
          have := HLT.out
          simp [intOf]
          omega
    · obtain rfl : i = m := by have := HL.out; omega
      have HE : Hid (l.any (lackS u) = false) := Lib.hid (by rw [← hall, List.take_of_length_le (by rw [HL.out]; omega)])
      have hown2 := hown
      rw [List.take_of_length_le (by rw [HL.out]; omega)] at hown2
      have HO := Lib.hid hown2
      clear hall hlt hown hown2
      go_wp2
      refine bodyPost_ret (v := .tuple #[.slice B N d, .bool true]) (by simp [results, Tryz.results37, go_sem]) rfl ⟨B, N, d, by rw [HE.out]; rfl, fun _ => HO.out, hb⟩
end Go.Proofs.YtmiconjmeaammaaGreatDoor

/- The document's Ground and Check. Condition: what comes in can be read. -/
namespace Go.Proofs.YtmiconjmeaammaaGreatDoor
open Go.RowKit

theorem Bo.RSrt.rhas {w : World} {t : Nat} {A : Option Addr} {n c m : Nat} {S : Bo.Sr} (h : Bo.RSrt w.heap.size w t A n c m S) : Bo.RHas w (Bo.rsV t A n c m) S := fun W hW x hx => Bo.rhas_any t A n c m S x W (h.keep hW) hx

set_option maxRecDepth 100000 in
set_option maxHeartbeats 8000000 in
theorem refSchGround_any (s : Sch) (A : Option Addr) (n c : Nat) (A1 : Option Addr) (n1 c1 : Nat) (A2 : Option Addr) (n2 c2 : Nat) (A3 : Option Addr) (n3 c3 : Nat) (u : List Nat) (A4 : Option Addr) (n4 c4 : Nat) (q : List Nat) (w : World) (h : SchAt w s A n c A1 n1 c1 A2 n2 c2) (hu : Rd La.nm w w.heap.size A3 n3 c3 u) (hq : Rd La.nm w w.heap.size A4 n4 c4 q) (x : Nat) (hx : s.grE u q = x) :
    Calls Tryz.prog 10 #[schV s A n c A1 n1 c1 A2 n2 c2, .slice A3 n3 c3, .slice A4 n4 c4] w fun e w' => ∃ A' k c', e = .returned (.tuple #[.slice A' k c', .int .i64 (x : Int)]) ∧ w'.ownsRow w.heap.size 110 10 (.slice A' k c') k ((s.grN u q).flatMap ndc) ∧ Below w.heap.size w w' := by
  obtain ⟨lv, ev, bo, sl, se⟩ := s
  unfold schV
  have hal : Below w.heap.size w (w.alloc (.cells #[.int .i64 lv, .int .i64 ev, .slice A n c, .slice A1 n1 c1, .slice A2 n2 c2] 25)) := (Below.refl _ _).alloc (Nat.le_refl _) _
  have hz := Box.new w lv ev A n c A1 n1 c1 A2 n2 c2
  have H := Lib.hid h
  have HU := Lib.hid hu
  have HQ := Lib.hid hq
  have HR := Lib.hid hx
  have hc := refCheck_any A n c bo _ (h.keep hal).b h.bf
  have HB := Lib.hid hal
  have HLU := Lib.hid hu.len
  have HLQ := Lib.hid hq.len
  clear h hu hq hx hal
  have hz2 := hz.z2
  go_enter Tryz.func10, Tryz.ntmps10
  go_wp2_with fail
  refine hc.mono ?_
  rintro e w1 ⟨rfl, hv⟩
  replace hz := hz.keep hv
  have hb2 := HB.out.trans (hv.mono HB.out.size)
  clear HB hc hv hz2
  have HB := Lib.hid hb2
  clear hb2
  by_cases h0 : checkB bo = 0
  case neg =>
    have hne : ((checkB bo : Int) != 0) = true := by simp; omega
    have HN : Hid (Sch.grN ⟨lv, ev, bo, sl, se⟩ u q = [] ∧ checkB bo = x) := Lib.hid (by
      have hr := HR.out
      unfold Sch.grE at hr
      rw [if_neg h0] at hr
      refine ⟨?_, hr⟩
      unfold Sch.grN
      rw [if_neg]
      unfold Sch.grE
      rw [if_neg h0]
      exact h0)
    rw [HN.out.2] at hne ⊢
    clear HR hz h0
    go_wp2_with fail
    refine bodyPost_ret (v := .tuple #[.slice none 0 0, .int .i64 (x : Int)]) (by simp [results, Tryz.results10, go_sem]) rfl ⟨none, 0, 0, rfl, by rw [HN.out.1]; exact World.ownsRow_nil _ _ _ _, HB.out⟩
  have H0 := Lib.hid h0
  rw [h0]
  clear h0
  obtain ⟨kl, hkl⟩ : ∃ k, (labB bo).length = k := ⟨_, rfl⟩
  obtain ⟨ke, hke⟩ : ∃ k, (effB bo).length = k := ⟨_, rfl⟩
  have HKL := Lib.hid (show kl ≤ 256 by rw [← hkl]; exact labB_len bo)
  have HKE := Lib.hid (show ke ≤ 256 by rw [← hke]; exact Nat.le_trans (effB_len bo) (by decide))
  have hc := refOf_any A n c bo w1 (H.out.keep HB.out).b H.out.bf
  have HU1 := Lib.hid (labB_u64 H.out.bt)
  have HU2 := Lib.hid (effB_u64 H.out.bt)
  have hz2 := hz.z2
  simp only at HU1 HU2
  obtain ⟨f1, hf1⟩ : ∃ f, (labB bo).any (lackS u) = f := ⟨_, rfl⟩
  obtain ⟨f2, hf2⟩ : ∃ f, (effB bo).any (lackS q) = f := ⟨_, rfl⟩
  have HX : Hid (((n3 : Int) ≠ lv ∨ (n4 : Int) ≠ ev ∨ f1 = true ∨ f2 = true) → x = 1 ∧ Sch.grN ⟨lv, ev, bo, sl, se⟩ u q = []) := Lib.hid fun e => by
    have e1 : Sch.grE ⟨lv, ev, bo, sl, se⟩ u q = 1 := by
      unfold Sch.grE
      rw [if_pos H0.out, if_neg]
      rw [Bool.and_eq_true]
      unfold fitS
      simp only [hf1, hf2, HLU.out, HLQ.out, Bool.and_eq_true, decide_eq_true_eq, Bool.not_eq_true']
      rintro ⟨⟨a, b⟩, c, d⟩
      rcases e with e | e | e | e
      · exact e a
      · exact e c
      · rw [b] at e; cases e
      · rw [d] at e; cases e
    refine ⟨by rw [← HR.out, e1], ?_⟩
    unfold Sch.grN
    rw [e1]
    rfl
  have HY : Hid ((n3 : Int) = lv → (n4 : Int) = ev → f1 = false → f2 = false → x = 0 ∧ Sch.grN ⟨lv, ev, bo, sl, se⟩ u q = putB bo ((labB bo).map (grT u)) ((effB bo).map (grT q)) ∧ putR bo ((labB bo).map (grT u)) ((effB bo).map (grT q)) = 0) := Lib.hid fun a b c d => by
    have e1 : Sch.grE ⟨lv, ev, bo, sl, se⟩ u q = 0 := by
      refine Sch.grE_is.2 ⟨H0.out, ?_, ?_⟩
      · unfold fitS
        simp only [hf1, HLU.out, c, Bool.not_false, Bool.and_true, decide_eq_true_eq]
        exact a
      · unfold fitS
        simp only [hf2, HLQ.out, d, Bool.not_false, Bool.and_true, decide_eq_true_eq]
        exact b
    refine ⟨by rw [← HR.out, e1], ?_, ?_⟩
    · unfold Sch.grN
      rw [if_pos e1]
    · unfold putR
      rw [if_neg (by simp [H0.out]), if_pos (by simp)]
  have HF1 := Lib.hid hf1
  have HF2 := Lib.hid hf2
  clear hf1 hf2 HR
  generalize labB bo = ls at *
  generalize effB bo = es at *
  go_wp2_with fail
  refine hc.mono ?_
  rintro e w2 ⟨v1, v2, rfl, hT⟩
  have hv := hT.bel
  replace hz := hz.keep hv
  have hb2 := HB.out.trans (hv.mono HB.out.size)
  have o2 := hT.o2
  have o3 := hT.o3
  obtain ⟨B1, d1, rfl⟩ := rs_own_form o2
  obtain ⟨B2, d2, rfl⟩ := rs_own_form o3
  rw [hkl] at o2 ⊢
  rw [hke] at o3 ⊢
  have H1 := Lib.hid (Rs.of_own (l := ls) (n := kl) spc_len (by decide) o2)
  have H2 := Lib.hid (Rs.of_own (l := es) (n := ke) spc_len (by decide) o3)
  clear HB hc hv hz2 hT o2 o3 hkl hke
  have HB := Lib.hid hb2
  clear hb2
  have hc := values_ref B1 A3 kl d1 n3 c3 ls u w2 H1.out HU1.out (HU.out.at_size (Nat.le_refl _) HB.out) HKL.out
  rw [HF1.out] at hc
  go_wp2_with fail
  refine hc.mono ?_
  rintro e w3 ⟨G1, k1, e1, rfl, hr1, hv⟩
  replace hz := hz.keep hv
  have hb2 := HB.out.trans (hv.mono HB.out.size)
  have h2 := H2.out.at_size (Nat.le_refl _) hv
  have HR1 := Lib.hid (fun e => Rs.of_own (l := ls.map (grT u)) (n := k1) tmc_len (by decide) (hr1 e))
  clear HB hc hv H1 H2 HF1 hr1
  have HB := Lib.hid hb2
  have H2 := Lib.hid h2
  clear hb2 h2
  have hc := values_ref B2 A4 ke d2 n4 c4 es q w3 H2.out HU2.out (HQ.out.at_size (Nat.le_refl _) HB.out) HKE.out
  rw [HF2.out] at hc
  go_wp2_with fail
  refine hc.mono ?_
  rintro e w4 ⟨G2, k2, e2, rfl, hr2, hv⟩
  replace hz := hz.keep hv
  have hb2 := HB.out.trans (hv.mono HB.out.size)
  have HR1' := Lib.hid (fun e => (HR1.out e).at_size (Nat.le_refl _) hv)
  have HR2 := Lib.hid (fun e => Rs.of_own (l := es.map (grT q)) (n := k2) tmc_len (by decide) (hr2 e))
  clear HB hc hv H2 HF2 hr2 HR1
  have HB := Lib.hid hb2
  clear hb2
  have hz0 := hz.z0
  have hz1 := hz.z1
  have ways : ((n3 : Int) ≠ lv) ∨ ((n3 : Int) = lv ∧ (n4 : Int) ≠ ev) ∨ ((n3 : Int) = lv ∧ (n4 : Int) = ev ∧ f1 = true) ∨ ((n3 : Int) = lv ∧ (n4 : Int) = ev ∧ f1 = false ∧ f2 = true) ∨ ((n3 : Int) = lv ∧ (n4 : Int) = ev ∧ f1 = false ∧ f2 = false) := by
    by_cases a : (n3 : Int) = lv
    · by_cases b : (n4 : Int) = ev
      · cases f1 <;> cases f2 <;> simp [a, b]
      · exact .inr (.inl ⟨a, b⟩)
    · exact .inl a
  rcases ways with a | ⟨a, b⟩ | ⟨a, b, rfl⟩ | ⟨a, b, rfl, rfl⟩ | ⟨a, b, rfl, rfl⟩
  · obtain ⟨rfl, hG⟩ := HX.out (.inl a)
    have HG2 := Lib.hid hG
    clear hG HX HY HR1' HR2
    have a1 : ((n3 : Int) != lv) = true := by simpa using a
    clear a
    go_wp2_with fail
    refine bodyPost_ret (v := .tuple #[.slice none 0 0, .int .i64 1]) (by simp [results, Tryz.results10, go_sem]) rfl ⟨none, 0, 0, rfl, by rw [HG2.out]; exact World.ownsRow_nil _ _ _ _, HB.out⟩
  · obtain ⟨rfl, hG⟩ := HX.out (.inr (.inl b))
    have HG2 := Lib.hid hG
    clear hG HX HY HR1' HR2
    have a1 : ((n3 : Int) != lv) = false := by simpa using a
    have b1 : ((n4 : Int) != ev) = true := by simpa using b
    clear b
    clear a
    go_wp2_with fail
    refine bodyPost_ret (v := .tuple #[.slice none 0 0, .int .i64 1]) (by simp [results, Tryz.results10, go_sem]) rfl ⟨none, 0, 0, rfl, by rw [HG2.out]; exact World.ownsRow_nil _ _ _ _, HB.out⟩
  · obtain ⟨rfl, hG⟩ := HX.out (.inr (.inr (.inl rfl)))
    have HG2 := Lib.hid hG
    clear hG HX HY HR1' HR2
    have a1 : ((n3 : Int) != lv) = false := by simpa using a
    have b1 : ((n4 : Int) != ev) = false := by simpa using b
    clear b
    clear a
    go_wp2_with fail
    refine bodyPost_ret (v := .tuple #[.slice none 0 0, .int .i64 1]) (by simp [results, Tryz.results10, go_sem]) rfl ⟨none, 0, 0, rfl, by rw [HG2.out]; exact World.ownsRow_nil _ _ _ _, HB.out⟩
  · obtain ⟨rfl, hG⟩ := HX.out (.inr (.inr (.inr rfl)))
    have HG2 := Lib.hid hG
    clear hG HX HY HR1' HR2
    have a1 : ((n3 : Int) != lv) = false := by simpa using a
    have b1 : ((n4 : Int) != ev) = false := by simpa using b
    clear b
    clear a
    go_wp2_with fail
    refine bodyPost_ret (v := .tuple #[.slice none 0 0, .int .i64 1]) (by simp [results, Tryz.results10, go_sem]) rfl ⟨none, 0, 0, rfl, by rw [HG2.out]; exact World.ownsRow_nil _ _ _ _, HB.out⟩
  · obtain ⟨rfl, hG, hP⟩ := HY.out a b rfl rfl
    have HG2 := Lib.hid hG
    have HP := Lib.hid hP
    have hr1 := HR1'.out rfl
    have hr2 := HR2.out rfl
    have a1 : ((n3 : Int) != lv) = false := by simpa using a
    have b1 : ((n4 : Int) != ev) = false := by simpa using b
    clear b
    clear hG hP HX HY HR1' HR2 a
    have hz2 := hz.z2
    go_wp2_with fail
    refine (refPut_any A G1 G2 n c k1 e1 k2 e2 bo _ _ w4 (H.out.keep HB.out).b H.out.bf hr1 hr2).mono ?_
    rintro e w8 ⟨A', k, c', rfl, hown, hv⟩
    have hb2 := HB.out.trans (hv.mono HB.out.size)
    have hV : putV bo (ls.map (grT u)) (es.map (grT q)) = Sch.grN ⟨lv, ev, bo, sl, se⟩ u q := by
      unfold putV
      rw [if_pos HP.out, HG2.out]
    rw [hV] at hown
    rw [HP.out]
    have HO := Lib.hid (own_baseN hown HB.out.size)
    clear hv hr1 hr2 hown hV hz0 hz1 hz2 hz
    have HB2 := Lib.hid hb2
    clear hb2
    go_wp2_with fail
    refine bodyPost_ret (v := .tuple #[.slice A' k c', .int .i64 0]) (by simp [results, Tryz.results10, go_sem]) rfl ⟨A', k, c', rfl, HO.out, HB2.out⟩
end Go.Proofs.YtmiconjmeaammaaGreatDoor

/- The document's Check. Condition: what comes in can be read. -/
namespace Go.Proofs.YtmiconjmeaammaaGreatDoor
open Go.RowKit

/-- A sort of the document's in a block of three cells. -/
structure RBox (w : World) (g t : Nat) (A : Option Addr) (n c m : Nat) : Prop where
  s0 : w.cell? ⟨g, 0, none⟩ = some (.int .i64 (t : Int))
  s1 : w.cell? ⟨g, 1, none⟩ = some (.slice A n c)
  s2 : w.cell? ⟨g, 2, none⟩ = some (.int .i64 (m : Int))
theorem RBox.keep {w W : World} {g t : Nat} {A : Option Addr} {n c m : Nat} (h : RBox w g t A n c m) (hb : Below w.heap.size w W) : RBox W g t A n c m := ⟨cell_old h.s0 hb, cell_old h.s1 hb, cell_old h.s2 hb⟩
theorem RBox.new (w : World) (t : Nat) (A : Option Addr) (n c m : Nat) : RBox (w.alloc (.cells #[.int .i64 (t : Int), .slice A n c, .int .i64 (m : Int)] 44)) w.heap.size t A n c m :=
  have hbx := heap_alloc_new w (.cells #[.int .i64 (t : Int), .slice A n c, .int .i64 (m : Int)] 44)
  ⟨(cell_blk (i := 0) hbx).trans rfl, (cell_blk (i := 1) hbx).trans rfl, (cell_blk (i := 2) hbx).trans rfl⟩

theorem chk_bnd_val {S : Bo.Sr} {k : Int} {l : List Sp} (h0 : 0 ≤ k) (h1 : k ≤ 64) (hl : l.length ≤ 256) : Bo.chkS S k (l.map bnd) = if l.all (may1 S k) then 0 else 1 := by
  unfold Bo.chkS
  rw [if_neg (by rw [List.length_map]; omega)]
  have e : (l.map bnd).all (Bo.mayB S k.toNat) = l.all (may1 S k) := by
    rw [List.all_map]
    exact List.all_congr rfl fun p => mayB_bnd S k.toNat p
  rw [e]
/-- The first i may stand. -/
def RcRel (f : Sp → Bool) (l : List Sp) (w : World) (v10 : Value) (wr : World) : Prop := ∃ i : Nat, v10 = .int .i64 (i : Int) ∧ i ≤ l.length ∧ (l.take i).all f = true ∧ Below w.heap.size w wr
theorem rc_step {f : Sp → Bool} {l : List Sp} {i : Nat} (hi : i < l.length) (h : (l.take i).all f = true) : (l.take (i + 1)).all f = f l[i] := by
  rw [List.take_succ_eq_append_getElem hi, List.all_append, h]
  simp
theorem rc_off {f : Sp → Bool} {l : List Sp} {i : Nat} (hi : i < l.length) (h : f l[i] = false) : l.all f = false := by
  refine Bool.eq_false_iff.2 fun e => ?_
  have := List.all_eq_true.1 e _ (List.getElem_mem hi)
  rw [h] at this
  cases this

set_option maxRecDepth 100000 in
set_option maxHeartbeats 8000000 in
theorem refSchCheck_any (s : Sch) (A : Option Addr) (n c : Nat) (A1 : Option Addr) (n1 c1 : Nat) (A2 : Option Addr) (n2 c2 : Nat) (t1 : Nat) (D1 : Option Addr) (m1 k1 u1 t2 : Nat) (D2 : Option Addr) (m2 k2 u2 : Nat) (S X : Bo.Sr) (w : World) (h : SchAt w s A n c A1 n1 c1 A2 n2 c2) (hS : Bo.RSrt w.heap.size w t1 D1 m1 k1 u1 S) (hX : Bo.RSrt w.heap.size w t2 D2 m2 k2 u2 X) (x : Int) (hx : s.check S X = x) :
    Calls Tryz.prog 11 #[schV s A n c A1 n1 c1 A2 n2 c2, Bo.rsV t1 D1 m1 k1 u1, Bo.rsV t2 D2 m2 k2 u2] w fun e w' => e = .returned (.int .i64 x) ∧ Below w.heap.size w w' := by
  obtain ⟨lv, ev, bo, sl, se⟩ := s
  have HT1 := Lib.hid (fun W (hW : Bo.RSrt W.heap.size W t1 D1 m1 k1 u1 S) (q : Nat) (hq : q ≤ 64) (v : Bool) (z : Nat) (hz : z < 18446744073709551616) => Bo.term_ref t1 D1 m1 k1 u1 S v z q W hW.rhas hz hq)
  have HT2 := Lib.hid (fun W (hW : Bo.RSrt W.heap.size W t2 D2 m2 k2 u2 X) (q : Nat) (hq : q ≤ 64) (v : Bool) (z : Nat) (hz : z < 18446744073709551616) => Bo.term_ref t2 D2 m2 k2 u2 X v z q W hW.rhas hz hq)
  have HK1 := Lib.hid (fun W (hW : Bo.RSrt W.heap.size W t1 D1 m1 k1 u1 S) (y : Int) (h : SchAt W ⟨lv, ev, bo, sl, se⟩ A n c A1 n1 c1 A2 n2 c2) (hy : Bo.chkS S lv sl = y) => Bo.check_ref t1 D1 m1 k1 u1 lv A1 n1 c1 sl S W y hW.rhas h.l h.lf hy)
  have HK2 := Lib.hid (fun W (hW : Bo.RSrt W.heap.size W t2 D2 m2 k2 u2 X) (y : Int) (h : SchAt W ⟨lv, ev, bo, sl, se⟩ A n c A1 n1 c1 A2 n2 c2) (hy : Bo.chkS X ev se = y) => Bo.check_ref t2 D2 m2 k2 u2 ev A2 n2 c2 se X W y hW.rhas h.e h.ef hy)
  unfold Bo.rsV Bo.tmv at HT1 HT2
  unfold Bo.rsV at HK1 HK2
  unfold schV Bo.rsV
  have hz := Box.new w lv ev A n c A1 n1 c1 A2 n2 c2
  obtain ⟨wa, hwa⟩ : ∃ wa, w.alloc (.cells #[.int .i64 lv, .int .i64 ev, .slice A n c, .slice A1 n1 c1, .slice A2 n2 c2] 25) = wa := ⟨_, rfl⟩
  have hb : Below w.heap.size w wa := hwa ▸ (Below.refl _ _).alloc (Nat.le_refl _) _
  rw [hwa] at hz
  have hsa : wa.heap.size = w.heap.size + 1 := by rw [← hwa, World.size_alloc]
  have hy := RBox.new wa t1 D1 m1 k1 u1
  obtain ⟨wb, hwb⟩ : ∃ wb, wa.alloc (.cells #[.int .i64 (t1 : Int), .slice D1 m1 k1, .int .i64 (u1 : Int)] 44) = wb := ⟨_, rfl⟩
  have hv : Below wa.heap.size wa wb := hwb ▸ (Below.refl _ _).alloc (Nat.le_refl _) _
  rw [hwb, hsa] at hy
  replace hz := hz.keep hv
  replace hb := hb.trans (hv.mono hb.size)
  have hsb : wb.heap.size = w.heap.size + 1 + 1 := by rw [← hwb, World.size_alloc, hsa]
  clear hv hsa
  have hx2 := RBox.new wb t2 D2 m2 k2 u2
  obtain ⟨wc, hwc⟩ : ∃ wc, wb.alloc (.cells #[.int .i64 (t2 : Int), .slice D2 m2 k2, .int .i64 (u2 : Int)] 44) = wc := ⟨_, rfl⟩
  have hv : Below wb.heap.size wb wc := hwc ▸ (Below.refl _ _).alloc (Nat.le_refl _) _
  rw [hwc, hsb] at hx2
  replace hz := hz.keep hv
  replace hy := hy.keep hv
  replace hb := hb.trans (hv.mono hb.size)
  clear hv hsb
  have H := Lib.hid h
  have HS := Lib.hid hS
  have HX := Lib.hid hX
  have HR := Lib.hid hx
  have HB := Lib.hid hb
  have hc := refCheck_any A n c bo _ (h.keep hb).b h.bf
  clear h hS hX hx hb
  subst hwa hwb hwc
  have hz2 := hz.z2
  go_enter Tryz.func11, Tryz.ntmps11
  go_wp2_with fail
  refine hc.mono ?_
  rintro e w1 ⟨rfl, hv⟩
  replace hz := hz.keep hv
  replace hy := hy.keep hv
  replace hx2 := hx2.keep hv
  have hb2 := HB.out.trans (hv.mono HB.out.size)
  clear HB hc hv hz2
  have HB := Lib.hid hb2
  clear hb2
  have hr := HR.out
  unfold Sch.check at hr
  simp only at hr
  by_cases h0 : checkB bo = 0
  case neg =>
    rw [if_neg h0] at hr
    have hne : ((checkB bo : Int) != 0) = true := by simp; omega
    have hne2 : ((checkB bo : Int) == 0) = false := by simp; omega
    rw [hr] at hne hne2 ⊢
    clear HR hz hy hx2 h0 hr HT1 HT2 HK1 HK2
    go_wp2_with fail
    go_ret
    exact ⟨rfl, HB.out⟩
  rw [if_pos h0] at hr
  have HR2 := Lib.hid hr
  rw [h0]
  have H0 := Lib.hid h0
  clear h0 hr HR
  obtain ⟨x1, hx1⟩ : ∃ y, Bo.chkS S lv sl = y := ⟨_, rfl⟩
  obtain ⟨x2, hx2'⟩ : ∃ y, Bo.chkS X ev se = y := ⟨_, rfl⟩
  have hc := HK1.out w1 (HS.out.keep HB.out) x1 (H.out.keep HB.out) hx1
  have HC := Lib.hid hc
  clear hc HK1
  have hz0 := hz.z0
  have hz3 := hz.z3
  have s0 := hy.s0
  have s1 := hy.s1
  have s2 := hy.s2
  go_wp2_with fail
  refine HC.out.mono ?_
  rintro e w2 ⟨rfl, hv⟩
  clear hz0 hz3 s0 s1 s2 HC
  replace hz := hz.keep hv
  replace hy := hy.keep hv
  replace hx2 := hx2.keep hv
  have hb2 := HB.out.trans (hv.mono HB.out.size)
  clear HB hv
  have HB := Lib.hid hb2
  clear hb2
  by_cases e1 : x1 = 0
  case neg =>
    have hr : x1 = x := by
      have := HR2.out
      rw [hx1] at this
      unfold orE at this
      rw [if_neg e1] at this
      exact this
    subst hr
    have hne : (x1 != 0) = true := by simpa using e1
    have hne2 : (x1 == 0) = false := by simpa using e1
    clear HR2 hz hy hx2 e1 hx1 hx2' HT1 HT2 HK2
    go_wp2_with fail
    go_ret
    exact ⟨rfl, HB.out⟩
  subst e1
  have hc := HK2.out w2 (HX.out.keep HB.out) x2 (H.out.keep HB.out) hx2'
  have HC := Lib.hid hc
  clear hc HK2
  have hz1 := hz.z1
  have hz4 := hz.z4
  have s0 := hx2.s0
  have s1 := hx2.s1
  have s2 := hx2.s2
  go_wp2_with fail
  refine HC.out.mono ?_
  rintro e w3 ⟨rfl, hv⟩
  clear hz1 hz4 s0 s1 s2 HC
  replace hz := hz.keep hv
  replace hy := hy.keep hv
  replace hx2 := hx2.keep hv
  have hb2 := HB.out.trans (hv.mono HB.out.size)
  clear HB hv
  have HB := Lib.hid hb2
  clear hb2
  by_cases e2 : x2 = 0
  case neg =>
    have hr : x2 = x := by
      have := HR2.out
      rw [hx1, hx2'] at this
      unfold orE at this
      rw [if_pos rfl, if_neg e2] at this
      exact this
    subst hr
    have hne : (x2 != 0) = true := by simpa using e2
    clear HR2 hz hy hx2 e2 hx1 hx2' HT1 HT2
    go_wp2_with fail
    go_ret
    exact ⟨rfl, HB.out⟩
  subst e2
  obtain ⟨p1, p2, -, -⟩ := chk_zero.1 hx1
  obtain ⟨p3, p4, -, -⟩ := chk_zero.1 hx2'
  have hfin : (if (labB bo).all (may1 S lv) then (if (effB bo).all (may1 X ev) then (0 : Int) else 1) else 1) = x := by
    rw [← HR2.out, hx1, hx2', chk_bnd_val p1 p2 (labB_len bo), chk_bnd_val p3 p4 (Nat.le_trans (effB_len bo) (by decide))]
    unfold orE
    by_cases a : (labB bo).all (may1 S lv) = true <;> by_cases b : (effB bo).all (may1 X ev) = true <;> simp [a, b]
  obtain ⟨ql, hql⟩ : ∃ q : Nat, lv = (q : Int) := ⟨lv.toNat, by omega⟩
  obtain ⟨qe, hqe⟩ : ∃ q : Nat, ev = (q : Int) := ⟨ev.toNat, by omega⟩
  have HQL := Lib.hid (And.intro hql (show ql ≤ 64 by omega))
  have HQE := Lib.hid (And.intro hqe (show qe ≤ 64 by omega))
  clear p1 p2 p3 p4 hx1 hx2' HR2 hql hqe
  obtain ⟨kl, hkl⟩ : ∃ k, (labB bo).length = k := ⟨_, rfl⟩
  obtain ⟨ke, hke⟩ : ∃ k, (effB bo).length = k := ⟨_, rfl⟩
  have HKL := Lib.hid (show kl ≤ 256 by rw [← hkl]; exact labB_len bo)
  have HKE := Lib.hid (show ke ≤ 256 by rw [← hke]; exact Nat.le_trans (effB_len bo) (by decide))
  have hc := refOf_any A n c bo w3 (H.out.keep HB.out).b H.out.bf
  have HU1 := Lib.hid (labB_u64 H.out.bt)
  have HU2 := Lib.hid (effB_u64 H.out.bt)
  have hz2 := hz.z2
  simp only at HU1 HU2
  have HFIN := Lib.hid hfin
  clear hfin
  generalize labB bo = ls at *
  generalize effB bo = es at *
  go_wp2_with fail
  refine hc.mono ?_
  rintro e w4 ⟨v1, v2, rfl, hT⟩
  have hv := hT.bel
  replace hz := hz.keep hv
  replace hy := hy.keep hv
  replace hx2 := hx2.keep hv
  have hb2 := HB.out.trans (hv.mono HB.out.size)
  have o2 := hT.o2
  have o3 := hT.o3
  obtain ⟨B1, d1, rfl⟩ := rs_own_form o2
  obtain ⟨B2, d2, rfl⟩ := rs_own_form o3
  rw [hkl] at o2 ⊢
  rw [hke] at o3 ⊢
  have H1 := Lib.hid (Rs.of_own (l := ls) (n := kl) spc_len (by decide) o2)
  have H2 := Lib.hid (Rs.of_own (l := es) (n := ke) spc_len (by decide) o3)
  have HLS := Lib.hid hkl
  have HES := Lib.hid hke
  clear HB hc hv hz2 hT o2 o3 hkl hke
  have HB := Lib.hid hb2
  clear hb2
  go_wp2_with fail
  have HZ := Lib.hid hz
  have HY := Lib.hid hy
  have HX2 := Lib.hid hx2
  clear hz hy hx2
  obtain ⟨wl1, hwl⟩ : ∃ wb, wb = w4 := ⟨_, rfl⟩
  rw [← hwl] at HZ HY HX2 HB H1 H2 ⊢
  clear hwl
  go_loopw [10] (fun v10 wr => RcRel (may1 S lv) ls wl1 v10 wr) (fun v10 _ => kl - (intOf v10).toNat)
  case atStart => exact ⟨0, rfl, Nat.zero_le _, rfl, Below.refl _ _⟩
  case round =>
    obtain ⟨i, rfl, hi, hall, hb3⟩ := hrel
    by_cases hlt : i < kl
    case pos =>
      have hi' : i < ls.length := by rw [HLS.out]; exact hlt
      obtain ⟨b', o, hbo, hbb, e0, e1, e2, e3, e4⟩ := spot_at (H1.out.at_size (Nat.le_refl _) hb3) hi'
      subst hbo
      have hu := HU1.out _ (List.getElem_mem hi')
      have HSTEP := Lib.hid (rc_step hi' hall)
      have HOFF := Lib.hid (fun e : may1 S lv ls[i] = false => rc_off hi' e)
      have bx := HY.out.keep hb3
      have s0 := bx.s0
      have s1 := bx.s1
      have s2 := bx.s2
      have hz0 := (HZ.out.keep hb3).z0
      generalize ls[i] = y at *
      obtain ⟨xn, xp, xs, xv, xz⟩ := y
      simp only at e3 e4 hu
      obtain ⟨z, rfl, hzz⟩ := hu.nat
      have hdr : Below wr.heap.size wr wr.drew := (Below.refl _ _).drew
      have hcall := HT1.out wr.drew ((HS.out.keep (HB.out.trans (hb3.mono HB.out.size))).keep hdr) ql HQL.out.2 xv z hzz
      obtain ⟨r, hr⟩ : ∃ r, may1 S lv ⟨xn, xp, xs, xv, (z : Int)⟩ = r := ⟨_, rfl⟩
      have hdef : Bo.mayT S ql xv z = r := by
        rw [← hr]
        show Bo.mayT _ _ _ _ = Bo.mayT _ _ _ _
        rw [HQL.out.1, Int.toNat_natCast, Int.toNat_natCast]
      rw [hdef, ← HQL.out.1] at hcall
      rw [hr] at HSTEP HOFF
      have HC := Lib.hid hcall
      have HLT := Lib.hid hlt
      have hi9 : i ≤ 1000 := by have := HKL.out; omega
      have hbd := hb3.trans (hdr.mono hb3.size)
      have HBD := Lib.hid hbd
      have g0 : wr.drew.cell? _ = _ := s0
      have g1 : wr.drew.cell? _ = _ := s1
      have g2 : wr.drew.cell? _ = _ := s2
      have g3 : wr.drew.cell? _ = _ := e3
      have g4 : wr.drew.cell? _ = _ := e4
      have g5 : wr.drew.cell? _ = _ := hz0
      clear hall hi hu hzz hbb hi' e0 e1 e2 bx hdef hr hbd hcall hb3
      go_wp2_with fail
      refine wp_region_ord [0, 1, 2, 3, 4, 5, 6, 7, 8, 9] [8] 10 (fun w' => w'.cell? ⟨w.heap.size + 1, 0, none⟩ = some (.int .i64 (t1 : Int)) ∧ w'.cell? ⟨w.heap.size + 1, 1, none⟩ = some (.slice D1 m1 k1) ∧ w'.cell? ⟨w.heap.size + 1, 2, none⟩ = some (.int .i64 (u1 : Int)) ∧ w'.cell? ⟨b', o + i * 5 + 3, none⟩ = some (.bool xv) ∧ w'.cell? ⟨b', o + i * 5 + 4, none⟩ = some (.int .u64 (z : Int)) ∧ w'.cell? ⟨w.heap.size, 0, none⟩ = some (.int .i64 lv)) (by kernel_rfl) (by kernel_rfl) (by kernel_rfl) (by kernel_rfl) (fun _ _ _ _ _ h => h) ⟨s0, s1, s2, e3, e4, hz0⟩ ?_
      simp only [steps, List.getElem?_cons_zero, List.getElem?_cons_succ]
      repeat (first
        | (refine ord_no rfl ?_; simp only [Act.put, List.setIfInBounds_toArray, List.set_cons_zero, List.set_cons_succ])
        | (refine ord_yes (v := ?_) rfl rfl ?_ ?_; rotate_left; (focus (rintro w' ⟨hS0, hS1, hS2, hS3, hS4, hS5⟩; go_simp; try with_reducible rfl)); simp only [Act.put, List.setIfInBounds_toArray, List.set_cons_zero, List.set_cons_succ]))
      refine ord_hard rfl rfl (fun K hK => ?_)
      go_simp
      refine HC.out.mono ?_
      rintro e w7 ⟨rfl, hv⟩
      have HBE := Lib.hid (HBD.out.trans (hv.mono HBD.out.size))
      refine hK.out _ _ (fun _ => ⟨cell_old g0 hv, cell_old g1 hv, cell_old g2 hv, cell_old g3 hv, cell_old g4 hv, cell_old g5 hv⟩) ?_
      clear hK K hv
      try simp only [Act.put, List.setIfInBounds_toArray, List.set_cons_zero, List.set_cons_succ]
      repeat (first
        | (refine ord_no rfl ?_; simp only [Act.put, List.setIfInBounds_toArray, List.set_cons_zero, List.set_cons_succ])
        | (refine ord_yes (v := ?_) rfl rfl ?_ ?_; rotate_left; (focus (rintro w' ⟨hS0, hS1, hS2, hS3, hS4, hS5⟩; go_simp; try with_reducible rfl)); simp only [Act.put, List.setIfInBounds_toArray, List.set_cons_zero, List.set_cons_succ]))
      refine ord_end ?_
      clear s0 s1 s2 e3 e4 hz0 g0 g1 g2 g3 g4 g5 HC hdr
      cases r with
      | true =>
        clear HOFF
        go_wp2_with fail
        go_roundw
        case rel => exact ⟨i + 1, by go_num, by have := HLT.out; have := HLS.out; omega, HSTEP.out, HBE.out⟩
        case measure =>
          have := HLT.out
          simp [intOf]
          omega
      | false =>
        have hoff := HOFF.out rfl
        have hfin := HFIN.out
        rw [hoff] at hfin
        simp only [Bool.false_eq_true, if_false] at hfin
        subst hfin
        have HBF := Lib.hid (HB.out.trans (HBE.out.mono HB.out.size))
        clear HOFF HSTEP hoff HFIN
        go_wp2_with fail
        go_ret
        exact ⟨rfl, HBF.out⟩
    case neg =>
    obtain rfl : kl = i := by have := HLS.out; omega
    have HALL1 : Hid (ls.all (may1 S lv) = true) := Lib.hid (by rw [← hall, List.take_of_length_le (by rw [HLS.out]; omega)])
    have hz := HZ.out.keep hb3
    have hy := HY.out.keep hb3
    have hx2 := HX2.out.keep hb3
    have h1 := H1.out.at_size (Nat.le_refl _) hb3
    have h2 := H2.out.at_size (Nat.le_refl _) hb3
    have hb2 := HB.out.trans (hb3.mono HB.out.size)
    clear HB H1 H2 HZ HY HX2 hall hi hlt hb3
    have HB := Lib.hid hb2
    have H1 := Lib.hid h1
    have H2 := Lib.hid h2
    clear hb2 h1 h2
    go_wp2_with fail
    have HZ := Lib.hid hz
    have HY := Lib.hid hy
    have HX2 := Lib.hid hx2
    clear hz hy hx2
    obtain ⟨wl2, hwl⟩ : ∃ wb, wb = wr := ⟨_, rfl⟩
    rw [← hwl] at HZ HY HX2 HB H1 H2 ⊢
    clear hwl
    go_loopw [11] (fun v10 wr => RcRel (may1 X ev) es wl2 v10 wr) (fun v10 _ => ke - (intOf v10).toNat)
    case atStart => exact ⟨0, rfl, Nat.zero_le _, rfl, Below.refl _ _⟩
    case round =>
      obtain ⟨i, rfl, hi, hall, hb3⟩ := hrel
      by_cases hlt : i < ke
      case pos =>
        have hi' : i < es.length := by rw [HES.out]; exact hlt
        obtain ⟨b', o, hbo, hbb, e0, e1, e2, e3, e4⟩ := spot_at (H2.out.at_size (Nat.le_refl _) hb3) hi'
        subst hbo
        have hu := HU2.out _ (List.getElem_mem hi')
        have HSTEP := Lib.hid (rc_step hi' hall)
        have HOFF := Lib.hid (fun e : may1 X ev es[i] = false => rc_off hi' e)
        have bx := HX2.out.keep hb3
        have s0 := bx.s0
        have s1 := bx.s1
        have s2 := bx.s2
        have hz1 := (HZ.out.keep hb3).z1
        generalize es[i] = y at *
        obtain ⟨xn, xp, xs, xv, xz⟩ := y
        simp only at e3 e4 hu
        obtain ⟨z, rfl, hzz⟩ := hu.nat
        have hdr : Below wr.heap.size wr wr.drew := (Below.refl _ _).drew
        have hcall := HT2.out wr.drew ((HX.out.keep (HB.out.trans (hb3.mono HB.out.size))).keep hdr) qe HQE.out.2 xv z hzz
        obtain ⟨r, hr⟩ : ∃ r, may1 X ev ⟨xn, xp, xs, xv, (z : Int)⟩ = r := ⟨_, rfl⟩
        have hdef : Bo.mayT X qe xv z = r := by
          rw [← hr]
          show Bo.mayT _ _ _ _ = Bo.mayT _ _ _ _
          rw [HQE.out.1, Int.toNat_natCast, Int.toNat_natCast]
        rw [hdef, ← HQE.out.1] at hcall
        rw [hr] at HSTEP HOFF
        have HC := Lib.hid hcall
        have HLT := Lib.hid hlt
        have hi9 : i ≤ 1000 := by have := HKE.out; omega
        have hbd := hb3.trans (hdr.mono hb3.size)
        have HBD := Lib.hid hbd
        have g0 : wr.drew.cell? _ = _ := s0
        have g1 : wr.drew.cell? _ = _ := s1
        have g2 : wr.drew.cell? _ = _ := s2
        have g3 : wr.drew.cell? _ = _ := e3
        have g4 : wr.drew.cell? _ = _ := e4
        have g5 : wr.drew.cell? _ = _ := hz1
        clear hall hi hu hzz hbb hi' e0 e1 e2 bx hdef hr hbd hcall hb3
        go_wp2_with fail
        refine wp_region_ord [0, 1, 2, 3, 4, 5, 6, 7, 8, 9] [8] 10 (fun w' => w'.cell? ⟨w.heap.size + 1 + 1, 0, none⟩ = some (.int .i64 (t2 : Int)) ∧ w'.cell? ⟨w.heap.size + 1 + 1, 1, none⟩ = some (.slice D2 m2 k2) ∧ w'.cell? ⟨w.heap.size + 1 + 1, 2, none⟩ = some (.int .i64 (u2 : Int)) ∧ w'.cell? ⟨b', o + i * 5 + 3, none⟩ = some (.bool xv) ∧ w'.cell? ⟨b', o + i * 5 + 4, none⟩ = some (.int .u64 (z : Int)) ∧ w'.cell? ⟨w.heap.size, 1, none⟩ = some (.int .i64 ev)) (by kernel_rfl) (by kernel_rfl) (by kernel_rfl) (by kernel_rfl) (fun _ _ _ _ _ h => h) ⟨s0, s1, s2, e3, e4, hz1⟩ ?_
        simp only [steps, List.getElem?_cons_zero, List.getElem?_cons_succ]
        repeat (first
          | (refine ord_no rfl ?_; simp only [Act.put, List.setIfInBounds_toArray, List.set_cons_zero, List.set_cons_succ])
          | (refine ord_yes (v := ?_) rfl rfl ?_ ?_; rotate_left; (focus (rintro w' ⟨hS0, hS1, hS2, hS3, hS4, hS5⟩; go_simp; try with_reducible rfl)); simp only [Act.put, List.setIfInBounds_toArray, List.set_cons_zero, List.set_cons_succ]))
        refine ord_hard rfl rfl (fun K hK => ?_)
        go_simp
        refine HC.out.mono ?_
        rintro e w7 ⟨rfl, hv⟩
        have HBE := Lib.hid (HBD.out.trans (hv.mono HBD.out.size))
        refine hK.out _ _ (fun _ => ⟨cell_old g0 hv, cell_old g1 hv, cell_old g2 hv, cell_old g3 hv, cell_old g4 hv, cell_old g5 hv⟩) ?_
        clear hK K hv
        try simp only [Act.put, List.setIfInBounds_toArray, List.set_cons_zero, List.set_cons_succ]
        repeat (first
          | (refine ord_no rfl ?_; simp only [Act.put, List.setIfInBounds_toArray, List.set_cons_zero, List.set_cons_succ])
          | (refine ord_yes (v := ?_) rfl rfl ?_ ?_; rotate_left; (focus (rintro w' ⟨hS0, hS1, hS2, hS3, hS4, hS5⟩; go_simp; try with_reducible rfl)); simp only [Act.put, List.setIfInBounds_toArray, List.set_cons_zero, List.set_cons_succ]))
        refine ord_end ?_
        clear s0 s1 s2 e3 e4 hz1 g0 g1 g2 g3 g4 g5 HC hdr
        cases r with
        | true =>
          clear HOFF
          go_wp2_with fail
          go_roundw
          case rel => exact ⟨i + 1, by go_num, by have := HLT.out; have := HES.out; omega, HSTEP.out, HBE.out⟩
          case measure =>
            have := HLT.out
            simp [intOf]
            omega
        | false =>
          have hoff := HOFF.out rfl
          have hfin := HFIN.out
          rw [HALL1.out, hoff] at hfin
          simp only [Bool.false_eq_true, if_false, if_true] at hfin
          subst hfin
          have HBF := Lib.hid (HB.out.trans (HBE.out.mono HB.out.size))
          clear HOFF HSTEP hoff HFIN
          go_wp2_with fail
          go_ret
          exact ⟨rfl, HBF.out⟩
      case neg =>
      obtain rfl : ke = i := by have := HES.out; omega
      have HALL2 : Hid (es.all (may1 X ev) = true) := Lib.hid (by rw [← hall, List.take_of_length_le (by rw [HES.out]; omega)])
      have hz := HZ.out.keep hb3
      have hy := HY.out.keep hb3
      have hx2 := HX2.out.keep hb3
      have h1 := H1.out.at_size (Nat.le_refl _) hb3
      have h2 := H2.out.at_size (Nat.le_refl _) hb3
      have hb2 := HB.out.trans (hb3.mono HB.out.size)
      clear HB H1 H2 HZ HY HX2 hall hi hlt hb3
      have HB := Lib.hid hb2
      have H1 := Lib.hid h1
      have H2 := Lib.hid h2
      clear hb2 h1 h2
      have hfin := HFIN.out
      rw [HALL1.out, HALL2.out] at hfin
      simp only [if_true] at hfin
      subst hfin
      clear HFIN hz hy hx2
      go_wp2_with fail
      go_ret
      exact ⟨rfl, HB.out⟩
end Go.Proofs.YtmiconjmeaammaaGreatDoor
