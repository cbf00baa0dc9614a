/- Proved: whatever the nodes, TypesCut answers true: a body that may be is none with a node fewer at its end, or one more; nor with one more below any node; the argument stays as it was. No condition. -/
import Derived.Test.YtfcjnbfbnffcjaaNdLaw
import Derived.Test.YtfcjnbfbnffcjaaOpenNd
import Derived.Test.YtfcjnbfbnffcjaaRows
namespace Go.Proofs.Ytfcjnbfbnffcjaa.typesCut
open Go.ChangeShapes Go.WideShapes Go.ChangeAt Go.RowKit

theorem own : ownKnob Try.prog.godebug = none := by kernel_rfl
theorem laidOut : laidOutB Try.prog = true := by kernel_rfl

theorem u8_nat {a : Int} (h : (Lit.int .u8 a).wf = true) : ∃ x : Nat, a = (x : Int) ∧ x < 256 := by
  obtain ⟨h1, h2⟩ := u8_fits h
  exact ⟨a.toNat, by omega, by omega⟩

theorem nd_of_kids {l : List Nd} (h : checkB l = 0) {k : Nat} (hk : k < l.length) : 0 ≤ l[k].n ∧ l[k].n ≤ 8 := by
  obtain ⟨ks, post, wf, _⟩ := body_at h hk
  obtain ⟨_, h2, h3, _⟩ := wf
  omega

/-- One kid more. -/
def bump (x : Nd) : Nd := { x with n := x.n + 1 }

theorem set_cells {l : List Nd} {k : Nat} (h : k < l.length) {u : Value} {i : Nat} (hi : i < 10) {y : Nd} (hy : ndc y = (ndc l[k]).set i u) {tl : List Value} :
    (l.flatMap ndc ++ tl).set (k * 10 + i) u = (l.set k y).flatMap ndc ++ tl := by
  have h10 : (l.flatMap ndc).length = l.length * 10 := flat_len ndc_len l
  rw [List.set_append_left _ _ (by rw [h10]; omega)]
  congr 1
  induction l generalizing k with
  | nil => simp at h
  | cons x l ih =>
    cases k with
    | zero =>
      simp only [List.getElem_cons_zero] at hy
      rw [List.set_cons_zero, List.flatMap_cons, List.flatMap_cons, hy, Nat.zero_mul, Nat.zero_add, List.set_append_left _ _ (by rw [ndc_len]; exact hi)]
    | succ k =>
      simp only [List.getElem_cons_succ] at hy
      rw [List.set_cons_succ, List.flatMap_cons, List.flatMap_cons, List.set_append_right _ _ (by rw [ndc_len, Nat.add_mul]; omega), ndc_len, show (k + 1) * 10 + i - 10 = k * 10 + i by rw [Nat.add_mul]; omega]
      rw [ih (by simpa using h) hy (flat_len ndc_len l)]

/-- A node of a row of one's own is set anew. -/
theorem own_set {w : World} {base g n c : Nat} {l : List Nd} (h : w.ownsRow base 36 10 (.slice (some ⟨g, 0, none⟩) n c) n (l.flatMap ndc)) {k : Nat} (hk : k < l.length) {u : Value} {i : Nat} (hi : i < 10) {y : Nd} (hy : ndc y = (ndc l[k]).set i u) :
    (w.setCell ⟨g, k * 10 + i, none⟩ u).ownsRow base 36 10 (.slice (some ⟨g, 0, none⟩) n c) n ((l.set k y).flatMap ndc) := by
  have hl : (l.flatMap ndc).length = l.length * 10 := flat_len ndc_len l
  have hn : l.length = n := rs_own_len ndc_len (by decide) h
  rcases h.2 with ⟨hv, _⟩ | ⟨g', cap, cur, hv, hb, hg, hnc, hcm, hcs, htake⟩
  · cases hv
  · injection hv with h1 h2 h3
    injection h1 with h1
    injection h1 with h1
    subst h1
    subst h3
    refine ⟨by rw [flat_len ndc_len, List.length_set, hn], .inr ⟨g, c, cur.setIfInBounds (k * 10 + i) u, rfl, hb, set_blk hg u, hnc, hcm, by simpa using hcs, ?_⟩⟩
    rw [Array.toList_setIfInBounds, List.take_set, htake]
    have := set_cells hk hi hy (tl := [])
    simpa using this

theorem own_node {w : World} {base n c : Nat} {A : Option Addr} {l : List Nd} (h : w.ownsRow base 36 10 (.slice A n c) n (([] ++ l).flatMap ndc)) {k : Nat} (hk : k < l.length) :
    ∃ g, A = some ⟨g, 0, none⟩ ∧ base ≤ g ∧ g < w.heap.size ∧ (∀ i u, (ndc l[k])[i]? = some u → w.cell? ⟨g, k * 10 + i, none⟩ = some u) ∧ ∀ i, w.frozen? ⟨g, i, none⟩ = false := by
  rw [List.nil_append] at h
  rcases h.2 with ⟨hv, hn⟩ | ⟨g, cap, cur, hv, hb, hg, hnc, hcm, hcs, htake⟩
  · have := rs_own_len ndc_len (by decide) h
    omega
  · injection hv with h1 h2 h3
    subst h1
    refine ⟨g, rfl, hb, lt_blk hg, fun i u hu => ?_, fun i => frozen_blk hg⟩
    have hi : i < 10 := by
      have := (List.getElem?_eq_some_iff.1 hu).1
      rwa [ndc_len] at this
    have := h.cells (g := g) rfl (k * 10 + i) u (by rw [flat_get ndc_len l k hk i hi]; exact hu)
    rwa [Addr.add_lit, Nat.zero_add] at this

set_option maxRecDepth 100000 in
set_option maxHeartbeats 4000000 in
theorem walk (A : Option Addr) (n c : Nat) (l : List Nd) (z : Nat) (w : World) (h : Ns w w.heap.size A n c l) (hf : ∀ x ∈ l, x.Fits) (hz : z < 256) :
    Calls Try.prog 6 #[.slice A n c, .int .u8 (z : Int)] w fun e w' => e = .returned (.bool true) ∧ Below w.heap.size w w' := by
  have HL := Lib.hid h.len
  have hchk := check_any A n c l w h hf
  by_cases h127 : 127 < n
  · have h127' : (127 : Int) < (n : Int) := by omega
    clear h hf hchk
    go_enter Try.func6, Try.ntmps6
    go_wp2_with fail
    refine (alive_any _).mono ?_
    rintro e w1 ⟨rfl, hb⟩
    go_wp2_with fail
    go_ret
    exact ⟨rfl, hb⟩
  have h127' : ¬ (127 : Int) < (n : Int) := by omega
  by_cases hc : checkB l = 0
  case neg =>
    generalize checkB l = r at *
    have hr : ((r : Int) != 0) = true := by simp; omega
    clear h hf hc
    go_enter Try.func6, Try.ntmps6
    go_wp2_with fail
    refine hchk.mono ?_
    rintro e w1 ⟨rfl, hb⟩
    go_wp2_with fail
    refine (alive_any _).mono ?_
    rintro e w2 ⟨rfl, hb2⟩
    have hb3 := hb.trans (hb2.mono hb.size)
    go_wp2_with fail
    go_ret
    exact ⟨rfl, hb3⟩
  rw [hc] at hchk
  have hcapc := h.cap
  have hn0 : 0 < n := by rw [← HL.out]; exact List.length_pos_iff.2 (check_chk hc).1
  obtain ⟨q, hq⟩ : ∃ q, q = z % n := ⟨_, rfl⟩
  have hqn : q < n := by rw [hq]; exact Nat.mod_lt _ hn0
  have hql : q < l.length := by rw [HL.out]; exact hqn
  have hmod : ((z : Int) % (n : Int)) = (q : Int) := by rw [hq, Int.natCast_emod]
  have HMOD := Lib.hid hmod
  have HFL := Lib.hid hf
  have HC := Lib.hid hc
  have HN := nd_of_kids HC.out hql
  have g1 : ((n : Int) == 0) = false := by simp; omega
  have g2 : ¬ (n : Int) = 0 := by omega
  have g3 : ¬ n = 0 := by omega
  clear hf hc hq hmod
  go_enter Try.func6, Try.ntmps6
  go_wp2_with fail
  refine hchk.mono ?_
  rintro e w1 ⟨rfl, hb⟩
  have HB := Lib.hid (h.at_size (Nat.le_refl _) hb)
  clear h hchk
  go_wp2_with (refine wpList_append_nd rfl (.const (.slice none 0 0)) (.tmp 23) rfl w1.heap.size _ 0 [] rfl (World.ownsRow_nil _ _ _ _) _ A n c l rfl HB.out (by omega) (Nat.le_refl _) ?_; intro A0 k0 c0 u0 HK0 HA0)
  have hg0 : Below w1.heap.size w1 u0 := (Below.refl _ _).grown HA0.out.grown (Nat.le_refl _) fun j hj => by cases hj
  refine (whole_any _).mono ?_
  rintro e w2 ⟨rfl, hv⟩
  have ho2 := own_same HA0.out.own fun q hq => hv.block q (HA0.out.own.lt q hq).2
  have hg2 := hg0.trans (hv.mono hg0.size)
  have hsz2 := hg2.size
  have hnw := Rs.of_blk (l := [nInt]) (n := 1) (c := 1) ndc_len (heap_alloc_new w2 oOne) ⟨[], rfl⟩ rfl (Nat.le_refl _) (by unfold maxLen; omega)
  have hal2 : Below w1.heap.size w1 (w2.alloc oOne) := hg2.alloc hg2.size _
  have HO2 := Lib.hid (own_same (w' := w2.alloc oOne) ho2 fun q hq => Below.heap_alloc w2 oOne q (ho2.lt q hq).2)
  clear ho2 hv hg0 hg2
  have hn1a : (0 : Int) ≤ (n : Int) - 1 := by omega
  have hn1b : (n : Int) - 1 ≤ (c : Int) := by omega
  have HNW := Lib.hid hnw
  have HAL2 := Lib.hid hal2
  have HBB := Lib.hid hb
  clear hnw hal2 hb hsz2
  go_wp2_with (first
    | (refine wpList_append_nd rfl (.tmp 24) (.tmp 26) rfl w1.heap.size _ k0 ([] ++ l) rfl HO2.out _ _ 1 1 [nInt] rfl HNW.out (by have := HK0.out; omega) HAL2.out.size ?_; intro A1 k1 c1 u1 HK1 HA1; have HGR := Lib.hid (HAL2.out.grown HA1.out.grown HAL2.out.size fun j hj => (HO2.out.lt j hj).1); have HB1 := Lib.hid (HB.out.at_size (Nat.le_refl _) HGR.out))
    | (rw [HMOD.out]; refine wpList_append_nd rfl (.const (.slice none 0 0)) (.tmp 33) rfl u1.heap.size _ 0 [] rfl (World.ownsRow_nil _ _ _ _) _ A n c l rfl HB1.out (by omega) (Nat.le_refl _) ?_; intro A2 k2 c2 u2 HK2 HA2; obtain ⟨g2, rfl, hgb, hgl, hgc, hgf⟩ := own_node HA2.out.own (k := q) hql; have hc3 := hgc 3 _ rfl; have hf3 := hgf (q * 10 + 3); clear hgc hgf; have hk2 : (q : Int) < (k2 : Int) := (by have := HK2.out; omega)))
  clear hn1a hn1b hc3 hf3
  have hgr2 : Below u1.heap.size u1 u2 := (Below.refl _ _).grown HA2.out.grown (Nat.le_refl _) fun j hj => by cases hj
  have hset : Below u1.heap.size u1 (u2.setCell ⟨g2, q * 10 + 3, none⟩ (.int .i64 (l[q].n + 1))) :=
    ((Kept.of_below (D := fun b => u1.heap.size ≤ b) hgr2).setCell (p := ⟨g2, q * 10 + 3, none⟩) (.inl hgb) _).below (Nat.le_refl _) fun _ h => h
  have hown := own_set (l := [] ++ l) HA2.out.own (k := q) hql (i := 3) (u := .int .i64 (l[q].n + 1)) (by decide) (y := bump l[q]) rfl
  have hO : Ns _ _ (some ⟨g2, 0, none⟩) k2 c2 (l.set q (bump l[q])) := Rs.of_own ndc_len (by decide) hown
  have hM : Ns u1 u1.heap.size A1 k1 c1 ([] ++ l ++ [nInt]) := Rs.of_own ndc_len (by decide) HA1.out.own
  have hM2 := hM.at_size (Nat.le_refl _) hset
  have hB2 := HB1.out.at_size (Nat.le_refl _) hset
  have hbu1 := HBB.out.trans (HGR.out.mono HBB.out.size)
  have hb2 := hbu1.trans (hset.mono hbu1.size)
  have hcut := hB2.head (k := n - 1) (by omega)
  have hfb : (bump l[q]).Fits := by
    have h0 := HFL.out _ (List.getElem_mem hql)
    have h8 := HN
    exact ⟨h0.k0, h0.k1, h0.m0, h0.m1, by show _ ≤ l[q].n + 1; omega, by show l[q].n + 1 ≤ _; omega, h0.s1⟩
  have HFO : Hid (∀ x ∈ l.set q (bump l[q]), x.Fits) := Lib.hid fun x hx => by
    rcases List.mem_or_eq_of_mem_set hx with h | rfl
    · exact HFL.out x h
    · exact hfb
  have HFM : Hid (∀ x ∈ [] ++ l ++ [nInt], x.Fits) := Lib.hid (fits_app HFL.out (fits_cons fits_int fits_nil))
  have HFC : Hid (∀ x ∈ l.take (n - 1), x.Fits) := Lib.hid fun x hx => HFL.out x (List.mem_of_mem_take hx)
  have HCM : Hid (checkB ([] ++ l ++ [nInt]) = 4) := Lib.hid (cut_more (l := l) nInt HC.out (by rw [HL.out]; omega))
  have hkid : checkB (l.set q (bump l[q])) ≠ 0 := cut_kids HC.out hql rfl
  obtain ⟨r, hr⟩ : ∃ r, r = checkB (l.set q (bump l[q])) := ⟨_, rfl⟩
  rw [← hr] at hkid
  have HR := Lib.hid hr.symm
  have hr0 : ((r : Int) != 0) = true := by simp; omega
  have hless := cut_less HC.out
  rw [HL.out] at hless
  have HO9 := Lib.hid hO
  have HM9 := Lib.hid hM2
  clear hset hown hO hM hM2 hB2 hgr2 hr hfb HA1 HA2 HGR HBB hbu1
  generalize u2.setCell ⟨g2, q * 10 + 3, none⟩ (.int .i64 (l[q].n + 1)) = W at *
  by_cases hn1 : n = 1
  · have HCL := Lib.hid (hless.1 hn1)
    have hn1' : ((n : Int) == 1) = true := by simp; omega
    clear hless
    refine (check_lit _ _ _ _ 1 _ hcut HFC.out HCL.out).mono ?_
    rintro e v1 ⟨rfl, hv⟩
    have hM := HM9.out.at_size (Nat.le_refl _) hv
    have hO := HO9.out.at_size (Nat.le_refl _) hv
    have hb3 := hb2.trans (hv.mono hb2.size)
    clear hv hcut
    go_wp2_with fail
    refine (alive_any _).mono ?_
    rintro e v2 ⟨rfl, hv⟩
    have hM := hM.at_size (Nat.le_refl _) hv
    have hO := hO.at_size (Nat.le_refl _) hv
    have hb4 := hb3.trans (hv.mono hb3.size)
    clear hv
    go_wp2_with fail
    refine (check_lit _ _ _ _ 4 _ hM HFM.out HCM.out).mono ?_
    rintro e v3 ⟨rfl, hv⟩
    have hO := hO.at_size (Nat.le_refl _) hv
    have hb5 := hb4.trans (hv.mono hb4.size)
    clear hv
    go_wp2_with fail
    refine (check_lit _ _ _ _ r _ hO HFO.out HR.out).mono ?_
    rintro e v4 ⟨rfl, hv⟩
    have hb6 := hb5.trans (hv.mono hb5.size)
    clear hv
    go_wp2_with fail
    go_ret
    exact ⟨rfl, hb6⟩
  · have HCL := Lib.hid (hless.2 (by omega))
    clear hless
    refine (check_lit _ _ _ _ 4 _ hcut HFC.out HCL.out).mono ?_
    rintro e v1 ⟨rfl, hv⟩
    have hM := HM9.out.at_size (Nat.le_refl _) hv
    have hO := HO9.out.at_size (Nat.le_refl _) hv
    have hb3 := hb2.trans (hv.mono hb2.size)
    clear hv hcut
    go_wp2_with fail
    refine (alive_any _).mono ?_
    rintro e v2 ⟨rfl, hv⟩
    have hM := hM.at_size (Nat.le_refl _) hv
    have hO := hO.at_size (Nat.le_refl _) hv
    have hb4 := hb3.trans (hv.mono hb3.size)
    clear hv
    go_wp2_with fail
    refine (check_lit _ _ _ _ 4 _ hM HFM.out HCM.out).mono ?_
    rintro e v3 ⟨rfl, hv⟩
    have hO := hO.at_size (Nat.le_refl _) hv
    have hb5 := hb4.trans (hv.mono hb4.size)
    clear hv
    go_wp2_with fail
    refine (check_lit _ _ _ _ r _ hO HFO.out HR.out).mono ?_
    rintro e v4 ⟨rfl, hv⟩
    have hb6 := hb5.trans (hv.mono hb5.size)
    clear hv
    go_wp2_with fail
    go_ret
    exact ⟨rfl, hb6⟩

set_option maxRecDepth 100000 in
theorem lifted (os : Os) (started : os.Started) (H : Type) (enc : TypeId × Value → H) :
    ReturnsInHanded {} Try.checked os 6 .any (Rows.typesCutSpec.pre6 enc Try.prog Try.f6 Rows.typesCutRow.domain false) (Rows.typesCutSpec.post enc Try.prog Try.f6 false true false false) := by
  refine returnsInHanded_of_change (C := Try.checked) own started (by kernel_rfl) Try.func6
    (ChangeSpec.witness6 (enc := enc) (C := Try.checked) false ⟨#[], #[.slice none 0 0, .int .u8 0], []⟩ 8 (by kernel_rfl) (by kernel_rfl) (by kernel_rfl) (by kernel_rfl)) ?_
  intro W base args ds gs before hval0 hW hcnd _
  have hval : ∀ (j : Nat) t v, Try.f6.params[j]? = some t → args[j]? = some v → Value.okWide Try.prog W .any base t v := hval0
  have hW' := hW
  obtain ⟨p, q, hA0, hV, rfl, hfz, hnd⟩ := hW
  have hA : DataW.TrodAll enc Try.prog W 0 (fun _ => true) true Try.f6.params.toList args.toList ds p := hA0
  rw [Try.params6] at hA hval
  obtain ⟨v0, vs0, d0, ds0, p0, q0, hargs, rfl, rfl, h0, r0⟩ := trodAll_cons hA
  obtain ⟨v1, vs1, d1, ds1, p1, q1, rfl, rfl, rfl, h1, r1⟩ := trodAll_cons r0
  obtain ⟨rfl, rfl, rfl⟩ := trodAll_nil r1
  obtain rfl : args = #[v0, v1] := by cases args; simp_all
  obtain ⟨rfl, rfl⟩ := trodVars_none hV
  obtain ⟨a0, len0, cap0, rfl⟩ := okWide_slice Try.underlying22 (hval 0 22 v0 rfl rfl)
  have lt0 : ∀ x ∈ p0, x.block < W.heap.size := by obtain ⟨m, hm⟩ := h0; exact DataW.trod_lt m _ _ _ hm
  obtain ⟨l0, hr0, hf0⟩ := opened_nodes h0
  obtain ⟨x1, rfl, rfl, rfl, w1⟩ := open_int Try.underlying5 (hval 1 5 v1 rfl rfl) h1
  clear hA0 hval0
  have w1' := w1
  obtain ⟨y1, rfl, hy1⟩ := u8_nat w1
  refine (walk a0 len0 cap0 l0 y1 W hr0 hf0 hy1).mono fun e W' ⟨he, bel⟩ => ?_
  subst he
  exact ⟨_, rfl, _, _, _, [], _, [], hW', trodAll_mk1 (shut_bool Try.underlying4 _), (trodAll_cons_mk (Below.trod laidOut (by kernel_rfl) (of_decide_eq_true (by kernel_rfl)) h0 bel lt0) (trodAll_cons_mk (shut_int Try.underlying5 w1') trodAll_mk0)), rfl, bel.frame _, fun h => by cases h⟩

theorem over : Rows.typesCutRow.holds Try.pinned (OpenSpec.ofChange Rows.typesCutSpec) :=
  OpenClaim.holds_of_wide 6 Try.f6 rfl rfl rfl rfl rfl rfl rfl ⟨rfl, rfl, rfl, rfl, rfl⟩ rfl rfl rfl rfl rfl (by kernel_rfl) Try.func6 (by kernel_rfl)
    (of_decide_eq_true (by kernel_rfl)) (by unfold Func.isWrapper; first | (rw [if_pos (by decide +kernel)]; kernel_rfl) | (rw [if_neg (by decide +kernel)]; exact ⟨rfl, rfl⟩))
    (fun os started H enc _ => lifted os started H enc)

theorem proved : Rows.TypesCutSaid := over
#print axioms proved

end Go.Proofs.Ytfcjnbfbnffcjaa.typesCut
