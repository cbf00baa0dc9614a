/- Proved: whatever two rows of nodes, and whatever place, TypesOf answers true: whether a body may be, where a node ends, how deep it is, and whether two are the same but for their terms, is what the document tells; they stay as they were. No condition. -/
import Derived.Test.YtfcjnbfbnffcjaaTwinNd
import Derived.Test.YtfcjnbfbnffcjaaOpenNd
import Derived.Test.YtfcjnbfbnffcjaaRefSame
import Derived.Test.YtfcjnbfbnffcjaaRows
namespace Go.Proofs.Ytfcjnbfbnffcjaa.typesOf
open Go.ChangeShapes Go.WideShapes Go.ChangeAt Go.RowKit

theorem own : ownKnob Try.prog.godebug = none := by kernel_rfl
theorem laidOut : laidOutB Try.prog = true := by kernel_rfl

set_option maxRecDepth 100000 in
set_option maxHeartbeats 4000000 in
theorem walk (A : Option Addr) (n c : Nat) (l : List Nd) (A2 : Option Addr) (n2 c2 : Nat) (m : List Nd) (z : Int) (w : World) (h : Ns w w.heap.size A n c l) (hf : ∀ x ∈ l, x.Fits) (h2 : Ns w w.heap.size A2 n2 c2 m) (_ : ∀ x ∈ m, x.Fits) :
    Calls Try.prog 3 #[.slice A n c, .slice A2 n2 c2, .int .i64 z] w fun e w' => e = .returned (.bool true) ∧ Below w.heap.size w w' := by
  have HF := Lib.hid hf
  clear hf
  go_enter Try.func3, Try.ntmps3
  by_cases g1 : 300 < n
  · have g1' : (300 : Int) < (n : Int) := by omega
    go_wp2_with fail
    go_ret
    exact ⟨rfl, Below.refl _ _⟩
  have g1' : ¬ (300 : Int) < (n : Int) := by omega
  by_cases g2 : 300 < n2
  · have g2' : (300 : Int) < (n2 : Int) := by omega
    go_wp2_with fail
    go_ret
    exact ⟨rfl, Below.refl _ _⟩
  have g2' : ¬ (300 : Int) < (n2 : Int) := by omega
  have htw := twin_any A n c l w h (by omega)
  have HA := Lib.hid h
  have HB := Lib.hid h2
  clear h h2
  go_wp2_with fail
  refine htw.mono ?_
  rintro e w1 ⟨g, rfl, ht, hb⟩
  have HT := Lib.hid ht
  have HA := Lib.hid (HA.out.at_size (Nat.le_refl _) hb)
  have HB := Lib.hid (HB.out.at_size (Nat.le_refl _) hb)
  clear ht htw
  go_wp2_with fail
  refine (twin_any A2 n2 c2 m w1 HB.out (by omega)).mono ?_
  rintro e w2 ⟨g', rfl, hu, hv⟩
  have HU := Lib.hid hu
  have HA := Lib.hid (HA.out.at_size (Nat.le_refl _) hv)
  have HB := Lib.hid (HB.out.at_size (Nat.le_refl _) hv)
  have HT := Lib.hid (HT.out.keep hv)
  have hb := hb.trans (hv.mono hb.size)
  clear hv hu
  obtain ⟨r, hr⟩ : ∃ r, r = checkB l := ⟨_, rfl⟩
  obtain ⟨D, hD⟩ : ∃ D, D = F.top (depB l) := ⟨_, rfl⟩
  obtain ⟨s, hs⟩ : ∃ s, s = sameB l m := ⟨_, rfl⟩
  have q1 := Lib.hid (fun W (h : Ns W W.heap.size (some ⟨g, 0, none⟩) n (n + 1) l) => check_any _ n (n + 1) l W h HF.out)
  have q2 := Lib.hid (fun W (h : Ns W W.heap.size A n c l) => refCheck_any A n c l W h HF.out)
  have q3 := Lib.hid (fun W (h : Ns W W.heap.size (some ⟨g, 0, none⟩) n (n + 1) l) => end_any _ n (n + 1) l z W h HF.out)
  have q4 := Lib.hid (fun W (h : Ns W W.heap.size A n c l) => refEnd_any A n c l z W h HF.out)
  have q5 := Lib.hid (fun W (h : Ns W W.heap.size (some ⟨g, 0, none⟩) n (n + 1) l) => deep_any _ n (n + 1) l W h HF.out)
  have q6 := Lib.hid (fun W (h : Ns W W.heap.size A n c l) => refDeep_any A n c l W h HF.out)
  have q7 := Lib.hid (fun W (h : Ns W W.heap.size (some ⟨g, 0, none⟩) n (n + 1) l) (h2 : Ns W W.heap.size (some ⟨g', 0, none⟩) n2 (n2 + 1) m) => same_any _ _ n (n + 1) n2 (n2 + 1) _ l m W h h2 (Nat.le_refl _))
  have q8 := Lib.hid (fun W (h : Ns W W.heap.size A n c l) (h2 : Ns W W.heap.size A2 n2 c2 m) => refSame_any A A2 n c n2 c2 _ l m W h h2)
  rw [← hr] at q1 q2
  rw [← hD] at q5 q6
  rw [← hs] at q7 q8
  have e1 : ((r : Int) == (r : Int)) = true := by simp
  have e2 : ((D : Int) == (D : Int)) = true := by simp
  have e3 : (s == s) = true := by simp
  clear hr hD hs
  go_wp2_with fail
  refine (q1.out _ HT.out.rs).mono ?_
  rintro e w3 ⟨rfl, hv⟩
  have HA := Lib.hid (HA.out.at_size (Nat.le_refl _) hv)
  have HB := Lib.hid (HB.out.at_size (Nat.le_refl _) hv)
  have HT := Lib.hid (HT.out.keep hv)
  have HU := Lib.hid (HU.out.keep hv)
  have hb := hb.trans (hv.mono hb.size)
  clear hv
  go_wp2_with fail
  refine (q2.out _ HA.out).mono ?_
  rintro e w4 ⟨rfl, hv⟩
  have HA := Lib.hid (HA.out.at_size (Nat.le_refl _) hv)
  have HB := Lib.hid (HB.out.at_size (Nat.le_refl _) hv)
  have HT := Lib.hid (HT.out.keep hv)
  have HU := Lib.hid (HU.out.keep hv)
  have hb := hb.trans (hv.mono hb.size)
  clear hv
  go_wp2_with fail
  refine (q3.out _ HT.out.rs).mono ?_
  rintro e w5 ⟨⟨x, rfl, hx⟩, hv⟩
  have HA := Lib.hid (HA.out.at_size (Nat.le_refl _) hv)
  have HB := Lib.hid (HB.out.at_size (Nat.le_refl _) hv)
  have HT := Lib.hid (HT.out.keep hv)
  have HU := Lib.hid (HU.out.keep hv)
  have hb := hb.trans (hv.mono hb.size)
  clear hv
  have HX := Lib.hid hx
  clear hx
  go_wp2_with fail
  refine (q4.out _ HA.out).mono ?_
  rintro e w6 ⟨⟨y, rfl, hy⟩, hv⟩
  have HA := Lib.hid (HA.out.at_size (Nat.le_refl _) hv)
  have HB := Lib.hid (HB.out.at_size (Nat.le_refl _) hv)
  have HT := Lib.hid (HT.out.keep hv)
  have HU := Lib.hid (HU.out.keep hv)
  have hb := hb.trans (hv.mono hb.size)
  clear hv
  obtain rfl := HX.out.uniq hy
  have e4 : ((x : Int) == (x : Int)) = true := by simp
  clear hy
  go_wp2_with fail
  refine (q5.out _ HT.out.rs).mono ?_
  rintro e w7 ⟨rfl, hv⟩
  have HA := Lib.hid (HA.out.at_size (Nat.le_refl _) hv)
  have HB := Lib.hid (HB.out.at_size (Nat.le_refl _) hv)
  have HT := Lib.hid (HT.out.keep hv)
  have HU := Lib.hid (HU.out.keep hv)
  have hb := hb.trans (hv.mono hb.size)
  clear hv
  go_wp2_with fail
  refine (q6.out _ HA.out).mono ?_
  rintro e w8 ⟨rfl, hv⟩
  have HA := Lib.hid (HA.out.at_size (Nat.le_refl _) hv)
  have HB := Lib.hid (HB.out.at_size (Nat.le_refl _) hv)
  have HT := Lib.hid (HT.out.keep hv)
  have HU := Lib.hid (HU.out.keep hv)
  have hb := hb.trans (hv.mono hb.size)
  clear hv
  go_wp2_with fail
  refine (q7.out _ HT.out.rs HU.out.rs).mono ?_
  rintro e w9 ⟨rfl, hv⟩
  have HA := Lib.hid (HA.out.at_size (Nat.le_refl _) hv)
  have HB := Lib.hid (HB.out.at_size (Nat.le_refl _) hv)
  have HT := Lib.hid (HT.out.keep hv)
  have HU := Lib.hid (HU.out.keep hv)
  have hb := hb.trans (hv.mono hb.size)
  clear hv
  go_wp2_with fail
  refine (q8.out _ HA.out HB.out).mono ?_
  rintro e w10 ⟨rfl, hw10⟩
  have hv : Below w9.heap.size w9 w10 := by
    obtain ⟨q, rfl⟩ := hw10
    exact below_drewN w9 q
  clear hw10
  have HA := Lib.hid (HA.out.at_size (Nat.le_refl _) hv)
  have HB := Lib.hid (HB.out.at_size (Nat.le_refl _) hv)
  have HT := Lib.hid (HT.out.keep hv)
  have HU := Lib.hid (HU.out.keep hv)
  have hb := hb.trans (hv.mono hb.size)
  clear hv
  go_wp2_with fail
  refine (left_any w _ A g n c l _ HT.out HA.out).mono ?_
  rintro e w11 ⟨rfl, hv⟩
  have HA := Lib.hid (HA.out.at_size (Nat.le_refl _) hv)
  have HB := Lib.hid (HB.out.at_size (Nat.le_refl _) hv)
  have HT := Lib.hid (HT.out.keep hv)
  have HU := Lib.hid (HU.out.keep hv)
  have hb := hb.trans (hv.mono hb.size)
  clear hv
  go_wp2_with fail
  refine (left_any w1 _ A2 g' n2 c2 m _ HU.out HB.out).mono ?_
  rintro e w12 ⟨rfl, hv⟩
  have hb := hb.trans (hv.mono hb.size)
  clear hv
  go_wp2_with fail
  go_ret
  exact ⟨rfl, hb⟩

set_option maxRecDepth 100000 in
theorem lifted (os : Os) (started : os.Started) (H : Type) (enc : TypeId × Value → H) :
    ReturnsInHanded {} Try.checked os 3 .any (Rows.typesOfSpec.pre6 enc Try.prog Try.f3 Rows.typesOfRow.domain false) (Rows.typesOfSpec.post enc Try.prog Try.f3 false true false false) := by
  refine returnsInHanded_of_change (C := Try.checked) own started (by kernel_rfl) Try.func3
    (ChangeSpec.witness6 (enc := enc) (C := Try.checked) false ⟨#[], #[.slice none 0 0, .slice none 0 0, .int .i64 0], []⟩ 8 (by kernel_rfl) (by kernel_rfl) (by kernel_rfl) (by kernel_rfl)) ?_
  intro W base args ds gs before hval0 hW hcnd _
  have hval : ∀ (j : Nat) t v, Try.f3.params[j]? = some t → args[j]? = some v → Value.okWide Try.prog W .any base t v := hval0
  have hW' := hW
  obtain ⟨p, q, hA0, hV, rfl, hfz, hnd⟩ := hW
  have hA : DataW.TrodAll enc Try.prog W 0 (fun _ => true) true Try.f3.params.toList args.toList ds p := hA0
  rw [Try.params3] at hA hval
  obtain ⟨v0, vs0, d0, ds0, p0, q0, hargs, rfl, rfl, h0, r0⟩ := trodAll_cons hA
  obtain ⟨v1, vs1, d1, ds1, p1, q1, rfl, rfl, rfl, h1, r1⟩ := trodAll_cons r0
  obtain ⟨v2, vs2, d2, ds2, p2, q2, rfl, rfl, rfl, h2, r2⟩ := trodAll_cons r1
  obtain ⟨rfl, rfl, rfl⟩ := trodAll_nil r2
  obtain rfl : args = #[v0, v1, v2] := by cases args; simp_all
  obtain ⟨rfl, rfl⟩ := trodVars_none hV
  obtain ⟨a0, len0, cap0, rfl⟩ := okWide_slice Try.underlying22 (hval 0 22 v0 rfl rfl)
  have lt0 : ∀ x ∈ p0, x.block < W.heap.size := by obtain ⟨m, hm⟩ := h0; exact DataW.trod_lt m _ _ _ hm
  obtain ⟨l0, hr0, hf0⟩ := opened_nodes h0
  obtain ⟨a1, len1, cap1, rfl⟩ := okWide_slice Try.underlying22 (hval 1 22 v1 rfl rfl)
  have lt1 : ∀ x ∈ p1, x.block < W.heap.size := by obtain ⟨m, hm⟩ := h1; exact DataW.trod_lt m _ _ _ hm
  obtain ⟨l1, hr1, hf1⟩ := opened_nodes h1
  obtain ⟨x2, rfl, rfl, rfl, w2⟩ := open_int Try.underlying3 (hval 2 3 v2 rfl rfl) h2
  clear hA0 hval0
  have w2' := w2
  refine (walk a0 len0 cap0 l0 a1 len1 cap1 l1 x2 W hr0 hf0 hr1 hf1).mono fun e W' ⟨he, bel⟩ => ?_
  subst he
  exact ⟨_, rfl, _, _, _, [], _, [], hW', trodAll_mk1 (shut_bool Try.underlying4 _), (trodAll_cons_mk (Below.trod laidOut (by kernel_rfl) (of_decide_eq_true (by kernel_rfl)) h0 bel lt0) (trodAll_cons_mk (Below.trod laidOut (by kernel_rfl) (of_decide_eq_true (by kernel_rfl)) h1 bel lt1) (trodAll_cons_mk (shut_int Try.underlying3 w2') trodAll_mk0))), rfl, bel.frame _, fun h => by cases h⟩

theorem over : Rows.typesOfRow.holds Try.pinned (OpenSpec.ofChange Rows.typesOfSpec) :=
  OpenClaim.holds_of_wide 3 Try.f3 rfl rfl rfl rfl rfl rfl rfl ⟨rfl, rfl, rfl, rfl, rfl⟩ rfl rfl rfl rfl rfl (by kernel_rfl) Try.func3 (by kernel_rfl)
    (of_decide_eq_true (by kernel_rfl)) (by unfold Func.isWrapper; first | (rw [if_pos (by decide +kernel)]; kernel_rfl) | (rw [if_neg (by decide +kernel)]; exact ⟨rfl, rfl⟩))
    (fun os started H enc _ => lifted os started H enc)

theorem proved : Rows.TypesOfSaid := over
#print axioms proved

end Go.Proofs.Ytfcjnbfbnffcjaa.typesOf
