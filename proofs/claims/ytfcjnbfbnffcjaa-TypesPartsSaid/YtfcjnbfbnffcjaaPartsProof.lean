/- Proved: whatever the nodes, and whichever of them, TypesParts answers true: the nodes from any node on, up to its end, are a body that may be; those below it stand one behind the other, up to that end; it is no deeper than the whole; the argument stays as it was. No condition. -/
import Derived.Test.YtfcjnbfbnffcjaaNdLaw
import Derived.Test.YtfcjnbfbnffcjaaOpenNd
import Derived.Test.YtfcjnbfbnffcjaaRows
namespace Go.Proofs.Ytfcjnbfbnffcjaa.typesParts
open Go.ChangeShapes Go.WideShapes Go.ChangeAt Go.RowKit

theorem own : ownKnob Try.prog.godebug = none := by kernel_rfl
theorem laidOut : laidOutB Try.prog = true := by kernel_rfl

theorem u8_nat {a : Int} (h : (Lit.int .u8 a).wf = true) : ∃ x : Nat, a = (x : Int) ∧ x < 256 := by
  obtain ⟨h1, h2⟩ := u8_fits h
  exact ⟨a.toNat, by omega, by omega⟩

/-- A tree alone is a body. -/
theorem tree_body {x : Nd} {ks : F} (w : (F.cons x ks .nil).wf) (h : (F.cons x ks .nil).ht ≤ 16) (hl : (F.cons x ks .nil).flat.length ≤ 128) : checkB (F.cons x ks .nil).flat = 0 ∧ F.top (depB (F.cons x ks .nil).flat) = (F.cons x ks .nil).ht := by
  obtain ⟨h1, h2⟩ := body_is rfl w h hl
  refine ⟨h1, ?_⟩
  rw [h2]
  have := F.top_deps (F.cons x ks .nil) 0 (by simp)
  rw [Nat.zero_add, Nat.zero_add] at this
  exact this

/-- What the tree at a place is, and where it ends. -/
theorem parts_at {l : List Nd} (h : checkB l = 0) {k : Nat} (hk : k < l.length) : ∃ (ks : F) (e : Nat), (F.cons l[k] ks .nil).wf ∧ (F.cons l[k] ks .nil).ht ≤ 16 ∧ e = k + (F.cons l[k] ks .nil).flat.length ∧ e ≤ l.length ∧ EndIs (depB l) k e ∧
    (l.drop k).take (e - k) = (F.cons l[k] ks .nil).flat ∧ (F.cons l[k] ks .nil).ht ≤ F.top (depB l) ∧ (0 < k → (F.cons l[k] ks .nil).ht < F.top (depB l)) := by
  obtain ⟨ks, post, wf, ht, ht16, e1, hend, hlt, _, hdl⟩ := body_at h hk
  refine ⟨ks, _, wf, by omega, rfl, by rw [← hdl]; exact hend.le, hend, ?_, ht, hlt⟩
  rw [e1, Nat.add_sub_cancel_left, List.take_left' rfl]

theorem whole_end {l : List Nd} (h : checkB l = 0) : EndIs (depB l) 0 l.length := by
  obtain ⟨h1, h2, f, rfl, n, wf, ht⟩ := body_of h
  obtain ⟨_, e⟩ := body_is n wf ht h2
  rw [e]
  cases f with
  | nil => simp [F.num] at n
  | cons x ks r =>
    cases r with
    | cons _ _ _ => simp [F.num] at n
    | nil =>
      have := F.end_is (f := F.cons x ks .nil) (d := 1) (k := 0) (d' := 1) (x := x) (ks := ks) (dpost := []) (by simp [F.deps]) (by simp) (by simp)
      rwa [Nat.zero_add] at this

/-- A tree that stands at a place ends where it ends, alone it is a body. -/
theorem kid_at {l : List Nd} (h : checkB l = 0) {p : Nat} {y : Nd} {cs r : F} {post : List Nd} (hd : l.drop p = (F.cons y cs r).flat ++ post) (w : (F.cons y cs r).wf) :
    ∃ e, e = p + (F.cons y cs .nil).flat.length ∧ p < e ∧ e ≤ l.length ∧ EndIs (depB l) p e ∧ (l.drop p).take (e - p) = (F.cons y cs .nil).flat ∧ l.drop e = r.flat ++ post ∧ checkB ((l.drop p).take (e - p)) = 0 ∧ F.top (depB ((l.drop p).take (e - p))) = cs.ht + 1 := by
  obtain ⟨w1, w2, w3, w4, w5⟩ := w
  have hp : p < l.length := by
    rcases Nat.lt_or_ge p l.length with h | h
    · exact h
    · rw [List.drop_eq_nil_of_le h] at hd
      simp [F.flat] at hd
  have hy : (F.cons y cs .nil).wf := ⟨w1, w2, w3, w4, trivial⟩
  have hd2 : l.drop p = (F.cons y cs .nil).flat ++ (r.flat ++ post) := by rw [hd]; simp [F.flat]
  obtain ⟨ks, e, wf, ht, he, hel, hend, htk, _, _⟩ := parts_at h hp
  have hd3 : l.drop p = (F.cons l[p] ks .nil).flat ++ l.drop e := by
    conv => lhs; rw [← List.take_append_drop (e - p) (l.drop p)]
    rw [htk, List.drop_drop]
    congr 2
    omega
  obtain ⟨heq, hpost⟩ := F.flat_inj _ _ _ _ wf hy rfl (hd3.symm.trans hd2)
  rw [heq] at he htk ht
  have hfl : 0 < (F.cons y cs .nil).flat.length := by simp [F.flat]
  have hlen := (body_of h).2.1
  obtain ⟨g1, g2⟩ := tree_body hy ht (by omega)
  refine ⟨e, he, by omega, hel, hend, htk, hpost, by rw [htk]; exact g1, ?_⟩
  rw [htk, g2]
  simp [F.ht]

/-- Where the loop over those below a node stands. -/
def PaRel (l : List Nd) (k e q : Nat) (ks : F) (w : World) (v8 v9 v10 : Value) (wr : World) : Prop := ∃ (i p : Nat) (f r : F),
  v8 = .int .i64 (p : Int) ∧ v9 = .int .i64 (f.ht : Int) ∧ v10 = .int .i64 (i : Int) ∧ i ≤ q ∧ k < p ∧ p ≤ e ∧ f.num = i ∧ r.num = q - i ∧ r.wf ∧ ks.ht = max f.ht r.ht ∧ p + r.flat.length = e ∧ (∃ post, l.drop p = r.flat ++ post) ∧ Below w.heap.size w wr

set_option maxRecDepth 100000 in
set_option maxHeartbeats 4000000 in
theorem walk (A : Option Addr) (n c : Nat) (l : List Nd) (z : Nat) (w : World) (h : Ns w w.heap.size A n c l) (hf : ∀ x ∈ l, x.Fits) (hz : z < 256) :
    Calls Try.prog 4 #[.slice A n c, .int .u8 (z : Int)] w fun e w' => e = .returned (.bool true) ∧ Below w.heap.size w w' := by
  have HL := Lib.hid h.len
  have HS := Lib.hid h
  have HF := Lib.hid hf
  have hcapc := h.cap
  have HCHK := Lib.hid (fun (W : World) (r : Nat) (hW : Below w.heap.size w W) (e : checkB l = r) => check_lit A n c l r W (HS.out.at_size (Nat.le_refl _) hW) HF.out e)
  have HDEP := Lib.hid (fun (W : World) (r : Nat) (hW : Below w.heap.size w W) (e : F.top (depB l) = r) => deep_lit A n c l r W (HS.out.at_size (Nat.le_refl _) hW) HF.out e)
  have HEND := Lib.hid (fun (W : World) (a : Int) (r : Nat) (hW : Below w.heap.size w W) (e : EndOf (depB l) a r) => end_lit A n c l a r W (HS.out.at_size (Nat.le_refl _) hW) HF.out e)
  clear h hf
  by_cases h0 : n = 0
  · have hl : l = [] := List.eq_nil_of_length_eq_zero (by rw [HL.out, h0])
    have hd : depB l = [] := by subst hl; rfl
    have q1 := Lib.hid (fun W hW => HEND.out W 0 0 hW (by rw [hd]; exact .inl ⟨.inr (by simp), rfl⟩))
    have q2 := Lib.hid (fun W hW => HDEP.out W 0 hW (by rw [hd]; rfl))
    subst h0
    clear hl hd
    go_enter Try.func4, Try.ntmps4
    go_wp2_with fail
    refine (alive_any _).mono ?_
    rintro e w1 ⟨rfl, hb⟩
    go_wp2_with fail
    refine (q1.out _ hb).mono ?_
    rintro e w2 ⟨rfl, hv⟩
    have hb := hb.trans (hv.mono hb.size)
    clear hv
    go_wp2_with fail
    refine (q2.out _ hb).mono ?_
    rintro e w2 ⟨rfl, hv⟩
    have hb := hb.trans (hv.mono hb.size)
    clear hv
    go_wp2_with fail
    go_ret
    exact ⟨rfl, hb⟩
  have h0' : ((n : Int) == 0) = false := by simp; omega
  by_cases h300 : 300 < n
  · have h300' : (300 : Int) < (n : Int) := by omega
    go_enter Try.func4, Try.ntmps4
    go_wp2_with fail
    refine (alive_any _).mono ?_
    rintro e w1 ⟨rfl, hb⟩
    go_wp2_with fail
    go_ret
    exact ⟨rfl, hb⟩
  have h300' : ¬ (300 : Int) < (n : Int) := by omega
  by_cases hc : checkB l = 0
  case neg =>
    have hd : depB l = [] := by unfold depB; rw [if_neg hc]
    have q1 := Lib.hid (fun W hW => HEND.out W 0 0 hW (by rw [hd]; exact .inl ⟨.inr (by simp), rfl⟩))
    have q2 := Lib.hid (fun W hW => HDEP.out W 0 hW (by rw [hd]; rfl))
    obtain ⟨r, hr⟩ : ∃ r, r = checkB l := ⟨_, rfl⟩
    have q0 := Lib.hid (HCHK.out w r (Below.refl _ _) hr.symm)
    have hr' : ((r : Int) != 0) = true := by simp; omega
    clear hd hc hr
    go_enter Try.func4, Try.ntmps4
    go_wp2_with fail
    refine q0.out.mono ?_
    rintro e w1 ⟨rfl, hb⟩
    go_wp2_with fail
    refine (alive_any _).mono ?_
    rintro e w1 ⟨rfl, hv⟩
    have hb := hb.trans (hv.mono hb.size)
    clear hv
    go_wp2_with fail
    refine (q1.out _ hb).mono ?_
    rintro e w2 ⟨rfl, hv⟩
    have hb := hb.trans (hv.mono hb.size)
    clear hv
    go_wp2_with fail
    refine (q2.out _ hb).mono ?_
    rintro e w2 ⟨rfl, hv⟩
    have hb := hb.trans (hv.mono hb.size)
    clear hv
    go_wp2_with fail
    go_ret
    exact ⟨rfl, hb⟩
  obtain ⟨k, hq⟩ : ∃ k, k = z % n := ⟨_, rfl⟩
  have hkn : k < n := by rw [hq]; exact Nat.mod_lt _ (by omega)
  have hkl : k < l.length := by rw [HL.out]; exact hkn
  have HMOD : Hid ((z : Int) % (n : Int) = (k : Int)) := Lib.hid (by rw [hq, Int.natCast_emod])
  obtain ⟨ks, e, wf, hht, he, hel, hend, htk, hle, hlt⟩ := parts_at hc hkl
  have hlen128 := (body_of hc).2.1
  have hen : e ≤ n := by rw [← HL.out]; exact hel
  have hke : k < e := hend.lt
  obtain ⟨g1, g2⟩ := tree_body wf hht (by omega)
  have HE1 : Hid (EndOf (depB l) (k : Int) e) := Lib.hid (.inr ⟨k, rfl, hend⟩)
  have HE0 : Hid (EndOf (depB l) 0 n) := Lib.hid (.inr ⟨0, rfl, by rw [← HL.out]; exact whole_end hc⟩)
  obtain ⟨A', n', c', hsl, hcut⟩ := rs_slice_lh 22 36 Try.underlying22 nd_size HS.out k e (by omega) hen
  rw [htk] at hcut
  have hfp : ∀ x ∈ (F.cons l[k] ks .nil).flat, x.Fits := fun x hx => HF.out x (by rw [← htk] at hx; exact List.mem_of_mem_drop (List.mem_of_mem_take hx))
  have HPC := Lib.hid (fun (W : World) (hW : Below w.heap.size w W) => check_lit A' n' c' _ 0 W (hcut.at_size (Nat.le_refl _) hW) hfp g1)
  have HPD := Lib.hid (fun (W : World) (hW : Below w.heap.size w W) => deep_lit A' n' c' _ _ W (hcut.at_size (Nat.le_refl _) hW) hfp g2)
  have HSL := Lib.hid hsl
  obtain ⟨D1, hD1⟩ : ∃ D1, D1 = (F.cons l[k] ks .nil).ht := ⟨_, rfl⟩
  obtain ⟨D, hD⟩ : ∃ D, D = F.top (depB l) := ⟨_, rfl⟩
  have q0 := Lib.hid (HCHK.out w 0 (Below.refl _ _) hc)
  have qD := Lib.hid (fun W hW => HDEP.out W D hW hD.symm)
  have qE1 := Lib.hid (fun W hW => HEND.out W (k : Int) e hW HE1.out)
  have qE0 := Lib.hid (fun W hW => HEND.out W 0 n hW HE0.out)
  rw [← hD1] at HPD hle hlt
  rw [← hD] at hle hlt
  have hD1k : D1 = ks.ht + 1 := by rw [hD1]; simp [F.ht]
  have hD17 : D1 ≤ 16 := by rw [hD1]; exact hht
  have HWF := Lib.hid wf
  have HD1K := Lib.hid hD1k
  have hfl : (F.cons l[k] ks .nil).flat.length = ks.flat.length + 1 := by simp [F.flat]
  have hkid0 : ∃ post, l.drop (k + 1) = ks.flat ++ post := by
    obtain ⟨R, hR⟩ : ∃ R, l.drop k = (F.cons l[k] ks .nil).flat ++ R := by
      refine ⟨(l.drop k).drop (e - k), ?_⟩
      conv => lhs; rw [← List.take_append_drop (e - k) (l.drop k)]
      rw [htk]
    have h2 : l.drop (k + 1) = (l.drop k).drop 1 := by rw [List.drop_drop]
    refine ⟨R, ?_⟩
    rw [h2, hR]
    simp [F.flat]
  have HK0 := Lib.hid hkid0
  have HEK : Hid (k + 1 + ks.flat.length = e) := Lib.hid (by omega)
  have HC := Lib.hid hc
  have hx3 : l[k].n = (ks.num : Int) := wf.2.1
  have hx4 : ks.num ≤ 8 := wf.2.2.1
  obtain ⟨b, o, hA, hbb, -, -, -, c3, -⟩ := HS.out.node hkl
  rw [hx3] at c3
  obtain ⟨q, hqq⟩ : ∃ q, q = ks.num := ⟨_, rfl⟩
  rw [← hqq] at c3 hx4
  have HQ := Lib.hid hqq
  subst hA
  have hm0 : ¬ (e : Int) ≤ (k : Int) := by omega
  have hm1 : ¬ (n : Int) < (e : Int) := by omega
  have hm2 : ((n : Int) != (n : Int)) = false := by simp
  have hm3 : decide ((D : Int) < (D1 : Int)) = false := by simp; omega
  clear hq he hel hend htk hht g1 g2 hcut hfp hD1 hD hD1k hfl hkid0 hc hx3 hqq wf hlen128 hsl
  go_enter Try.func4, Try.ntmps4
  go_wp2_with fail
  refine q0.out.mono ?_
  rintro er w1 ⟨rfl, hb⟩
  go_wp2_with fail
  rw [HMOD.out]
  refine (qE1.out _ hb).mono ?_
  rintro er w2 ⟨rfl, hv⟩
  have hb := hb.trans (hv.mono hb.size)
  clear hv
  go_wp2_with fail
  refine (qE0.out _ hb).mono ?_
  rintro er w3 ⟨rfl, hv⟩
  have hb := hb.trans (hv.mono hb.size)
  clear hv
  have hsl := HSL.out
  go_wp2_with fail
  clear hsl
  refine (HPC.out _ hb).mono ?_
  rintro er w4 ⟨rfl, hv⟩
  have hb := hb.trans (hv.mono hb.size)
  clear hv
  go_wp2_with fail
  refine (HPD.out _ hb).mono ?_
  rintro er w5 ⟨rfl, hv⟩
  have hb := hb.trans (hv.mono hb.size)
  clear hv
  go_wp2_with fail
  refine (qD.out _ hb).mono ?_
  rintro er w6 ⟨rfl, hv⟩
  have hb := hb.trans (hv.mono hb.size)
  clear hv
  by_cases hk0 : k = 0
  · subst hk0
    simp only [Nat.zero_mul, Nat.add_zero] at c3
    go_wp2_with fail
    have HLE := Lib.hid hle
    clear hm0 hm1 hm2 hm3 hle hlt
    go_loopw [8, 9, 10] (fun v8 v9 v10 wr => PaRel l 0 e q ks w v8 v9 v10 wr) (fun _ _ v10 _ => q - (intOf v10).toNat)
    case atStart => exact ⟨0, 0 + 1, .nil, ks, by go_num, rfl, rfl, by omega, by omega, by omega, rfl, by rw [← HQ.out]; rfl, HWF.out.2.2.2.1, by simp [F.ht], HEK.out, HK0.out, hb⟩
    case round =>
      clear hb
      obtain ⟨i, p, f, r, rfl, rfl, rfl, hi, hkp, hpe, hfn, hrn, hrw, hks, hpr, ⟨post, hpost⟩, hb⟩ := hrel
      have c3' := (hb.cell (p := ⟨b, o + 3, none⟩) hbb).trans c3
      by_cases hlt2 : i < q
      · cases r with
        | nil => simp only [F.num] at hrn; omega
        | cons y cs r' =>
          obtain ⟨e2, he2, hpe2, hel2, hend2, htk2, hdr2, hck2, hdp2⟩ := kid_at HC.out hpost hrw
          have hflr : (F.cons y cs r').flat.length = (F.cons y cs .nil).flat.length + r'.flat.length := by simp [F.flat]; omega
          have hp1 : p < e := by omega
          have he2e : e2 ≤ e := by omega
          have q2 := Lib.hid (HEND.out wr (p : Int) e2 hb (.inr ⟨p, rfl, hend2⟩))
          obtain ⟨A2, n2, c2, hsl2, hcut2⟩ := rs_slice_lh 22 36 Try.underlying22 nd_size HS.out p e2 (by omega) (by omega)
          have hfp2 : ∀ x ∈ (l.drop p).take (e2 - p), x.Fits := fun x hx => HF.out x (List.mem_of_mem_drop (List.mem_of_mem_take hx))
          have q3 := Lib.hid (fun (W : World) (hW : Below w.heap.size w W) => deep_lit A2 n2 c2 _ (cs.ht + 1) W (hcut2.at_size (Nat.le_refl _) hW) hfp2 hdp2)
          have HREL : Hid (r'.num = q - (i + 1) ∧ r'.wf ∧ ks.ht = max (f.app (.cons y cs .nil)).ht r'.ht ∧ e2 + r'.flat.length = e ∧ l.drop e2 = r'.flat ++ post) := by
            refine Lib.hid ⟨?_, hrw.2.2.2.2, ?_, by omega, hdr2⟩
            · simp only [F.num] at hrn; omega
            · rw [F.app_ht, hks]; simp only [F.ht]; omega
          have HHT : Hid ((f.app (.cons y cs .nil)).ht = max f.ht (cs.ht + 1)) := Lib.hid (by rw [F.app_ht]; simp only [F.ht]; omega)
          obtain ⟨t0, ht0⟩ : ∃ t0, t0 = f.ht := ⟨_, rfl⟩
          obtain ⟨t1, ht1⟩ : ∃ t1, t1 = cs.ht + 1 := ⟨_, rfl⟩
          rw [← ht0] at HHT ⊢
          rw [← ht1] at HHT q3
          have HFN : Hid ((f.app (.cons y cs .nil)).num = i + 1) := Lib.hid (by rw [F.app_num, hfn]; rfl)
          have g0 : ¬ (e : Int) ≤ (p : Int) := by omega
          have g1 : ¬ (e2 : Int) ≤ (p : Int) := by omega
          have g2 : ¬ (e : Int) < (e2 : Int) := by omega
          have HSL2 := Lib.hid hsl2
          have hlt2' : (i : Int) < (q : Int) := by omega
          clear hpost hrw hks hpr hfn hrn hflr hend2 htk2 hdr2 hck2 hdp2 hcut2 hfp2 ht0 ht1 he2 hsl2
          go_wp2_with fail
          refine q2.out.mono ?_
          rintro er v1 ⟨rfl, hv⟩
          have hb9 := hb.trans (hv.mono hb.size)
          have hsl2 := HSL2.out
          clear hv
          go_wp2_with fail
          clear hsl2
          refine (q3.out _ hb9).mono ?_
          rintro er v2 ⟨rfl, hv⟩
          have hb8 := hb9.trans (hv.mono hb9.size)
          clear hv hb9
          by_cases hlt3 : t0 < t1
          · go_wp2_with fail
            go_roundw
            case rel =>
              simp
              exact ⟨_, _, _, _, ⟨i + 1, e2, f.app (.cons y cs .nil), r', rfl, by rw [HHT.out, Nat.max_eq_right (Nat.le_of_lt hlt3)], by go_num, by omega, by omega, he2e, HFN.out, HREL.out.1, HREL.out.2.1, HREL.out.2.2.1, HREL.out.2.2.2.1, ⟨post, HREL.out.2.2.2.2⟩, hb8⟩, rfl, rfl, rfl, rfl, HLE.out⟩
            case measure => simp [intOf]; omega
          · go_wp2_with fail
            go_roundw
            case rel =>
              simp
              exact ⟨_, _, _, _, ⟨i + 1, e2, f.app (.cons y cs .nil), r', rfl, by rw [HHT.out, Nat.max_eq_left (Nat.le_of_not_lt hlt3)], by go_num, by omega, by omega, he2e, HFN.out, HREL.out.1, HREL.out.2.1, HREL.out.2.2.1, HREL.out.2.2.2.1, ⟨post, HREL.out.2.2.2.2⟩, hb8⟩, rfl, rfl, rfl, rfl, HLE.out⟩
            case measure => simp [intOf]; omega
      · obtain rfl : i = q := by omega
        have hr0 : r = .nil := by
          cases r with
          | nil => rfl
          | cons _ _ _ => simp only [F.num] at hrn; omega
        subst hr0
        have hpe' : p = e := by simpa [F.flat] using hpr
        have HT : Hid (D1 = f.ht + 1) := Lib.hid (by rw [HD1K.out, hks]; simp [F.ht])
        obtain ⟨t0, ht0⟩ : ∃ t0, t0 = f.ht := ⟨_, rfl⟩
        rw [← ht0] at HT ⊢
        have g0 : ((p : Int) == (e : Int)) = true := by simp; omega
        have g1 : ((D1 : Int) == (t0 : Int) + 1) = true := by have := HT.out; simp; omega
        have g2 : IntKind.i64.wrap ((t0 : Int) + 1) = (t0 : Int) + 1 := by have := HT.out; rw [IntKind.wrap_i64]; omega
        clear hpost hks hpr hrn hfn ht0 hpe'
        go_wp2_with fail
        refine (alive_any _).mono ?_
        rintro er v1 ⟨rfl, hv⟩
        have hb9 := hb.trans (hv.mono hb.size)
        clear hv
        go_wp2_with fail
        refine (HPD.out _ hb9).mono ?_
        rintro er v2 ⟨rfl, hv⟩
        have hb8 := hb9.trans (hv.mono hb9.size)
        clear hv hb9
        go_wp2_with fail
        go_ret
        exact ⟨rfl, hb8⟩
  · have hk0' : (0 : Int) < (k : Int) := by omega
    have hm4 : decide ((D : Int) ≤ (D1 : Int)) = false := by have := hlt (by omega); simp; omega
    go_wp2_with fail
    refine (HPD.out _ hb).mono ?_
    rintro er w7 ⟨rfl, hv⟩
    have hb := hb.trans (hv.mono hb.size)
    clear hv
    go_wp2_with fail
    refine (qD.out _ hb).mono ?_
    rintro er w8 ⟨rfl, hv⟩
    have hb := hb.trans (hv.mono hb.size)
    clear hv
    go_wp2_with fail
    have HLE := Lib.hid hle
    have HLT := Lib.hid (hlt (by omega))
    clear hm0 hm1 hm2 hm3 hm4 hle hlt hk0'
    go_loopw [8, 9, 10] (fun v8 v9 v10 wr => PaRel l k e q ks w v8 v9 v10 wr) (fun _ _ v10 _ => q - (intOf v10).toNat)
    case atStart => exact ⟨0, k + 1, .nil, ks, by go_num, rfl, rfl, by omega, by omega, by omega, rfl, by rw [← HQ.out]; rfl, HWF.out.2.2.2.1, by simp [F.ht], HEK.out, HK0.out, hb⟩
    case round =>
      clear hb
      obtain ⟨i, p, f, r, rfl, rfl, rfl, hi, hkp, hpe, hfn, hrn, hrw, hks, hpr, ⟨post, hpost⟩, hb⟩ := hrel
      have c3' := (hb.cell (p := ⟨b, o + k * 10 + 3, none⟩) hbb).trans c3
      by_cases hlt2 : i < q
      · cases r with
        | nil => simp only [F.num] at hrn; omega
        | cons y cs r' =>
          obtain ⟨e2, he2, hpe2, hel2, hend2, htk2, hdr2, hck2, hdp2⟩ := kid_at HC.out hpost hrw
          have hflr : (F.cons y cs r').flat.length = (F.cons y cs .nil).flat.length + r'.flat.length := by simp [F.flat]; omega
          have hp1 : p < e := by omega
          have he2e : e2 ≤ e := by omega
          have q2 := Lib.hid (HEND.out wr (p : Int) e2 hb (.inr ⟨p, rfl, hend2⟩))
          obtain ⟨A2, n2, c2, hsl2, hcut2⟩ := rs_slice_lh 22 36 Try.underlying22 nd_size HS.out p e2 (by omega) (by omega)
          have hfp2 : ∀ x ∈ (l.drop p).take (e2 - p), x.Fits := fun x hx => HF.out x (List.mem_of_mem_drop (List.mem_of_mem_take hx))
          have q3 := Lib.hid (fun (W : World) (hW : Below w.heap.size w W) => deep_lit A2 n2 c2 _ (cs.ht + 1) W (hcut2.at_size (Nat.le_refl _) hW) hfp2 hdp2)
          have HREL : Hid (r'.num = q - (i + 1) ∧ r'.wf ∧ ks.ht = max (f.app (.cons y cs .nil)).ht r'.ht ∧ e2 + r'.flat.length = e ∧ l.drop e2 = r'.flat ++ post) := by
            refine Lib.hid ⟨?_, hrw.2.2.2.2, ?_, by omega, hdr2⟩
            · simp only [F.num] at hrn; omega
            · rw [F.app_ht, hks]; simp only [F.ht]; omega
          have HHT : Hid ((f.app (.cons y cs .nil)).ht = max f.ht (cs.ht + 1)) := Lib.hid (by rw [F.app_ht]; simp only [F.ht]; omega)
          obtain ⟨t0, ht0⟩ : ∃ t0, t0 = f.ht := ⟨_, rfl⟩
          obtain ⟨t1, ht1⟩ : ∃ t1, t1 = cs.ht + 1 := ⟨_, rfl⟩
          rw [← ht0] at HHT ⊢
          rw [← ht1] at HHT q3
          have HFN : Hid ((f.app (.cons y cs .nil)).num = i + 1) := Lib.hid (by rw [F.app_num, hfn]; rfl)
          have g0 : ¬ (e : Int) ≤ (p : Int) := by omega
          have g1 : ¬ (e2 : Int) ≤ (p : Int) := by omega
          have g2 : ¬ (e : Int) < (e2 : Int) := by omega
          have HSL2 := Lib.hid hsl2
          have hlt2' : (i : Int) < (q : Int) := by omega
          clear hpost hrw hks hpr hfn hrn hflr hend2 htk2 hdr2 hck2 hdp2 hcut2 hfp2 ht0 ht1 he2 hsl2
          go_wp2_with fail
          refine q2.out.mono ?_
          rintro er v1 ⟨rfl, hv⟩
          have hb9 := hb.trans (hv.mono hb.size)
          have hsl2 := HSL2.out
          clear hv
          go_wp2_with fail
          clear hsl2
          refine (q3.out _ hb9).mono ?_
          rintro er v2 ⟨rfl, hv⟩
          have hb8 := hb9.trans (hv.mono hb9.size)
          clear hv hb9
          by_cases hlt3 : t0 < t1
          · go_wp2_with fail
            go_roundw
            case rel =>
              simp
              exact ⟨_, _, _, _, ⟨i + 1, e2, f.app (.cons y cs .nil), r', rfl, by rw [HHT.out, Nat.max_eq_right (Nat.le_of_lt hlt3)], by go_num, by omega, by omega, he2e, HFN.out, HREL.out.1, HREL.out.2.1, HREL.out.2.2.1, HREL.out.2.2.2.1, ⟨post, HREL.out.2.2.2.2⟩, hb8⟩, rfl, rfl, rfl, rfl, by have h1 := HLE.out; have h2 := HLT.out; omega⟩
            case measure => simp [intOf]; omega
          · go_wp2_with fail
            go_roundw
            case rel =>
              simp
              exact ⟨_, _, _, _, ⟨i + 1, e2, f.app (.cons y cs .nil), r', rfl, by rw [HHT.out, Nat.max_eq_left (Nat.le_of_not_lt hlt3)], by go_num, by omega, by omega, he2e, HFN.out, HREL.out.1, HREL.out.2.1, HREL.out.2.2.1, HREL.out.2.2.2.1, ⟨post, HREL.out.2.2.2.2⟩, hb8⟩, rfl, rfl, rfl, rfl, by have h1 := HLE.out; have h2 := HLT.out; omega⟩
            case measure => simp [intOf]; omega
      · obtain rfl : i = q := by omega
        have hr0 : r = .nil := by
          cases r with
          | nil => rfl
          | cons _ _ _ => simp only [F.num] at hrn; omega
        subst hr0
        have hpe' : p = e := by simpa [F.flat] using hpr
        have HT : Hid (D1 = f.ht + 1) := Lib.hid (by rw [HD1K.out, hks]; simp [F.ht])
        obtain ⟨t0, ht0⟩ : ∃ t0, t0 = f.ht := ⟨_, rfl⟩
        rw [← ht0] at HT ⊢
        have g0 : ((p : Int) == (e : Int)) = true := by simp; omega
        have g1 : ((D1 : Int) == (t0 : Int) + 1) = true := by have := HT.out; simp; omega
        have g2 : IntKind.i64.wrap ((t0 : Int) + 1) = (t0 : Int) + 1 := by have := HT.out; rw [IntKind.wrap_i64]; omega
        clear hpost hks hpr hrn hfn ht0 hpe'
        go_wp2_with fail
        refine (alive_any _).mono ?_
        rintro er v1 ⟨rfl, hv⟩
        have hb9 := hb.trans (hv.mono hb.size)
        clear hv
        go_wp2_with fail
        refine (HPD.out _ hb9).mono ?_
        rintro er v2 ⟨rfl, hv⟩
        have hb8 := hb9.trans (hv.mono hb9.size)
        clear hv hb9
        go_wp2_with fail
        go_ret
        exact ⟨rfl, hb8⟩

set_option maxRecDepth 100000 in
theorem lifted (os : Os) (started : os.Started) (H : Type) (enc : TypeId × Value → H) :
    ReturnsInHanded {} Try.checked os 4 .any (Rows.typesPartsSpec.pre6 enc Try.prog Try.f4 Rows.typesPartsRow.domain false) (Rows.typesPartsSpec.post enc Try.prog Try.f4 false true false false) := by
  refine returnsInHanded_of_change (C := Try.checked) own started (by kernel_rfl) Try.func4
    (ChangeSpec.witness6 (enc := enc) (C := Try.checked) false ⟨#[], #[.slice none 0 0, .int .u8 0], []⟩ 8 (by kernel_rfl) (by kernel_rfl) (by kernel_rfl) (by kernel_rfl)) ?_
  intro W base args ds gs before hval0 hW hcnd _
  have hval : ∀ (j : Nat) t v, Try.f4.params[j]? = some t → args[j]? = some v → Value.okWide Try.prog W .any base t v := hval0
  have hW' := hW
  obtain ⟨p, q, hA0, hV, rfl, hfz, hnd⟩ := hW
  have hA : DataW.TrodAll enc Try.prog W 0 (fun _ => true) true Try.f4.params.toList args.toList ds p := hA0
  rw [Try.params4] at hA hval
  obtain ⟨v0, vs0, d0, ds0, p0, q0, hargs, rfl, rfl, h0, r0⟩ := trodAll_cons hA
  obtain ⟨v1, vs1, d1, ds1, p1, q1, rfl, rfl, rfl, h1, r1⟩ := trodAll_cons r0
  obtain ⟨rfl, rfl, rfl⟩ := trodAll_nil r1
  obtain rfl : args = #[v0, v1] := by cases args; simp_all
  obtain ⟨rfl, rfl⟩ := trodVars_none hV
  obtain ⟨a0, len0, cap0, rfl⟩ := okWide_slice Try.underlying22 (hval 0 22 v0 rfl rfl)
  have lt0 : ∀ x ∈ p0, x.block < W.heap.size := by obtain ⟨m, hm⟩ := h0; exact DataW.trod_lt m _ _ _ hm
  obtain ⟨l0, hr0, hf0⟩ := opened_nodes h0
  obtain ⟨x1, rfl, rfl, rfl, w1⟩ := open_int Try.underlying5 (hval 1 5 v1 rfl rfl) h1
  clear hA0 hval0
  have w1' := w1
  obtain ⟨y1, rfl, hy1⟩ := u8_nat w1
  refine (walk a0 len0 cap0 l0 y1 W hr0 hf0 hy1).mono fun e W' ⟨he, bel⟩ => ?_
  subst he
  exact ⟨_, rfl, _, _, _, [], _, [], hW', trodAll_mk1 (shut_bool Try.underlying4 _), (trodAll_cons_mk (Below.trod laidOut (by kernel_rfl) (of_decide_eq_true (by kernel_rfl)) h0 bel lt0) (trodAll_cons_mk (shut_int Try.underlying5 w1') trodAll_mk0)), rfl, bel.frame _, fun h => by cases h⟩

theorem over : Rows.typesPartsRow.holds Try.pinned (OpenSpec.ofChange Rows.typesPartsSpec) :=
  OpenClaim.holds_of_wide 4 Try.f4 rfl rfl rfl rfl rfl rfl rfl ⟨rfl, rfl, rfl, rfl, rfl⟩ rfl rfl rfl rfl rfl (by kernel_rfl) Try.func4 (by kernel_rfl)
    (of_decide_eq_true (by kernel_rfl)) (by unfold Func.isWrapper; first | (rw [if_pos (by decide +kernel)]; kernel_rfl) | (rw [if_neg (by decide +kernel)]; exact ⟨rfl, rfl⟩))
    (fun os started H enc _ => lifted os started H enc)

theorem proved : Rows.TypesPartsSaid := over
#print axioms proved

end Go.Proofs.Ytfcjnbfbnffcjaa.typesParts
