/- The example that the laws make and ask; whether what is ground is still. Condition: nodes can be read. -/
import Derived.Test.YtmiconjmeaammaaCame
import Derived.Test.YtmiconjmeaammaaRows2
namespace Go.Proofs.Ytmiconjmeaammaa
open Go.RowKit

/-- int of a term. -/
def nI (v : Bool) (x : Nat) : Nd := ⟨1, 0, [105, 110, 116], 0, v, (x : Int), false, 0, false, 0⟩
theorem fits_I (v : Bool) (x : Nat) : (nI v x).Fits := ⟨fits_int.k0, fits_int.k1, fits_int.m0, fits_int.m1, fits_int.n0, fits_int.n1, fits_int.s1⟩
theorem tfits_I {v : Bool} {x : Nat} (h : x < 18446744073709551616) : (nI v x).TFits := ⟨⟨by simp [nI], by simp [nI]; omega⟩, ⟨by simp [nI], by simp [nI]⟩, ⟨by simp [nI], by simp [nI]⟩⟩

/-- The example, of so many variables. -/
def sEx (k : Int) : Sch := ⟨k, 0, [nI true 0], [], []⟩
abbrev oI : Obj := .cells #[.int .u8 1, .int .i64 0, .string (str [105, 110, 116]), .int .i64 0, .bool true, .int .u64 0, .bool false, .int .u64 0, .bool false, .int .u64 0] 64

set_option maxRecDepth 100000 in
set_option maxHeartbeats 1000000 in
theorem one_any (k : Int) (w : World) : Calls Try.prog 19 #[.int .i64 k] w fun e w' => ∃ A c, e = .returned (schV (sEx k) A 1 c none 0 0 none 0 0) ∧ SchAt w' (sEx k) A 1 c none 0 0 none 0 0 ∧ Below w.heap.size w w' := by
  have h0 : Below w.heap.size w (w.alloc (.cells #[.int .i64 k, .int .i64 0, .slice (some ⟨w.heap.size + 1, 0, none⟩) 1 1, .slice none 0 0, .slice none 0 0] 25)) := (Below.refl _ _).alloc (Nat.le_refl _) _
  have hb := h0.alloc h0.size oI
  have hnew : Ns ((w.alloc (.cells #[.int .i64 k, .int .i64 0, .slice (some ⟨w.heap.size + 1, 0, none⟩) 1 1, .slice none 0 0, .slice none 0 0] 25)).alloc oI) ((w.alloc (.cells #[.int .i64 k, .int .i64 0, .slice (some ⟨w.heap.size + 1, 0, none⟩) 1 1, .slice none 0 0, .slice none 0 0] 25)).alloc oI).heap.size (some ⟨w.heap.size + 1, 0, none⟩) 1 1 [nI true 0] := by
    have := heap_alloc_new (w.alloc (.cells #[.int .i64 k, .int .i64 0, .slice (some ⟨w.heap.size + 1, 0, none⟩) 1 1, .slice none 0 0, .slice none 0 0] 25)) oI
    rw [World.size_alloc] at this
    exact Rs.of_own ndc_len (by decide) (own_of_blk (l := [nI true 0]) (n := 1) this (Nat.zero_le _) rfl rfl (by unfold maxLen; omega))
  go_enter Try.func19, Try.ntmps19
  go_wp2_with fail
  refine bodyPost_ret (v := schV (sEx k) (some ⟨w.heap.size + 1, 0, none⟩) 1 1 none 0 0 none 0 0) ?_ rfl ⟨_, _, rfl, ⟨hnew, fits_cons (fits_I _ _) fits_nil, fun x hx => ?_, Rs.nil _ _, (fun _ h => by cases h), Rs.nil _ _, (fun _ h => by cases h)⟩, hb⟩
  · simp [results, Try.results19, go_sem]
    rfl
  · simp only [sEx, List.mem_cons, List.not_mem_nil, or_false] at hx
    subst hx
    exact tfits_I (by omega)

/-- A row of one node: its cells. -/
theorem one_nd {w : World} {base k c : Nat} {A : Option Addr} {x : Nd} (h : w.ownsRow base 64 10 (.slice A k c) k ([x].flatMap ndc)) : ∃ g, A = some ⟨g, 0, none⟩ ∧ k = 1 ∧ ∀ i u, (ndc x)[i]? = some u → w.cell? ⟨g, i, none⟩ = some u := by
  have hk := rs_own_len ndc_len (by decide) h
  replace hk : 1 = k := hk
  subst hk
  rcases h.2 with ⟨hv, hn⟩ | ⟨g, cap, cur, hv, hb, hg, hnc, hcm, hcs, htake⟩
  · omega
  · injection hv with h1 h2 h3
    subst h1
    refine ⟨g, rfl, rfl, fun i u hu => ?_⟩
    have hi : i < 10 := by
      have := (List.getElem?_eq_some_iff.1 hu).1
      rwa [ndc_len] at this
    have := h.cells (g := g) rfl (0 * 10 + i) u (by rw [flat_get ndc_len [x] 0 (by simp) i hi]; exact hu)
    rwa [Addr.add_lit, Nat.zero_add, Nat.zero_mul, Nat.zero_add] at this
theorem nil_nd {w : World} {base k c : Nat} {A : Option Addr} (h : w.ownsRow base 64 10 (.slice A k c) k (([] : List Nd).flatMap ndc)) : k = 0 := (rs_own_len ndc_len (by decide) h).symm

theorem kk_c1 : Sch.check (laOf [3, 2]) (efOf 0) (sEx 1) = 0 := by decide +kernel
theorem kk_c0 : Sch.check (laOf [3, 2]) (efOf 0) (sEx 0) = 1 := by decide +kernel
theorem kk_e1 : Sch.grE (sEx 1) [1] [] = 0 := by decide +kernel
theorem kk_e0 : Sch.grE (sEx 1) [] [] = 1 := by decide +kernel
theorem kk_e7 : Sch.grE (sEx 1) [7] [] = 0 := by decide +kernel
theorem kk_g1 : Sch.grN (sEx 1) [1] [] = [nI false 1] := by kernel_rfl
theorem kk_g7 : Sch.grN (sEx 1) [7] [] = [nI false 7] := by kernel_rfl

set_option maxRecDepth 100000 in
set_option maxHeartbeats 8000000 in
theorem alive_any (w : World) : Calls Try.prog 9 #[] w fun e w' => e = .returned (.bool true) ∧ Below w.heap.size w w' := by
  have h0 : Rd La.nm (w.alloc (.cells #[.int .u64 3, .int .u64 2] 44)) (w.alloc (.cells #[.int .u64 3, .int .u64 2] 44)).heap.size (some ⟨w.heap.size, 0, none⟩) 2 2 [3, 2] := Rd.new w _ 44 2 [3, 2] rfl rfl (by decide)
  have hb : Below w.heap.size w (w.alloc (.cells #[.int .u64 3, .int .u64 2] 44)) := (Below.refl _ _).alloc (Nat.le_refl _) _
  have HF : Hid (La.Fit [3, 2]) := Lib.hid (by intro x hx; simp only [List.mem_cons, List.not_mem_nil, or_false] at hx; omega)
  go_enter Try.func9, Try.ntmps9
  go_wp2_with fail
  refine (of_sorts _ 2 2 0 [3, 2] _ h0 HF.out).mono ?_
  rintro e w1 ⟨p, q, rfl, hS, hv⟩
  replace hb := hb.trans (hv.mono hb.size)
  clear hv h0 HF
  go_wp2_with fail
  refine (one_any 1 _).mono ?_
  rintro e w2 ⟨A1, c1, rfl, h1, hv⟩
  replace hS := hS.keep hv
  replace hb := hb.trans (hv.mono hb.size)
  clear hv
  have n1 : Rd La.nm (w2.alloc (.cells #[.int .u64 1] 44)) (w2.alloc (.cells #[.int .u64 1] 44)).heap.size (some ⟨w2.heap.size, 0, none⟩) 1 1 [1] := Rd.new w2 _ 44 1 [1] rfl rfl (by decide)
  have hv : Below w2.heap.size w2 (w2.alloc (.cells #[.int .u64 1] 44)) := (Below.refl _ _).alloc (Nat.le_refl _) _
  have HN := Lib.hid n1
  have H1 := Lib.hid (h1.keep hv)
  have HV := Lib.hid hv
  clear n1 h1 hv
  go_wp2_with fail
  refine (schGround_any (sEx 1) A1 1 c1 none 0 0 none 0 0 _ 1 1 [1] none 0 0 [] _ H1.out HN.out (Rd.nil _ _) 0 kk_e1).mono ?_
  rintro e w3 ⟨Ga, ka, ca, rfl, hga, hv3⟩
  have hv := HV.out.trans (hv3.mono HV.out.size)
  rw [kk_g1] at hga
  obtain ⟨ga, rfl, rfl, hcell⟩ := one_nd hga
  have a0 := hcell 4 _ rfl
  have a1 := hcell 5 _ rfl
  replace a0 : _ = some (Value.bool false) := a0
  replace a1 : _ = some (Value.int .u64 1) := a1
  replace hS := hS.keep hv
  replace hb := hb.trans (hv.mono hb.size)
  clear hv
  clear hv3 hga hcell H1 HN HV
  go_wp2_with fail
  refine (one_any 1 _).mono ?_
  rintro e w4 ⟨A1, c1, rfl, h1, hv⟩
  replace hS := hS.keep hv
  replace a0 := cell_old a0 hv
  replace a1 := cell_old a1 hv
  replace hb := hb.trans (hv.mono hb.size)
  clear hv
  go_wp2_with fail
  refine (schGround_any (sEx 1) A1 1 c1 none 0 0 none 0 0 none 0 0 [] none 0 0 [] _ h1 (Rd.nil _ _) (Rd.nil _ _) 1 kk_e0).mono ?_
  rintro e w5 ⟨Gb, kb, cb, rfl, -, hv⟩
  replace hS := hS.keep hv
  replace a0 := cell_old a0 hv
  replace a1 := cell_old a1 hv
  replace hb := hb.trans (hv.mono hb.size)
  clear hv
  clear h1
  go_wp2_with fail
  refine (one_any 1 _).mono ?_
  rintro e w6 ⟨A1, c1, rfl, h1, hv⟩
  replace hS := hS.keep hv
  replace a0 := cell_old a0 hv
  replace a1 := cell_old a1 hv
  replace hb := hb.trans (hv.mono hb.size)
  clear hv
  have n1 : Rd La.nm (w6.alloc (.cells #[.int .u64 7] 44)) (w6.alloc (.cells #[.int .u64 7] 44)).heap.size (some ⟨w6.heap.size, 0, none⟩) 1 1 [7] := Rd.new w6 _ 44 1 [7] rfl rfl (by decide)
  have hv : Below w6.heap.size w6 (w6.alloc (.cells #[.int .u64 7] 44)) := (Below.refl _ _).alloc (Nat.le_refl _) _
  have HN := Lib.hid n1
  have H1 := Lib.hid (h1.keep hv)
  have HV := Lib.hid hv
  clear n1 h1 hv
  go_wp2_with fail
  refine (schGround_any (sEx 1) A1 1 c1 none 0 0 none 0 0 _ 1 1 [7] none 0 0 [] _ H1.out HN.out (Rd.nil _ _) 0 kk_e7).mono ?_
  rintro e w7 ⟨Gb, kb, cb, rfl, hgb, hv3⟩
  have hv := HV.out.trans (hv3.mono HV.out.size)
  rw [kk_g7] at hgb
  obtain ⟨gb, rfl, rfl, hcell⟩ := one_nd hgb
  have b0 := hcell 4 _ rfl
  have b1 := hcell 5 _ rfl
  replace b0 : _ = some (Value.bool false) := b0
  replace b1 : _ = some (Value.int .u64 7) := b1
  replace hS := hS.keep hv
  replace a0 := cell_old a0 hv
  replace a1 := cell_old a1 hv
  replace hb := hb.trans (hv.mono hb.size)
  clear hv
  clear hv3 hgb hcell H1 HN HV
  go_wp2_with fail
  refine (one_any 1 _).mono ?_
  rintro e w8 ⟨A1, c1, rfl, h1, hv⟩
  replace hS := hS.keep hv
  replace a0 := cell_old a0 hv
  replace a1 := cell_old a1 hv
  replace b0 := cell_old b0 hv
  replace b1 := cell_old b1 hv
  replace hb := hb.trans (hv.mono hb.size)
  clear hv
  go_wp2_with fail
  refine (schCheck_any (sEx 1) A1 1 c1 none 0 0 none 0 0 _ _ _ _ _ h1 hS.inl hS.inr 0 kk_c1).mono ?_
  rintro e w9 ⟨rfl, hv⟩
  replace hS := hS.keep hv
  replace a0 := cell_old a0 hv
  replace a1 := cell_old a1 hv
  replace b0 := cell_old b0 hv
  replace b1 := cell_old b1 hv
  replace hb := hb.trans (hv.mono hb.size)
  clear hv
  clear h1
  go_wp2_with fail
  refine (one_any 0 _).mono ?_
  rintro e w10 ⟨A1, c1, rfl, h1, hv⟩
  replace hS := hS.keep hv
  replace a0 := cell_old a0 hv
  replace a1 := cell_old a1 hv
  replace b0 := cell_old b0 hv
  replace b1 := cell_old b1 hv
  replace hb := hb.trans (hv.mono hb.size)
  clear hv
  go_wp2_with fail
  refine (schCheck_any (sEx 0) A1 1 c1 none 0 0 none 0 0 _ _ _ _ _ h1 hS.inl hS.inr 1 kk_c0).mono ?_
  rintro e w11 ⟨rfl, hv⟩
  replace hS := hS.keep hv
  replace a0 := cell_old a0 hv
  replace a1 := cell_old a1 hv
  replace b0 := cell_old b0 hv
  replace b1 := cell_old b1 hv
  replace hb := hb.trans (hv.mono hb.size)
  clear hv
  clear h1
  go_wp2_with fail
  go_ret
  exact ⟨rfl, hb⟩

theorem spot_inf : (Try.prog.info? 56).map (fun i => (i.zero, i.size, i.bytes)) = some (some (.agg #[.int .i64 0, .int .u8 0, .int .u8 0, .bool false, .int .u64 0]), 5, 32) := by kernel_rfl

set_option maxRecDepth 100000 in
set_option maxHeartbeats 2000000 in
theorem stillOf_any (A : Option Addr) (n c : Nat) (l : List Nd) (w : World) (h : Ns w w.heap.size A n c l) (hf : ∀ x ∈ l, x.Fits) (h1 : ∀ p ∈ labB l, p.v = false) (h2 : ∀ p ∈ effB l, p.v = false) :
    Calls Try.prog 11 #[.slice A n c] w fun e w' => e = .returned (.bool true) ∧ Below w.heap.size w w' := by
  obtain ⟨kl, hkl⟩ : ∃ k, (labB l).length = k := ⟨_, rfl⟩
  obtain ⟨ke, hke⟩ : ∃ k, (effB l).length = k := ⟨_, rfl⟩
  have HKL := Lib.hid (show kl ≤ 256 by rw [← hkl]; exact labB_len l)
  have HKE := Lib.hid (show ke ≤ 256 by rw [← hke]; exact Nat.le_trans (effB_len l) (by decide))
  have hc := of_len A n c l _ _ kl ke w h hf rfl rfl hkl hke
  have HA : Hid (∀ p ∈ labB l ++ effB l, p.v = false) := Lib.hid fun p hp => (List.mem_append.1 hp).elim (h1 p) (h2 p)
  have HLEN : Hid ((labB l ++ effB l).length = kl + ke) := Lib.hid (by rw [List.length_append, hkl, hke])
  clear h hf h1 h2 hkl hke
  generalize labB l = ls at *
  generalize effB l = es at *
  go_enter Try.func11, Try.ntmps11
  go_wp2_with fail
  refine hc.mono ?_
  rintro e w1 ⟨B1, d1, B2, d2, rfl, hT⟩
  have HO := Lib.hid hT.o1
  have HR := Lib.hid hT.r2
  have HB := Lib.hid hT.bel
  have hN : kl + ke ≤ 100000 := by have := HKL.out; have := HKE.out; omega
  have hsz := hT.bel.size
  clear hT hc
  go_wp2_with (at_builtin; refine wpList_append_rs spc_len (by decide) spc_one Try.underlying46 spot_inf rfl (by decide) rfl (.tmp 11) (.tmp 12) rfl w.heap.size _ kl ls rfl HO.out _ B2 ke d2 es rfl HR.out hN hsz ?_; intro A' k' c' w2 HK HAP)
  have hgr := HB.out.grown HAP.out.grown hsz fun j hj => (HO.out.lt j hj).1
  have hL : Rs spc 5 w2 w2.heap.size A' k' c' (ls ++ es) := Rs.of_own spc_len (by decide) HAP.out.own
  have HLK : Hid (k' = (ls ++ es).length) := Lib.hid (by rw [HK.out, HLEN.out])
  have HR2 := Lib.hid hL
  have HB2 := Lib.hid hgr
  have htop := hL.top
  have hcap := hL.cap
  unfold maxLen at htop
  clear hgr hL hN hsz
  clear HK HAP HO HR HB HKL HKE HLEN
  generalize ls ++ es = L at *
  go_loopw [5] (fun v5 wr => ∃ i : Nat, v5 = .int .i64 (i : Int) ∧ i ≤ k' ∧ w2 = wr) (fun v5 _ => k' - (intOf v5).toNat)
  case atStart => exact ⟨0, rfl, by omega, rfl⟩
  case round =>
    obtain ⟨i, rfl, hi, rfl⟩ := hrel
    by_cases hlt : i < k'
    · have hi' : i < L.length := by rw [← HLK.out]; exact hlt
      obtain ⟨b, o, rfl, hbb, e0, e1, e2, e3, e4⟩ := spot_at HR2.out hi'
      have hv := HA.out _ (List.getElem_mem hi')
      rw [hv] at e3
      clear hv hbb e0 e1 e2 e4 hi'
      go_wp2
      go_roundw
      case rel => exact ⟨i + 1, by go_num, by omega, by trivial⟩
      case measure => simp [intOf]; omega
    · obtain rfl : i = k' := by omega
      go_wp2
      go_ret
      exact ⟨rfl, HB2.out⟩
end Go.Proofs.Ytmiconjmeaammaa
