/- The examples that the laws make; spots told with the row laid. Condition: rows can be read. -/
import Derived.Test.YtabfbelbcdbkaaaRows2
namespace Go.Proofs.Ytabfbelbcdbkaaa
open Go.RowKit

theorem k_l1 : (labB [nFun, nInt, nInt]).map Sp.s = [0, 1, 1, 0] := by decide +kernel
theorem k_e1 : (effB [nFun, nInt, nInt]).map Sp.s = [0] := by decide +kernel
theorem k_l2 : (labB [nRef, nInt]).map Sp.s = [0, 2] := by decide +kernel
theorem k_e2 : effB [nRef, nInt] = [] := by
  have : (effB [nRef, nInt]).length = 0 := by decide +kernel
  exact List.eq_nil_of_length_eq_zero this

theorem Alks.fits : ∀ {a b : List Nd}, Alks a b → (∀ x ∈ a, x.Fits) → ∀ y ∈ b, y.Fits
  | _, _, .nil, _ => by simp
  | _, _, .cons (x := x) (y := y) h t, hf => by
    refine fits_cons ?_ (t.fits fun z hz => hf z (List.mem_cons_of_mem _ hz))
    have g := hf x List.mem_cons_self
    exact ⟨h.k ▸ g.k0, h.k ▸ g.k1, h.m ▸ g.m0, h.m ▸ g.m1, h.n ▸ g.n0, h.n ▸ g.n1, h.s ▸ g.s1⟩
theorem fits_putB {l : List Nd} (ts us : List Tm) (h : ∀ x ∈ l, x.Fits) : ∀ y ∈ putB l ts us, y.Fits := (alks_putB l ts us).fits h

/-- What Of tells, its rows named. -/
theorem of_lit (A : Option Addr) (m c : Nat) (l : List Nd) (ls es : List Sp) (w : World) (hr : Ns w w.heap.size A m c l) (hf : ∀ x ∈ l, x.Fits) (e1 : labB l = ls) (e2 : effB l = es) :
    Calls Try.prog 9 #[.slice A m c] w fun e w' => ∃ A1 n1 c1 A2 n2 c2, e = .returned (.tuple #[.slice A1 n1 c1, .slice A2 n2 c2]) ∧ w'.ownsRow w.heap.size 40 5 (.slice A1 n1 c1) n1 (ls.flatMap spc) ∧ w'.ownsRow w.heap.size 40 5 (.slice A2 n2 c2) n2 (es.flatMap spc) ∧
      (∀ q, (Value.slice A1 n1 c1).ownBlock = some q → (Value.slice A2 n2 c2).ownBlock ≠ some q) ∧ Below w.heap.size w w' := by
  have := of_any A m c l w hr hf
  rw [e1, e2] at this
  refine this.mono ?_
  rintro e w' ⟨v, u, rfl, h⟩
  obtain ⟨A1, c1, rfl⟩ := rs_own_form h.o2
  obtain ⟨A2, c2, rfl⟩ := rs_own_form h.o3
  exact ⟨A1, _, c1, A2, _, c2, rfl, h.o2, h.o3, h.ap, h.bel⟩

theorem Rs.of_ownW {α : Type} {enc : α → List Value} {sz : Nat} {w : World} {A : Option Addr} {n c : Nat} {l : List α} {E : TypeId} {base : Nat} (he : ∀ x, (enc x).length = sz) (hsz : 0 < sz) (h : w.ownsRow base E sz (.slice A n c) n (l.flatMap enc)) : Rs enc sz w w.heap.size A n c l := Rs.of_own he hsz h

abbrev oRefI : Obj := .cells #[.int .u8 4, .int .i64 0, .string (str []), .int .i64 1, .bool false, .int .u64 0, .bool false, .int .u64 0, .bool false, .int .u64 0, .int .u8 1, .int .i64 0, .string (str [105, 110, 116]), .int .i64 0, .bool false, .int .u64 0, .bool false, .int .u64 0, .bool false, .int .u64 0] 45
theorem fits_l1 : ∀ x ∈ [nFun, nInt, nInt], x.Fits := fits_cons fits_fun (fits_cons fits_int (fits_cons fits_int fits_nil))
theorem fits_l2 : ∀ x ∈ [nRef, nInt], x.Fits := fits_cons fits_ref (fits_cons fits_int fits_nil)
abbrev oS4 : Obj := .cells #[.int .u8 0, .int .u8 1, .int .u8 1, .int .u8 0] 38
abbrev oS1 : Obj := .cells #[.int .u8 0] 38
abbrev oS2 : Obj := .cells #[.int .u8 0, .int .u8 2] 38

set_option maxRecDepth 100000 in
set_option maxHeartbeats 4000000 in
theorem alive_any (w : World) : Calls Try.prog 8 #[] w fun e w' => e = .returned (.bool true) ∧ Below w.heap.size w w' := by
  obtain ⟨ls1, hl1⟩ : ∃ x, labB [nFun, nInt, nInt] = x := ⟨_, rfl⟩
  obtain ⟨es1, he1⟩ : ∃ x, effB [nFun, nInt, nInt] = x := ⟨_, rfl⟩
  obtain ⟨ls2, hl2⟩ : ∃ x, labB [nRef, nInt] = x := ⟨_, rfl⟩
  have K1 := Lib.hid (hl1 ▸ k_l1)
  have K2 := Lib.hid (he1 ▸ k_e1)
  have K3 := Lib.hid (hl2 ▸ k_l2)
  have HL1 := Lib.hid hl1
  have HE1 := Lib.hid he1
  have HL2 := Lib.hid hl2
  clear hl1 he1 hl2
  go_enter Try.func8, Try.ntmps8
  go_wp2_with fail
  refine (fun_any _).mono ?_
  rintro e w1 ⟨rfl, hb⟩
  go_wp2_with fail
  refine (whole_any _).mono ?_
  rintro e w2 ⟨rfl, hb2⟩
  replace hb := hb.trans (hb2.mono hb.size)
  clear hb2
  go_wp2_with fail
  refine (whole_any _).mono ?_
  rintro e w3 ⟨rfl, hb3⟩
  replace hb := hb.trans (hb3.mono hb.size)
  clear hb3
  have hff : Ns (w3.alloc oFun) (w3.alloc oFun).heap.size (some ⟨w3.heap.size, 0, none⟩) 3 3 [nFun, nInt, nInt] := Rs.of_blk ndc_len (heap_alloc_new w3 oFun) ⟨[], rfl⟩ rfl (Nat.le_refl _) (by unfold maxLen; omega)
  replace hb := hb.alloc hb.size oFun
  go_wp2_with fail
  generalize w3.heap.size = g3 at *
  refine (of_lit _ 3 3 [nFun, nInt, nInt] ls1 es1 _ hff fits_l1 HL1.out HE1.out).mono ?_
  rintro e w4 ⟨A1, n1, c1, A2, n2, c2, rfl, o1, o2, -, hb4⟩
  replace hb := hb.trans (hb4.mono hb.size)
  clear hb4 hff
  have HN1 : Hid (n1 = 4) := Lib.hid (by have h1 := rs_own_len spc_len (by decide) o1; have h2 := congrArg List.length K1.out; rw [List.length_map] at h2; rw [← h1, h2]; rfl)
  have HN2 : Hid (n2 = 1) := Lib.hid (by have h1 := rs_own_len spc_len (by decide) o2; have h2 := congrArg List.length K2.out; rw [List.length_map] at h2; rw [← h1, h2]; rfl)
  have r1 := Rs.of_ownW spc_len (by decide) o1
  have r2 := Rs.of_ownW spc_len (by decide) o2
  clear o1 o2
  go_wp2_with fail
  refine (whole_any _).mono ?_
  rintro e w5 ⟨rfl, hb5⟩
  replace hb := hb.trans (hb5.mono hb.size)
  replace r1 := r1.at_size (Nat.le_refl _) hb5
  replace r2 := r2.at_size (Nat.le_refl _) hb5
  clear hb5
  have hff : Ns (w5.alloc oRefI) (w5.alloc oRefI).heap.size (some ⟨w5.heap.size, 0, none⟩) 2 2 [nRef, nInt] := Rs.of_blk ndc_len (heap_alloc_new w5 oRefI) ⟨[], rfl⟩ rfl (Nat.le_refl _) (by unfold maxLen; omega)
  have hal : Below w5.heap.size w5 (w5.alloc oRefI) := (Below.refl _ _).alloc (Nat.le_refl _) _
  replace r1 := r1.at_size (Nat.le_refl _) hal
  replace r2 := r2.at_size (Nat.le_refl _) hal
  replace hb := hb.trans (hal.mono hb.size)
  clear hal
  go_wp2_with fail
  generalize w5.heap.size = g5 at *
  refine (of_lit _ 2 2 [nRef, nInt] ls2 [] _ hff fits_l2 HL2.out k_e2).mono ?_
  rintro e w6 ⟨A3, n3, c3, A4, n4, c4, rfl, o3, o4, -, hb6⟩
  replace hb := hb.trans (hb6.mono hb.size)
  replace r1 := r1.at_size (Nat.le_refl _) hb6
  replace r2 := r2.at_size (Nat.le_refl _) hb6
  clear hb6 hff
  have HN3 : Hid (n3 = 2) := Lib.hid (by have h1 := rs_own_len spc_len (by decide) o3; have h2 := congrArg List.length K3.out; rw [List.length_map] at h2; rw [← h1, h2]; rfl)
  have HN4 : n4 = 0 := by have h1 := rs_own_len spc_len (by decide) o4; rw [← h1]; rfl
  have r3 := Rs.of_ownW spc_len (by decide) o3
  clear o3 o4
  subst HN4
  have sidesOf : ∀ (A : Option Addr) (n c : Nat) (l : List Sp) (xs : List Nat) (W : World), Rs spc 5 W W.heap.size A n c l → l.map Sp.s = xs → n ≤ 1000 →
      Calls Try.prog 20 #[.slice A n c] W fun e w' => ∃ A' N c', e = .returned (.slice A' N c') ∧ Rs sdc 1 w' w'.heap.size A' N c' xs ∧ Below W.heap.size W w' := by
    intro A n c l xs W h e hn
    refine (sidesOf_any A n c _ l W h (Nat.le_refl _) hn).mono ?_
    rintro e w' ⟨A', N, c', rfl, ho, hb⟩
    rw [‹l.map Sp.s = xs›] at ho
    exact ⟨A', N, c', rfl, Rs.of_own sdc_len (by decide) ho, hb⟩
  have HSO := Lib.hid sidesOf
  clear sidesOf
  go_wp2_with fail
  refine (HSO.out _ _ _ ls1 _ _ r1 K1.out (by rw [HN1.out]; omega)).mono ?_
  rintro e w7 ⟨B1, m1, d1, rfl, t1, hb7⟩
  replace hb := hb.trans (hb7.mono hb.size)
  replace r2 := r2.at_size (Nat.le_refl _) hb7
  replace r3 := r3.at_size (Nat.le_refl _) hb7
  clear hb7 r1
  obtain rfl : m1 = 4 := t1.len.symm
  have hal : Below w7.heap.size w7 (w7.alloc oS4) := (Below.refl _ _).alloc (Nat.le_refl _) _
  have t2 : Rs sdc 1 (w7.alloc oS4) (w7.alloc oS4).heap.size (some ⟨w7.heap.size, 0, none⟩) 4 4 [0, 1, 1, 0] := Rs.of_blk sdc_len (heap_alloc_new w7 oS4) ⟨[], rfl⟩ rfl (Nat.le_refl _) (by unfold maxLen; omega)
  replace t1 := t1.at_size (Nat.le_refl _) hal
  replace r2 := r2.at_size (Nat.le_refl _) hal
  replace r3 := r3.at_size (Nat.le_refl _) hal
  replace hb := hb.trans (hal.mono hb.size)
  clear hal
  go_wp2_with fail
  generalize w7.heap.size = g7 at *
  refine (sameSides_any _ _ 4 _ _ _ _ _ _ t1 t2).mono ?_
  rintro e w8 ⟨rfl, hb8⟩
  replace hb := hb.trans (hb8.mono hb.size)
  replace r2 := r2.at_size (Nat.le_refl _) hb8
  replace r3 := r3.at_size (Nat.le_refl _) hb8
  clear hb8 t1 t2
  go_wp2_with fail
  refine (HSO.out _ _ _ es1 _ _ r2 K2.out (by rw [HN2.out]; omega)).mono ?_
  rintro e w9 ⟨B2, m2, d2, rfl, t1, hb9⟩
  replace hb := hb.trans (hb9.mono hb.size)
  replace r3 := r3.at_size (Nat.le_refl _) hb9
  clear hb9 r2
  obtain rfl : m2 = 1 := t1.len.symm
  have hal : Below w9.heap.size w9 (w9.alloc oS1) := (Below.refl _ _).alloc (Nat.le_refl _) _
  have t2 : Rs sdc 1 (w9.alloc oS1) (w9.alloc oS1).heap.size (some ⟨w9.heap.size, 0, none⟩) 1 1 [0] := Rs.of_blk sdc_len (heap_alloc_new w9 oS1) ⟨[], rfl⟩ rfl (Nat.le_refl _) (by unfold maxLen; omega)
  replace t1 := t1.at_size (Nat.le_refl _) hal
  replace r3 := r3.at_size (Nat.le_refl _) hal
  replace hb := hb.trans (hal.mono hb.size)
  clear hal
  go_wp2_with fail
  generalize w9.heap.size = g9 at *
  refine (sameSides_any _ _ 1 _ _ _ _ _ _ t1 t2).mono ?_
  rintro e w10 ⟨rfl, hb10⟩
  replace hb := hb.trans (hb10.mono hb.size)
  replace r3 := r3.at_size (Nat.le_refl _) hb10
  clear hb10 t1 t2
  go_wp2_with fail
  refine (HSO.out _ _ _ ls2 _ _ r3 K3.out (by rw [HN3.out]; omega)).mono ?_
  rintro e w11 ⟨B3, m3, d3, rfl, t1, hb11⟩
  replace hb := hb.trans (hb11.mono hb.size)
  clear hb11 r3
  obtain rfl : m3 = 2 := t1.len.symm
  have hal : Below w11.heap.size w11 (w11.alloc oS2) := (Below.refl _ _).alloc (Nat.le_refl _) _
  have t2 : Rs sdc 1 (w11.alloc oS2) (w11.alloc oS2).heap.size (some ⟨w11.heap.size, 0, none⟩) 2 2 [0, 2] := Rs.of_blk sdc_len (heap_alloc_new w11 oS2) ⟨[], rfl⟩ rfl (Nat.le_refl _) (by unfold maxLen; omega)
  replace t1 := t1.at_size (Nat.le_refl _) hal
  replace hb := hb.trans (hal.mono hb.size)
  clear hal
  go_wp2_with fail
  generalize w11.heap.size = g11 at *
  refine (sameSides_any _ _ 2 _ _ _ _ _ _ t1 t2).mono ?_
  rintro e w12 ⟨rfl, hb12⟩
  replace hb := hb.trans (hb12.mono hb.size)
  clear hb12 t1 t2
  go_wp2_with fail
  go_ret
  exact ⟨rfl, hb⟩
end Go.Proofs.Ytabfbelbcdbkaaa
