/- The nodes and the examples that the laws make. No condition but sizes. -/
import Derived.Test.YtfcjnbfbnffcjaaSame
import Derived.Test.YtfcjnbfbnffcjaaTell
namespace Go.Proofs.Ytfcjnbfbnffcjaa
open Go.RowKit

/-- A node int; one of a function. -/
def nInt : Nd := ⟨1, 0, [105, 110, 116], 0, false, 0, false, 0, false, 0⟩
def nFun : Nd := ⟨5, 0, [], 2, false, 0, false, 0, false, 0⟩
abbrev vInt : Value := .agg #[.int .u8 1, .int .i64 0, .string (str [105, 110, 116]), .int .i64 0, .bool false, .int .u64 0, .bool false, .int .u64 0, .bool false, .int .u64 0]
abbrev vFun : Value := .agg #[.int .u8 5, .int .i64 0, .string (str []), .int .i64 2, .bool false, .int .u64 0, .bool false, .int .u64 0, .bool false, .int .u64 0]
theorem fits_int : nInt.Fits := ⟨by decide, by decide, by decide, by decide, by decide, by decide, by decide⟩
theorem fits_fun : nFun.Fits := ⟨by decide, by decide, by decide, by decide, by decide, by decide, by decide⟩

set_option maxRecDepth 100000 in
theorem whole_any (w : World) : Calls Try.prog 20 #[] w fun e w' => e = .returned vInt ∧ Below w.heap.size w w' := by
  go_enter Try.func20, Try.ntmps20
  go_wp2
  exact bodyPost_ret (results_cell_row (P := Try.prog) rfl _ _ w.heap.size 36 _ (0, 0) _ rfl (heap_alloc_new w _) Try.underlying36 rfl rfl) rfl ⟨rfl, (Below.refl _ _).alloc (Nat.le_refl _) _⟩

set_option maxRecDepth 100000 in
theorem fun_any (w : World) : Calls Try.prog 21 #[] w fun e w' => e = .returned vFun ∧ Below w.heap.size w w' := by
  go_enter Try.func21, Try.ntmps21
  go_wp2
  exact bodyPost_ret (results_cell_row (P := Try.prog) rfl _ _ w.heap.size 36 _ (0, 0) _ rfl (heap_alloc_new w _) Try.underlying36 rfl rfl) rfl ⟨rfl, (Below.refl _ _).alloc (Nat.le_refl _) _⟩

abbrev oOne : Obj := .cells #[.int .u8 1, .int .i64 0, .string (str [105, 110, 116]), .int .i64 0, .bool false, .int .u64 0, .bool false, .int .u64 0, .bool false, .int .u64 0] 36
abbrev oFun : Obj := .cells #[.int .u8 5, .int .i64 0, .string (str []), .int .i64 2, .bool false, .int .u64 0, .bool false, .int .u64 0, .bool false, .int .u64 0, .int .u8 1, .int .i64 0, .string (str [105, 110, 116]), .int .i64 0, .bool false, .int .u64 0, .bool false, .int .u64 0, .bool false, .int .u64 0, .int .u8 1, .int .i64 0, .string (str [105, 110, 116]), .int .i64 0, .bool false, .int .u64 0, .bool false, .int .u64 0, .bool false, .int .u64 0] 36
abbrev oTwo : Obj := .cells #[.int .u8 1, .int .i64 0, .string (str [105, 110, 116]), .int .i64 0, .bool false, .int .u64 0, .bool false, .int .u64 0, .bool false, .int .u64 0, .int .u8 1, .int .i64 0, .string (str [105, 110, 116]), .int .i64 0, .bool false, .int .u64 0, .bool false, .int .u64 0, .bool false, .int .u64 0] 36

theorem check_lit (A : Option Addr) (n c : Nat) (l : List Nd) (r : Nat) (w : World) (h : Ns w w.heap.size A n c l) (hf : ∀ x ∈ l, x.Fits) (e : checkB l = r) :
    Calls Try.prog 10 #[.slice A n c] w fun e w' => e = .returned (.int .i64 (r : Int)) ∧ Below w.heap.size w w' := by
  have := check_any A n c l w h hf
  rwa [e] at this
theorem deep_lit (A : Option Addr) (n c : Nat) (l : List Nd) (r : Nat) (w : World) (h : Ns w w.heap.size A n c l) (hf : ∀ x ∈ l, x.Fits) (e : F.top (depB l) = r) :
    Calls Try.prog 14 #[.slice A n c] w fun e w' => e = .returned (.int .i64 (r : Int)) ∧ Below w.heap.size w w' := by
  have := deep_any A n c l w h hf
  rwa [e] at this
theorem end_lit (A : Option Addr) (n c : Nat) (l : List Nd) (a : Int) (r : Nat) (w : World) (h : Ns w w.heap.size A n c l) (hf : ∀ x ∈ l, x.Fits) (e : EndOf (depB l) a r) :
    Calls Try.prog 12 #[.slice A n c, .int .i64 a] w fun e w' => e = .returned (.int .i64 (r : Int)) ∧ Below w.heap.size w w' := by
  refine (end_any A n c l a w h hf).mono ?_
  rintro _ w' ⟨⟨x, rfl, hx⟩, hb⟩
  rw [hx.uniq e]
  exact ⟨rfl, hb⟩
theorem same_lit' (A A2 : Option Addr) (n c n2 c2 : Nat) (a b : List Nd) (r : Bool) (w : World) (h : Ns w w.heap.size A n c a) (h2 : Ns w w.heap.size A2 n2 c2 b) (e : sameB a b = r) :
    Calls Try.prog 16 #[.slice A n c, .slice A2 n2 c2] w fun e w' => e = .returned (.bool r) ∧ Below w.heap.size w w' := by
  have := same_any A A2 n c n2 c2 _ a b w h h2 (Nat.le_refl _)
  rwa [e] at this

theorem Rs.head {α : Type} {enc : α → List Value} {sz : Nat} {w : World} {B n c k : Nat} {A : Option Addr} {l : List α} (h : Rs enc sz w B A n c l) (hk : k ≤ n) : Rs enc sz w B A k c (l.take k) := by
  have hl := h.len
  have hc := h.cap
  refine ⟨by rw [List.length_take]; omega, by omega, h.top, h.none0, fun h0 => ?_⟩
  obtain ⟨b, o, e, hb, hc⟩ := h.spot (by omega)
  refine ⟨b, o, e, hb, fun j hj i u hu => ?_⟩
  rw [List.length_take] at hj
  rw [List.getElem_take] at hu
  exact hc j (by omega) i u hu

theorem nd_size (w : World) : (Go.sizeOf 36).run Try.prog w = .ok 10 w := by kernel_rfl

theorem k_one : checkB [nInt] = 0 := by decide +kernel
theorem k_fun : checkB [nFun, nInt, nInt] = 0 := by decide +kernel
theorem k_cut : checkB [nFun, nInt] = 4 := by decide +kernel
theorem k_two : checkB [nInt, nInt] = 4 := by decide +kernel
theorem k_dep : depB [nFun, nInt, nInt] = [1, 2, 2] := by decide +kernel
theorem k_end : EndOf (depB [nFun, nInt, nInt]) 1 2 := by
  rw [k_dep]
  refine .inr ⟨1, rfl, by decide, by decide, fun j hj h1 h2 => by omega, fun h => by show (2 : Nat) ≤ 2; decide⟩
theorem k_same : sameB [nFun, nInt, nInt] [nFun, nInt, nInt] = true := by decide +kernel
theorem k_other : sameB [nInt] [nFun, nInt, nInt] = false := by decide +kernel

set_option maxRecDepth 100000 in
set_option maxHeartbeats 4000000 in
theorem alive_any (w : World) : Calls Try.prog 19 #[] w fun e w' => e = .returned (.bool true) ∧ Below w.heap.size w w' := by
  have f1 : ∀ x ∈ [nInt], x.Fits := by intro x hx; simp at hx; subst hx; exact fits_int
  have f2 : ∀ x ∈ [nInt, nInt], x.Fits := by intro x hx; simp at hx; subst hx; exact fits_int
  have f3 : ∀ x ∈ [nFun, nInt], x.Fits := by
    intro x hx; simp at hx
    rcases hx with rfl | rfl
    · exact fits_fun
    · exact fits_int
  have f4 : ∀ x ∈ [nFun, nInt, nInt], x.Fits := by
    intro x hx; simp at hx
    rcases hx with rfl | rfl
    · exact fits_fun
    · exact fits_int
  have F1 := Lib.hid f1
  have F2 := Lib.hid f2
  have F3 := Lib.hid f3
  have F4 := Lib.hid f4
  clear f1 f2 f3 f4
  go_enter Try.func19, Try.ntmps19
  go_wp2_with fail
  refine (whole_any _).mono ?_
  rintro e w1 ⟨rfl, hb1⟩
  have ho : Ns (w1.alloc oOne) (w1.alloc oOne).heap.size (some ⟨w1.heap.size, 0, none⟩) 1 1 [nInt] := Rs.of_blk ndc_len (heap_alloc_new w1 oOne) ⟨[], rfl⟩ rfl (Nat.le_refl _) (by unfold maxLen; omega)
  have hb := hb1.alloc hb1.size oOne
  go_wp2_with fail
  generalize w1.heap.size = g1 at *
  clear hb1
  refine (fun_any _).mono ?_
  rintro e w2 ⟨rfl, hb2⟩
  replace ho := ho.at_size (Nat.le_refl _) hb2
  replace hb := hb.trans (hb2.mono hb.size)
  clear hb2
  go_wp2_with fail
  refine (whole_any _).mono ?_
  rintro e w3 ⟨rfl, hb3⟩
  replace ho := ho.at_size (Nat.le_refl _) hb3
  replace hb := hb.trans (hb3.mono hb.size)
  clear hb3
  go_wp2_with fail
  refine (whole_any _).mono ?_
  rintro e w4 ⟨rfl, hb4⟩
  replace ho := ho.at_size (Nat.le_refl _) hb4
  replace hb := hb.trans (hb4.mono hb.size)
  clear hb4
  have hff : Ns (w4.alloc oFun) (w4.alloc oFun).heap.size (some ⟨w4.heap.size, 0, none⟩) 3 3 [nFun, nInt, nInt] := Rs.of_blk ndc_len (heap_alloc_new w4 oFun) ⟨[], rfl⟩ rfl (Nat.le_refl _) (by unfold maxLen; omega)
  have hal : Below w4.heap.size w4 (w4.alloc oFun) := (Below.refl _ _).alloc (Nat.le_refl _) _
  replace ho := ho.at_size (Nat.le_refl _) hal
  replace hb := hb.trans (hal.mono hb.size)
  clear hal
  go_wp2_with fail
  generalize w4.heap.size = g4 at *
  refine (check_lit _ 1 1 [nInt] 0 _ ho F1.out k_one).mono ?_
  rintro e w5 ⟨rfl, hb5⟩
  replace ho := ho.at_size (Nat.le_refl _) hb5
  replace hff := hff.at_size (Nat.le_refl _) hb5
  replace hb := hb.trans (hb5.mono hb.size)
  clear hb5
  go_wp2_with fail
  refine (check_lit _ 3 3 [nFun, nInt, nInt] 0 _ hff F4.out k_fun).mono ?_
  rintro e w6 ⟨rfl, hb6⟩
  replace ho := ho.at_size (Nat.le_refl _) hb6
  replace hff := hff.at_size (Nat.le_refl _) hb6
  replace hb := hb.trans (hb6.mono hb.size)
  clear hb6
  have hcut : Ns w6 w6.heap.size (some ⟨g4, 0, none⟩) 2 3 [nFun, nInt] := hff.head (k := 2) (by omega)
  go_wp2_with fail
  refine (check_lit _ 2 3 [nFun, nInt] 4 _ hcut F3.out k_cut).mono ?_
  rintro e w7 ⟨rfl, hb7⟩
  replace ho := ho.at_size (Nat.le_refl _) hb7
  replace hff := hff.at_size (Nat.le_refl _) hb7
  replace hb := hb.trans (hb7.mono hb.size)
  clear hb7 hcut
  go_wp2_with fail
  refine (whole_any _).mono ?_
  rintro e w8 ⟨rfl, hb8⟩
  replace ho := ho.at_size (Nat.le_refl _) hb8
  replace hff := hff.at_size (Nat.le_refl _) hb8
  replace hb := hb.trans (hb8.mono hb.size)
  clear hb8
  go_wp2_with fail
  refine (whole_any _).mono ?_
  rintro e w9 ⟨rfl, hb9⟩
  have htw : Ns (w9.alloc oTwo) (w9.alloc oTwo).heap.size (some ⟨w9.heap.size, 0, none⟩) 2 2 [nInt, nInt] := Rs.of_blk ndc_len (heap_alloc_new w9 oTwo) ⟨[], rfl⟩ rfl (Nat.le_refl _) (by unfold maxLen; omega)
  have hb9 := hb9.alloc hb9.size oTwo
  replace ho := ho.at_size (Nat.le_refl _) hb9
  replace hff := hff.at_size (Nat.le_refl _) hb9
  replace hb := hb.trans (hb9.mono hb.size)
  clear hb9
  go_wp2_with fail
  refine (check_lit _ 2 2 [nInt, nInt] 4 _ htw F2.out k_two).mono ?_
  rintro e w10 ⟨rfl, hb10⟩
  replace ho := ho.at_size (Nat.le_refl _) hb10
  replace hff := hff.at_size (Nat.le_refl _) hb10
  replace hb := hb.trans (hb10.mono hb.size)
  clear hb10 htw
  go_wp2_with fail
  refine (check_lit none 0 0 [] 1 _ (Rs.nil _ _) (by simp) rfl).mono ?_
  rintro e w11 ⟨rfl, hb11⟩
  replace ho := ho.at_size (Nat.le_refl _) hb11
  replace hff := hff.at_size (Nat.le_refl _) hb11
  replace hb := hb.trans (hb11.mono hb.size)
  clear hb11
  go_wp2_with fail
  refine (deep_lit _ 3 3 [nFun, nInt, nInt] 2 _ hff F4.out (by rw [k_dep]; rfl)).mono ?_
  rintro e w12 ⟨rfl, hb12⟩
  replace ho := ho.at_size (Nat.le_refl _) hb12
  replace hff := hff.at_size (Nat.le_refl _) hb12
  replace hb := hb.trans (hb12.mono hb.size)
  clear hb12
  go_wp2_with fail
  refine (end_lit _ 3 3 [nFun, nInt, nInt] 1 2 _ hff F4.out k_end).mono ?_
  rintro e w13 ⟨rfl, hb13⟩
  replace ho := ho.at_size (Nat.le_refl _) hb13
  replace hff := hff.at_size (Nat.le_refl _) hb13
  replace hb := hb.trans (hb13.mono hb.size)
  clear hb13
  go_wp2_with fail
  refine (same_lit' _ _ 3 3 3 3 [nFun, nInt, nInt] [nFun, nInt, nInt] true _ hff hff k_same).mono ?_
  rintro e w14 ⟨rfl, hb14⟩
  replace ho := ho.at_size (Nat.le_refl _) hb14
  replace hff := hff.at_size (Nat.le_refl _) hb14
  replace hb := hb.trans (hb14.mono hb.size)
  clear hb14
  go_wp2_with fail
  refine (same_lit' _ _ 1 1 3 3 [nInt] [nFun, nInt, nInt] false _ ho hff k_other).mono ?_
  rintro e w15 ⟨rfl, hb15⟩
  replace hb := hb.trans (hb15.mono hb.size)
  clear hb15
  go_wp2_with fail
  go_ret
  exact ⟨rfl, hb⟩
end Go.Proofs.Ytfcjnbfbnffcjaa
