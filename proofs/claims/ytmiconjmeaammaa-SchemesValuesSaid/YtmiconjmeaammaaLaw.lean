/- The examples that the laws make; spots told with the row laid. Condition: rows can be read. -/
import Derived.Test.YtmiconjmeaammaaRows2
namespace Go.Proofs.Ytmiconjmeaammaa
open Go.RowKit

theorem k_l1 : (labB [nFun, nInt, nInt]).map Sp.s = [0, 1, 1, 0] := by decide +kernel
theorem k_e1 : (effB [nFun, nInt, nInt]).map Sp.s = [0] := by decide +kernel
theorem k_l2 : (labB [nRef, nInt]).map Sp.s = [0, 2] := by decide +kernel
theorem k_e2 : effB [nRef, nInt] = [] := by
  have : (effB [nRef, nInt]).length = 0 := by decide +kernel
  exact List.eq_nil_of_length_eq_zero this

theorem Alks.fits : ∀ {a b : List Nd}, Alks a b → (∀ x ∈ a, x.Fits) → ∀ y ∈ b, y.Fits
  | _, _, .nil, _ => by simp
  | _, _, .cons (x := x) (y := y) h t, hf => by
    refine fits_cons ?_ (t.fits fun z hz => hf z (List.mem_cons_of_mem _ hz))
    have g := hf x List.mem_cons_self
    exact ⟨h.k ▸ g.k0, h.k ▸ g.k1, h.m ▸ g.m0, h.m ▸ g.m1, h.n ▸ g.n0, h.n ▸ g.n1, h.s ▸ g.s1⟩
theorem fits_putB {l : List Nd} (ts us : List Tm) (h : ∀ x ∈ l, x.Fits) : ∀ y ∈ putB l ts us, y.Fits := (alks_putB l ts us).fits h

/-- What Of tells, its rows named. -/
theorem of_lit (A : Option Addr) (m c : Nat) (l : List Nd) (ls es : List Sp) (w : World) (hr : Ns w w.heap.size A m c l) (hf : ∀ x ∈ l, x.Fits) (e1 : labB l = ls) (e2 : effB l = es) :
    Calls Try.prog 16 #[.slice A m c] w fun e w' => ∃ A1 n1 c1 A2 n2 c2, e = .returned (.tuple #[.slice A1 n1 c1, .slice A2 n2 c2]) ∧ w'.ownsRow w.heap.size 56 5 (.slice A1 n1 c1) n1 (ls.flatMap spc) ∧ w'.ownsRow w.heap.size 56 5 (.slice A2 n2 c2) n2 (es.flatMap spc) ∧
      (∀ q, (Value.slice A1 n1 c1).ownBlock = some q → (Value.slice A2 n2 c2).ownBlock ≠ some q) ∧ Below w.heap.size w w' := by
  have := of_any A m c l w hr hf
  rw [e1, e2] at this
  refine this.mono ?_
  rintro e w' ⟨v, u, rfl, h⟩
  obtain ⟨A1, c1, rfl⟩ := rs_own_form h.o2
  obtain ⟨A2, c2, rfl⟩ := rs_own_form h.o3
  exact ⟨A1, _, c1, A2, _, c2, rfl, h.o2, h.o3, h.ap, h.bel⟩

theorem Rs.of_ownW {α : Type} {enc : α → List Value} {sz : Nat} {w : World} {A : Option Addr} {n c : Nat} {l : List α} {E : TypeId} {base : Nat} (he : ∀ x, (enc x).length = sz) (hsz : 0 < sz) (h : w.ownsRow base E sz (.slice A n c) n (l.flatMap enc)) : Rs enc sz w w.heap.size A n c l := Rs.of_own he hsz h

abbrev oRefI : Obj := .cells #[.int .u8 4, .int .i64 0, .string (str []), .int .i64 1, .bool false, .int .u64 0, .bool false, .int .u64 0, .bool false, .int .u64 0, .int .u8 1, .int .i64 0, .string (str [105, 110, 116]), .int .i64 0, .bool false, .int .u64 0, .bool false, .int .u64 0, .bool false, .int .u64 0] 64
theorem fits_l1 : ∀ x ∈ [nFun, nInt, nInt], x.Fits := fits_cons fits_fun (fits_cons fits_int (fits_cons fits_int fits_nil))
theorem fits_l2 : ∀ x ∈ [nRef, nInt], x.Fits := fits_cons fits_ref (fits_cons fits_int fits_nil)
abbrev oS4 : Obj := .cells #[.int .u8 0, .int .u8 1, .int .u8 1, .int .u8 0] 54
abbrev oS1 : Obj := .cells #[.int .u8 0] 54
abbrev oS2 : Obj := .cells #[.int .u8 0, .int .u8 2] 54

end Go.Proofs.Ytmiconjmeaammaa
