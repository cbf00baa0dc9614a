/- The document's examples hold: what 'alive' answers. No condition. -/
import Derived.Test.YtaohabdmbjaemaaEff
namespace Go.Proofs.Ytaohabdmbjaemaa
open Go.RowKit

theorem EffAt.p {w : World} {g t : Nat} {m : Bool} (h : EffAt w g m t) : EffP w (some ⟨g, 0, none⟩) m t := .inr ⟨g, rfl, h⟩

section
variable {w : World} {a : Option Addr} {m : Bool} {t : Nat} (he : EffP w a m t)
include he
theorem has_is (x : Nat) (hx : x < 18446744073709551616) (r : Bool) (h : hasE m t x = r) : Calls Try.prog 8 #[.pointer a, .int .u64 (x : Int)] w fun e w' => e = .returned (.bool r) ∧ Below w.heap.size w w' := h ▸ has_any a m t w he x hx
theorem below_is (x y : Nat) (hx : x < 18446744073709551616) (hy : y < 18446744073709551616) (r : Bool) (h : belowE m t x y = r) : Calls Try.prog 10 #[.pointer a, .int .u64 (x : Int), .int .u64 (y : Int)] w fun e w' => e = .returned (.bool r) ∧ Below w.heap.size w w' := h ▸ below_any a m t w he x y hx hy
theorem join_is (x y : Nat) (hx : x < 18446744073709551616) (hy : y < 18446744073709551616) (r : Int) (h : (joinE m t x y : Int) = r) : Calls Try.prog 12 #[.pointer a, .int .u64 (x : Int), .int .u64 (y : Int)] w fun e w' => e = .returned (.int .u64 r) ∧ Below w.heap.size w w' := h ▸ join_any a m t w he x y hx hy
theorem meet_is (x y : Nat) (hx : x < 18446744073709551616) (hy : y < 18446744073709551616) (r : Int) (h : (meetE m t x y : Int) = r) : Calls Try.prog 14 #[.pointer a, .int .u64 (x : Int), .int .u64 (y : Int)] w fun e w' => e = .returned (.int .u64 r) ∧ Below w.heap.size w w' := h ▸ meet_any a m t w he x y hx hy
theorem top_is (r : Int) (h : (t : Int) = r) : Calls Try.prog 17 #[.pointer a] w fun e w' => e = .returned (.int .u64 r) ∧ w = w' := h ▸ top_any a m t w he
end

set_option maxRecDepth 100000 in
set_option maxHeartbeats 1000000 in
theorem alive_any (w : World) : Calls Try.prog 19 #[] w fun e w' => e = .returned (.bool true) ∧ Below w.heap.size w w' := by
  have hn1 := fun W => new_no 65 (by omega) W
  have hn2 := fun W => new_no (-1) (by omega) W
  go_enter Try.func19, Try.ntmps19
  go_wp2_with fail
  refine (new_yes 2 (by decide) w).mono ?_
  rintro e w1 ⟨g, rfl, hx, b1⟩
  go_wp2_with fail
  refine (new_yes 0 (by decide) w1).mono ?_
  rintro e w2 ⟨o, rfl, ho, hb⟩
  have px := (hx.keep hb).p
  have po := ho.p
  have B := Below.then b1 (Nat.le_refl _) hb
  clear hx ho b1 hb
  go_wp2_with fail
  refine (hn1 _).mono ?_
  rintro e w' ⟨rfl, rfl⟩
  go_wp2_with fail
  refine (hn2 _).mono ?_
  rintro e w' ⟨rfl, rfl⟩
  clear hn1 hn2
  go_wp2_with fail
  refine (has_is px 3 (by decide) true (by decide +kernel)).mono ?_
  rintro e w3 ⟨rfl, hb⟩
  replace px := px.keep hb
  replace po := po.keep hb
  replace B := Below.then B (Nat.le_refl _) hb
  clear hb
  go_wp2_with fail
  refine (has_is px 4 (by decide) false (by decide +kernel)).mono ?_
  rintro e w4 ⟨rfl, hb⟩
  replace px := px.keep hb
  replace po := po.keep hb
  replace B := Below.then B (Nat.le_refl _) hb
  clear hb
  go_wp2_with fail
  refine (below_is px 1 3 (by decide) (by decide) true (by decide +kernel)).mono ?_
  rintro e w5 ⟨rfl, hb⟩
  replace px := px.keep hb
  replace po := po.keep hb
  replace B := Below.then B (Nat.le_refl _) hb
  clear hb
  go_wp2_with fail
  refine (below_is px 2 1 (by decide) (by decide) false (by decide +kernel)).mono ?_
  rintro e w6 ⟨rfl, hb⟩
  replace px := px.keep hb
  replace po := po.keep hb
  replace B := Below.then B (Nat.le_refl _) hb
  clear hb
  go_wp2_with fail
  refine (join_is px 1 2 (by decide) (by decide) 3 (by decide +kernel)).mono ?_
  rintro e w7 ⟨rfl, hb⟩
  replace px := px.keep hb
  replace po := po.keep hb
  replace B := Below.then B (Nat.le_refl _) hb
  clear hb
  go_wp2_with fail
  refine (meet_is px 3 2 (by decide) (by decide) 2 (by decide +kernel)).mono ?_
  rintro e w8 ⟨rfl, hb⟩
  replace px := px.keep hb
  replace po := po.keep hb
  replace B := Below.then B (Nat.le_refl _) hb
  clear hb
  go_wp2_with fail
  refine (top_is px 3 (by decide +kernel)).mono ?_
  rintro e w' ⟨rfl, rfl⟩
  go_wp2_with fail
  refine (join_is px 1 4 (by decide) (by decide) 0 (by decide +kernel)).mono ?_
  rintro e w9 ⟨rfl, hb⟩
  replace px := px.keep hb
  replace po := po.keep hb
  replace B := Below.then B (Nat.le_refl _) hb
  clear hb
  go_wp2_with fail
  refine (top_is po 0 (by decide +kernel)).mono ?_
  rintro e w' ⟨rfl, rfl⟩
  go_wp2_with fail
  refine (has_is po 0 (by decide) true (by decide +kernel)).mono ?_
  rintro e w10 ⟨rfl, hb⟩
  replace px := px.keep hb
  replace po := po.keep hb
  replace B := Below.then B (Nat.le_refl _) hb
  clear hb
  go_wp2_with fail
  go_ret
  exact ⟨rfl, B⟩
end Go.Proofs.Ytaohabdmbjaemaa
