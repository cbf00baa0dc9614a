/- The document's examples hold: what 'alive' answers. No condition. -/
import Derived.Test.YtlcbcggcmmlfdaaEfEff
namespace Go.Proofs.Ytlcbcggcmmlfdaa.Ef
open Go.RowKit

theorem EffAt.p {w : World} {g t : Nat} {m : Bool} (h : EffAt w g m t) : EffP w (some ⟨g, 0, none⟩) m t := .inr ⟨g, rfl, h⟩

section
variable {w : World} {a : Option Addr} {m : Bool} {t : Nat} (he : EffP w a m t)
include he
theorem has_is (x : Nat) (hx : x < 18446744073709551616) (r : Bool) (h : hasE m t x = r) : Calls Try.prog 27 #[.pointer a, .int .u64 (x : Int)] w fun e w' => e = .returned (.bool r) ∧ Below w.heap.size w w' := h ▸ has_any a m t w he x hx
theorem below_is (x y : Nat) (hx : x < 18446744073709551616) (hy : y < 18446744073709551616) (r : Bool) (h : belowE m t x y = r) : Calls Try.prog 29 #[.pointer a, .int .u64 (x : Int), .int .u64 (y : Int)] w fun e w' => e = .returned (.bool r) ∧ Below w.heap.size w w' := h ▸ below_any a m t w he x y hx hy
end

end Go.Proofs.Ytlcbcggcmmlfdaa.Ef
