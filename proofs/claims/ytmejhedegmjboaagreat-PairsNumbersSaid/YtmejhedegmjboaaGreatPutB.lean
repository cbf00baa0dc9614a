/- Put; PutB: merged. -/
import Derived.Lib.SliceRun
import Derived.Test.YtmejhedegmjboaaGreatOf
/- What slices.Clone, fill and Put do. Condition: nodes, spots and terms can be read. -/
namespace Go.Proofs.YtmejhedegmjboaaGreat
open Go.RowKit

/-- The cells of a spot in a row. -/
theorem spot_at {w : World} {B n c : Nat} {A : Option Addr} {l : List Sp} (h : Rs spc 5 w B A n c l) {k : Nat} (hk : k < l.length) : ∃ b o, A = some ⟨b, o, none⟩ ∧ b < B ∧
    w.cell? ⟨b, o + k * 5, none⟩ = some (.int .i64 (l[k].n : Int)) ∧ w.cell? ⟨b, o + k * 5 + 1, none⟩ = some (.int .u8 (l[k].p : Int)) ∧ w.cell? ⟨b, o + k * 5 + 2, none⟩ = some (.int .u8 (l[k].s : Int)) ∧ w.cell? ⟨b, o + k * 5 + 3, none⟩ = some (.bool l[k].v) ∧ w.cell? ⟨b, o + k * 5 + 4, none⟩ = some (.int .u64 l[k].z) := by
  obtain ⟨b, o, e, hb, hc⟩ := h.spot (by have := h.len; omega)
  have hc := hc k hk
  exact ⟨b, o, e, hb, hc 0 _ rfl, hc 1 _ rfl, hc 2 _ rfl, hc 3 _ rfl, hc 4 _ rfl⟩

theorem own_behind {w w' : World} {base n sz : Nat} {E : TypeId} {v : Value} {xs : List Value} (h : w.ownsRow base E sz v n xs) (hb : Below w.heap.size w w') : w'.ownsRow base E sz v n xs := by
  refine ⟨h.1, ?_⟩
  rcases h.2 with hn | ⟨g, cap, cur, hv, hg, hgg, r⟩
  · exact .inl hn
  · exact .inr ⟨g, cap, cur, hv, hg, (hb.block g (lt_blk hgg)).trans hgg, r⟩

end Go.Proofs.YtmejhedegmjboaaGreat

/- What Put tells. Condition: nodes and terms can be read. -/
namespace Go.Proofs.YtmejhedegmjboaaGreat
open Go.RowKit

end Go.Proofs.YtmejhedegmjboaaGreat
