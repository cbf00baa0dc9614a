/- What a slice of pairs that came in reads as, and a pair of bytes. Condition: it can be read. -/
import Derived.Test.YtnoigcaapnjcgaaGreatDoorPairOwn
import Derived.ProofKit
import Derived.OpenShut
import Derived.ShutString
import Derived.ChangeOld
import Derived.Deep.Slices
namespace Go.Proofs.YtnoigcaapnjcgaaGreatDoor
open Go.ChangeShapes Go.WideShapes Go.ChangeAt Go.RowKit Go.Deep

theorem open_two {H : Type} {enc : TypeId × Value → H} {P : Program} {W : World} {e q : TypeId} {k : IntKind} {n : Nat} {cs : List Value} {x : DataW H × List MemPlace}
    (he : P.underlying e = some (.array 2 q)) (hq : P.underlying q = some (.int k)) (hce : P.cellsOf e = 2) (hcq : P.cellsOf q = 1) (h : DataW.trod enc P W 0 (fun _ => true) true n e cs = some x) :
    ∃ a b : Int, cs = [.int k a, .int k b] ∧ (Lit.int k a).wf = true ∧ (Lit.int k b).wf = true := by
  obtain ⟨xs, m, _, _, hlen, hxl, hel⟩ := DataW.trod_array he h
  rw [hce] at hlen
  match cs, hlen with
  | [c0, c1], _ =>
    match xs, hxl with
    | [y0, y1], _ =>
      have h0 := hel 0 (by decide)
      have h1 := hel 1 (by decide)
      rw [hcq] at h0 h1
      have h0 : DataW.trod enc P W 0 (fun _ => true) true m q [c0] = some y0 := h0
      have h1 : DataW.trod enc P W 0 (fun _ => true) true m q [c1] = some y1 := h1
      obtain ⟨a, ha, _, wa⟩ := DataW.trod_int hq h0
      obtain ⟨b, hb, _, wb⟩ := DataW.trod_int hq h1
      injection ha with ha
      injection hb with hb
      exact ⟨a, b, by rw [ha, hb], wa, wb⟩

def intAt (W : World) (p : Addr) : Int := match W.cell? p with
  | some (.int _ z) => z
  | _ => 0

theorem opened_pairs {H : Type} {enc : TypeId × Value → H} {P : Program} {W : World} {t e q : TypeId} {a0 : Option Addr} {len0 cap0 : Nat} {d : DataW H} {p : List MemPlace}
    (ht : P.underlying t = some (.slice e)) (he : P.underlying e = some (.array 2 q)) (hq : P.underlying q = some (.int .i64)) (hce : P.cellsOf e = 2) (hcq : P.cellsOf q = 1) (h : DataW.Trod enc P W 0 (fun _ => true) true t (.slice a0 len0 cap0) d p) :
    ∃ ps : List (Int × Int), Rp W W.heap.size a0 len0 cap0 ps := by
  obtain ⟨fuel, hf⟩ := h
  rcases open_slice ht hf with ⟨hcs, _⟩ | ⟨x, l, c, m, n, D, Pl, hcs, _, hl, hm, hmm, _, hx⟩
  · simp [Value.cells] at hcs
    obtain ⟨rfl, rfl, rfl⟩ := hcs
    exact ⟨[], Rp.nil _ _⟩
  · simp [Value.cells] at hcs
    obtain ⟨rfl, rfl, rfl⟩ := hcs
    have hm' : m = cap0 := by simpa using hmm
    have each : ∀ i, i < len0 → ∃ u v : Int, W.cell? (x.add (i * 2)) = some (.int .i64 u) ∧ W.cell? ((x.add (i * 2)).add 1) = some (.int .i64 v) := by
      intro i hi
      obtain ⟨cs', h1, h2⟩ := hx i (by omega)
      obtain ⟨u, v, rfl, _, _⟩ := open_two he hq hce hcq h2
      rw [hce] at h1
      obtain ⟨_, _, hc⟩ := World.cells?_some h1
      have c0 := hc 0 (by decide)
      have c1 := hc 1 (by decide)
      rw [show ((x.add (i * 2)).add 0) = x.add (i * 2) from by simp [Addr.add]] at c0
      exact ⟨u, v, c0, c1⟩
    refine ⟨(List.range len0).map fun i => (intAt W (x.add (i * 2)), intAt W ((x.add (i * 2)).add 1)), ⟨by simp, hl, hm, (fun h => by cases h), fun h0 => ?_⟩⟩
    obtain ⟨b, o, spot⟩ := x
    obtain ⟨u0, _, hc0, _⟩ := each 0 (by omega)
    have hspot : spot = none := by simpa [Addr.add] using World.cell?_spot hc0
    subst hspot
    refine ⟨b, o, rfl, ?_, fun j hj => ?_⟩
    · exact World.block_lt_of_cell? W ⟨b, o, none⟩ (by simpa [Addr.add] using hc0)
    · have hj' : j < len0 := by simpa using hj
      obtain ⟨u, v, c1, c2⟩ := each j hj'
      simp only [List.getElem_map, List.getElem_range, intAt, c1, c2]
      rw [Addr.add_lit] at c1 c2
      rw [Addr.add_lit] at c2
      exact ⟨c1, c2⟩

theorem opened_two {H : Type} {enc : TypeId × Value → H} {P : Program} {W : World} {e q : TypeId} {k : IntKind} {v : Value} {d : DataW H} {p : List MemPlace}
    (he : P.underlying e = some (.array 2 q)) (hq : P.underlying q = some (.int k)) (hce : P.cellsOf e = 2) (hcq : P.cellsOf q = 1) (h : DataW.Trod enc P W 0 (fun _ => true) true e v d p) :
    ∃ a b : Int, v = .agg #[.int k a, .int k b] ∧ (Lit.int k a).wf = true ∧ (Lit.int k b).wf = true := by
  obtain ⟨fuel, hf⟩ := h
  obtain ⟨a, b, hv, wa, wb⟩ := open_two he hq hce hcq hf
  refine ⟨a, b, ?_, wa, wb⟩
  cases v <;> simp [Value.cells] at hv
  rename_i xs
  congr 1
  apply Array.toList_inj.1
  simpa using hv

end Go.Proofs.YtnoigcaapnjcgaaGreatDoor
