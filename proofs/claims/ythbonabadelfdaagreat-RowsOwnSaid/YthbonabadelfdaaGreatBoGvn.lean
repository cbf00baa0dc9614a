/- What comes in: bounds and rows of numbers. Condition: they can be read. -/
import Derived.Test.YthbonabadelfdaaGreatBoEnds
import Derived.ProofKit
import Derived.OpenShut
import Derived.ShutString
import Derived.ChangeOld
import Derived.Deep.Slices
namespace Go.Proofs.YthbonabadelfdaaGreat.Bo
open Go.ChangeShapes Go.WideShapes Go.ChangeAt Go.RowKit Go.Deep

/-- A cell of old memory. -/
theorem cell_old {w w' : World} {p : Addr} {v : Value} (h : w.cell? p = some v) (hb : Below w.heap.size w w') : w'.cell? p = some v := (hb.cell (World.block_lt_of_cell? w p h)).trans h

theorem c22 : Tryz.prog.cellsOf 22 = 1 := by kernel_rfl
theorem c23 : Tryz.prog.cellsOf 49 = 1 := by kernel_rfl
theorem c3 : Tryz.prog.cellsOf 3 = 1 := by kernel_rfl
theorem c4 : Tryz.prog.cellsOf 4 = 1 := by kernel_rfl
theorem c28 : Tryz.prog.cellsOf 42 = 1 := by kernel_rfl
theorem c51 : Tryz.prog.cellsOf 44 = 2 := by kernel_rfl
theorem c53 : Tryz.prog.cellsOf 124 = 4 := by kernel_rfl

theorem two_of {α : Type} : ∀ {l : List α}, l.length = 2 → ∃ a b, l = [a, b]
  | [a, b], _ => ⟨a, b, rfl⟩
theorem four_of {α : Type} : ∀ {l : List α}, l.length = 4 → ∃ a b c d, l = [a, b, c, d]
  | [a, b, c, d], _ => ⟨a, b, c, d, rfl⟩
theorem six_of {α : Type} : ∀ {l : List α}, l.length = 6 → ∃ a b c d e f, l = [a, b, c, d, e, f]
  | [a, b, c, d, e, f], _ => ⟨a, b, c, d, e, f, rfl⟩
theorem agg_of {v : Value} {x y : Value} {l : List Value} (h : v.cells.toList = x :: y :: l) : v = .agg (x :: y :: l).toArray := by
  cases v <;> simp [Value.cells] at h
  rename_i xs
  congr 1
  apply Array.toList_inj.1
  simpa using h

section
variable {H : Type} {enc : TypeId × Value → H} {W : World}

theorem open_term {n : Nat} {cs : List Value} {x : DataW H × List MemPlace} (h : DataW.trod enc Tryz.prog W 0 (fun _ => true) true n 44 cs = some x) : ∃ (b : Bool) (z : Nat), cs = [.bool b, .int .u64 (z : Int)] ∧ z < 18446744073709551616 := by
  obtain ⟨xs, m, _, _, hl, hlen, hf⟩ := DataW.trod_struct Tryz.underlying44 h
  rw [c51] at hl
  match xs, hlen with
  | [y0, y1], _ =>
    have h0 : DataW.trod enc Tryz.prog W 0 (fun _ => true) true m 4 (List.take (Tryz.prog.cellsOf 4) (List.drop 0 cs)) = some y0 := hf 0 _ rfl
    have h1 : DataW.trod enc Tryz.prog W 0 (fun _ => true) true m 42 (List.take (Tryz.prog.cellsOf 42) (List.drop 1 cs)) = some y1 := hf 1 _ rfl
    rw [c4] at h0
    rw [c28] at h1
    obtain ⟨b, e0, _⟩ := DataW.trod_bool Tryz.underlying4 h0
    obtain ⟨z, e1, _, wz⟩ := DataW.trod_int Tryz.underlying42 h1
    obtain ⟨y, rfl, hy⟩ := La.u64_nat wz
    obtain ⟨u0, u1, rfl⟩ := two_of hl
    simp at e0 e1
    exact ⟨b, y, by rw [e0, e1], hy⟩

theorem open_bd {n : Nat} {cs : List Value} {x : DataW H × List MemPlace} (h : DataW.trod enc Tryz.prog W 0 (fun _ => true) true n 124 cs = some x) : ∃ y : Bd, cs = bdc y ∧ y.Fit := by
  obtain ⟨xs, m, _, _, hl, hlen, hf⟩ := DataW.trod_struct Tryz.underlying124 h
  rw [c53] at hl
  match xs, hlen with
  | [y0, y1], _ =>
    have h0 : DataW.trod enc Tryz.prog W 0 (fun _ => true) true m 44 (List.take (Tryz.prog.cellsOf 44) (List.drop 0 cs)) = some y0 := hf 0 _ rfl
    have h1 : DataW.trod enc Tryz.prog W 0 (fun _ => true) true m 44 (List.take (Tryz.prog.cellsOf 44) (List.drop 2 cs)) = some y1 := hf 1 _ rfl
    rw [c51] at h0 h1
    obtain ⟨av, an, e0, t0⟩ := open_term h0
    obtain ⟨bv, bn, e1, t1⟩ := open_term h1
    obtain ⟨u0, u1, u2, u3, rfl⟩ := four_of hl
    simp at e0 e1
    exact ⟨⟨av, an, bv, bn⟩, by rw [bdc, e0.1, e0.2, e1.1, e1.2], t0, t1⟩

theorem open_bds {n : Nat} {cs : List Value} {x : DataW H × List MemPlace} (h : DataW.trod enc Tryz.prog W 0 (fun _ => true) true n 49 cs = some x) :
    ∃ (a0 : Option Addr) (len0 cap0 : Nat) (l : List Bd), cs = [.slice a0 len0 cap0] ∧ Rs bdc 4 W W.heap.size a0 len0 cap0 l ∧ ∀ b ∈ l, b.Fit := by
  rcases open_slice Tryz.underlying49 h with ⟨hcs, _⟩ | ⟨x, l, c, m, n, D, Pl, hcs, _, hl, hm, hmm, _, hx⟩
  · exact ⟨none, 0, 0, [], hcs, Rs.nil _ _, fun _ h => by cases h⟩
  · have hm' : m = c := by simpa using hmm
    have each : ∀ i, i < l → ∃ y : Bd, y.Fit ∧ ∀ j u, (bdc y)[j]? = some u → W.cell? ((x.add (i * 4)).add j) = some u := by
      intro i hi
      obtain ⟨cs', h1, h2⟩ := hx i (by omega)
      obtain ⟨y, rfl, hy⟩ := open_bd h2
      rw [c53] at h1
      obtain ⟨_, _, hc⟩ := World.cells?_some h1
      refine ⟨y, hy, fun j u hu => ?_⟩
      have hj : j < (bdc y).length := (List.getElem?_eq_some_iff.1 hu).1
      have := hc j (by rw [bdc_len] at hj; exact hj)
      rw [this]
      exact hu
    obtain ⟨f, hf, hg⟩ : ∃ f : Nat → Bd, (∀ i, i < l → (f i).Fit) ∧ ∀ i, i < l → ∀ j u, (bdc (f i))[j]? = some u → W.cell? ((x.add (i * 4)).add j) = some u :=
      ⟨fun i => if h : i < l then Classical.choose (each i h) else zeroB, fun i h => by
        simp only [dif_pos h]
        exact (Classical.choose_spec (each i h)).1, fun i h => by
        simp only [dif_pos h]
        exact (Classical.choose_spec (each i h)).2⟩
    refine ⟨some x, l, c, (List.range l).map f, hcs, ⟨by simp, hl, hm, (fun h => by cases h), fun h0 => ?_⟩, fun b hb => ?_⟩
    · obtain ⟨b, o, spot⟩ := x
      have hc0 := hg 0 (by omega) 0 _ rfl
      have hspot : spot = none := by simpa [Addr.add] using World.cell?_spot hc0
      subst hspot
      refine ⟨b, o, rfl, ?_, fun j hj i u hu => ?_⟩
      · exact World.block_lt_of_cell? W ⟨b, o, none⟩ (by simpa [Addr.add] using hc0)
      · rw [List.length_map, List.length_range] at hj
        simp only [List.getElem_map, List.getElem_range] at hu
        have := hg j hj i u hu
        rwa [Addr.add_lit, Addr.add_lit] at this
    · obtain ⟨i, hi, rfl⟩ := List.mem_map.1 hb
      exact hf i (List.mem_range.1 hi)

theorem open_rows {n : Nat} {cs : List Value} {x : DataW H × List MemPlace} (h : DataW.trod enc Tryz.prog W 0 (fun _ => true) true n 22 cs = some x) :
    ∃ (a0 : Option Addr) (len0 cap0 : Nat) (l : List Nat), cs = [.slice a0 len0 cap0] ∧ Rd La.nm W W.heap.size a0 len0 cap0 l ∧ La.Fit l := by
  obtain ⟨a0, len0, cap0, e⟩ : ∃ a0 len0 cap0, cs = [Value.slice a0 len0 cap0] := by
    rcases open_slice Tryz.underlying22 h with ⟨hcs, _⟩ | ⟨x, l, c, m, n, D, Pl, hcs, _⟩
    · exact ⟨_, _, _, hcs⟩
    · exact ⟨_, _, _, hcs⟩
  subst e
  obtain ⟨us, h1, h2⟩ := La.opened_nums (t := 22) (e := 42) (d := x.1) (p := x.2) Tryz.underlying22 Tryz.underlying42 c28 ⟨n, h⟩
  exact ⟨a0, len0, cap0, us, rfl, h1, h2⟩

end
end Go.Proofs.YthbonabadelfdaaGreat.Bo
