/- What structs and arrays with slices in them that came in by value read as. Condition: they can be read. -/
import Derived.Test.YtlcbcggcmmlfdaaSorts
import Derived.Test.YtlcbcggcmmlfdaaOpenNd
import Derived.Test.YtlcbcggcmmlfdaaLaOpen
namespace Go.Proofs.Ytlcbcggcmmlfdaa
open Go.ChangeShapes Go.WideShapes Go.ChangeAt Go.RowKit Go.Deep

theorem c22 : Try.prog.cellsOf 22 = 1 := by kernel_rfl
theorem c23 : Try.prog.cellsOf 23 = 1 := by kernel_rfl
theorem c25 : Try.prog.cellsOf 25 = 2 := by kernel_rfl
theorem c39 : Try.prog.cellsOf 39 = 3 := by kernel_rfl
theorem c41 : Try.prog.cellsOf 41 = 2 := by kernel_rfl
theorem c45 : Try.prog.cellsOf 45 = 1 := by kernel_rfl
theorem c48 : Try.prog.cellsOf 48 = 3 := by kernel_rfl

theorem one_of {α : Type} : ∀ {l : List α}, l.length = 1 → ∃ a, l = [a]
  | [a], _ => ⟨a, rfl⟩
theorem three_of {α : Type} : ∀ {l : List α}, l.length = 3 → ∃ a b c, l = [a, b, c]
  | [a, b, c], _ => ⟨a, b, c, rfl⟩
theorem agg_of {v : Value} {x y : Value} {l : List Value} (h : v.cells.toList = x :: y :: l) : v = .agg (x :: y :: l).toArray := by
  cases v <;> simp [Value.cells] at h
  rename_i xs
  congr 1
  apply Array.toList_inj.1
  simpa using h

section
variable {H : Type} {enc : TypeId × Value → H} {W : World}

theorem open_rows {n : Nat} {cs : List Value} {x : DataW H × List MemPlace} (h : DataW.trod enc Try.prog W 0 (fun _ => true) true n 23 cs = some x) :
    ∃ (a0 : Option Addr) (len0 cap0 : Nat) (l : List Nat), cs = [.slice a0 len0 cap0] ∧ Rd La.nm W W.heap.size a0 len0 cap0 l ∧ La.Fit l := by
  obtain ⟨a0, len0, cap0, e⟩ : ∃ a0 len0 cap0, cs = [Value.slice a0 len0 cap0] := by
    rcases open_slice Try.underlying23 h with ⟨hcs, _⟩ | ⟨x, l, c, m, n, D, Pl, hcs, _⟩
    · exact ⟨_, _, _, hcs⟩
    · exact ⟨_, _, _, hcs⟩
  subst e
  obtain ⟨us, h1, h2⟩ := La.opened_nums (t := 23) (e := 46) (d := x.1) (p := x.2) Try.underlying23 Try.underlying46 c32 ⟨n, h⟩
  exact ⟨a0, len0, cap0, us, rfl, h1, h2⟩

theorem opened_sorts {v : Value} {d : DataW H} {p : List MemPlace} (h : DataW.Trod enc Try.prog W 0 (fun _ => true) true 25 v d p) :
    ∃ (a0 : Option Addr) (len0 cap0 : Nat) (k : Int) (l : List Nat), v = zV a0 len0 cap0 k ∧ Rd La.nm W W.heap.size a0 len0 cap0 l ∧ La.Fit l := by
  obtain ⟨fuel, h⟩ := h
  obtain ⟨xs, m, _, _, hl, hlen, hf⟩ := DataW.trod_struct Try.underlying25 h
  rw [c25] at hl
  match xs, hlen with
  | [y0, y1], _ =>
    have h0 : DataW.trod enc Try.prog W 0 (fun _ => true) true m 23 (List.take (Try.prog.cellsOf 23) (List.drop 0 v.cells.toList)) = some y0 := hf 0 _ rfl
    have h1 : DataW.trod enc Try.prog W 0 (fun _ => true) true m 3 (List.take (Try.prog.cellsOf 3) (List.drop 1 v.cells.toList)) = some y1 := hf 1 _ rfl
    rw [c23] at h0
    rw [c3] at h1
    obtain ⟨a0, len0, cap0, l, e0, hr, hfit⟩ := open_rows h0
    obtain ⟨k, e1, _, _⟩ := DataW.trod_int Try.underlying3 h1
    obtain ⟨u0, u1, e⟩ := two_of hl
    rw [e] at e0 e1
    simp at e0 e1
    subst e0 e1
    exact ⟨a0, len0, cap0, k, l, agg_of e, hr, hfit⟩

/-- Bodies handed in by value. -/
structure Came (W : World) (A : Option Addr) (n c : Nat) (l : List Nd) : Prop where
  rs : Ns W W.heap.size A n c l
  fit : ∀ x ∈ l, x.Fits
  tfit : ∀ x ∈ l, x.TFits

theorem opened_arr3 {v : Value} {d : DataW H} {p : List MemPlace} (h : DataW.Trod enc Try.prog W 0 (fun _ => true) true 39 v d p) :
    ∃ (A0 : Option Addr) (n0 k0 : Nat) (l0 : List Nd) (A1 : Option Addr) (n1 k1 : Nat) (l1 : List Nd) (A2 : Option Addr) (n2 k2 : Nat) (l2 : List Nd), v = .agg #[.slice A0 n0 k0, .slice A1 n1 k1, .slice A2 n2 k2] ∧ Came W A0 n0 k0 l0 ∧ Came W A1 n1 k1 l1 ∧ Came W A2 n2 k2 l2 := by
  obtain ⟨fuel, h⟩ := h
  have h39 : Try.prog.underlying 39 = some (.array 3 22) := Try.underlying39
  obtain ⟨xs, m, _, _, hlen, hxl, hel⟩ := DataW.trod_array h39 h
  rw [c39] at hlen
  match xs, hxl with
  | [y0, y1, y2], _ =>
    have h0 := hel 0 (by decide)
    have h1 := hel 1 (by decide)
    have h2 := hel 2 (by decide)
    rw [c22] at h0 h1 h2
    obtain ⟨u0, u1, u2, e⟩ := three_of hlen
    rw [e] at h0 h1 h2
    have h0 : DataW.trod enc Try.prog W 0 (fun _ => true) true m 22 [u0] = some y0 := h0
    have h1 : DataW.trod enc Try.prog W 0 (fun _ => true) true m 22 [u1] = some y1 := h1
    have h2 : DataW.trod enc Try.prog W 0 (fun _ => true) true m 22 [u2] = some y2 := h2
    obtain ⟨A0, n0, k0, l0, e0, a1, a2, a3⟩ := open_nodes h0
    obtain ⟨A1, n1, k1, l1, e1, b1, b2, b3⟩ := open_nodes h1
    obtain ⟨A2, n2, k2, l2, e2, d1, d2, d3⟩ := open_nodes h2
    simp at e0 e1 e2
    subst e0 e1 e2
    exact ⟨A0, n0, k0, l0, A1, n1, k1, l1, A2, n2, k2, l2, agg_of e, ⟨a1, a2, a3⟩, ⟨b1, b2, b3⟩, ⟨d1, d2, d3⟩⟩

theorem opened_arr2 {v : Value} {d : DataW H} {p : List MemPlace} (h : DataW.Trod enc Try.prog W 0 (fun _ => true) true 41 v d p) :
    ∃ (A0 : Option Addr) (n0 k0 : Nat) (l0 : List Nd) (A1 : Option Addr) (n1 k1 : Nat) (l1 : List Nd), v = .agg #[.slice A0 n0 k0, .slice A1 n1 k1] ∧ Came W A0 n0 k0 l0 ∧ Came W A1 n1 k1 l1 := by
  obtain ⟨fuel, h⟩ := h
  have h41 : Try.prog.underlying 41 = some (.array 2 22) := Try.underlying41
  obtain ⟨xs, m, _, _, hlen, hxl, hel⟩ := DataW.trod_array h41 h
  rw [c41] at hlen
  match xs, hxl with
  | [y0, y1], _ =>
    have h0 := hel 0 (by decide)
    have h1 := hel 1 (by decide)
    rw [c22] at h0 h1
    obtain ⟨u0, u1, e⟩ := two_of hlen
    rw [e] at h0 h1
    have h0 : DataW.trod enc Try.prog W 0 (fun _ => true) true m 22 [u0] = some y0 := h0
    have h1 : DataW.trod enc Try.prog W 0 (fun _ => true) true m 22 [u1] = some y1 := h1
    obtain ⟨A0, n0, k0, l0, e0, a1, a2, a3⟩ := open_nodes h0
    obtain ⟨A1, n1, k1, l1, e1, b1, b2, b3⟩ := open_nodes h1
    simp at e0 e1
    subst e0 e1
    exact ⟨A0, n0, k0, l0, A1, n1, k1, l1, agg_of e, ⟨a1, a2, a3⟩, ⟨b1, b2, b3⟩⟩

theorem opened_moved {v : Value} {d : DataW H} {p : List MemPlace} (h : DataW.Trod enc Try.prog W 0 (fun _ => true) true 48 v d p) :
    ∃ (A0 : Option Addr) (n0 k0 : Nat) (l0 : List Nd) (z v0 : Int), v = .agg #[.slice A0 n0 k0, .int .u16 z, .int .u64 v0] ∧ Came W A0 n0 k0 l0 ∧ (Lit.int .u16 z).wf = true ∧ U64 v0 := by
  obtain ⟨fuel, h⟩ := h
  obtain ⟨xs, m, _, _, hl, hlen, hf⟩ := DataW.trod_struct Try.underlying48 h
  rw [c48] at hl
  match xs, hlen with
  | [y0, y1, y2], _ =>
    have h0 : DataW.trod enc Try.prog W 0 (fun _ => true) true m 22 (List.take (Try.prog.cellsOf 22) (List.drop 0 v.cells.toList)) = some y0 := hf 0 _ rfl
    have h1 : DataW.trod enc Try.prog W 0 (fun _ => true) true m 45 (List.take (Try.prog.cellsOf 45) (List.drop 1 v.cells.toList)) = some y1 := hf 1 _ rfl
    have h2 : DataW.trod enc Try.prog W 0 (fun _ => true) true m 46 (List.take (Try.prog.cellsOf 46) (List.drop 2 v.cells.toList)) = some y2 := hf 2 _ rfl
    rw [c22] at h0
    rw [c45] at h1
    rw [c32] at h2
    obtain ⟨A0, n0, k0, l0, e0, a1, a2, a3⟩ := open_nodes h0
    obtain ⟨z, e1, _, wz⟩ := DataW.trod_int Try.underlying45 h1
    obtain ⟨v0, e2, _, wv⟩ := DataW.trod_int Try.underlying46 h2
    have hv : U64 v0 := ⟨(u64_fits wv).1, (u64_fits wv).2⟩
    obtain ⟨u0, u1, u2, e⟩ := three_of hl
    rw [e] at e0 e1 e2
    simp at e0 e1 e2
    subst e0 e1 e2
    exact ⟨A0, n0, k0, l0, z, v0, agg_of e, ⟨a1, a2, a3⟩, wz, hv⟩
end
end Go.Proofs.Ytlcbcggcmmlfdaa
