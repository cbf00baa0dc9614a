/- SensesLess is true: of any two senses whether one says no more than the other one is told as the chapter's answer, and nothing handed in is changed. Condition: none but those of the statement. -/
import Derived.Test.YtfmpecnkkbpdlaaGreatSiA
import Derived.Test.YtfmpecnkkbpdlaaGreatCame
import Derived.Test.YtfmpecnkkbpdlaaGreatRfM
import Derived.Test.YtfmpecnkkbpdlaaGreatRows

/- Senses that came in. Condition: they can be read. -/
namespace Go.Proofs.YtfmpecnkkbpdlaaGreat.I
open Go.ChangeShapes Go.WideShapes Go.ChangeAt Go.RowKit Go.Deep

theorem cSpot : Tryz.prog.cellsOf 101 = 5 := by kernel_rfl
theorem cTerm : Tryz.prog.cellsOf 78 = 2 := by kernel_rfl
theorem cBool : Tryz.prog.cellsOf 4 = 1 := by kernel_rfl
theorem cPart : Tryz.prog.cellsOf 98 = 1 := by kernel_rfl
theorem cSide : Tryz.prog.cellsOf 99 = 1 := by kernel_rfl
theorem cSpots : Tryz.prog.cellsOf 25 = 1 := by kernel_rfl
theorem cLists : Tryz.prog.cellsOf 26 = 1 := by kernel_rfl
theorem cList : Tryz.prog.cellsOf 86 = 1 := by kernel_rfl
theorem cSense : Tryz.prog.cellsOf 28 = 4 := by kernel_rfl
theorem five_of' {α : Type} : ∀ {l : List α}, l.length = 5 → ∃ a b c d e, l = [a, b, c, d, e]
  | [a, b, c, d, e], _ => ⟨a, b, c, d, e, rfl⟩

section
variable {H : Type} {enc : TypeId × Value → H} {W : World}

theorem open_spot {n : Nat} {cs : List Value} {x : DataW H × List MemPlace} (h : DataW.trod enc Tryz.prog W 0 (fun _ => true) true n 101 cs = some x) : ∃ y : Sp, cs = spc y := by
  obtain ⟨xs, m, _, _, hl, hlen, hf⟩ := DataW.trod_struct Tryz.underlying101 h
  rw [cSpot] at hl
  match xs, hlen with
  | [y0, y1, y2, y3], _ =>
    have h0 : DataW.trod enc Tryz.prog W 0 (fun _ => true) true m 3 (List.take (Tryz.prog.cellsOf 3) (List.drop 0 cs)) = some y0 := hf 0 _ rfl
    have h1 : DataW.trod enc Tryz.prog W 0 (fun _ => true) true m 98 (List.take (Tryz.prog.cellsOf 98) (List.drop 1 cs)) = some y1 := hf 1 _ rfl
    have h2 : DataW.trod enc Tryz.prog W 0 (fun _ => true) true m 99 (List.take (Tryz.prog.cellsOf 99) (List.drop 2 cs)) = some y2 := hf 2 _ rfl
    have h3 : DataW.trod enc Tryz.prog W 0 (fun _ => true) true m 78 (List.take (Tryz.prog.cellsOf 78) (List.drop 3 cs)) = some y3 := hf 3 _ rfl
    rw [cInt] at h0
    rw [cPart] at h1
    rw [cSide] at h2
    rw [cTerm] at h3
    obtain ⟨k, e0, _, _⟩ := DataW.trod_int Tryz.underlying3 h0
    obtain ⟨p, e1, _, w1⟩ := DataW.trod_int Tryz.underlying98 h1
    obtain ⟨s, e2, _, w2⟩ := DataW.trod_int Tryz.underlying99 h2
    obtain ⟨v, z, e3, _⟩ := Bo.open_term h3
    obtain ⟨f0, _⟩ := u8_fits w1
    obtain ⟨f1, _⟩ := u8_fits w2
    obtain ⟨u0, u1, u2, u3, u4, rfl⟩ := five_of' hl
    simp at e0 e1 e2 e3
    refine ⟨⟨k, p.toNat, s.toNat, v, z⟩, ?_⟩
    simp only [spc]
    rw [e0, e1, e2, e3.1, e3.2, Int.toNat_of_nonneg f0, Int.toNat_of_nonneg f1]

theorem open_spots {n : Nat} {cs : List Value} {x : DataW H × List MemPlace} (h : DataW.trod enc Tryz.prog W 0 (fun _ => true) true n 25 cs = some x) :
    ∃ (a0 : Option Addr) (len0 cap0 : Nat) (l : List Sp), cs = [.slice a0 len0 cap0] ∧ Rs spc 5 W W.heap.size a0 len0 cap0 l := by
  rcases open_slice Tryz.underlying25 h with ⟨hcs, _⟩ | ⟨x, l, c, m, n, D, Pl, hcs, _, hl, hm, hmm, _, hx⟩
  · exact ⟨none, 0, 0, [], hcs, Rs.nil _ _⟩
  · have hm' : m = c := by simpa using hmm
    have each : ∀ i, i < l → ∃ y : Sp, ∀ j u, (spc y)[j]? = some u → W.cell? ((x.add (i * 5)).add j) = some u := by
      intro i hi
      obtain ⟨cs', h1, h2⟩ := hx i (by omega)
      obtain ⟨y, rfl⟩ := open_spot h2
      rw [cSpot] at h1
      obtain ⟨_, _, hc⟩ := World.cells?_some h1
      refine ⟨y, fun j u hu => ?_⟩
      have hj : j < (spc y).length := (List.getElem?_eq_some_iff.1 hu).1
      have := hc j (by rw [spc_len] at hj; exact hj)
      rw [this]
      exact hu
    obtain ⟨f, hg⟩ : ∃ f : Nat → Sp, ∀ i, i < l → ∀ j u, (spc (f i))[j]? = some u → W.cell? ((x.add (i * 5)).add j) = some u :=
      ⟨fun i => if h : i < l then Classical.choose (each i h) else ⟨0, 0, 0, false, 0⟩, fun i h => by
        simp only [dif_pos h]
        exact Classical.choose_spec (each i h)⟩
    refine ⟨some x, l, c, (List.range l).map f, hcs, ⟨by simp, hl, hm, (fun h => by cases h), fun h0 => ?_⟩⟩
    obtain ⟨b, o, spot⟩ := x
    have hc0 := hg 0 (by omega) 0 _ rfl
    have hspot : spot = none := by simpa [Addr.add] using World.cell?_spot hc0
    subst hspot
    refine ⟨b, o, rfl, ?_, fun j hj i u hu => ?_⟩
    · exact World.block_lt_of_cell? W ⟨b, o, none⟩ (by simpa [Addr.add] using hc0)
    · rw [List.length_map, List.length_range] at hj
      simp only [List.getElem_map, List.getElem_range] at hu
      have := hg j hj i u hu
      rwa [Addr.add_lit, Addr.add_lit] at this

theorem open_bools {n : Nat} {cs : List Value} {x : DataW H × List MemPlace} (h : DataW.trod enc Tryz.prog W 0 (fun _ => true) true n 86 cs = some x) :
    ∃ (a0 : Option Addr) (len0 cap0 : Nat) (l : List Bool), cs = [.slice a0 len0 cap0] ∧ Rd Value.bool W W.heap.size a0 len0 cap0 l := by
  rcases open_slice Tryz.underlying86 h with ⟨hcs, _⟩ | ⟨x, l, c, m, n, D, Pl, hcs, _, hl, hm, hmm, _, hx⟩
  · exact ⟨none, 0, 0, [], hcs, Rd.nil _ _⟩
  · have hm' : m = c := by simpa using hmm
    have each : ∀ i, i < l → ∃ y : Bool, W.cell? (x.add i) = some (.bool y) := by
      intro i hi
      obtain ⟨cs', h1, h2⟩ := hx i (by omega)
      rw [cBool] at h1
      obtain ⟨y, rfl, _⟩ := DataW.trod_bool Tryz.underlying4 h2
      obtain ⟨_, _, hc⟩ := World.cells?_some h1
      have := hc 0 (by decide)
      exact ⟨y, by simpa [Addr.add] using this⟩
    obtain ⟨f, hg⟩ : ∃ f : Nat → Bool, ∀ i, i < l → W.cell? (x.add i) = some (.bool (f i)) :=
      ⟨fun i => if h : i < l then Classical.choose (each i h) else false, fun i h => by
        simp only [dif_pos h]
        exact Classical.choose_spec (each i h)⟩
    refine ⟨some x, l, c, (List.range l).map f, hcs, ⟨by simp, hl, hm, (fun h => by cases h), fun h0 => ?_⟩⟩
    obtain ⟨b, o, spot⟩ := x
    have hc0 := hg 0 (by omega)
    have hspot : spot = none := by simpa [Addr.add] using World.cell?_spot hc0
    subst hspot
    refine ⟨b, o, rfl, ?_, fun j hj => ?_⟩
    · exact World.block_lt_of_cell? W ⟨b, o, none⟩ (by simpa [Addr.add] using hc0)
    · have hj' : j < l := by simpa using hj
      have := hg j hj'
      rw [List.getElem_map, List.getElem_range]
      rwa [Addr.add_lit] at this

theorem open_lists {n : Nat} {cs : List Value} {x : DataW H × List MemPlace} (h : DataW.trod enc Tryz.prog W 0 (fun _ => true) true n 26 cs = some x) :
    ∃ (a0 : Option Addr) (len0 cap0 : Nat) (l : List (List Bool)), cs = [.slice a0 len0 cap0] ∧ BRows W W.heap.size a0 len0 cap0 l := by
  rcases open_slice Tryz.underlying26 h with ⟨hcs, _⟩ | ⟨x, l, c, m, n, D, Pl, hcs, _, hl, hm, hmm, _, hx⟩
  · exact ⟨none, 0, 0, [], hcs, BRows.nil _ _⟩
  · have hm' : m = c := by simpa using hmm
    have each : ∀ i, i < l → ∃ y : (Option Addr × Nat × Nat) × List Bool, W.cell? (x.add i) = some (slc y.1) ∧ Rd Value.bool W W.heap.size y.1.1 y.1.2.1 y.1.2.2 y.2 := by
      intro i hi
      obtain ⟨cs', h1, h2⟩ := hx i (by omega)
      rw [cList] at h1
      obtain ⟨A, k, c', l', rfl, hr⟩ := open_bools h2
      obtain ⟨_, _, hc⟩ := World.cells?_some h1
      have := hc 0 (by decide)
      exact ⟨⟨(A, k, c'), l'⟩, by simpa [Addr.add, slc] using this, hr⟩
    obtain ⟨f, hg⟩ : ∃ f : Nat → (Option Addr × Nat × Nat) × List Bool, ∀ i, i < l → W.cell? (x.add i) = some (slc (f i).1) ∧ Rd Value.bool W W.heap.size (f i).1.1 (f i).1.2.1 (f i).1.2.2 (f i).2 :=
      ⟨fun i => if h : i < l then Classical.choose (each i h) else ⟨(none, 0, 0), []⟩, fun i h => by
        simp only [dif_pos h]
        exact Classical.choose_spec (each i h)⟩
    refine ⟨some x, l, c, (List.range l).map fun i => (f i).2, hcs, ⟨(List.range l).map fun i => (f i).1, ⟨by simp, hl, hm, (fun h => by cases h), fun h0 => ?_⟩, by simp, fun i h1 h2 => ?_⟩⟩
    · obtain ⟨b, o, spot⟩ := x
      have hc0 := (hg 0 (by omega)).1
      have hspot : spot = none := by simpa [Addr.add] using World.cell?_spot hc0
      subst hspot
      refine ⟨b, o, rfl, ?_, fun j hj => ?_⟩
      · exact World.block_lt_of_cell? W ⟨b, o, none⟩ (by simpa [Addr.add] using hc0)
      · have hj' : j < l := by simpa using hj
        have := (hg j hj').1
        rw [List.getElem_map, List.getElem_range]
        rwa [Addr.add_lit] at this
    · have hi : i < l := by simpa using h1
      simpa using (hg i hi).2

theorem opened_sense {v : Value} {d : DataW H} {p : List MemPlace} (h : DataW.Trod enc Tryz.prog W 0 (fun _ => true) true 28 v d p) :
    ∃ (z : Sen) (A1 : Option Addr) (n1 c1 : Nat) (A2 : Option Addr) (n2 c2 : Nat) (A3 : Option Addr) (n3 c3 : Nat) (A4 : Option Addr) (n4 c4 : Nat), v = senV A1 n1 c1 A2 n2 c2 A3 n3 c3 A4 n4 c4 ∧ SenAt W z A1 n1 c1 A2 n2 c2 A3 n3 c3 A4 n4 c4 := by
  obtain ⟨fuel, h⟩ := h
  obtain ⟨xs, m, _, _, hl, hlen, hf⟩ := DataW.trod_struct Tryz.underlying28 h
  rw [cSense] at hl
  match xs, hlen with
  | [y0, y1, y2, y3], _ =>
    have h0 : DataW.trod enc Tryz.prog W 0 (fun _ => true) true m 25 (List.take (Tryz.prog.cellsOf 25) (List.drop 0 v.cells.toList)) = some y0 := hf 0 _ rfl
    have h1 : DataW.trod enc Tryz.prog W 0 (fun _ => true) true m 22 (List.take (Tryz.prog.cellsOf 22) (List.drop 1 v.cells.toList)) = some y1 := hf 1 _ rfl
    have h2 : DataW.trod enc Tryz.prog W 0 (fun _ => true) true m 22 (List.take (Tryz.prog.cellsOf 22) (List.drop 2 v.cells.toList)) = some y2 := hf 2 _ rfl
    have h3 : DataW.trod enc Tryz.prog W 0 (fun _ => true) true m 26 (List.take (Tryz.prog.cellsOf 26) (List.drop 3 v.cells.toList)) = some y3 := hf 3 _ rfl
    rw [cSpots] at h0
    rw [cNums] at h1 h2
    rw [cLists] at h3
    obtain ⟨A1, n1, c1, l1, e0, r1⟩ := open_spots h0
    obtain ⟨A2, n2, c2, l2, e1, r2, f2⟩ := Bo.open_rows h1
    obtain ⟨A3, n3, c3, l3, e2, r3, f3⟩ := Bo.open_rows h2
    obtain ⟨A4, n4, c4, l4, e3, r4⟩ := open_lists h3
    obtain ⟨u0, u1, u2, u3, e⟩ := Bo.four_of hl
    rw [e] at e0 e1 e2 e3
    simp at e0 e1 e2 e3
    subst e0 e1 e2 e3
    exact ⟨⟨l1, l2, l3, l4⟩, A1, n1, c1, A2, n2, c2, A3, n3, c3, A4, n4, c4, Bo.agg_of e, ⟨r1, r2, r3, r4, f2, f3⟩⟩
end
end Go.Proofs.YtfmpecnkkbpdlaaGreat.I

/- SensesLess is true: whether one sense says no more than another one is the chapter's answer. Condition: none but those of the statement. -/
namespace Go.Proofs.YtfmpecnkkbpdlaaGreat.I
open Go.ChangeShapes Go.WideShapes Go.ChangeAt Go.RowKit

theorem results_cc {P : Program} {fn : Func} {p p2 : Tmp} {ty : TypeId} (h : fn.results = #[.cell p ty, .cell p2 ty]) (tmps : Array Value) (w : World) (g g2 : Nat) (t : TypeId) (cs cs2 : Array Value) (fr fr2 : Nat × Nat) (d : TypeDesc)
    (hp : tmps.getD p undef = .pointer (some ⟨g, 0, none⟩)) (hg : w.heap[g]? = some (.cells cs t fr)) (hp2 : tmps.getD p2 undef = .pointer (some ⟨g2, 0, none⟩)) (hg2 : w.heap[g2]? = some (.cells cs2 t fr2))
    (hu : P.underlying ty = some d) (hd : (match d with | .struct _ | .array _ _ => true | _ => false) = true) (hi : (P.info? ty).map (·.size) = some cs.size) (hi2 : (P.info? ty).map (·.size) = some cs2.size) :
    (results fn tmps).run P w = .ok (.tuple #[.agg cs, .agg cs2]) w := by
  have hp' : tmps[p]?.getD undef = .pointer (some ⟨g, 0, none⟩) := by simpa using hp
  have hp2' : tmps[p2]?.getD undef = .pointer (some ⟨g2, 0, none⟩) := by simpa using hp2
  simp [results, h, hp', hp2', asAddr, run_loadVar_row w g t ty cs fr d hg hu hd hi, run_loadVar_row w g2 t ty cs2 fr2 d hg2 hu hd hi2]
theorem z_blk {w : World} {g : Nat} {A : Option Addr} {n c : Nat} {k : Int} (h : w.heap[g]? = some (.cells #[.slice A n c, .int .i64 k] 24 (0, 0))) : w.cell? ⟨g, 0, none⟩ = some (.slice A n c) ∧ w.cell? ⟨g, 1, none⟩ = some (.int .i64 k) := ⟨(cell_blk (i := 0) h).trans rfl, (cell_blk (i := 1) h).trans rfl⟩
theorem st3b {w : World} {g : Nat} {a b c : Value} (h : w.heap[g]? = some (.cells #[a, b, c] 36 (0, 0))) (x y z : Value) :
    (((w.setCell ⟨g, 0, none⟩ x).setCell ⟨g, 1, none⟩ y).setCell ⟨g, 2, none⟩ z).heap[g]? = some (.cells #[x, y, z] 36 (0, 0)) := by
  have h1 := set_blk (i := 0) h x
  have h2 := set_blk (i := 1) h1 y
  have h3 := set_blk (i := 2) h2 z
  simpa using h3
theorem st3_off {w : World} {g b : Nat} (h : b ≠ g) (x y z : Value) : (((w.setCell ⟨g, 0, none⟩ x).setCell ⟨g, 1, none⟩ y).setCell ⟨g, 2, none⟩ z).heap[b]? = w.heap[b]? :=
  (Below.heap_setCell _ _ _ _ h).trans ((Below.heap_setCell _ _ _ _ h).trans (Below.heap_setCell _ _ _ _ h))
/-- An empty sort's block. -/
def ZSo (w : World) (g : Nat) : Prop := w.heap[g]? = some (.cells #[.int .i64 0, .slice none 0 0, .int .i64 0] 36 (0, 0))
theorem ZSo.keep {w W : World} {g : Nat} (h : ZSo w g) (hb : Below w.heap.size w W) : ZSo W g := (hb.block g (lt_blk h)).trans h

set_option maxRecDepth 100000 in
set_option maxHeartbeats 4000000 in
theorem doc_any (A : Option Addr) (n c : Nat) (k : Int) (rows : List Nat) (w : World) (h : Rd La.nm w w.heap.size A n c rows) (hf : La.Fit rows) :
    Calls Tryz.prog 13 #[zV A n c k] w fun e w' => ∃ t1 B1 m1 d1 e1 t2 B2 m2 d2 e2, e = .returned (.tuple #[Bo.rsV t1 B1 m1 d1 e1, Bo.rsV t2 B2 m2 d2 e2]) ∧ Bo.RSrt w.heap.size w' t1 B1 m1 d1 e1 (laOf rows) ∧ Bo.RSrt w.heap.size w' t2 B2 m2 d2 e2 (efOf k) ∧ Below w.heap.size w w' := by
  have HR := Lib.hid h
  have HF := Lib.hid hf
  have hzb : Below w.heap.size w (w.alloc (.cells #[.slice A n c, .int .i64 k] 24)) := (Below.refl _ _).alloc (Nat.le_refl _) _
  have hz := z_blk (heap_alloc_new w (.cells #[.slice A n c, .int .i64 k] 24))
  obtain ⟨wa, hwa⟩ : ∃ wa, w.alloc (.cells #[.slice A n c, .int .i64 k] 24) = wa := ⟨_, rfl⟩
  rw [hwa] at hz hzb
  have hsa : wa.heap.size = w.heap.size + 1 := by rw [← hwa, World.size_alloc]
  have hy1 : ZSo (wa.alloc (.cells #[.int .i64 0, .slice none 0 0, .int .i64 0] 36)) wa.heap.size := heap_alloc_new wa _
  obtain ⟨wb, hwb⟩ : ∃ wb, wa.alloc (.cells #[.int .i64 0, .slice none 0 0, .int .i64 0] 36) = wb := ⟨_, rfl⟩
  have hbb : Below wa.heap.size wa wb := hwb ▸ (Below.refl _ _).alloc (Nat.le_refl _) _
  have hsb : wb.heap.size = w.heap.size + 1 + 1 := by rw [← hwb, World.size_alloc, hsa]
  rw [hwb, hsa] at hy1
  have hy2 : ZSo (wb.alloc (.cells #[.int .i64 0, .slice none 0 0, .int .i64 0] 36)) wb.heap.size := heap_alloc_new wb _
  obtain ⟨w1, hw1⟩ : ∃ w1, wb.alloc (.cells #[.int .i64 0, .slice none 0 0, .int .i64 0] 36) = w1 := ⟨_, rfl⟩
  have hbc : Below wb.heap.size wb w1 := hw1 ▸ (Below.refl _ _).alloc (Nat.le_refl _) _
  rw [hw1, hsb] at hy2
  replace hy1 := hy1.keep hbc
  have hac := hbb.trans (hbc.mono hbb.size)
  have hz0 := cell_old hz.1 hac
  have hz1 := cell_old hz.2 hac
  have hb := hzb.trans (hac.mono hzb.size)
  have HB := Lib.hid hb
  have hS : Hid (∀ W, Below w1.heap.size w1 W → W.cell? ⟨w.heap.size, 0, none⟩ = some (.slice A n c) ∧ W.cell? ⟨w.heap.size, 1, none⟩ = some (.int .i64 k)) := Lib.hid fun W hW => ⟨cell_old hz0 hW, cell_old hz1 hW⟩
  clear hzb hz hsa hbb hsb hbc hac hz0 hz1 hb h hf
  subst hwa hwb
  unfold zV
  go_enter Tryz.func13, Tryz.ntmps13
  go_wp2_with fail
  try rw [hw1]
  clear hw1
  refine wp_region_ord [0, 1, 3, 4, 2, 5, 6, 7] [2, 5, 6, 7] 8 (fun W => W.cell? ⟨w.heap.size, 0, none⟩ = some (.slice A n c) ∧ W.cell? ⟨w.heap.size, 1, none⟩ = some (.int .i64 k)) (by kernel_rfl) (by kernel_rfl) (by kernel_rfl) (by kernel_rfl) (fun _ _ _ _ _ h => h) (hS.out _ (Below.refl _ w1).drew) ?_
  simp only [steps, List.getElem?_cons_zero, List.getElem?_cons_succ]
  repeat (first
    | (refine ord_no rfl ?_; simp only [Act.put, List.setIfInBounds_toArray, List.set_cons_zero, List.set_cons_succ])
    | (refine ord_yes (v := ?_) rfl rfl ?_ ?_; rotate_left; (focus (rintro w' ⟨x0, x1⟩; go_simp; try with_reducible rfl)); simp only [Act.put, List.setIfInBounds_toArray, List.set_cons_zero, List.set_cons_succ]))
  have hv : Below w1.heap.size w1 w1.drew := (Below.refl _ _).drew
  have HV := Lib.hid hv
  replace hy1 := hy1.keep hv
  replace hy2 := hy2.keep hv
  clear hv
  generalize w1.drew = w2 at *
  refine ord_hard rfl rfl (fun K hK => ?_)
  go_simp
  have HB2 := Lib.hid (HB.out.trans (HV.out.mono HB.out.size))
  refine (Bo.labels_any A n c rows w2 w.heap.size HB2.out.size (HR.out.below HB2.out) HF.out).mono ?_
  rintro e w3 ⟨t1, B1, m1, d1, e1, rfl, hr1, hv⟩
  have HR1 := Lib.hid hr1
  have HV3 := Lib.hid (HV.out.trans (hv.mono HV.out.size))
  replace hy1 := hy1.keep hv
  replace hy2 := hy2.keep hv
  clear hr1 hv
  refine hK.out _ _ (fun _ => hS.out _ HV3.out) ?_
  clear hK K
  try simp only [Act.put, List.setIfInBounds_toArray, List.set_cons_zero, List.set_cons_succ]
  refine ord_hard rfl rfl (fun K hK => ?_)
  go_simp
  refine (Bo.effects_any k w3).mono ?_
  rintro e w4 ⟨t2, B2, m2, d2, e2, rfl, hr2, hv⟩
  have HR2 := Lib.hid (hr2 w.heap.size)
  have HR1' := Lib.hid (HR1.out.below (hv.mono (HB.out.trans (HV3.out.mono HB.out.size)).size))
  have HV4 := Lib.hid (HV3.out.trans (hv.mono HV3.out.size))
  replace hy1 := hy1.keep hv
  replace hy2 := hy2.keep hv
  clear hr2 hv HR1
  refine hK.out _ _ (fun _ => hS.out _ HV4.out) ?_
  clear hK K
  try simp only [Act.put, List.setIfInBounds_toArray, List.set_cons_zero, List.set_cons_succ]
  unfold Bo.rsV
  have HB4 := Lib.hid (HB.out.trans (HV4.out.mono HB.out.size))
  have o0 : w4.cell? ⟨w.heap.size + 1, 0, none⟩ = some (.int .i64 0) := by rw [cell_blk hy1]; rfl
  have o1 : w4.cell? ⟨w.heap.size + 1, 1, none⟩ = some (.slice none 0 0) := by rw [cell_blk hy1]; rfl
  have o2 : w4.cell? ⟨w.heap.size + 1, 2, none⟩ = some (.int .i64 0) := by rw [cell_blk hy1]; rfl
  have f0 : w4.frozen? ⟨w.heap.size + 1, 0, none⟩ = false := frozen_blk hy1
  have f1 : w4.frozen? ⟨w.heap.size + 1, 1, none⟩ = false := frozen_blk hy1
  have f2 : w4.frozen? ⟨w.heap.size + 1, 2, none⟩ = false := frozen_blk hy1
  have hz4 := hS.out _ HV4.out
  refine ord_hard rfl rfl (fun K hK => ?_)
  go_simp
  obtain ⟨w5, hw5⟩ : ∃ w5, w5 = ((w4.setCell ⟨w.heap.size + 1, 0, none⟩ (.int .i64 (t1 : Int))).setCell ⟨w.heap.size + 1, 1, none⟩ (.slice B1 m1 d1)).setCell ⟨w.heap.size + 1, 2, none⟩ (.int .i64 (e1 : Int)) := ⟨_, rfl⟩
  have hk1 : w5.heap[w.heap.size + 1]? = some (.cells #[.int .i64 (t1 : Int), .slice B1 m1 d1, .int .i64 (e1 : Int)] 36 (0, 0)) := hw5 ▸ st3b hy1 _ _ _
  have hk2 : ZSo w5 (w.heap.size + 1 + 1) := (hw5 ▸ st3_off (by omega) _ _ _ : w5.heap[w.heap.size + 1 + 1]? = w4.heap[w.heap.size + 1 + 1]?).trans hy2
  have hb5 : Below (w.heap.size + 1) w4 w5 := hw5 ▸ (((Below.refl _ w4).setCell (p := ⟨w.heap.size + 1, 0, none⟩) (Nat.le_refl _) _).setCell (p := ⟨w.heap.size + 1, 1, none⟩) (Nat.le_refl _) _).setCell (p := ⟨w.heap.size + 1, 2, none⟩) (Nat.le_refl _) _
  have hz5 : w5.cell? ⟨w.heap.size, 0, none⟩ = some (.slice A n c) ∧ w5.cell? ⟨w.heap.size, 1, none⟩ = some (.int .i64 k) := ⟨(hb5.cell (p := ⟨w.heap.size, 0, none⟩) (Nat.lt_succ_self _)).trans hz4.1, (hb5.cell (p := ⟨w.heap.size, 1, none⟩) (Nat.lt_succ_self _)).trans hz4.2⟩
  have hb50 : Below w.heap.size w4 w5 := ⟨hb5.os, hb5.tape, hb5.output, hb5.size, fun b hb => hb5.block b (by omega)⟩
  have HR15 := Lib.hid (HR1'.out.below hb50)
  have HR25 := Lib.hid (HR2.out.below hb50)
  have HB5 := Lib.hid (HB4.out.trans hb50)
  rw [← hw5]
  clear hw5 o0 o1 o2 f0 f1 f2 hy1 hy2 hb5 hb50 hz4 HR1' HR2 HV3 HV4 HV HB4
  refine hK.out _ _ (fun _ => hz5) ?_
  clear hK K
  try simp only [Act.put, List.setIfInBounds_toArray, List.set_cons_zero, List.set_cons_succ]
  have o0 : w5.cell? ⟨w.heap.size + 1 + 1, 0, none⟩ = some (.int .i64 0) := by rw [cell_blk hk2]; rfl
  have o1 : w5.cell? ⟨w.heap.size + 1 + 1, 1, none⟩ = some (.slice none 0 0) := by rw [cell_blk hk2]; rfl
  have o2 : w5.cell? ⟨w.heap.size + 1 + 1, 2, none⟩ = some (.int .i64 0) := by rw [cell_blk hk2]; rfl
  have f0 : w5.frozen? ⟨w.heap.size + 1 + 1, 0, none⟩ = false := frozen_blk hk2
  have f1 : w5.frozen? ⟨w.heap.size + 1 + 1, 1, none⟩ = false := frozen_blk hk2
  have f2 : w5.frozen? ⟨w.heap.size + 1 + 1, 2, none⟩ = false := frozen_blk hk2
  refine ord_hard rfl rfl (fun K hK => ?_)
  go_simp
  obtain ⟨w6, hw6⟩ : ∃ w6, w6 = ((w5.setCell ⟨w.heap.size + 1 + 1, 0, none⟩ (.int .i64 (t2 : Int))).setCell ⟨w.heap.size + 1 + 1, 1, none⟩ (.slice B2 m2 d2)).setCell ⟨w.heap.size + 1 + 1, 2, none⟩ (.int .i64 (e2 : Int)) := ⟨_, rfl⟩
  have hk62 : w6.heap[w.heap.size + 1 + 1]? = some (.cells #[.int .i64 (t2 : Int), .slice B2 m2 d2, .int .i64 (e2 : Int)] 36 (0, 0)) := hw6 ▸ st3b hk2 _ _ _
  have hk61 : w6.heap[w.heap.size + 1]? = some (.cells #[.int .i64 (t1 : Int), .slice B1 m1 d1, .int .i64 (e1 : Int)] 36 (0, 0)) := (hw6 ▸ st3_off (by omega) _ _ _ : w6.heap[w.heap.size + 1]? = w5.heap[w.heap.size + 1]?).trans hk1
  have hb6 : Below (w.heap.size + 1 + 1) w5 w6 := hw6 ▸ (((Below.refl _ w5).setCell (p := ⟨w.heap.size + 1 + 1, 0, none⟩) (Nat.le_refl _) _).setCell (p := ⟨w.heap.size + 1 + 1, 1, none⟩) (Nat.le_refl _) _).setCell (p := ⟨w.heap.size + 1 + 1, 2, none⟩) (Nat.le_refl _) _
  have hz6 : w6.cell? ⟨w.heap.size, 0, none⟩ = some (.slice A n c) ∧ w6.cell? ⟨w.heap.size, 1, none⟩ = some (.int .i64 k) := ⟨(hb6.cell (p := ⟨w.heap.size, 0, none⟩) (by show w.heap.size < w.heap.size + 1 + 1; omega)).trans hz5.1, (hb6.cell (p := ⟨w.heap.size, 1, none⟩) (by show w.heap.size < w.heap.size + 1 + 1; omega)).trans hz5.2⟩
  have hb60 : Below w.heap.size w5 w6 := ⟨hb6.os, hb6.tape, hb6.output, hb6.size, fun b hb => hb6.block b (by omega)⟩
  have HR16 := Lib.hid (HR15.out.below hb60)
  have HR26 := Lib.hid (HR25.out.below hb60)
  have HB6 := Lib.hid (HB5.out.trans hb60)
  rw [← hw6]
  clear hw6 o0 o1 o2 f0 f1 f2 hk1 hk2 hb6 hb60 hz5 HR15 HR25 HB5
  refine hK.out _ _ (fun _ => hz6) ?_
  clear hK K hz6
  try simp only [Act.put, List.setIfInBounds_toArray, List.set_cons_zero, List.set_cons_succ]
  refine ord_end ?_
  go_wp2_with fail
  exact bodyPost_ret (results_cc (P := Tryz.prog) rfl _ _ (w.heap.size + 1) (w.heap.size + 1 + 1) 36 _ _ (0, 0) (0, 0) _ rfl hk61 rfl hk62 Tryz.underlying36 rfl rfl rfl) rfl ⟨t1, B1, m1, d1, e1, t2, B2, m2, d2, e2, rfl, HR16.out, HR26.out, HB6.out⟩
end Go.Proofs.YtfmpecnkkbpdlaaGreat.I

/- SensesLess is true: whether one sense says no more than another one is the chapter's answer. Condition: none but those of the statement. -/
namespace Go.Proofs.YtfmpecnkkbpdlaaGreat.sensesLess
open Go.ChangeShapes Go.WideShapes Go.ChangeAt Go.RowKit

theorem blk_on {w x y : World} {cs : Array Value} {T : TypeId} (hx : w.alloc (.cells cs T) = x) (hb : Below x.heap.size x y) : y.heap[w.heap.size]? = some (.cells cs T (0, 0)) := by
  have : x.heap[w.heap.size]? = some (.cells cs T (0, 0)) := hx ▸ heap_alloc_new w _
  exact (hb.block _ (lt_blk this)).trans this
theorem below_on {w x : World} {o : Obj} (hx : w.alloc o = x) : Below w.heap.size w x := hx ▸ (Below.refl _ _).alloc (Nat.le_refl _) _
theorem size_on {w x : World} {o : Obj} (hx : w.alloc o = x) : x.heap.size = w.heap.size + 1 := by rw [← hx, World.size_alloc]
/-- What is read where all is told. -/
structure LwAt (w : World) (g1 g2 g3 g4 ga gb t1 : Nat) (R1 : Option Addr) (r1 q1 e1 t2 : Nat) (R2 : Option Addr) (r2 q2 e2 : Nat) (a1 a2 a3 a4 b1 b2 b3 b4 : Value) (x1 x2 x3 x4 y1 y2 y3 y4 : Value) : Prop where
  s0 : w.cell? ⟨g1, 0, none⟩ = some (.int .i64 (t1 : Int))
  s1 : w.cell? ⟨g1, 1, none⟩ = some (.slice R1 r1 q1)
  s2 : w.cell? ⟨g1, 2, none⟩ = some (.int .i64 (e1 : Int))
  u0 : w.cell? ⟨g2, 0, none⟩ = some (.int .i64 (t2 : Int))
  u1 : w.cell? ⟨g2, 1, none⟩ = some (.slice R2 r2 q2)
  u2 : w.cell? ⟨g2, 2, none⟩ = some (.int .i64 (e2 : Int))
  p0 : w.cell? ⟨g3, 0, none⟩ = some x1
  p1 : w.cell? ⟨g3, 1, none⟩ = some x2
  p2 : w.cell? ⟨g3, 2, none⟩ = some x3
  p3 : w.cell? ⟨g3, 3, none⟩ = some x4
  q0 : w.cell? ⟨g4, 0, none⟩ = some y1
  q1' : w.cell? ⟨g4, 1, none⟩ = some y2
  q2' : w.cell? ⟨g4, 2, none⟩ = some y3
  q3 : w.cell? ⟨g4, 3, none⟩ = some y4
  k0 : w.cell? ⟨ga, 0, none⟩ = some a1
  k1 : w.cell? ⟨ga, 1, none⟩ = some a2
  k2 : w.cell? ⟨ga, 2, none⟩ = some a3
  k3 : w.cell? ⟨ga, 3, none⟩ = some a4
  l0 : w.cell? ⟨gb, 0, none⟩ = some b1
  l1 : w.cell? ⟨gb, 1, none⟩ = some b2
  l2 : w.cell? ⟨gb, 2, none⟩ = some b3
  l3 : w.cell? ⟨gb, 3, none⟩ = some b4
theorem LwAt.keep {w W : World} {g1 g2 g3 g4 ga gb t1 : Nat} {R1 : Option Addr} {r1 q1 e1 t2 : Nat} {R2 : Option Addr} {r2 q2 e2 : Nat} {a1 a2 a3 a4 b1 b2 b3 b4 x1 x2 x3 x4 y1 y2 y3 y4 : Value} (h : LwAt w g1 g2 g3 g4 ga gb t1 R1 r1 q1 e1 t2 R2 r2 q2 e2 a1 a2 a3 a4 b1 b2 b3 b4 x1 x2 x3 x4 y1 y2 y3 y4) (hb : Below w.heap.size w W) : LwAt W g1 g2 g3 g4 ga gb t1 R1 r1 q1 e1 t2 R2 r2 q2 e2 a1 a2 a3 a4 b1 b2 b3 b4 x1 x2 x3 x4 y1 y2 y3 y4 :=
  ⟨cell_old h.s0 hb, cell_old h.s1 hb, cell_old h.s2 hb, cell_old h.u0 hb, cell_old h.u1 hb, cell_old h.u2 hb, cell_old h.p0 hb, cell_old h.p1 hb, cell_old h.p2 hb, cell_old h.p3 hb, cell_old h.q0 hb, cell_old h.q1' hb, cell_old h.q2' hb, cell_old h.q3 hb, cell_old h.k0 hb, cell_old h.k1 hb, cell_old h.k2 hb, cell_old h.k3 hb, cell_old h.l0 hb, cell_old h.l1 hb, cell_old h.l2 hb, cell_old h.l3 hb⟩

set_option maxRecDepth 100000 in
set_option maxHeartbeats 16000000 in
theorem walk (A3' : Option Addr) (n3' c3' : Nat) (k : Int) (rows : List Nat) (za zb : I.Sen) (A1 : Option Addr) (n1 c1 : Nat) (A2 : Option Addr) (n2 c2 : Nat) (A3 : Option Addr) (n3 c3 : Nat) (A4 : Option Addr) (n4 c4 : Nat) (B1 : Option Addr) (m1 d1 : Nat) (B2 : Option Addr) (m2 d2 : Nat) (B3 : Option Addr) (m3 d3 : Nat) (B4 : Option Addr) (m4 d4 : Nat) (w : World) (hr : Rd La.nm w w.heap.size A3' n3' c3' rows) (hrf : La.Fit rows) (ha : I.SenAt w za A1 n1 c1 A2 n2 c2 A3 n3 c3 A4 n4 c4) (hb : I.SenAt w zb B1 m1 d1 B2 m2 d2 B3 m3 d3 B4 m4 d4) :
    Calls Tryz.prog 3 #[zV A3' n3' c3' k, senV A1 n1 c1 A2 n2 c2 A3 n3 c3 A4 n4 c4, senV B1 m1 d1 B2 m2 d2 B3 m3 d3 B4 m4 d4] w fun e w' => e = .returned (.bool true) ∧ Below w.heap.size w w' := by
  have HSA : Hid (∀ W, Below w.heap.size w W → I.SenAt W za A1 n1 c1 A2 n2 c2 A3 n3 c3 A4 n4 c4) := Lib.hid fun W hW => ha.keep hW
  have HSB : Hid (∀ W, Below w.heap.size w W → I.SenAt W zb B1 m1 d1 B2 m2 d2 B3 m3 d3 B4 m4 d4) := Lib.hid fun W hW => hb.keep hW
  have HR : Hid (∀ W, Below w.heap.size w W → Rd La.nm W W.heap.size A3' n3' c3' rows) := Lib.hid fun W hW => hr.at_size (Nat.le_refl _) hW
  have HRF := Lib.hid hrf
  have HPC : Hid (∀ W, Below w.heap.size w W → Calls Tryz.prog 12 #[zV A3' n3' c3' k] W fun e w' => ∃ a b, e = .returned (.tuple #[.iface 52 (.pointer a), .iface 55 (.pointer b)]) ∧ Both w' a b (laOf rows) (efOf k) ∧ Below W.heap.size W w') := Lib.hid fun W hW => of_sorts A3' n3' c3' k rows W (HR.out W hW) hrf
  have HDC := Lib.hid fun W (hW : Below w.heap.size w W) => I.doc_any A3' n3' c3' k rows W (HR.out W hW) hrf
  have HGA := Lib.hid fun W (hW : Below w.heap.size w W) => I.greatS_any A1 n1 c1 A2 n2 c2 A3 n3 c3 A4 n4 c4 za W (ha.keep hW)
  have HGB := Lib.hid fun W (hW : Below w.heap.size w W) => I.greatS_any B1 m1 d1 B2 m2 d2 B3 m3 d3 B4 m4 d4 zb W (hb.keep hW)
  obtain ⟨x, hx⟩ : ∃ x, w.alloc (.cells #[.slice A3' n3' c3', .int .i64 k] 24) = x := ⟨_, rfl⟩
  obtain ⟨x2, hx2⟩ : ∃ x2, x.alloc (.cells #[.slice A1 n1 c1, .slice A2 n2 c2, .slice A3 n3 c3, .slice A4 n4 c4] 28) = x2 := ⟨_, rfl⟩
  obtain ⟨y, hy⟩ : ∃ y, x2.alloc (.cells #[.slice B1 m1 d1, .slice B2 m2 d2, .slice B3 m3 d3, .slice B4 m4 d4] 28) = y := ⟨_, rfl⟩
  have sx := size_on hx
  have sx2 : x2.heap.size = w.heap.size + 1 + 1 := by rw [size_on hx2, sx]
  have b12 : Below x.heap.size x y := (below_on hx2).trans ((below_on hy).mono (below_on hx2).size)
  have hbe : Below w.heap.size w y := (below_on hx).trans (b12.mono (below_on hx).size)
  have k0 := blk_on hx b12
  have k1 := blk_on hx2 (below_on hy)
  have k2 := blk_on hy (Below.refl _ _)
  rw [sx] at k1
  rw [sx2] at k2
  have s0 := (cell_blk (i := 0) k0).trans rfl
  have s1 := (cell_blk (i := 1) k0).trans rfl
  have HS0 := Lib.hid s0
  have HS1 := Lib.hid s1
  have HBA := Lib.hid (I.B4.blk k1)
  have HBB := Lib.hid (I.B4.blk k2)
  have HB := Lib.hid hbe
  have HY0 := Lib.hid (Below.refl y.heap.size y)
  have p0 := HBA.out.p0
  have p1 := HBA.out.p1
  have p2 := HBA.out.p2
  have p3 := HBA.out.p3
  clear k0 k1 k2 sx sx2 b12 hbe ha hb hr hrf s0 s1
  subst hx hx2
  unfold zV at HPC HDC ⊢
  unfold senV at HGA HGB ⊢
  go_enter Tryz.func3, Tryz.ntmps3
  go_wp2_with fail
  clear hy
  refine (HGA.out _ HB.out).mono ?_
  rintro e w1 ⟨⟨ra, rfl, hra⟩, hv⟩
  have HRA := Lib.hid hra
  have HY1 := Lib.hid hv
  clear hv hra HGA p0 p1 p2 p3
  cases ra with
  | true =>
    have HBZ := Lib.hid (HB.out.trans (HY1.out.mono HB.out.size))
    go_wp2_with fail
    refine (lives_any _).mono ?_
    rintro e wz ⟨rfl, hv⟩
    have HZ := Lib.hid (HBZ.out.trans (hv.mono HBZ.out.size))
    clear hv
    go_wp2_with fail
    go_ret
    exact ⟨rfl, HZ.out⟩
  | false =>
  have HMA := Lib.hid (HRA.out rfl)
  clear HRA
  have hbb := HBB.out.keep HY1.out
  have p0 := hbb.p0
  have p1 := hbb.p1
  have p2 := hbb.p2
  have p3 := hbb.p3
  clear hbb
  go_wp2_with fail
  refine (HGB.out _ (HB.out.trans (HY1.out.mono HB.out.size))).mono ?_
  rintro e w2 ⟨⟨rb, rfl, hrb⟩, hv⟩
  have HRB := Lib.hid hrb
  have HY2 := Lib.hid (HY1.out.trans (hv.mono HY1.out.size))
  clear hv hrb HGB p0 p1 p2 p3 HY1
  cases rb with
  | true =>
    have HBZ := Lib.hid (HB.out.trans (HY2.out.mono HB.out.size))
    go_wp2_with fail
    refine (lives_any _).mono ?_
    rintro e wz ⟨rfl, hv⟩
    have HZ := Lib.hid (HBZ.out.trans (hv.mono HBZ.out.size))
    clear hv
    go_wp2_with fail
    go_ret
    exact ⟨rfl, HZ.out⟩
  | false =>
  have HMB := Lib.hid (HRB.out rfl)
  clear HRB
  have s0 := cell_old HS0.out HY2.out
  by_cases hbig : 100 < n3'
  · have hbig' : (100 : Int) < (n3' : Int) := by omega
    have HBZ := Lib.hid (HB.out.trans (HY2.out.mono HB.out.size))
    clear hbig
    go_wp2_with fail
    refine (lives_any _).mono ?_
    rintro e wz ⟨rfl, hv⟩
    have HZ := Lib.hid (HBZ.out.trans (hv.mono HBZ.out.size))
    clear hv
    go_wp2_with fail
    go_ret
    exact ⟨rfl, HZ.out⟩
  have hbig' : ¬ (100 : Int) < (n3' : Int) := by omega
  have s1 := cell_old HS1.out HY2.out
  clear hbig
  go_wp2_with fail
  refine (HPC.out _ (HB.out.trans (HY2.out.mono HB.out.size))).mono ?_
  rintro e w3 ⟨a, b, rfl, hbo, hv⟩
  have HBO := Lib.hid hbo
  have HY3 := Lib.hid (HY2.out.trans (hv.mono HY2.out.size))
  replace s0 := cell_old HS0.out HY3.out
  replace s1 := cell_old HS1.out HY3.out
  clear hbo hv HPC HY2 hbig'
  go_wp2_with fail
  refine (HDC.out _ (HB.out.trans (HY3.out.mono HB.out.size))).mono ?_
  rintro e w4 ⟨t1, R1, r1, q1, e1, t2, R2, r2, q2, e2, rfl, hr1, hr2, hv⟩
  have HD1 := Lib.hid (hr1.mono hv.size)
  have HD2 := Lib.hid (hr2.mono hv.size)
  have HBO4 := Lib.hid (HBO.out.keep hv)
  have HY4 := Lib.hid (HY3.out.trans (hv.mono HY3.out.size))
  clear hr1 hr2 hv HDC HBO HY3 s0 s1
  unfold Bo.rsV
  obtain ⟨w5, hw5⟩ : ∃ x, w4.alloc (.cells #[.int .i64 (t1 : Int), .slice R1 r1 q1, .int .i64 (e1 : Int)] 36) = x := ⟨_, rfl⟩
  obtain ⟨w6, hw6⟩ : ∃ x, w5.alloc (.cells #[.int .i64 (t2 : Int), .slice R2 r2 q2, .int .i64 (e2 : Int)] 36) = x := ⟨_, rfl⟩
  have hv46 := (below_on hw5).trans ((below_on hw6).mono (below_on hw5).size)
  have HQ1 := Lib.hid (I.Q3.blk (blk_on hw5 (below_on hw6)))
  have k2 := blk_on hw6 (Below.refl _ _)
  rw [size_on hw5] at k2
  have HQ2 := Lib.hid (I.Q3.blk k2)
  have HY6 := Lib.hid (HY4.out.trans (hv46.mono HY4.out.size))
  have HBO6 := Lib.hid (HBO4.out.keep hv46)
  have HD16 := Lib.hid (HD1.out.keep hv46)
  have HD26 := Lib.hid (HD2.out.keep hv46)
  have hba := HBA.out.keep HY6.out
  have p0 := hba.p0
  have p1 := hba.p1
  have p2 := hba.p2
  have p3 := hba.p3
  have hcall := I.twinSen_any A1 n1 c1 A2 n2 c2 A3 n3 c3 A4 n4 c4 za w6 (HSA.out w6 (HB.out.trans (HY6.out.mono HB.out.size))) (by have := HMA.out.p; omega) (by have := HMA.out.lo; omega) (by have := HMA.out.hi; omega) (by have := HMA.out.be; omega) (fun r h => by have := HMA.out.row r h; omega)
  unfold senV at hcall
  have HCALL := Lib.hid hcall
  clear hv46 k2 hba hcall HBO4 HD1 HD2 HY4
  subst hw5
  go_wp2_with fail
  clear hw6
  refine HCALL.out.mono ?_
  rintro e w7 ⟨g1, g2, g3, g4, rfl, htw, hv⟩
  have HTA := Lib.hid htw
  have HY7 := Lib.hid (HY6.out.trans (hv.mono HY6.out.size))
  have HO7 := Lib.hid hv
  clear htw hv p0 p1 p2 p3 HCALL HY6
  obtain ⟨w8, hw8⟩ : ∃ x, w7.alloc (.cells #[.slice (some ⟨g1, 0, none⟩) n1 (n1 + 1), .slice (some ⟨g2, 0, none⟩) n2 (n2 + 1), .slice (some ⟨g3, 0, none⟩) n3 (n3 + 1), .slice (some ⟨g4, 0, none⟩) n4 (n4 + 1)] 28) = x := ⟨_, rfl⟩
  have hv8 := below_on hw8
  have HT1 := Lib.hid (I.B4.blk (blk_on hw8 (Below.refl _ _)))
  have HTA8 := Lib.hid (HTA.out.keep hv8)
  have HY8 := Lib.hid (HY7.out.trans (hv8.mono HY7.out.size))
  have HO8 := Lib.hid (HO7.out.trans (hv8.mono HO7.out.size))
  have hbb := HBB.out.keep HY8.out
  have p0 := hbb.p0
  have p1 := hbb.p1
  have p2 := hbb.p2
  have p3 := hbb.p3
  have hcall := I.twinSen_any B1 m1 d1 B2 m2 d2 B3 m3 d3 B4 m4 d4 zb w8 (HSB.out w8 (HB.out.trans (HY8.out.mono HB.out.size))) (by have := HMB.out.p; omega) (by have := HMB.out.lo; omega) (by have := HMB.out.hi; omega) (by have := HMB.out.be; omega) (fun r h => by have := HMB.out.row r h; omega)
  unfold senV at hcall
  have HCALL := Lib.hid hcall
  clear hv8 hbb hcall HTA HY7 HO7
  go_wp2_with fail
  clear hw8
  refine HCALL.out.mono ?_
  rintro e w9 ⟨j1, j2, j3, j4, rfl, htw, hv⟩
  have HTB := Lib.hid htw
  have HTA9 := Lib.hid (HTA8.out.keep hv)
  have HT19 := Lib.hid (HT1.out.keep hv)
  have HY9 := Lib.hid (HY8.out.trans (hv.mono HY8.out.size))
  have HO9 := Lib.hid (HO8.out.trans (hv.mono HO8.out.size))
  clear htw hv p0 p1 p2 p3 HCALL HY8 HO8 HTA8 HT1
  obtain ⟨v, hv0⟩ : ∃ x, w9.alloc (.cells #[.slice (some ⟨j1, 0, none⟩) m1 (m1 + 1), .slice (some ⟨j2, 0, none⟩) m2 (m2 + 1), .slice (some ⟨j3, 0, none⟩) m3 (m3 + 1), .slice (some ⟨j4, 0, none⟩) m4 (m4 + 1)] 28) = x := ⟨_, rfl⟩
  have hvv := below_on hv0
  have ht2 := I.B4.blk (blk_on hv0 (Below.refl _ _))
  have ht1 := HT19.out.keep hvv
  have HYV := Lib.hid (HY9.out.trans (hvv.mono HY9.out.size))
  have HOV := Lib.hid (HO9.out.trans (hvv.mono HO9.out.size))
  have HV : Hid (Below w.heap.size w v) := Lib.hid (HB.out.trans (HYV.out.mono HB.out.size))
  have HTAV := Lib.hid (HTA9.out.keep hvv)
  have HTBV := Lib.hid (HTB.out.keep hvv)
  have hq1 := HQ1.out.keep HOV.out
  have hq2 := HQ2.out.keep HOV.out
  have hba := HBA.out.keep HYV.out
  have hbb := HBB.out.keep HYV.out
  have hlw : LwAt v w4.heap.size (w4.heap.size + 1) w7.heap.size w9.heap.size (w.heap.size + 1) (w.heap.size + 1 + 1) t1 R1 r1 q1 e1 t2 R2 r2 q2 e2 (.slice A1 n1 c1) (.slice A2 n2 c2) (.slice A3 n3 c3) (.slice A4 n4 c4) (.slice B1 m1 d1) (.slice B2 m2 d2) (.slice B3 m3 d3) (.slice B4 m4 d4) (.slice (some ⟨g1, 0, none⟩) n1 (n1 + 1)) (.slice (some ⟨g2, 0, none⟩) n2 (n2 + 1)) (.slice (some ⟨g3, 0, none⟩) n3 (n3 + 1)) (.slice (some ⟨g4, 0, none⟩) n4 (n4 + 1)) (.slice (some ⟨j1, 0, none⟩) m1 (m1 + 1)) (.slice (some ⟨j2, 0, none⟩) m2 (m2 + 1)) (.slice (some ⟨j3, 0, none⟩) m3 (m3 + 1)) (.slice (some ⟨j4, 0, none⟩) m4 (m4 + 1)) :=
    ⟨hq1.q0, hq1.q1, hq1.q2, hq2.q0, hq2.q1, hq2.q2, ht1.p0, ht1.p1, ht1.p2, ht1.p3, ht2.p0, ht2.p1, ht2.p2, ht2.p3, hba.p0, hba.p1, hba.p2, hba.p3, hbb.p0, hbb.p1, hbb.p2, hbb.p3⟩
  have HLW : Hid (∀ W, Below v.heap.size v W → LwAt W w4.heap.size (w4.heap.size + 1) w7.heap.size w9.heap.size (w.heap.size + 1) (w.heap.size + 1 + 1) t1 R1 r1 q1 e1 t2 R2 r2 q2 e2 (.slice A1 n1 c1) (.slice A2 n2 c2) (.slice A3 n3 c3) (.slice A4 n4 c4) (.slice B1 m1 d1) (.slice B2 m2 d2) (.slice B3 m3 d3) (.slice B4 m4 d4) (.slice (some ⟨g1, 0, none⟩) n1 (n1 + 1)) (.slice (some ⟨g2, 0, none⟩) n2 (n2 + 1)) (.slice (some ⟨g3, 0, none⟩) n3 (n3 + 1)) (.slice (some ⟨g4, 0, none⟩) n4 (n4 + 1)) (.slice (some ⟨j1, 0, none⟩) m1 (m1 + 1)) (.slice (some ⟨j2, 0, none⟩) m2 (m2 + 1)) (.slice (some ⟨j3, 0, none⟩) m3 (m3 + 1)) (.slice (some ⟨j4, 0, none⟩) m4 (m4 + 1))) := Lib.hid fun W hW => hlw.keep hW
  obtain ⟨ls, hls⟩ : ∃ r, I.lessS (laOf rows) za zb = r := ⟨_, rfl⟩
  obtain ⟨xs, hxs⟩ : ∃ r, I.lessS (efOf k) za zb = r := ⟨_, rfl⟩
  have HBOV := Lib.hid (HBO6.out.keep HOV.out)
  have HDV1 := Lib.hid (HD16.out.keep HOV.out)
  have HDV2 := Lib.hid (HD26.out.keep HOV.out)
  have tsa : ∀ W, Below v.heap.size v W → I.SenIn W za ⟨some ⟨g1, 0, none⟩, n1, n1 + 1, some ⟨g2, 0, none⟩, n2, n2 + 1, some ⟨g3, 0, none⟩, n3, n3 + 1, some ⟨g4, 0, none⟩, n4, n4 + 1⟩ := fun W hW => (HTAV.out.keep hW).at (HSA.out _ HV.out).fl (HSA.out _ HV.out).fh (by have := HMA.out.be; omega) (fun r h => by have := HMA.out.row r h; omega)
  have tsb : ∀ W, Below v.heap.size v W → I.SenIn W zb ⟨some ⟨j1, 0, none⟩, m1, m1 + 1, some ⟨j2, 0, none⟩, m2, m2 + 1, some ⟨j3, 0, none⟩, m3, m3 + 1, some ⟨j4, 0, none⟩, m4, m4 + 1⟩ := fun W hW => (HTBV.out.keep hW).at (HSB.out _ HV.out).fl (HSB.out _ HV.out).fh (by have := HMB.out.be; omega) (fun r h => by have := HMB.out.row r h; omega)
  have HC1 : Hid (∀ W, Below v.heap.size v W → Calls Tryz.prog 15 #[.iface 52 (.pointer a), .agg #[.slice (some ⟨g1, 0, none⟩) n1 (n1 + 1), .slice (some ⟨g2, 0, none⟩) n2 (n2 + 1), .slice (some ⟨g3, 0, none⟩) n3 (n3 + 1), .slice (some ⟨g4, 0, none⟩) n4 (n4 + 1)], .agg #[.slice (some ⟨j1, 0, none⟩) m1 (m1 + 1), .slice (some ⟨j2, 0, none⟩) m2 (m2 + 1), .slice (some ⟨j3, 0, none⟩) m3 (m3 + 1), .slice (some ⟨j4, 0, none⟩) m4 (m4 + 1)]] W fun e w' => e = .returned (.bool ls) ∧ Below W.heap.size W w') := Lib.hid fun W hW => I.less_any _ _ ⟨some ⟨g1, 0, none⟩, n1, n1 + 1, some ⟨g2, 0, none⟩, n2, n2 + 1, some ⟨g3, 0, none⟩, n3, n3 + 1, some ⟨g4, 0, none⟩, n4, n4 + 1⟩ ⟨some ⟨j1, 0, none⟩, m1, m1 + 1, some ⟨j2, 0, none⟩, m2, m2 + 1, some ⟨j3, 0, none⟩, m3, m3 + 1, some ⟨j4, 0, none⟩, m4, m4 + 1⟩ za zb W (HBOV.out.keep hW).sl.into (tsa W hW) (tsb W hW) (by have := HMA.out.p; show n1 ≤ 100000; omega) ls hls
  have HC3 : Hid (∀ W, Below v.heap.size v W → Calls Tryz.prog 15 #[.iface 55 (.pointer b), .agg #[.slice (some ⟨g1, 0, none⟩) n1 (n1 + 1), .slice (some ⟨g2, 0, none⟩) n2 (n2 + 1), .slice (some ⟨g3, 0, none⟩) n3 (n3 + 1), .slice (some ⟨g4, 0, none⟩) n4 (n4 + 1)], .agg #[.slice (some ⟨j1, 0, none⟩) m1 (m1 + 1), .slice (some ⟨j2, 0, none⟩) m2 (m2 + 1), .slice (some ⟨j3, 0, none⟩) m3 (m3 + 1), .slice (some ⟨j4, 0, none⟩) m4 (m4 + 1)]] W fun e w' => e = .returned (.bool xs) ∧ Below W.heap.size W w') := Lib.hid fun W hW => I.less_any _ _ ⟨some ⟨g1, 0, none⟩, n1, n1 + 1, some ⟨g2, 0, none⟩, n2, n2 + 1, some ⟨g3, 0, none⟩, n3, n3 + 1, some ⟨g4, 0, none⟩, n4, n4 + 1⟩ ⟨some ⟨j1, 0, none⟩, m1, m1 + 1, some ⟨j2, 0, none⟩, m2, m2 + 1, some ⟨j3, 0, none⟩, m3, m3 + 1, some ⟨j4, 0, none⟩, m4, m4 + 1⟩ za zb W (HBOV.out.keep hW).sx.into (tsa W hW) (tsb W hW) (by have := HMA.out.p; show n1 ≤ 100000; omega) xs hxs
  have HC2 : Hid (∀ W, Below v.heap.size v W → Calls Tryz.prog 16 #[.agg #[.int .i64 (t1 : Int), .slice R1 r1 q1, .int .i64 (e1 : Int)], .agg #[.slice A1 n1 c1, .slice A2 n2 c2, .slice A3 n3 c3, .slice A4 n4 c4], .agg #[.slice B1 m1 d1, .slice B2 m2 d2, .slice B3 m3 d3, .slice B4 m4 d4]] W fun e w' => e = .returned (.bool ls) ∧ Below W.heap.size W w') := Lib.hid fun W hW => I.lessR_any t1 R1 r1 q1 e1 (laOf rows) ⟨A1, n1, c1, A2, n2, c2, A3, n3, c3, A4, n4, c4⟩ ⟨B1, m1, d1, B2, m2, d2, B3, m3, d3, B4, m4, d4⟩ za zb W (HDV1.out.keep hW) (HSA.out W (HV.out.trans (hW.mono HV.out.size))) (HSB.out W (HV.out.trans (hW.mono HV.out.size))) (by have := HMA.out.p; show n1 ≤ 100000; omega) (by have := HMB.out.p; show m1 ≤ 100000; omega) ls hls
  have HC4 : Hid (∀ W, Below v.heap.size v W → Calls Tryz.prog 16 #[.agg #[.int .i64 (t2 : Int), .slice R2 r2 q2, .int .i64 (e2 : Int)], .agg #[.slice A1 n1 c1, .slice A2 n2 c2, .slice A3 n3 c3, .slice A4 n4 c4], .agg #[.slice B1 m1 d1, .slice B2 m2 d2, .slice B3 m3 d3, .slice B4 m4 d4]] W fun e w' => e = .returned (.bool xs) ∧ Below W.heap.size W w') := Lib.hid fun W hW => I.lessR_any t2 R2 r2 q2 e2 (efOf k) ⟨A1, n1, c1, A2, n2, c2, A3, n3, c3, A4, n4, c4⟩ ⟨B1, m1, d1, B2, m2, d2, B3, m3, d3, B4, m4, d4⟩ za zb W (HDV2.out.keep hW) (HSA.out W (HV.out.trans (hW.mono HV.out.size))) (HSB.out W (HV.out.trans (hW.mono HV.out.size))) (by have := HMA.out.p; show n1 ≤ 100000; omega) (by have := HMB.out.p; show m1 ≤ 100000; omega) xs hxs
  have HC5 : Hid (∀ W, Below v.heap.size v W → Calls Tryz.prog 17 #[.agg #[.slice (some ⟨g1, 0, none⟩) n1 (n1 + 1), .slice (some ⟨g2, 0, none⟩) n2 (n2 + 1), .slice (some ⟨g3, 0, none⟩) n3 (n3 + 1), .slice (some ⟨g4, 0, none⟩) n4 (n4 + 1)], .agg #[.slice A1 n1 c1, .slice A2 n2 c2, .slice A3 n3 c3, .slice A4 n4 c4]] W fun e w' => e = .returned (.bool true) ∧ Below W.heap.size W w') := Lib.hid fun W hW => I.leftSen_any w6 g1 g2 g3 g4 A1 n1 c1 A2 n2 c2 A3 n3 c3 A4 n4 c4 za W (HTAV.out.keep hW) (HSA.out W (HV.out.trans (hW.mono HV.out.size))) (by have := HMA.out.be; omega) (fun r h => by have := HMA.out.row r h; omega)
  have HC6 : Hid (∀ W, Below v.heap.size v W → Calls Tryz.prog 17 #[.agg #[.slice (some ⟨j1, 0, none⟩) m1 (m1 + 1), .slice (some ⟨j2, 0, none⟩) m2 (m2 + 1), .slice (some ⟨j3, 0, none⟩) m3 (m3 + 1), .slice (some ⟨j4, 0, none⟩) m4 (m4 + 1)], .agg #[.slice B1 m1 d1, .slice B2 m2 d2, .slice B3 m3 d3, .slice B4 m4 d4]] W fun e w' => e = .returned (.bool true) ∧ Below W.heap.size W w') := Lib.hid fun W hW => I.leftSen_any w8 j1 j2 j3 j4 B1 m1 d1 B2 m2 d2 B3 m3 d3 B4 m4 d4 zb W (HTBV.out.keep hW) (HSB.out W (HV.out.trans (hW.mono HV.out.size))) (by have := HMB.out.be; omega) (fun r h => by have := HMB.out.row r h; omega)
  have hl1 : (ls == ls) = true := by simp
  have hl2 : (xs == xs) = true := by simp
  have HVD := Lib.hid (Below.refl v.heap.size v).drew
  clear hvv ht2 ht1 hq1 hq2 hba hbb hlw hls hxs tsa tsb HY9 HO9 HTA9 HTB HT19
  go_wp2_with fail
  try rw [hv0]
  clear hv0
  refine wp_region_ord [0, 1, 2, 4, 5, 6, 3, 7, 8, 9, 10, 11, 12, 14, 15, 16, 13, 17, 18, 19, 20, 21, 22, 23, 24, 25, 26, 27, 28, 29, 30, 31, 32, 33] [3, 7, 13, 17, 23, 28, 31] 34 (fun W => LwAt W w4.heap.size (w4.heap.size + 1) w7.heap.size w9.heap.size (w.heap.size + 1) (w.heap.size + 1 + 1) t1 R1 r1 q1 e1 t2 R2 r2 q2 e2 (.slice A1 n1 c1) (.slice A2 n2 c2) (.slice A3 n3 c3) (.slice A4 n4 c4) (.slice B1 m1 d1) (.slice B2 m2 d2) (.slice B3 m3 d3) (.slice B4 m4 d4) (.slice (some ⟨g1, 0, none⟩) n1 (n1 + 1)) (.slice (some ⟨g2, 0, none⟩) n2 (n2 + 1)) (.slice (some ⟨g3, 0, none⟩) n3 (n3 + 1)) (.slice (some ⟨g4, 0, none⟩) n4 (n4 + 1)) (.slice (some ⟨j1, 0, none⟩) m1 (m1 + 1)) (.slice (some ⟨j2, 0, none⟩) m2 (m2 + 1)) (.slice (some ⟨j3, 0, none⟩) m3 (m3 + 1)) (.slice (some ⟨j4, 0, none⟩) m4 (m4 + 1))) (by kernel_rfl) (by kernel_rfl) (by kernel_rfl) (by kernel_rfl) (fun _ _ _ _ _ h => h) (HLW.out _ HVD.out) ?_
  simp only [steps, List.getElem?_cons_zero, List.getElem?_cons_succ]
  repeat (first
    | (refine ord_no rfl ?_; simp only [Act.put, List.setIfInBounds_toArray, List.set_cons_zero, List.set_cons_succ])
    | (refine ord_yes (v := ?_) rfl rfl ?_ ?_; rotate_left; (focus (rintro w' ⟨y0, y1, y2, y3, y4, y5, y6, y7, y8, y9, y10, y11, y12, y13, y14, y15, y16, y17, y18, y19, y20, y21⟩; go_simp; try with_reducible rfl)); simp only [Act.put, List.setIfInBounds_toArray, List.set_cons_zero, List.set_cons_succ]))
  generalize v.drew = u0 at *
  refine ord_hard rfl rfl (fun K hK => ?_)
  go_simp
  refine (HC1.out _ HVD.out).mono ?_
  rintro e u1 ⟨rfl, hv⟩
  have HVD1 := Lib.hid (HVD.out.trans (hv.mono HVD.out.size))
  clear hv
  refine hK.out _ _ (fun _ => HLW.out _ HVD1.out) ?_
  clear hK K
  try simp only [Act.put, List.setIfInBounds_toArray, List.set_cons_zero, List.set_cons_succ]
  repeat (first
    | (refine ord_no rfl ?_; simp only [Act.put, List.setIfInBounds_toArray, List.set_cons_zero, List.set_cons_succ])
    | (refine ord_yes (v := ?_) rfl rfl ?_ ?_; rotate_left; (focus (rintro w' ⟨y0, y1, y2, y3, y4, y5, y6, y7, y8, y9, y10, y11, y12, y13, y14, y15, y16, y17, y18, y19, y20, y21⟩; go_simp; try with_reducible rfl)); simp only [Act.put, List.setIfInBounds_toArray, List.set_cons_zero, List.set_cons_succ]))
  refine ord_hard rfl rfl (fun K hK => ?_)
  go_simp
  refine (HC2.out _ HVD1.out).mono ?_
  rintro e u2 ⟨rfl, hv⟩
  have HVD2 := Lib.hid (HVD1.out.trans (hv.mono HVD1.out.size))
  clear hv
  refine hK.out _ _ (fun _ => HLW.out _ HVD2.out) ?_
  clear hK K
  try simp only [Act.put, List.setIfInBounds_toArray, List.set_cons_zero, List.set_cons_succ]
  repeat (first
    | (refine ord_no rfl ?_; simp only [Act.put, List.setIfInBounds_toArray, List.set_cons_zero, List.set_cons_succ])
    | (refine ord_yes (v := ?_) rfl rfl ?_ ?_; rotate_left; (focus (rintro w' ⟨y0, y1, y2, y3, y4, y5, y6, y7, y8, y9, y10, y11, y12, y13, y14, y15, y16, y17, y18, y19, y20, y21⟩; go_simp; try with_reducible rfl)); simp only [Act.put, List.setIfInBounds_toArray, List.set_cons_zero, List.set_cons_succ]))
  refine ord_hard rfl rfl (fun K hK => ?_)
  go_simp
  refine (HC3.out _ HVD2.out).mono ?_
  rintro e u3 ⟨rfl, hv⟩
  have HVD3 := Lib.hid (HVD2.out.trans (hv.mono HVD2.out.size))
  clear hv
  refine hK.out _ _ (fun _ => HLW.out _ HVD3.out) ?_
  clear hK K
  try simp only [Act.put, List.setIfInBounds_toArray, List.set_cons_zero, List.set_cons_succ]
  repeat (first
    | (refine ord_no rfl ?_; simp only [Act.put, List.setIfInBounds_toArray, List.set_cons_zero, List.set_cons_succ])
    | (refine ord_yes (v := ?_) rfl rfl ?_ ?_; rotate_left; (focus (rintro w' ⟨y0, y1, y2, y3, y4, y5, y6, y7, y8, y9, y10, y11, y12, y13, y14, y15, y16, y17, y18, y19, y20, y21⟩; go_simp; try with_reducible rfl)); simp only [Act.put, List.setIfInBounds_toArray, List.set_cons_zero, List.set_cons_succ]))
  refine ord_hard rfl rfl (fun K hK => ?_)
  go_simp
  refine (HC4.out _ HVD3.out).mono ?_
  rintro e u4 ⟨rfl, hv⟩
  have HVD4 := Lib.hid (HVD3.out.trans (hv.mono HVD3.out.size))
  clear hv
  refine hK.out _ _ (fun _ => HLW.out _ HVD4.out) ?_
  clear hK K
  try simp only [Act.put, List.setIfInBounds_toArray, List.set_cons_zero, List.set_cons_succ]
  repeat (first
    | (refine ord_no rfl ?_; simp only [Act.put, List.setIfInBounds_toArray, List.set_cons_zero, List.set_cons_succ])
    | (refine ord_yes (v := ?_) rfl rfl ?_ ?_; rotate_left; (focus (rintro w' ⟨y0, y1, y2, y3, y4, y5, y6, y7, y8, y9, y10, y11, y12, y13, y14, y15, y16, y17, y18, y19, y20, y21⟩; go_simp; try with_reducible rfl)); simp only [Act.put, List.setIfInBounds_toArray, List.set_cons_zero, List.set_cons_succ]))
  refine ord_hard rfl rfl (fun K hK => ?_)
  go_simp
  refine (HC5.out _ HVD4.out).mono ?_
  rintro e u5 ⟨rfl, hv⟩
  have HVD5 := Lib.hid (HVD4.out.trans (hv.mono HVD4.out.size))
  clear hv
  refine hK.out _ _ (fun _ => HLW.out _ HVD5.out) ?_
  clear hK K
  try simp only [Act.put, List.setIfInBounds_toArray, List.set_cons_zero, List.set_cons_succ]
  repeat (first
    | (refine ord_no rfl ?_; simp only [Act.put, List.setIfInBounds_toArray, List.set_cons_zero, List.set_cons_succ])
    | (refine ord_yes (v := ?_) rfl rfl ?_ ?_; rotate_left; (focus (rintro w' ⟨y0, y1, y2, y3, y4, y5, y6, y7, y8, y9, y10, y11, y12, y13, y14, y15, y16, y17, y18, y19, y20, y21⟩; go_simp; try with_reducible rfl)); simp only [Act.put, List.setIfInBounds_toArray, List.set_cons_zero, List.set_cons_succ]))
  refine ord_hard rfl rfl (fun K hK => ?_)
  go_simp
  refine (HC6.out _ HVD5.out).mono ?_
  rintro e u6 ⟨rfl, hv⟩
  have HVD6 := Lib.hid (HVD5.out.trans (hv.mono HVD5.out.size))
  clear hv
  refine hK.out _ _ (fun _ => HLW.out _ HVD6.out) ?_
  clear hK K
  try simp only [Act.put, List.setIfInBounds_toArray, List.set_cons_zero, List.set_cons_succ]
  repeat (first
    | (refine ord_no rfl ?_; simp only [Act.put, List.setIfInBounds_toArray, List.set_cons_zero, List.set_cons_succ])
    | (refine ord_yes (v := ?_) rfl rfl ?_ ?_; rotate_left; (focus (rintro w' ⟨y0, y1, y2, y3, y4, y5, y6, y7, y8, y9, y10, y11, y12, y13, y14, y15, y16, y17, y18, y19, y20, y21⟩; go_simp; try with_reducible rfl)); simp only [Act.put, List.setIfInBounds_toArray, List.set_cons_zero, List.set_cons_succ]))
  refine ord_hard rfl rfl (fun K hK => ?_)
  go_simp
  refine (lives_any _).mono ?_
  rintro e u7 ⟨rfl, hv⟩
  have HVD7 := Lib.hid (HVD6.out.trans (hv.mono HVD6.out.size))
  clear hv
  refine hK.out _ _ (fun _ => HLW.out _ HVD7.out) ?_
  clear hK K
  try simp only [Act.put, List.setIfInBounds_toArray, List.set_cons_zero, List.set_cons_succ]
  repeat (first
    | (refine ord_no rfl ?_; simp only [Act.put, List.setIfInBounds_toArray, List.set_cons_zero, List.set_cons_succ])
    | (refine ord_yes (v := ?_) rfl rfl ?_ ?_; rotate_left; (focus (rintro w' ⟨y0, y1, y2, y3, y4, y5, y6, y7, y8, y9, y10, y11, y12, y13, y14, y15, y16, y17, y18, y19, y20, y21⟩; go_simp; try with_reducible rfl)); simp only [Act.put, List.setIfInBounds_toArray, List.set_cons_zero, List.set_cons_succ]))
  refine ord_end ?_
  have HZ := Lib.hid (HV.out.trans (HVD7.out.mono HV.out.size))
  go_wp2_with fail
  go_ret
  exact ⟨rfl, HZ.out⟩

theorem own : ownKnob Tryz.prog.godebug = none := by kernel_rfl
theorem laidOut : laidOutB Tryz.prog = true := by kernel_rfl

set_option maxRecDepth 100000 in
theorem lifted (os : Os) (started : os.Started) (H : Type) (enc : TypeId × Value → H) :
    ReturnsInHanded {} Tryz.checked os 3 .any (Rows.sensesLessSpec.pre6 enc Tryz.prog Tryz.f3 Rows.sensesLessRow.domain false) (Rows.sensesLessSpec.post enc Tryz.prog Tryz.f3 false true false false) := by
  refine returnsInHanded_of_change (C := Tryz.checked) own started (by kernel_rfl) Tryz.func3
    (ChangeSpec.witness6 (enc := enc) (C := Tryz.checked) false ⟨#[], #[.agg #[.slice none 0 0, .int .i64 0], .agg #[.slice none 0 0, .slice none 0 0, .slice none 0 0, .slice none 0 0], .agg #[.slice none 0 0, .slice none 0 0, .slice none 0 0, .slice none 0 0]], []⟩ 8 (by kernel_rfl) (by kernel_rfl) (by kernel_rfl) (by kernel_rfl)) ?_
  intro W base args ds gs before hval0 hW hcnd _
  have hval : ∀ (j : Nat) t v, Tryz.f3.params[j]? = some t → args[j]? = some v → Value.okWide Tryz.prog W .any base t v := hval0
  have hW' := hW
  obtain ⟨p, q, hA0, hV, rfl, hfz, hnd⟩ := hW
  have hA : DataW.TrodAll enc Tryz.prog W 0 (fun _ => true) true Tryz.f3.params.toList args.toList ds p := hA0
  rw [Tryz.params3] at hA hval
  obtain ⟨v0, vs0, d0, ds0, p0, q0, hargs, rfl, rfl, h0, r0⟩ := trodAll_cons hA
  obtain ⟨v1, vs1, d1, ds1, p1, q1, rfl, rfl, rfl, h1, r1⟩ := trodAll_cons r0
  obtain ⟨v2, vs2, d2, ds2, p2, q2, rfl, rfl, rfl, h2, r2⟩ := trodAll_cons r1
  obtain ⟨rfl, rfl, rfl⟩ := trodAll_nil r2
  obtain rfl : args = #[v0, v1, v2] := by cases args; simp_all
  obtain ⟨rfl, rfl⟩ := trodVars_none hV
  have lt0 : ∀ x ∈ p0, x.block < W.heap.size := by obtain ⟨m, hm⟩ := h0; exact DataW.trod_lt m _ _ _ hm
  have lt1 : ∀ x ∈ p1, x.block < W.heap.size := by obtain ⟨m, hm⟩ := h1; exact DataW.trod_lt m _ _ _ hm
  have lt2 : ∀ x ∈ p2, x.block < W.heap.size := by obtain ⟨m, hm⟩ := h2; exact DataW.trod_lt m _ _ _ hm
  obtain ⟨A3', n3', c3', k, rows, rfl, hr, hrf⟩ := opened_sorts h0
  obtain ⟨za, A1, n1, c1, A2, n2, c2, A3, n3, c3, A4, n4, c4, rfl, ha⟩ := I.opened_sense h1
  obtain ⟨zb, B1, m1, d1, B2, m2, d2, B3, m3, d3, B4, m4, d4, rfl, hb⟩ := I.opened_sense h2
  clear hA0 hval0
  refine (walk A3' n3' c3' k rows za zb A1 n1 c1 A2 n2 c2 A3 n3 c3 A4 n4 c4 B1 m1 d1 B2 m2 d2 B3 m3 d3 B4 m4 d4 W hr hrf ha hb).mono fun e W' ⟨he, bel⟩ => ?_
  subst he
  exact ⟨_, rfl, _, _, _, [], _, [], hW', trodAll_mk1 (shut_bool Tryz.underlying4 _), (trodAll_cons_mk (Below.trod laidOut (by kernel_rfl) (of_decide_eq_true (by kernel_rfl)) h0 bel lt0) (trodAll_cons_mk (Below.trod laidOut (by kernel_rfl) (of_decide_eq_true (by kernel_rfl)) h1 bel lt1) (trodAll_cons_mk (Below.trod laidOut (by kernel_rfl) (of_decide_eq_true (by kernel_rfl)) h2 bel lt2) trodAll_mk0))), rfl, bel.frame _, fun h => by cases h⟩

theorem over : Rows.sensesLessRow.holds Tryz.pinned (OpenSpec.ofChange Rows.sensesLessSpec) :=
  OpenClaim.holds_of_wide 3 Tryz.f3 rfl rfl rfl rfl rfl rfl rfl ⟨rfl, rfl, rfl, rfl, rfl⟩ rfl rfl rfl rfl rfl (by kernel_rfl) Tryz.func3 (by kernel_rfl)
    (of_decide_eq_true (by kernel_rfl)) (by unfold Func.isWrapper; first | (rw [if_pos (by decide +kernel)]; kernel_rfl) | (rw [if_neg (by decide +kernel)]; exact ⟨rfl, rfl⟩))
    (fun os started H enc _ => lifted os started H enc)

theorem proved : Rows.SensesLessSaid := over
#print axioms proved
end Go.Proofs.YtfmpecnkkbpdlaaGreat.sensesLess
