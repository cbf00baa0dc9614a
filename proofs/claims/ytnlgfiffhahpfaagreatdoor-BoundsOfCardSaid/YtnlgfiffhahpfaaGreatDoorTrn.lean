/- What turned makes: each bound turned round. No condition but sizes. -/
import Derived.Test.YtnlgfiffhahpfaaGreatDoorChk
import Derived.Test.YtnlgfiffhahpfaaGreatDoorRep
import Derived.Laws.MakeOwn
namespace Go.Proofs.YtnlgfiffhahpfaaGreatDoor
open Go.RowKit

def Bd.turn (b : Bd) : Bd := ⟨b.bv, b.bn, b.av, b.an⟩
def zeroB : Bd := ⟨false, 0, false, 0⟩

theorem flat_set {α : Type} {enc : α → List Value} {sz : Nat} (he : ∀ x, (enc x).length = sz) {y : α} {u : Value} {i : Nat} (hi : i < sz) : ∀ (l : List α) (k : Nat) (h : k < l.length), enc y = (enc l[k]).set i u → (l.flatMap enc).set (k * sz + i) u = (l.set k y).flatMap enc
  | [], k, h, _ => by simp at h
  | x :: l, 0, _, e => by
    rw [List.flatMap_cons, Nat.zero_mul, Nat.zero_add, List.set_append_left _ _ (by rw [he]; exact hi)]
    show _ = (y :: l).flatMap enc
    rw [List.flatMap_cons, e]
    rfl
  | x :: l, k + 1, h, e => by
    rw [List.flatMap_cons, List.set_append_right _ _ (by rw [he, Nat.add_mul]; omega), he, show (k + 1) * sz + i - sz = k * sz + i by rw [Nat.add_mul]; omega, flat_set he hi l k (by simpa using h) (by simpa using e)]
    rfl

/-- A block that reads as bounds. -/
def BdAt (w : World) (g : Nat) (l : List Bd) : Prop := w.heap[g]? = some (.cells (l.flatMap bdc).toArray 77 (0, 0))

theorem BdAt.one {w : World} {g : Nat} {l : List Bd} (h : BdAt w g l) {k : Nat} (hk : k < l.length) {i : Nat} (hi : i < 4) {u : Value} {y : Bd} (hy : bdc y = (bdc l[k]).set i u) : BdAt (w.setCell ⟨g, k * 4 + i, none⟩ u) g (l.set k y) := by
  unfold BdAt at *
  rw [set_blk h]
  congr 2
  rw [← flat_set bdc_len hi l k hk hy]
  simp

theorem BdAt.set {w : World} {g : Nat} {l : List Bd} (h : BdAt w g l) {k : Nat} (hk : k < l.length) (y : Bd) :
    BdAt ((((w.setCell ⟨g, k * 4, none⟩ (.bool y.av)).setCell ⟨g, k * 4 + 1, none⟩ (.int .u64 (y.an : Int))).setCell ⟨g, k * 4 + 2, none⟩ (.bool y.bv)).setCell ⟨g, k * 4 + 3, none⟩ (.int .u64 (y.bn : Int))) g (l.set k y) := by
  have h0 := h.one hk (i := 0) (u := .bool y.av) (by decide) (y := ⟨y.av, l[k].an, l[k].bv, l[k].bn⟩) rfl
  have h1 := h0.one (k := k) (by simpa using hk) (i := 1) (u := .int .u64 (y.an : Int)) (by decide) (y := ⟨y.av, y.an, l[k].bv, l[k].bn⟩) (by simp [bdc])
  have h2 := h1.one (k := k) (by simpa using hk) (i := 2) (u := .bool y.bv) (by decide) (y := ⟨y.av, y.an, y.bv, l[k].bn⟩) (by simp [bdc])
  have h3 := h2.one (k := k) (by simpa using hk) (i := 3) (u := .int .u64 (y.bn : Int)) (by decide) (y := y) (by simp [bdc])
  rwa [List.set_set, List.set_set, List.set_set] at h3

theorem BdAt.cell {w : World} {g : Nat} {l : List Bd} (h : BdAt w g l) {k : Nat} (hk : k < l.length) {i : Nat} (hi : i < 4) : w.cell? ⟨g, k * 4 + i, none⟩ = (bdc l[k])[i]? := by
  rw [cell_blk h, ← Array.getElem?_toList]
  exact flat_get bdc_len l k hk i hi

theorem BdAt.rs {w : World} {g : Nat} {l : List Bd} (h : BdAt w g l) (hl : l.length ≤ 100000) : Rs bdc 4 w w.heap.size (some ⟨g, 0, none⟩) l.length l.length l :=
  Rs.of_blk (l := l) (n := l.length) (c := l.length) bdc_len h ⟨[], by simp⟩ rfl (Nat.le_refl _) (by unfold maxLen; omega)

/-- i are turned. -/
def trn (l : List Bd) (i : Nat) : List Bd := (l.take i).map Bd.turn ++ List.replicate (l.length - i) zeroB
theorem trn_len {l : List Bd} {i : Nat} (h : i ≤ l.length) : (trn l i).length = l.length := by simp [trn]; omega
theorem trn_next {l : List Bd} {i : Nat} (h : i < l.length) : (trn l i).set i l[i].turn = trn l (i + 1) := by
  unfold trn
  rw [List.set_append_right _ _ (by rw [List.length_map, List.length_take]; omega), List.take_succ_eq_append_getElem h, List.map_append, List.length_map, List.length_take, Nat.min_eq_left (by omega), Nat.sub_self, show l.length - i = (l.length - (i + 1)) + 1 by omega, List.replicate_succ]
  simp
theorem trn_end (l : List Bd) : trn l l.length = l.map Bd.turn := by simp [trn]

theorem bd_inf : (Tryz.prog.info? 77).map (fun i => (i.zero, i.size, i.bytes)) = some (some (.agg #[.bool false, .int .u64 0, .bool false, .int .u64 0]), 4, 32) := by kernel_rfl

theorem made_bd (n : Nat) : madeCells #[.bool false, .int .u64 0, .bool false, .int .u64 0] (n * 4) = ((List.replicate n zeroB).flatMap bdc).toArray := by
  apply Array.ext
  · rw [size_madeCells, List.size_toArray, flat_len bdc_len, List.length_replicate]
  · intro i h1 h2
    rw [size_madeCells] at h1
    have hk : i / 4 < (List.replicate n zeroB).length := by rw [List.length_replicate]; omega
    have := flat_get bdc_len (List.replicate n zeroB) (i / 4) hk (i % 4) (Nat.mod_lt _ (by decide))
    rw [List.getElem_replicate, show i / 4 * 4 + i % 4 = i by omega] at this
    have t2 : ∀ j, j < 4 → (bdc zeroB)[j]? = some (#[Value.bool false, .int .u64 0, .bool false, .int .u64 0][j]!) := by
      intro j hj
      have h4 : j = 0 ∨ j = 1 ∨ j = 2 ∨ j = 3 := by omega
      rcases h4 with rfl | rfl | rfl | rfl <;> rfl
    rw [List.getElem?_eq_getElem (by simpa using h2)] at this
    simp only [madeCells, Array.getElem_map, Array.getElem_range, List.getElem_toArray]
    exact (Option.some.inj (this.trans (t2 _ (Nat.mod_lt _ (by decide))))).symm

def TrRel (l : List Bd) (w : World) (v11 : Value) (wr : World) : Prop := ∃ i : Nat, v11 = .int .i64 (i : Int) ∧ i ≤ l.length ∧ BdAt wr w.heap.size (trn l i) ∧ Below w.heap.size w wr

set_option maxRecDepth 100000 in
set_option maxHeartbeats 2000000 in
theorem turned_any (A : Option Addr) (n c : Nat) (l : List Bd) (w : World) (h : Rs bdc 4 w w.heap.size A n c l) (hn : n ≤ 256) :
    Calls Tryz.prog 27 #[.slice A n c] w fun e w' => ∃ g, e = .returned (.slice (some ⟨g, 0, none⟩) n n) ∧ Rs bdc 4 w' w'.heap.size (some ⟨g, 0, none⟩) n n (l.map Bd.turn) ∧ Below w.heap.size w w' := by
  obtain ⟨i0, hi0, hz0, hz1, hz2⟩ := info_parts bd_inf
  have hlen := h.len
  have hcap := h.cap
  have htop := h.top
  unfold maxLen at htop
  have hmk : ∀ W, (Instr.makeSlice 23 (.int .i64 (n : Int)) (.int .i64 (n : Int))).run Tryz.prog W = .ok (.slice (some ⟨W.heap.size, 0, none⟩) n n) (W.alloc (.cells ((trn l 0).flatMap bdc).toArray 77)) := by
    intro W
    have := run_make (P := Tryz.prog) W 23 77 i0 _ Tryz.underlying23 hi0 hz0 .i64 .i64 n n (by omega) (Int.le_refl _) (by rw [hz2]; omega) (by omega)
    rw [this, hz1, Int.toNat_natCast, show (Value.agg #[.bool false, .int .u64 0, .bool false, .int .u64 0]).cells = #[.bool false, .int .u64 0, .bool false, .int .u64 0] from rfl, made_bd, trn, hlen]
    rfl
  have hg0 : BdAt (w.alloc (.cells ((trn l 0).flatMap bdc).toArray 77)) w.heap.size (trn l 0) := heap_alloc_new w _
  have hb0 : Below w.heap.size w (w.alloc (.cells ((trn l 0).flatMap bdc).toArray 77)) := (Below.refl _ _).alloc (Nat.le_refl _) _
  have HR := Lib.hid h
  have HL := Lib.hid hlen
  have HG := Lib.hid hg0
  generalize ((trn l 0).flatMap bdc).toArray = cs at *
  clear h hg0 hi0 hz0 hz1 hz2 i0 hlen
  go_enter Tryz.func27, Tryz.ntmps27
  go_wp2
  clear hmk
  go_loopw [11] (fun v11 wr => TrRel l w v11 wr) (fun v11 _ => n - (intOf v11).toNat)
  case atStart => exact ⟨0, rfl, by omega, HG.out, hb0⟩
  case round =>
    clear HG hb0
    obtain ⟨i, rfl, hi, hg, hb⟩ := hrel
    by_cases hlt : i < n
    · have hi' : i < l.length := by rw [HL.out]; exact hlt
      have hr := (HR.out.at_size (Nat.le_refl _) hb)
      obtain ⟨b, o, rfl, hbb, e0, e1, e2, e3⟩ := bd_at hr hi'
      have hgl : w.heap.size < wr.heap.size := lt_blk hg
      have hit : i < (trn l i).length := by rw [trn_len hi]; exact hi'
      obtain ⟨ws, hws⟩ : ∃ ws, ws = (((wr.setCell ⟨w.heap.size, i * 4, none⟩ (.bool l[i].bv)).setCell ⟨w.heap.size, i * 4 + 1, none⟩ (.int .u64 (l[i].bn : Int))).setCell ⟨w.heap.size, i * 4 + 2, none⟩ (.bool l[i].av)).setCell ⟨w.heap.size, i * 4 + 3, none⟩ (.int .u64 (l[i].an : Int)) := ⟨_, rfl⟩
      have hst : BdAt ws w.heap.size ((trn l i).set i l[i].turn) := hws ▸ hg.set hit l[i].turn
      rw [trn_next hi'] at hst
      have hbs : Below w.heap.size w ws := hws ▸ (((hb.setCell (p := ⟨w.heap.size, i * 4, none⟩) (Nat.le_refl _) _).setCell (p := ⟨w.heap.size, i * 4 + 1, none⟩) (Nat.le_refl _) _).setCell (p := ⟨w.heap.size, i * 4 + 2, none⟩) (Nat.le_refl _) _).setCell (p := ⟨w.heap.size, i * 4 + 3, none⟩) (Nat.le_refl _) _
      have HST : Hid (∀ o, BdAt (ws.alloc o) w.heap.size (trn l (i + 1)) ∧ Below w.heap.size w (ws.alloc o)) := Lib.hid fun o => ⟨(((Below.refl ws.heap.size ws).alloc (Nat.le_refl _) o).block _ (lt_blk hst)).trans hst, hbs.alloc hbs.size o⟩
      rw [hws] at HST
      have f0 : wr.frozen? ⟨w.heap.size, i * 4, none⟩ = false := frozen_blk hg
      have f1 : wr.frozen? ⟨w.heap.size, i * 4 + 1, none⟩ = false := frozen_blk hg
      have f2 : wr.frozen? ⟨w.heap.size, i * 4 + 2, none⟩ = false := frozen_blk hg
      have f3 : wr.frozen? ⟨w.heap.size, i * 4 + 3, none⟩ = false := frozen_blk hg
      have d0 := hg.cell hit (i := 0) (by decide)
      have d1 := hg.cell hit (i := 1) (by decide)
      have d2 := hg.cell hit (i := 2) (by decide)
      have d3 := hg.cell hit (i := 3) (by decide)
      have HLT := Lib.hid hlt
      clear hws hst hbs
      clear ws
      generalize (trn l i)[i] = z at *
      generalize l[i] = y at *
      clear hr hbb hg hit hi' hb
      obtain ⟨av, an, bv, bn⟩ := y
      obtain ⟨zv, zn, yv, yn⟩ := z
      simp only at e0 e1 e2 e3 HST
      replace d0 : _ = some (Value.bool zv) := d0
      replace d1 : _ = some (Value.int .u64 (zn : Int)) := d1
      replace d2 : _ = some (Value.bool yv) := d2
      replace d3 : _ = some (Value.int .u64 (yn : Int)) := d3
      simp only [Nat.add_zero] at d0
      go_wp2_with fail
      go_roundw
      case rel => exact ⟨i + 1, by go_num, by have := HLT.out; have := HL.out; omega, (HST.out _).1, (HST.out _).2⟩
      case measure =>
        have := HLT.out
        simp [intOf]
        omega
    · have hin : i = n := by have := HL.out; omega
      subst hin
      have hg' : BdAt wr w.heap.size (l.map Bd.turn) := by
        have e := trn_end l
        rw [HL.out] at e
        rw [← e]
        exact hg
      have hrs := hg'.rs (by rw [List.length_map, HL.out]; omega)
      rw [List.length_map, HL.out] at hrs
      have HRS := Lib.hid hrs
      clear hg hg' hrs
      go_wp2
      go_ret
      exact ⟨_, rfl, HRS.out, hb⟩
end Go.Proofs.YtnlgfiffhahpfaaGreatDoor
