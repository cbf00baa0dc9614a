/- BoundsOf answers true: the walk. Condition: the rows, the bounds and the values can be read. -/
import Derived.Test.YtnlgfiffhahpfaaGreatDoorApart
import Derived.Test.YtnlgfiffhahpfaaGreatDoorRefO
import Derived.Test.YtnlgfiffhahpfaaGreatDoorTwinB
import Derived.Test.YtnlgfiffhahpfaaGreatDoorLaTwN
namespace Go.Proofs.YtnlgfiffhahpfaaGreatDoor
open Go.RowKit

theorem great_no {n n1 n2 : Nat} (h : false = (decide (64 < n) || (decide (300 < n1) || decide (200 < n2)))) : n ≤ 64 ∧ n1 ≤ 300 ∧ n2 ≤ 200 := by
  have h := h.symm
  rw [Bool.or_eq_false_iff, Bool.or_eq_false_iff, decide_eq_false_iff_not, decide_eq_false_iff_not, decide_eq_false_iff_not] at h
  omega


theorem heldD {bk hb cap : Nat} {es : List Ent} {b : Nat} (hd : (heldOf bk hb cap es).D es.length b) : ∃ e ∈ es, ∃ a, e.A = some a ∧ b = a.block := by
  obtain ⟨j, hj, hn, hb⟩ := hd
  have hget : es.getD j zEnt = es[j] := by rw [List.getD_eq_getElem?_getD, List.getElem?_eq_getElem hj]; rfl
  have hn : (es.getD j zEnt).A.isNone = false := hn
  have hb : b = ((es.getD j zEnt).A.map Addr.block).getD 0 := hb
  rw [hget] at hn hb
  refine ⟨es[j], List.getElem_mem hj, ?_⟩
  cases hA : es[j].A with
  | none => rw [hA] at hn; cases hn
  | some a => exact ⟨a, rfl, by rw [hb, hA]; rfl⟩

theorem twinB_lone {w w' : World} {g n no : Nat} {l : List Bd} (h : TwinB w w' g n l) : Lone 77 4 w' ⟨some ⟨g, 0, none⟩, n, n + 1, no⟩ := by
  refine .inr ⟨g, _, rfl, h.blk, ?_, by show n ≤ n + 1; omega, by show n + 1 ≤ maxLen; have := h.top; unfold maxLen; omega, by show n ≤ 1000000; have := h.top; omega⟩
  have hl := flat_len bdc_len (l ++ [bMark])
  show ((l ++ [bMark]).flatMap bdc).toArray.size = (n + 1) * 4
  rw [List.size_toArray, hl, List.length_append, h.len]
  rfl
theorem twinN_lone {w w' : World} {g n no : Nat} {l : List Nat} (h : La.TwinOf w w' g n l) (hn : n ≤ 1000) : Lone 73 1 w' ⟨some ⟨g, 0, none⟩, n, n + 1, no⟩ := by
  refine .inr ⟨g, _, rfl, h.blk, ?_, by show n ≤ n + 1; omega, by show n + 1 ≤ maxLen; have := h.top; unfold maxLen at *; omega, by show n ≤ 1000000; omega⟩
  show (La.cl (l ++ [77])).size = (n + 1) * 1
  simp [La.cl, h.len]

/-- Two answers: each nothing, or a block of its own, new. -/
structure Two (w0 w : World) (A1 : Option Addr) (n1 c1 : Nat) (A2 : Option Addr) (n2 c2 : Nat) : Prop where
  l1 : ∀ no, Lone 73 1 w ⟨A1, n1, c1, no⟩
  l2 : ∀ no, Lone 73 1 w ⟨A2, n2, c2, no⟩
  ap : ∀ x y, A1 = some x → A2 = some y → x.block ≠ y.block
  ge1 : ∀ a, A1 = some a → w0.heap.size ≤ a.block
  ge2 : ∀ a, A2 = some a → w0.heap.size ≤ a.block
theorem Two.keep {w0 w w' : World} {A1 : Option Addr} {n1 c1 : Nat} {A2 : Option Addr} {n2 c2 : Nat} (h : Two w0 w A1 n1 c1 A2 n2 c2) (hb : Below w.heap.size w w') : Two w0 w' A1 n1 c1 A2 n2 c2 :=
  ⟨fun no => (h.l1 no).keep (D := fun _ => False) (Kept.of_below hb) fun _ _ h => h, fun no => (h.l2 no).keep (D := fun _ => False) (Kept.of_below hb) fun _ _ h => h, h.ap, h.ge1, h.ge2⟩
theorem nm_lone {w : World} {q c : Nat} {l : List Nat} (h : NmAt w q l) (hl : l.length = c) (hc : c ≤ 1000) (no : Nat) : Lone 73 1 w ⟨some ⟨q, 0, none⟩, c, c, no⟩ :=
  .inr ⟨q, _, rfl, h, by show (La.cl l).size = c * 1; simp [La.cl, hl], Nat.le_refl _, by show c ≤ maxLen; unfold maxLen; omega, by show c ≤ 1000000; omega⟩
theorem two_of_solved {S : Sr} {k : Int} {l : List Bd} {w w' : World} {e : Ending} {A1 : Option Addr} {n1 c1 : Nat} {A2 : Option Addr} {n2 c2 : Nat} {x : Int} {lo hi : List Nat} (h : Solved S k l w e w' A1 n1 c1 A2 n2 c2 x lo hi) : Two w w' A1 n1 c1 A2 n2 c2 := by
  have hl := solve_lens h.ans
  rcases h.own with ⟨rfl, rfl, rfl, rfl, rfl, rfl⟩ | ⟨q1, q2, rfl, rfl, rfl, rfl, h1, h2, h3, h4⟩
  · exact ⟨fun _ => .inl ⟨rfl, rfl, rfl⟩, fun _ => .inl ⟨rfl, rfl, rfl⟩, fun x y e => (by cases e), fun a e => (by cases e), fun a e => (by cases e)⟩
  · have e1 := h.rlo.len
    have e2 := h.rhi.len
    refine ⟨nm_lone h1 e1 (by omega), nm_lone h2 e2 (by omega), fun x y e1 e2 => ?_, fun a e => ?_, fun a e => ?_⟩
    · injection e1 with e1
      injection e2 with e2
      subst e1
      subst e2
      show q1 ≠ q2
      omega
    · injection e with e
      subst e
      exact h3
    · injection e with e
      subst e
      show _ ≤ q2
      omega
theorem solve_uniq {S : Sr} (hS : S.Ok) {k : Int} {l : List Bd} {x y : Int} {lo hi lo' hi' : List Nat} (h : SolveIs S k l x lo hi) (h' : SolveIs S k l y lo' hi') : x = y ∧ lo = lo' ∧ hi = hi' := by
  by_cases hc : chkS S k l = 0
  · obtain ⟨q, -, -, hl, -⟩ := chk_ok hc
    exact solve_same hS hl hl (fun _ => Iff.rfl) h h'
  · rcases h with ⟨c1, n1, rfl, rfl⟩ | ⟨q2, e, c1, rfl, rfl, rfl, no⟩ | ⟨q2, e, c1, rfl, h1, h2, h3⟩
    · rcases h' with ⟨d1, m1, rfl, rfl⟩ | ⟨q2, e, d1, rfl, rfl, rfl, no⟩ | ⟨q2, e, d1, rfl, h1, h2, h3⟩
      · exact ⟨c1.symm.trans d1, rfl, rfl⟩
      · exact absurd d1 hc
      · exact absurd d1 hc
    · exact absurd c1 hc
    · exact absurd c1 hc

abbrev oBook : Obj := .cells (bookCells 0 (.slice none 0 0) (.slice none 0 0)) 61
theorem book0 (w : World) : BookK (w.alloc oBook) w.heap.size 0 (.slice none 0 0) 0 [] (.slice none 0 0) 0 [] := ⟨heap_alloc_new w _, World.ownsRow_nil _ _ _ _, World.ownsRow_nil _ _ _ _⟩

set_option maxRecDepth 100000 in
set_option maxHeartbeats 8000000 in
theorem walk (A : Option Addr) (n c : Nat) (s : Bool) (k z : Int) (A1 : Option Addr) (n1 c1 : Nat) (A2 : Option Addr) (n2 c2 : Nat) (rows : List Nat) (l : List Bd) (u : List Nat) (w : World) (hC : Came w A n c rows A1 n1 c1 l A2 n2 c2 u) (hzw : (Lit.int .i64 z).wf = true) :
    Calls Tryz.prog 3 #[gV A n c s k z A1 n1 c1 A2 n2 c2] w fun e w' => e = .returned (.bool true) ∧ Below w.heap.size w w' := by
  have hb : Below w.heap.size w (w.alloc (.cells #[.slice A n c, .bool s, .int .i64 k, .int .i64 z, .slice A1 n1 c1, .slice A2 n2 c2] 25)) := (Below.refl _ _).alloc (Nat.le_refl _) _
  have hbx := heap_alloc_new w (.cells #[.slice A n c, .bool s, .int .i64 k, .int .i64 z, .slice A1 n1 c1, .slice A2 n2 c2] 25)
  have hz0 : _ = some (Value.slice A n c) := (cell_blk (i := 0) hbx).trans rfl
  have hz1 : _ = some (Value.bool s) := (cell_blk (i := 1) hbx).trans rfl
  have hz2 : _ = some (Value.int .i64 k) := (cell_blk (i := 2) hbx).trans rfl
  have hz3 : _ = some (Value.int .i64 z) := (cell_blk (i := 3) hbx).trans rfl
  have hz4 : _ = some (Value.slice A1 n1 c1) := (cell_blk (i := 4) hbx).trans rfl
  have hz5 : _ = some (Value.slice A2 n2 c2) := (cell_blk (i := 5) hbx).trans rfl
  replace hC := hC.keep hb
  clear hbx
  obtain ⟨gr, hgr⟩ : ∃ r, r = (decide (64 < n) || (decide (300 < n1) || decide (200 < n2))) := ⟨_, rfl⟩
  have HGR := Lib.hid hgr
  have HGC := Lib.hid fun W => great_any A n c s k z A1 n1 c1 A2 n2 c2 W gr HGR.out
  have HSC := Lib.hid fun W (h : Came W A n c rows A1 n1 c1 l A2 n2 c2 u) => sort_any A n c s k z A1 n1 c1 A2 n2 c2 rows W h.hr h.hrf
  have HAC := Lib.hid fun W (h : Came W A n c rows A1 n1 c1 l A2 n2 c2 u) => asked_any A n c s k z A1 n1 c1 A2 n2 c2 rows W h.hr h.hrf
  have HSO := Lib.hid (srOf_ok rows s k)
  generalize srOf rows s k = S at HSC HSO HAC
  have HLN := Lib.hid (And.intro hC.hl.len hC.hu.len)
  have HZW := Lib.hid hzw
  unfold gV at HGC HSC HAC ⊢
  clear hgr hzw
  go_enter Tryz.func3, Tryz.ntmps3
  go_wp2_with fail
  refine (HGC.out _).mono ?_
  rintro e w1 ⟨rfl, hv⟩
  clear HGC
  replace hC := hC.keep hv
  replace hz0 := cell_old hz0 hv
  replace hz1 := cell_old hz1 hv
  replace hz2 := cell_old hz2 hv
  replace hz3 := cell_old hz3 hv
  replace hz4 := cell_old hz4 hv
  replace hz5 := cell_old hz5 hv
  replace hb := hb.trans (hv.mono hb.size)
  clear hv
  cases gr with
  | true =>
    clear HSC HAC
    go_wp2_with fail
    go_ret
    exact ⟨rfl, hb⟩
  | false =>
    obtain ⟨-, hn1, hn2⟩ := great_no HGR.out
    clear HGR
    have HN1 := Lib.hid hn1
    have HN2 := Lib.hid hn2
    clear hn1 hn2
    go_wp2_with fail
    refine (HSC.out _ hC).mono ?_
    rintro e w2 ⟨v, rfl, hSk, hv⟩
    clear HSC
    replace hC := hC.keep hv
    replace hz0 := cell_old hz0 hv
    replace hz1 := cell_old hz1 hv
    replace hz2 := cell_old hz2 hv
    replace hz3 := cell_old hz3 hv
    replace hz4 := cell_old hz4 hv
    replace hz5 := cell_old hz5 hv
    replace hb := hb.trans (hv.mono hb.size)
    clear hv
    obtain ⟨T, pt, rfl⟩ : ∃ T p, v = .iface T p := by
      rcases hSk with ⟨a, e, -⟩ | ⟨a, e, -⟩
      · exact ⟨_, _, e⟩
      · exact ⟨_, _, e⟩
    go_wp2_with fail
    refine (HAC.out _ hC).mono ?_
    rintro e w3 ⟨t, At, mt, ct, et, rfl, hRS, hv⟩
    clear HAC
    replace hRS := hRS.mono hv.size
    replace hC := hC.keep hv
    replace hz0 := cell_old hz0 hv
    replace hz1 := cell_old hz1 hv
    replace hz2 := cell_old hz2 hv
    replace hz3 := cell_old hz3 hv
    replace hz4 := cell_old hz4 hv
    replace hz5 := cell_old hz5 hv
    replace hb := hb.trans (hv.mono hb.size)
    replace hSk := hSk.keep hv
    clear hv
    have hv : Below w3.heap.size w3 (w3.alloc (.cells #[.int .i64 (t : Int), .slice At mt ct, .int .i64 (et : Int)] 31)) := (Below.refl _ _).alloc (Nat.le_refl _) _
    have hbx := heap_alloc_new w3 (.cells #[.int .i64 (t : Int), .slice At mt ct, .int .i64 (et : Int)] 31)
    have s0 : _ = some (Value.int .i64 (t : Int)) := (cell_blk (i := 0) hbx).trans rfl
    have s1 : _ = some (Value.slice At mt ct) := (cell_blk (i := 1) hbx).trans rfl
    have s2 : _ = some (Value.int .i64 (et : Int)) := (cell_blk (i := 2) hbx).trans rfl
    replace hC := hC.keep hv
    replace hz0 := cell_old hz0 hv
    replace hz1 := cell_old hz1 hv
    replace hz2 := cell_old hz2 hv
    replace hz3 := cell_old hz3 hv
    replace hz4 := cell_old hz4 hv
    replace hz5 := cell_old hz5 hv
    replace hb := hb.trans (hv.mono hb.size)
    replace hSk := hSk.keep hv
    replace hRS := hRS.keep hv
    clear hv
    clear hbx
    unfold rsV
    have HWD : Hid True := Lib.hid trivial
    clear HWD
    go_wp2_with fail
    generalize hgw : w3.alloc (.cells #[.int .i64 (t : Int), .slice At mt ct, .int .i64 (et : Int)] 31) = w4 at *
    clear hgw
    generalize w3.heap.size = g3 at *
    refine (twinB_any A1 n1 c1 l w4 hC.hl (by have := HN1.out; omega)).mono ?_
    rintro e w5 ⟨gB, rfl, htB, hv⟩
    have HOB := Lib.hid (Nat.le_trans hb.size htB.old)
    replace hC := hC.keep hv
    replace hz0 := cell_old hz0 hv
    replace hz1 := cell_old hz1 hv
    replace hz2 := cell_old hz2 hv
    replace hz3 := cell_old hz3 hv
    replace hz4 := cell_old hz4 hv
    replace hz5 := cell_old hz5 hv
    replace hb := hb.trans (hv.mono hb.size)
    replace hSk := hSk.keep hv
    replace hRS := hRS.keep hv
    replace s0 := cell_old s0 hv
    replace s1 := cell_old s1 hv
    replace s2 := cell_old s2 hv
    clear hv
    go_wp2_with fail
    refine (La.twin_any A2 n2 c2 u w5 hC.hu (by have := HN2.out; omega)).mono ?_
    rintro e w6 ⟨gN, rfl, htN, hv⟩
    have HON := Lib.hid (Nat.le_trans hb.size htN.old)
    replace hC := hC.keep hv
    replace hz0 := cell_old hz0 hv
    replace hz1 := cell_old hz1 hv
    replace hz2 := cell_old hz2 hv
    replace hz3 := cell_old hz3 hv
    replace hz4 := cell_old hz4 hv
    replace hz5 := cell_old hz5 hv
    replace hb := hb.trans (hv.mono hb.size)
    replace hSk := hSk.keep hv
    replace hRS := hRS.keep hv
    replace s0 := cell_old s0 hv
    replace s1 := cell_old s1 hv
    replace s2 := cell_old s2 hv
    replace htB := htB.keep hv
    clear hv
    have HGN := Lib.hid htN.lt
    have HWS := Lib.hid hb.size
    go_wp2_with fail
    refine (solve_any _ z (some ⟨gB, 0, none⟩) n1 (n1 + 1) l S w6 HSO.out hSk.into htB.rs hC.hlf).mono ?_
    rintro e w7 ⟨B1, m1, d1, B2, m2, d2, x, lo, hi, hSV⟩
    obtain rfl := hSV.ret
    have hlo := hSV.rlo
    have hhi := hSV.rhi
    have HANS := Lib.hid hSV.ans
    have hTW := two_of_solved hSV
    have hv := hSV.kept
    clear hSV
    replace hC := hC.keep hv
    replace hz0 := cell_old hz0 hv
    replace hz1 := cell_old hz1 hv
    replace hz2 := cell_old hz2 hv
    replace hz3 := cell_old hz3 hv
    replace hz4 := cell_old hz4 hv
    replace hz5 := cell_old hz5 hv
    replace hb := hb.trans (hv.mono hb.size)
    replace hSk := hSk.keep hv
    replace hRS := hRS.keep hv
    replace s0 := cell_old s0 hv
    replace s1 := cell_old s1 hv
    replace s2 := cell_old s2 hv
    replace htB := htB.keep hv
    replace htN := htN.keep hv
    clear hv
    go_wp2_with fail
    refine (solve_ref t At mt ct et z A1 n1 c1 l S w7 HSO.out hRS hC.hl hC.hlf).mono ?_
    rintro e w8 ⟨B3, m3, d3, B4, m4, d4, x', lo', hi', rfl, hlo2, hhi2, hans2, hv⟩
    replace hC := hC.keep hv
    replace hz0 := cell_old hz0 hv
    replace hz1 := cell_old hz1 hv
    replace hz2 := cell_old hz2 hv
    replace hz3 := cell_old hz3 hv
    replace hz4 := cell_old hz4 hv
    replace hz5 := cell_old hz5 hv
    replace hb := hb.trans (hv.mono hb.size)
    replace hSk := hSk.keep hv
    replace hRS := hRS.keep hv
    replace s0 := cell_old s0 hv
    replace s1 := cell_old s1 hv
    replace s2 := cell_old s2 hv
    replace htB := htB.keep hv
    replace htN := htN.keep hv
    replace hlo := hlo.at_size (Nat.le_refl _) hv
    replace hhi := hhi.at_size (Nat.le_refl _) hv
    replace hTW := hTW.keep hv
    clear hv
    obtain ⟨e1, e2, e3⟩ := solve_uniq HSO.out HANS.out hans2
    subst e1
    subst e2
    subst e3
    clear hans2
    obtain ⟨xc, hxc⟩ : ∃ x, chkS S z l = x := ⟨_, rfl⟩
    have HXC := Lib.hid hxc
    obtain ⟨hh, hhh⟩ : ∃ x, holdS S u l = x := ⟨_, rfl⟩
    have HHH := Lib.hid hhh
    have hxx : (x != x) = false := by simp
    have hcc : (xc != xc) = false := by simp
    have hbb : (hh != hh) = false := by simp
    have hb2 : (!hh == hh) = false := by cases hh <;> rfl
    clear hxc hhh hz0 hz1 hz2
    go_wp2_with fail
    refine wp_region_ord [0, 1, 2, 3, 5, 6, 7, 8, 9, 4, 10, 11, 12, 13, 14, 15, 16, 17, 18, 19, 20, 21, 22, 23, 24, 25, 26, 27, 28, 29, 30, 31, 32, 34, 35, 36, 37, 38, 33, 39, 40, 41] [4, 10, 20, 26, 33, 39] 42 (fun w' => w'.cell? ⟨w.heap.size, 3, none⟩ = some (.int .i64 z) ∧ w'.cell? ⟨w.heap.size, 4, none⟩ = some (.slice A1 n1 c1) ∧ w'.cell? ⟨w.heap.size, 5, none⟩ = some (.slice A2 n2 c2) ∧ w'.cell? ⟨g3, 0, none⟩ = some (.int .i64 (t : Int)) ∧ w'.cell? ⟨g3, 1, none⟩ = some (.slice At mt ct) ∧ w'.cell? ⟨g3, 2, none⟩ = some (.int .i64 (et : Int))) (by kernel_rfl) (by kernel_rfl) (by kernel_rfl) (by kernel_rfl) (fun _ _ _ _ _ h => h) ⟨hz3, hz4, hz5, s0, s1, s2⟩ ?_
    simp only [steps, List.getElem?_cons_zero, List.getElem?_cons_succ]
    repeat (first
      | (refine ord_no rfl ?_; simp only [Act.put, List.setIfInBounds_toArray, List.set_cons_zero, List.set_cons_succ])
      | (refine ord_yes (v := ?_) rfl rfl ?_ ?_; rotate_left; (focus (rintro w' ⟨hS0, hS1, hS2, hS3, hS4, hS5⟩; go_simp; try with_reducible rfl)); simp only [Act.put, List.setIfInBounds_toArray, List.set_cons_zero, List.set_cons_succ]))
    have hv : Below w8.heap.size w8 w8.drew := (Below.refl _ _).drew
    replace hC := hC.keep hv
    replace hz3 := cell_old hz3 hv
    replace hz4 := cell_old hz4 hv
    replace hz5 := cell_old hz5 hv
    replace hb := hb.trans (hv.mono hb.size)
    replace hSk := hSk.keep hv
    replace hRS := hRS.keep hv
    replace s0 := cell_old s0 hv
    replace s1 := cell_old s1 hv
    replace s2 := cell_old s2 hv
    replace htB := htB.keep hv
    replace htN := htN.keep hv
    replace hlo := hlo.at_size (Nat.le_refl _) hv
    replace hhi := hhi.at_size (Nat.le_refl _) hv
    replace hTW := hTW.keep hv
    replace hlo2 := hlo2.at_size (Nat.le_refl _) hv
    replace hhi2 := hhi2.at_size (Nat.le_refl _) hv
    clear hv
    generalize w8.drew = w9 at *
    refine ord_hard rfl rfl (fun K hK => ?_)
    go_simp
    refine (check_any _ z (some ⟨gB, 0, none⟩) n1 (n1 + 1) l S _ xc hSk.into htB.rs hC.hlf HXC.out).mono ?_
    rintro e w10 ⟨rfl, hv⟩
    replace hC := hC.keep hv
    replace hz3 := cell_old hz3 hv
    replace hz4 := cell_old hz4 hv
    replace hz5 := cell_old hz5 hv
    replace hb := hb.trans (hv.mono hb.size)
    replace hSk := hSk.keep hv
    replace hRS := hRS.keep hv
    replace s0 := cell_old s0 hv
    replace s1 := cell_old s1 hv
    replace s2 := cell_old s2 hv
    replace htB := htB.keep hv
    replace htN := htN.keep hv
    replace hlo := hlo.at_size (Nat.le_refl _) hv
    replace hhi := hhi.at_size (Nat.le_refl _) hv
    replace hTW := hTW.keep hv
    replace hlo2 := hlo2.at_size (Nat.le_refl _) hv
    replace hhi2 := hhi2.at_size (Nat.le_refl _) hv
    clear hv
    refine hK.out _ _ (fun _ => ⟨hz3, hz4, hz5, s0, s1, s2⟩) ?_
    clear hK K
    try simp only [Act.put, List.setIfInBounds_toArray, List.set_cons_zero, List.set_cons_succ]
    repeat (first
      | (refine ord_no rfl ?_; simp only [Act.put, List.setIfInBounds_toArray, List.set_cons_zero, List.set_cons_succ])
      | (refine ord_yes (v := ?_) rfl rfl ?_ ?_; rotate_left; (focus (rintro w' ⟨hS0, hS1, hS2, hS3, hS4, hS5⟩; go_simp; try with_reducible rfl)); simp only [Act.put, List.setIfInBounds_toArray, List.set_cons_zero, List.set_cons_succ]))
    refine ord_hard rfl rfl (fun K hK => ?_)
    go_simp
    have hcr := check_ref t At mt ct et z A1 n1 c1 l S _ xc hRS.rhas hC.hl hC.hlf HXC.out
    unfold rsV at hcr
    refine hcr.mono ?_
    rintro e w11 ⟨rfl, hv⟩
    clear hcr
    replace hC := hC.keep hv
    replace hz3 := cell_old hz3 hv
    replace hz4 := cell_old hz4 hv
    replace hz5 := cell_old hz5 hv
    replace hb := hb.trans (hv.mono hb.size)
    replace hSk := hSk.keep hv
    replace hRS := hRS.keep hv
    replace s0 := cell_old s0 hv
    replace s1 := cell_old s1 hv
    replace s2 := cell_old s2 hv
    replace htB := htB.keep hv
    replace htN := htN.keep hv
    replace hlo := hlo.at_size (Nat.le_refl _) hv
    replace hhi := hhi.at_size (Nat.le_refl _) hv
    replace hTW := hTW.keep hv
    replace hlo2 := hlo2.at_size (Nat.le_refl _) hv
    replace hhi2 := hhi2.at_size (Nat.le_refl _) hv
    clear hv
    refine hK.out _ _ (fun _ => ⟨hz3, hz4, hz5, s0, s1, s2⟩) ?_
    clear hK K
    try simp only [Act.put, List.setIfInBounds_toArray, List.set_cons_zero, List.set_cons_succ]
    repeat (first
      | (refine ord_no rfl ?_; simp only [Act.put, List.setIfInBounds_toArray, List.set_cons_zero, List.set_cons_succ])
      | (refine ord_yes (v := ?_) rfl rfl ?_ ?_; rotate_left; (focus (rintro w' ⟨hS0, hS1, hS2, hS3, hS4, hS5⟩; go_simp; try with_reducible rfl)); simp only [Act.put, List.setIfInBounds_toArray, List.set_cons_zero, List.set_cons_succ]))
    refine ord_hard rfl rfl (fun K hK => ?_)
    go_simp
    refine (same_lit true hlo hlo2 (by simp)).mono ?_
    rintro e w12 ⟨rfl, hv⟩
    replace hC := hC.keep hv
    replace hz3 := cell_old hz3 hv
    replace hz4 := cell_old hz4 hv
    replace hz5 := cell_old hz5 hv
    replace hb := hb.trans (hv.mono hb.size)
    replace hSk := hSk.keep hv
    replace hRS := hRS.keep hv
    replace s0 := cell_old s0 hv
    replace s1 := cell_old s1 hv
    replace s2 := cell_old s2 hv
    replace htB := htB.keep hv
    replace htN := htN.keep hv
    replace hlo := hlo.at_size (Nat.le_refl _) hv
    replace hhi := hhi.at_size (Nat.le_refl _) hv
    replace hTW := hTW.keep hv
    replace hlo2 := hlo2.at_size (Nat.le_refl _) hv
    replace hhi2 := hhi2.at_size (Nat.le_refl _) hv
    clear hv
    refine hK.out _ _ (fun _ => ⟨hz3, hz4, hz5, s0, s1, s2⟩) ?_
    clear hK K
    try simp only [Act.put, List.setIfInBounds_toArray, List.set_cons_zero, List.set_cons_succ]
    repeat (first
      | (refine ord_no rfl ?_; simp only [Act.put, List.setIfInBounds_toArray, List.set_cons_zero, List.set_cons_succ])
      | (refine ord_yes (v := ?_) rfl rfl ?_ ?_; rotate_left; (focus (rintro w' ⟨hS0, hS1, hS2, hS3, hS4, hS5⟩; go_simp; try with_reducible rfl)); simp only [Act.put, List.setIfInBounds_toArray, List.set_cons_zero, List.set_cons_succ]))
    refine ord_hard rfl rfl (fun K hK => ?_)
    go_simp
    refine (same_lit true hhi hhi2 (by simp)).mono ?_
    rintro e w13 ⟨rfl, hv⟩
    replace hC := hC.keep hv
    replace hz3 := cell_old hz3 hv
    replace hz4 := cell_old hz4 hv
    replace hz5 := cell_old hz5 hv
    replace hb := hb.trans (hv.mono hb.size)
    replace hSk := hSk.keep hv
    replace hRS := hRS.keep hv
    replace s0 := cell_old s0 hv
    replace s1 := cell_old s1 hv
    replace s2 := cell_old s2 hv
    replace htB := htB.keep hv
    replace htN := htN.keep hv
    replace hlo := hlo.at_size (Nat.le_refl _) hv
    replace hhi := hhi.at_size (Nat.le_refl _) hv
    replace hTW := hTW.keep hv
    replace hlo2 := hlo2.at_size (Nat.le_refl _) hv
    replace hhi2 := hhi2.at_size (Nat.le_refl _) hv
    clear hv
    refine hK.out _ _ (fun _ => ⟨hz3, hz4, hz5, s0, s1, s2⟩) ?_
    clear hK K
    try simp only [Act.put, List.setIfInBounds_toArray, List.set_cons_zero, List.set_cons_succ]
    repeat (first
      | (refine ord_no rfl ?_; simp only [Act.put, List.setIfInBounds_toArray, List.set_cons_zero, List.set_cons_succ])
      | (refine ord_yes (v := ?_) rfl rfl ?_ ?_; rotate_left; (focus (rintro w' ⟨hS0, hS1, hS2, hS3, hS4, hS5⟩; go_simp; try with_reducible rfl)); simp only [Act.put, List.setIfInBounds_toArray, List.set_cons_zero, List.set_cons_succ]))
    refine ord_hard rfl rfl (fun K hK => ?_)
    go_simp
    refine (hold_any _ (some ⟨gN, 0, none⟩) n2 (n2 + 1) u (some ⟨gB, 0, none⟩) n1 (n1 + 1) l S _ hh hSk.into htN.rd hC.huf htB.rs hC.hlf HHH.out).mono ?_
    rintro e w14 ⟨rfl, hv⟩
    replace hC := hC.keep hv
    replace hz3 := cell_old hz3 hv
    replace hz4 := cell_old hz4 hv
    replace hz5 := cell_old hz5 hv
    replace hb := hb.trans (hv.mono hb.size)
    replace hSk := hSk.keep hv
    replace hRS := hRS.keep hv
    replace s0 := cell_old s0 hv
    replace s1 := cell_old s1 hv
    replace s2 := cell_old s2 hv
    replace htB := htB.keep hv
    replace htN := htN.keep hv
    replace hlo := hlo.at_size (Nat.le_refl _) hv
    replace hhi := hhi.at_size (Nat.le_refl _) hv
    replace hTW := hTW.keep hv
    replace hlo2 := hlo2.at_size (Nat.le_refl _) hv
    replace hhi2 := hhi2.at_size (Nat.le_refl _) hv
    clear hv
    refine hK.out _ _ (fun _ => ⟨hz3, hz4, hz5, s0, s1, s2⟩) ?_
    clear hK K
    try simp only [Act.put, List.setIfInBounds_toArray, List.set_cons_zero, List.set_cons_succ]
    repeat (first
      | (refine ord_no rfl ?_; simp only [Act.put, List.setIfInBounds_toArray, List.set_cons_zero, List.set_cons_succ])
      | (refine ord_yes (v := ?_) rfl rfl ?_ ?_; rotate_left; (focus (rintro w' ⟨hS0, hS1, hS2, hS3, hS4, hS5⟩; go_simp; try with_reducible rfl)); simp only [Act.put, List.setIfInBounds_toArray, List.set_cons_zero, List.set_cons_succ]))
    refine ord_hard rfl rfl (fun K hK => ?_)
    go_simp
    have hcr := hold_ref t At mt ct et A2 n2 c2 u A1 n1 c1 l S _ hh hRS hC.hu hC.huf hC.hl hC.hlf HHH.out
    unfold rsV at hcr
    refine hcr.mono ?_
    rintro e w15 ⟨rfl, hv⟩
    clear hcr
    replace hC := hC.keep hv
    replace hz3 := cell_old hz3 hv
    replace hz4 := cell_old hz4 hv
    replace hz5 := cell_old hz5 hv
    replace hb := hb.trans (hv.mono hb.size)
    replace hSk := hSk.keep hv
    replace hRS := hRS.keep hv
    replace s0 := cell_old s0 hv
    replace s1 := cell_old s1 hv
    replace s2 := cell_old s2 hv
    replace htB := htB.keep hv
    replace htN := htN.keep hv
    replace hlo := hlo.at_size (Nat.le_refl _) hv
    replace hhi := hhi.at_size (Nat.le_refl _) hv
    replace hTW := hTW.keep hv
    replace hlo2 := hlo2.at_size (Nat.le_refl _) hv
    replace hhi2 := hhi2.at_size (Nat.le_refl _) hv
    clear hv
    refine hK.out _ _ (fun _ => ⟨hz3, hz4, hz5, s0, s1, s2⟩) ?_
    clear hK K
    try simp only [Act.put, List.setIfInBounds_toArray, List.set_cons_zero, List.set_cons_succ]
    repeat (first
      | (refine ord_no rfl ?_; simp only [Act.put, List.setIfInBounds_toArray, List.set_cons_zero, List.set_cons_succ])
      | (refine ord_yes (v := ?_) rfl rfl ?_ ?_; rotate_left; (focus (rintro w' ⟨hS0, hS1, hS2, hS3, hS4, hS5⟩; go_simp; try with_reducible rfl)); simp only [Act.put, List.setIfInBounds_toArray, List.set_cons_zero, List.set_cons_succ]))
    refine ord_end ?_
    clear hlo hhi hlo2 hhi2 hSk hRS s0 s1 s2 hz3
    go_wp2_with fail
    refine (leftB_any _ w15.heap.size A1 gB n1 c1 l w15 htB hC.hl).mono ?_
    rintro e w16 ⟨rfl, hv⟩
    replace hC := hC.keep hv
    replace hz4 := cell_old hz4 hv
    replace hz5 := cell_old hz5 hv
    replace hb := hb.trans (hv.mono hb.size)
    replace htB := htB.keep hv
    replace htN := htN.keep hv
    replace hTW := hTW.keep hv
    clear hv
    go_wp2_with fail
    refine (La.left_any _ w16.heap.size A2 gN n2 c2 u w16 htN hC.hu).mono ?_
    rintro e w17 ⟨rfl, hdr⟩
    have hv : Below w16.heap.size w16 w17 := by
      obtain ⟨q, rfl⟩ := hdr
      exact below_drewN _ q
    clear hdr
    replace hC := hC.keep hv
    replace hz4 := cell_old hz4 hv
    replace hz5 := cell_old hz5 hv
    replace hb := hb.trans (hv.mono hb.size)
    replace htB := htB.keep hv
    replace htN := htN.keep hv
    replace hTW := hTW.keep hv
    clear hv
    have hn1 := HN1.out
    have hn2 := HN2.out
    have K0 : Kept (fun b => w17.heap.size ≤ b) w17 (w17.alloc oBook) := (Kept.refl _ _).alloc _
    clear hz4 hz5 hC
    go_wp2_with fail
    refine (putB_any w17.heap.size 0 _ 0 [] _ 0 [] _ n1 (n1 + 1) _ (book0 w17) (by omega) (by omega)).mono ?_
    rintro e w18 ⟨rfl, vB, K1, K1k⟩
    have K01 := K0.trans K1k
    clear K0 K1k
    go_wp2_with fail
    refine (putM_any w17.heap.size _ _ _ _ _ _ _ _ n2 (n2 + 1) _ K1 (by omega) (by omega)).mono ?_
    rintro e w19 ⟨rfl, vM1, K2, K2k⟩
    have K02 := K01.trans K2k
    clear K1 K01 K2k
    go_wp2_with fail
    refine (putM_any w17.heap.size _ _ _ _ _ _ _ B1 m1 d1 _ K2 (by omega) (by omega)).mono ?_
    rintro e w20 ⟨rfl, vM2, K3, K3k⟩
    have K03 := K02.trans K3k
    clear K2 K02 K3k
    go_wp2_with fail
    refine (putM_any w17.heap.size _ _ _ _ _ _ _ B2 m2 d2 _ K3 (by omega) (by omega)).mono ?_
    rintro e w21 ⟨rfl, vM3, K4, K4k⟩
    have K04 := K03.trans K4k
    clear K3 K03 K4k
    have hfar : ∀ b, b < w17.heap.size → ¬ w17.heap.size ≤ b := fun b h => by omega
    have l0 : Lone 77 4 w21 ⟨some ⟨gB, 0, none⟩, n1, n1 + 1, 1⟩ := (twinB_lone htB).keep K04 hfar
    have l1 : Lone 73 1 w21 ⟨some ⟨gN, 0, none⟩, n2, n2 + 1, 2⟩ := (twinN_lone htN (by omega)).keep K04 hfar
    have l2 : Lone 73 1 w21 ⟨B1, m1, d1, 3⟩ := (hTW.l1 3).keep K04 hfar
    have l3 : Lone 73 1 w21 ⟨B2, m2, d2, 4⟩ := (hTW.l2 4).keep K04 hfar
    have hb1 : ∃ B, w21.heap[w17.heap.size]? = some (.cells B 61 (0, 0)) := ⟨_, K4.blk⟩
    have hallM : ∀ e ∈ ([⟨some ⟨gN, 0, none⟩, n2, n2 + 1, 2⟩, ⟨B1, m1, d1, 3⟩, ⟨B2, m2, d2, 4⟩] : List Ent), Lone 73 1 w21 e := by
      intro e he
      simp only [List.mem_cons, List.not_mem_nil, or_false] at he
      rcases he with rfl | rfl | rfl
      · exact l1
      · exact l2
      · exact l3
    obtain ⟨hbM, capM, gM, eM, bM⟩ := book_of (K := 4) (HT := 114) (E := 73) (sz := 1) (es := [⟨some ⟨gN, 0, none⟩, n2, n2 + 1, 2⟩, ⟨B1, m1, d1, 3⟩, ⟨B2, m2, d2, 4⟩]) (by rw [cell_blk K4.blk]; rfl) hb1 K4.oM (by simp) (by simp) hallM
      (by
        refine List.pairwise_cons.2 ⟨fun b hbm x y hx hy => ?_, List.pairwise_cons.2 ⟨fun b hbm x y hx hy => ?_, by simp⟩⟩
        · injection hx with hx
          subst hx
          have hg := HGN.out
          show gN ≠ y.block
          simp only [List.mem_cons, List.not_mem_nil, or_false] at hbm
          rcases hbm with rfl | rfl
          · have := hTW.ge1 y hy
            omega
          · have := hTW.ge2 y hy
            omega
        · simp only [List.mem_singleton] at hbm
          subst hbm
          exact hTW.ap x y hx hy) (by intro e he; simp only [List.mem_cons, List.not_mem_nil, or_false] at he; rcases he with rfl | rfl | rfl <;> simp)
    obtain ⟨hbB, capB, gBb, eB, bB⟩ := book_of (K := 9) (HT := 112) (E := 77) (sz := 4) (es := [⟨some ⟨gB, 0, none⟩, n1, n1 + 1, 1⟩]) (by rw [cell_blk K4.blk]; rfl) hb1 K4.oB (by simp) (by simp) (by intro e he; simp only [List.mem_singleton] at he; subst he; exact l0) (by simp) (by intro e he; simp only [List.mem_singleton] at he; subst he; simp)
    have HM := Lib.hid bM
    have HB := Lib.hid bB
    have HBK := Lib.hid K4.blk
    have HG1 := Lib.hid hTW.ge1
    have HG2 := Lib.hid hTW.ge2
    have hsz := hb.size
    clear bM bB K4 l0 l1 l2 l3 htB htN hb1 hTW hallM
    go_wp2_with fail
    refine (apart_any _ _ w17.heap.size _ _ _ _ HM.out HB.out rfl rfl HBK.out).mono ?_
    rintro e w22 ⟨rfl, K16⟩
    go_wp2_with fail
    go_ret
    refine ⟨rfl, hb.trans ((K04.below hsz (fun b h => by omega)).trans (K16.below (Nat.le_trans hsz K04.size) ?_))⟩
    have hon := HON.out
    have hob := HOB.out
    have hws := HWS.out
    rintro b (e | e | e | e)
    · have e : b = hbM := e
      omega
    · obtain ⟨x, hx, a, ha, rfl⟩ := heldD e
      simp only [List.mem_cons, List.not_mem_nil, or_false] at hx
      rcases hx with rfl | rfl | rfl
      · injection ha with ha
        subst ha
        exact hon
      · exact Nat.le_trans hws (HG1.out a ha)
      · exact Nat.le_trans hws (HG2.out a ha)
    · have e : b = hbB := e
      omega
    · obtain ⟨x, hx, a, ha, rfl⟩ := heldD e
      simp only [List.mem_singleton] at hx
      subst hx
      injection ha with ha
      subst ha
      exact hob
end Go.Proofs.YtnlgfiffhahpfaaGreatDoor
