/- Proved: whatever the bytes, and whichever two neighbours, SumsPlaces answers true: two neighbours that change their places make another sum, unless they are the same. No condition. -/
import Derived.Test.YthimojebincheaaAlive
import Derived.Test.YthimojebincheaaZeros
import Derived.Test.YthimojebincheaaOpen
import Derived.Test.YthimojebincheaaOrder
import Derived.Test.YthimojebincheaaRows
import Derived.RegionTactic
import Derived.BigRegion
import Derived.IntWalk
namespace Go.Proofs.Ythimojebincheaa.sumsPlaces
open Go.ChangeShapes Go.WideShapes Go.ChangeAt Go.RowKit

theorem own : ownKnob Try.prog.godebug = none := by kernel_rfl
theorem laidOut : laidOutB Try.prog = true := by kernel_rfl
theorem byte_info : (Try.prog.info? 5).map (fun i => (i.zero, i.size, i.bytes)) = some (some (.int .u8 0), 1, 1) := by kernel_rfl

theorem crc_pair (s : Nat) (P Q : List UInt8) (x y : UInt8) : crc s (P ++ x :: y :: Q) = crc (bt (bt (crc s P) x.toNat) y.toNat) Q := by
  rw [crc_append]
  rfl

theorem places (P Q : List UInt8) (x y : UInt8) : sumOf 0 (P ++ x :: y :: Q) = sumOf 0 (P ++ y :: x :: Q) ↔ x = y := by
  refine ⟨fun e => ?_, fun e => by rw [e]⟩
  have hP : crc 4294967295 P < 4294967296 := crc_lt P (by omega)
  have h1 := crc_lt (P ++ x :: y :: Q) (s := 4294967295) (by omega)
  have h2 := crc_lt (P ++ y :: x :: Q) (s := 4294967295) (by omega)
  unfold sumOf at e
  rw [Nat.sub_zero] at e
  have e1 : crc 4294967295 (P ++ x :: y :: Q) = crc 4294967295 (P ++ y :: x :: Q) := by omega
  rw [crc_pair, crc_pair] at e1
  have e2 := crc_inj Q (bt_lt y (bt_lt x hP)) (bt_lt x (bt_lt y hP)) e1
  exact UInt8.toNat_inj.1 (swap2 _ _ _ hP (byte_lt x) (byte_lt y) e2)

theorem cells_pair (P Q : List UInt8) (x y : UInt8) : Lib.byteCells (P ++ x :: y :: Q) = Lib.byteCells P ++ .int .u8 (x.toNat : Int) :: .int .u8 (y.toNat : Int) :: Lib.byteCells Q := by
  rw [Lib.byteCells_append]
  rfl

theorem own_swap {w : World} {base g m c : Nat} {P Q : List UInt8} {x y : UInt8} (h : w.ownsRow base 5 1 (.slice (some ⟨g, 0, none⟩) m c) m (Lib.byteCells (P ++ x :: y :: Q))) :
    ((w.setCell ⟨g, P.length, none⟩ (.int .u8 (y.toNat : Int))).setCell ⟨g, P.length + 1, none⟩ (.int .u8 (x.toNat : Int))).ownsRow base 5 1 (.slice (some ⟨g, 0, none⟩) m c) m (Lib.byteCells (P ++ y :: x :: Q)) := by
  have h1 := (h.stored P.length (.int .u8 (y.toNat : Int))).1
  have h2 := (h1.stored (P.length + 1) (.int .u8 (x.toNat : Int))).1
  have e : ((Lib.byteCells (P ++ x :: y :: Q)).set P.length (.int .u8 (y.toNat : Int))).set (P.length + 1) (.int .u8 (x.toNat : Int)) = Lib.byteCells (P ++ y :: x :: Q) := by
    rw [cells_pair, cells_pair, List.set_append_right _ _ (by rw [Lib.byteCells_length]; exact Nat.le_refl _), Lib.byteCells_length, Nat.sub_self, List.set_cons_zero, List.set_append_right _ _ (by rw [Lib.byteCells_length]; omega), Lib.byteCells_length, Nat.add_sub_cancel_left]
    rfl
  rw [e] at h2
  exact h2

theorem same_both {P Q : List UInt8} {x y : UInt8} {s1 s2 xn yn : Nat} (h1 : Hid (sumOf 0 (P ++ x :: y :: Q) = s1)) (h2 : Hid (sumOf 0 (P ++ y :: x :: Q) = s2)) (hp : Hid (sumOf 0 (P ++ x :: y :: Q) = sumOf 0 (P ++ y :: x :: Q) ↔ x = y)) (hx : Hid (x.toNat = xn)) (hy : Hid (y.toNat = yn)) :
    (((s1 : Int) == (s2 : Int)) == ((xn : Int) == (yn : Int))) = true := by
  have h := hp.out
  rw [h1.out, h2.out, ← UInt8.toNat_inj, hx.out, hy.out] at h
  by_cases e : xn = yn
  · simp [h.2 e, e]
  · have e' := mt h.1 e
    have a1 : ((s1 : Int) == (s2 : Int)) = false := by simp; omega
    have a2 : ((xn : Int) == (yn : Int)) = false := by simp; omega
    rw [a1, a2]
    rfl

set_option maxRecDepth 100000 in
set_option maxHeartbeats 2000000 in
theorem walk_small (z : Nat) (A : Option Addr) (m c : Nat) (P Q : List UInt8) (x y : UInt8) (w : World) (hz : z < 65536) (hl : Rd w w.heap.size A m c (P ++ x :: y :: Q)) (hm : m ≤ 50000) (hk : z % (m - 1) = P.length) :
    Calls Try.prog 6 #[.slice A m c, .int .u16 (z : Int)] w fun e w' => e = .returned (.bool true) ∧ Below w.heap.size w w' := by
  obtain ⟨i0, hi0, hz0, hz1, hz2⟩ := info_parts byte_info
  have hlen : P.length + 1 < m := by have := hl.len; simp at this; omega
  have hn : m ≤ 9223372036854775807 := by omega
  have b0 : Below w.heap.size w (w.alloc (.cells #[.slice A m c] 22)) := (Below.refl _ _).alloc (Nat.le_refl _) _
  have t1 : decide (50000 < (m : Int)) = false := by simp; omega
  have t2 : decide ((m : Int) < 2) = false := by simp; omega
  obtain ⟨bb, oo, rfl, hbb, hcell⟩ := hl.spot (by omega)
  have hx0 := hcell P.length (by simp)
  have hy0 := hcell (P.length + 1) (by simp)
  have ex : (P ++ x :: y :: Q)[P.length]'(by simp) = x := by simp
  have ey : (P ++ x :: y :: Q)[P.length + 1]'(by simp) = y := by simp
  rw [ex] at hx0
  rw [ey] at hy0
  clear ex ey hcell
  have hrem : (z : Int) % ((m : Int) - 1) = (P.length : Int) := by
    have : ((z % (m - 1) : Nat) : Int) = (P.length : Int) := by rw [hk]
    rw [← this, Int.natCast_emod, Int.natCast_sub (by omega)]
    rfl
  have HX := Lib.hid hx0
  have HY := Lib.hid hy0
  have HP := Lib.hid (places P Q x y)
  obtain ⟨s1, hs1⟩ : ∃ s, sumOf 0 (P ++ x :: y :: Q) = s := ⟨_, rfl⟩
  obtain ⟨s2, hs2⟩ : ∃ s, sumOf 0 (P ++ y :: x :: Q) = s := ⟨_, rfl⟩
  have HP1 := Lib.hid hs1
  have HP2 := Lib.hid hs2
  clear hs1 hs2
  clear hk hx0 hy0
  go_enter Try.func6, Try.ntmps6
  go_wp2_with fail
  refine (great_one (some ⟨bb, oo, none⟩) m c _ _ hn (by simp)).mono ?_
  rintro e w1 ⟨rfl, rfl⟩
  obtain ⟨w1, hw1⟩ : ∃ w1, w.alloc (.cells #[.slice (some ⟨bb, oo, none⟩) m c] 22) = w1 := ⟨_, rfl⟩
  rw [hw1] at b0 ⊢
  clear hw1
  go_wp2_with (at_builtin; refine wpList_append_rd _ rfl (.const (.slice none 0 0)) (.tmp 22) 22 rfl w1.heap.size 5 i0 Try.underlying22 hi0 hz0 hz1 hz2 (.slice none 0 0) 0 [] rfl (World.ownsRow_nil _ _ _ _) _ _ m c (P ++ x :: y :: Q) rfl (hl.at_size (Nat.le_refl _) b0) (by omega) (Nat.le_refl _) ?_; intro A1 k1 c1 w2 hk1 own1 hg1 ha1)
  obtain rfl : k1 = m := by have := hk1.out; omega
  rw [List.nil_append] at own1
  obtain ⟨g, rfl⟩ : ∃ g, A1 = some ⟨g, 0, none⟩ := by
    rcases own1.2 with ⟨h, h0⟩ | ⟨g, cap, cur, h, _⟩
    · omega
    · injection h with h1 h2 h3
      exact ⟨g, h1⟩
  have e2 : Below w1.heap.size w1 w2 := (Below.refl _ _).grown hg1 (Nat.le_refl _) (by simp [Value.ownBlock])
  have b2 := Below.then b0 e2
  have own2 := own_swap own1
  have c0 := own1.cellAt P.length (by omega)
  have c1' := own1.cellAt (P.length + 1) (by omega)
  have f0 := own1.frozenAt P.length
  have f1 := own1.frozenAt (P.length + 1)
  have hge : w1.heap.size ≤ g := ha1 g rfl
  rw [cells_pair, List.getElem?_append_right (by rw [Lib.byteCells_length]; exact Nat.le_refl _), Lib.byteCells_length, Nat.sub_self] at c0
  rw [cells_pair, List.getElem?_append_right (by rw [Lib.byteCells_length]; omega), Lib.byteCells_length, Nat.add_sub_cancel_left] at c1'
  simp only [List.getElem?_cons_zero, List.getElem?_cons_succ] at c0 c1'
  have e3 : Below w.heap.size w (((w2.setCell ⟨g, P.length, none⟩ (.int .u8 (y.toNat : Int))).setCell ⟨g, P.length + 1, none⟩ (.int .u8 (x.toNat : Int)))) :=
    (b2.setCell (p := ⟨g, P.length, none⟩) (Nat.le_trans b0.size hge) _).setCell (p := ⟨g, P.length + 1, none⟩) (Nat.le_trans b0.size hge) _
  generalize hpl : P.length = k at *
  have HPL := Lib.hid hpl
  have OW := Lib.hid own2
  have HRM := Lib.hid hrem
  generalize hxn : x.toNat = xn at *
  generalize hyn : y.toNat = yn at *
  have HXN := Lib.hid hxn
  have HYN := Lib.hid hyn
  clear hxn hyn
  have hwk : IntKind.i64.wrap ((k : Int) + 1) = (k : Int) + 1 := IntWalk.i64_in _ (by omega)
  have hk0 : 0 ≤ (k : Int) + 1 := by omega
  have hk1' : ((k : Int) + 1).toNat = k + 1 := by omega
  have hlt1 : (k : Int) < (k1 : Int) := by omega
  have hlt2 : (k : Int) + 1 < (k1 : Int) := by omega
  clear hpl own2 hrem own1 hk1 hg1 ha1 hi0 hz0 hz1 hz2 e2 b2 hlen
  go_region
  have OW2 : Hid ((((w2.setCell ⟨g, k, none⟩ (.int .u8 (yn : Int))).setCell ⟨g, k + 1, none⟩ (.int .u8 (xn : Int))).drew).ownsRow w1.heap.size 5 1 (.slice (some ⟨g, 0, none⟩) k1 c1) k1 (Lib.byteCells (P ++ y :: x :: Q))) := OW.out.drew
  have e4 := e3.drew
  clear OW e3 c0 c1' f0 f1
  obtain ⟨W3, hW3⟩ : ∃ W3, (((w2.setCell ⟨g, k, none⟩ (.int .u8 (yn : Int))).setCell ⟨g, k + 1, none⟩ (.int .u8 (xn : Int))).drew) = W3 := ⟨_, rfl⟩
  rw [hW3] at e4 OW2 ⊢
  clear hW3
  go_wp2_with fail
  refine wp_region_ord [0, 1, 2, 4, 7, 8, 9, 10, 11, 12, 13, 14, 15, 16, 3, 5, 6, 17, 18, 19] [0, 3, 5] 20 (fun w' => w'.cell? ⟨bb, oo + k, none⟩ = some (.int .u8 (xn : Int)) ∧ w'.cell? ⟨bb, oo + (k + 1), none⟩ = some (.int .u8 (yn : Int))) (by kernel_rfl) (by kernel_rfl) (by kernel_rfl) (by kernel_rfl) (fun _ _ _ _ _ h => h) ⟨(e4.drew.cell (p := ⟨bb, oo + k, none⟩) hbb).trans HX.out, (e4.drew.cell (p := ⟨bb, oo + (k + 1), none⟩) hbb).trans HY.out⟩ ?_
  simp only [steps, List.getElem?_cons_zero, List.getElem?_cons_succ]
  refine ord_hard rfl rfl (fun K hK => ?_)
  go_simp
  refine (alive_any _).mono ?_
  rintro e w4 ⟨rfl, b4⟩
  have r4 := ((Rd.of_own OW2.out).keep (w' := W3.drew) (fun _ _ => rfl)).at_size (Nat.le_refl _) b4
  replace b4 := Below.then e4.drew b4
  refine hK.out _ _ (fun _ => ⟨(b4.cell (p := ⟨bb, oo + k, none⟩) hbb).trans HX.out, (b4.cell (p := ⟨bb, oo + (k + 1), none⟩) hbb).trans HY.out⟩) ?_
  clear hK K
  repeat (first
    | (refine ord_no rfl ?_; simp only [Act.put, List.setIfInBounds_toArray, List.set_cons_zero, List.set_cons_succ])
    | (refine ord_yes (v := ?_) rfl rfl ?_ ?_; rotate_left; (focus (rintro w' ⟨hS0, hS1⟩; go_simp; try with_reducible rfl)); simp only [Act.put, List.setIfInBounds_toArray, List.set_cons_zero, List.set_cons_succ]))
  have HE : Hid ((((s1 : Int) == (s2 : Int)) == ((xn : Int) == (yn : Int))) = true) := same_both HP1 HP2 HP HXN HYN
  refine ord_hard rfl rfl (fun K hK => ?_)
  go_simp
  refine (of_now (r := s1) _ (hl.at_size (Nat.le_refl _) b4) HP1.out).mono ?_
  rintro e w5 ⟨rfl, b5⟩
  have r5 := r4.at_size (Nat.le_refl _) b5
  replace b5 := Below.then b4 b5
  refine hK.out _ _ (fun _ => ⟨(b5.cell (p := ⟨bb, oo + k, none⟩) hbb).trans HX.out, (b5.cell (p := ⟨bb, oo + (k + 1), none⟩) hbb).trans HY.out⟩) ?_
  clear hK K b4 r4
  refine ord_hard rfl rfl (fun K hK => ?_)
  go_simp
  refine (of_now (r := s2) _ r5 HP2.out).mono ?_
  rintro e w6 ⟨rfl, b6⟩
  replace b6 := Below.then b5 b6
  refine hK.out _ _ (fun _ => ⟨(b6.cell (p := ⟨bb, oo + k, none⟩) hbb).trans HX.out, (b6.cell (p := ⟨bb, oo + (k + 1), none⟩) hbb).trans HY.out⟩) ?_
  clear hK K
  repeat (first
    | (refine ord_no rfl ?_; simp only [Act.put, List.setIfInBounds_toArray, List.set_cons_zero, List.set_cons_succ])
    | (refine ord_yes (v := ?_) rfl rfl ?_ ?_; rotate_left; (focus (rintro w' ⟨hS0, hS1⟩; go_simp; try with_reducible rfl)); simp only [Act.put, List.setIfInBounds_toArray, List.set_cons_zero, List.set_cons_succ]))
  refine ord_end ?_
  go_wp2_with fail
  go_ret
  exact ⟨congrArg (fun b => Ending.returned (.bool b)) HE.out, b6⟩

set_option maxRecDepth 100000 in
set_option maxHeartbeats 400000 in
theorem walk_great (z : Nat) (A : Option Addr) (m c : Nat) (l : List UInt8) (w : World) (hl : Rd w w.heap.size A m c l) (hm : ¬ m ≤ 50000) :
    Calls Try.prog 6 #[.slice A m c, .int .u16 (z : Int)] w fun e w' => e = .returned (.bool true) ∧ Below w.heap.size w w' := by
  have hn : m ≤ 9223372036854775807 := by have := hl.top; have := hl.cap; unfold maxLen at *; omega
  have b0 : Below w.heap.size w (w.alloc (.cells #[.slice A m c] 22)) := (Below.refl _ _).alloc (Nat.le_refl _) _
  have t1 : decide (50000 < (m : Int)) = true := by simp; omega
  go_enter Try.func6, Try.ntmps6
  go_wp2_with fail
  refine (great_one A m c _ _ hn (by simp)).mono ?_
  rintro e w1 ⟨rfl, rfl⟩
  go_wp2_with fail
  refine (alive_any _).mono ?_
  rintro e w2 ⟨rfl, b2⟩
  go_wp2_with fail
  go_ret
  exact ⟨rfl, Below.then b0 b2⟩

set_option maxRecDepth 100000 in
set_option maxHeartbeats 400000 in
theorem walk_short (z : Nat) (A : Option Addr) (m c : Nat) (w : World) (hm : m < 2) :
    Calls Try.prog 6 #[.slice A m c, .int .u16 (z : Int)] w fun e w' => e = .returned (.bool true) ∧ Below w.heap.size w w' := by
  have hn : m ≤ 9223372036854775807 := by omega
  have b0 : Below w.heap.size w (w.alloc (.cells #[.slice A m c] 22)) := (Below.refl _ _).alloc (Nat.le_refl _) _
  have t1 : decide (50000 < (m : Int)) = false := by simp; omega
  have t2 : decide ((m : Int) < 2) = true := by simp; omega
  go_enter Try.func6, Try.ntmps6
  go_wp2_with fail
  refine (great_one A m c _ _ hn (by simp)).mono ?_
  rintro e w1 ⟨rfl, rfl⟩
  go_wp2_with fail
  refine (alive_any _).mono ?_
  rintro e w2 ⟨rfl, b2⟩
  go_wp2_with fail
  go_ret
  exact ⟨rfl, Below.then b0 b2⟩

theorem parted (l : List UInt8) (k : Nat) (h : k + 1 < l.length) : ∃ P x y Q, l = P ++ x :: y :: Q ∧ P.length = k := by
  refine ⟨l.take k, l[k], l[k + 1], l.drop (k + 2), ?_, by rw [List.length_take]; omega⟩
  rw [← List.drop_eq_getElem_cons h, ← List.drop_eq_getElem_cons (by omega), List.take_append_drop]

theorem walk (z : Nat) (A : Option Addr) (m c : Nat) (l : List UInt8) (w : World) (hz : z < 65536) (hl : Rd w w.heap.size A m c l) :
    Calls Try.prog 6 #[.slice A m c, .int .u16 (z : Int)] w fun e w' => e = .returned (.bool true) ∧ Below w.heap.size w w' := by
  by_cases hm : m ≤ 50000
  · by_cases h2 : m < 2
    · exact walk_short z A m c w h2
    · have hlt := Nat.mod_lt z (show 0 < m - 1 by omega)
      obtain ⟨P, x, y, Q, rfl, hk⟩ := parted l (z % (m - 1)) (by rw [hl.len]; omega)
      exact walk_small z A m c P Q x y w hz hl hm hk.symm
  · exact walk_great z A m c l w hl hm

set_option maxRecDepth 100000 in
theorem lifted (os : Os) (started : os.Started) (H : Type) (enc : TypeId × Value → H) :
    ReturnsInHanded {} Try.checked os 6 .any (Rows.sumsPlacesSpec.pre6 enc Try.prog Try.f6 Rows.sumsPlacesRow.domain false) (Rows.sumsPlacesSpec.post enc Try.prog Try.f6 false true false false) := by
  refine returnsInHanded_of_change (C := Try.checked) own started (by kernel_rfl) Try.func6
    (ChangeSpec.witness6 (enc := enc) (C := Try.checked) false ⟨#[], #[.slice none 0 0, .int .u16 0], []⟩ 8 (by kernel_rfl) (by kernel_rfl) (by kernel_rfl) (by kernel_rfl)) ?_
  intro W base args ds gs before hval0 hW hcnd _
  have hval : ∀ (j : Nat) t v, Try.f6.params[j]? = some t → args[j]? = some v → Value.okWide Try.prog W .any base t v := hval0
  have hW' := hW
  obtain ⟨p, q, hA0, hV, rfl, hfz, hnd⟩ := hW
  have hA : DataW.TrodAll enc Try.prog W 0 (fun _ => true) true Try.f6.params.toList args.toList ds p := hA0
  rw [Try.params6] at hA hval
  obtain ⟨v0, vs0, d0, ds0, p0, q0, hargs, rfl, rfl, h0, r0⟩ := trodAll_cons hA
  obtain ⟨v1, vs1, d1, ds1, p1, q1, rfl, rfl, rfl, h1, r1⟩ := trodAll_cons r0
  obtain ⟨rfl, rfl, rfl⟩ := trodAll_nil r1
  obtain rfl : args = #[v0, v1] := by cases args; simp_all
  obtain ⟨rfl, rfl⟩ := trodVars_none hV
  obtain ⟨A0, n0, c0, rfl⟩ := okWide_slice Try.underlying22 (hval 0 22 v0 rfl rfl)
  have lt0 : ∀ x ∈ p0, x.block < W.heap.size := by obtain ⟨m, hm⟩ := h0; exact DataW.trod_lt m _ _ _ hm
  obtain ⟨l0, hr0⟩ := opened_bytes Try.underlying22 Try.underlying5 (by kernel_rfl) h0
  obtain ⟨a1, rfl, rfl, rfl, w1⟩ := open_int Try.underlying35 (hval 1 35 v1 rfl rfl) h1
  clear hA0 hval0
  obtain ⟨x1, hx1, l1⟩ := u16_nat w1
  subst hx1
  refine (walk x1 A0 n0 c0 l0 W l1 hr0).mono fun e W' ⟨he, bel⟩ => ?_
  subst he
  exact ⟨_, rfl, _, _, _, [], _, [], hW', trodAll_mk1 (shut_bool Try.underlying4 _), (trodAll_cons_mk (Below.trod laidOut (by kernel_rfl) (of_decide_eq_true (by kernel_rfl)) h0 bel lt0) (trodAll_cons_mk (shut_int Try.underlying35 w1) trodAll_mk0)), rfl, bel.frame _, fun h => by cases h⟩

theorem over : Rows.sumsPlacesRow.holds Try.pinned (OpenSpec.ofChange Rows.sumsPlacesSpec) :=
  OpenClaim.holds_of_wide 6 Try.f6 rfl rfl rfl rfl rfl rfl rfl ⟨rfl, rfl, rfl, rfl, rfl⟩ rfl rfl rfl rfl rfl (by kernel_rfl) Try.func6 (by kernel_rfl)
    (of_decide_eq_true (by kernel_rfl)) (by unfold Func.isWrapper; first | (rw [if_pos (by decide +kernel)]; kernel_rfl) | (rw [if_neg (by decide +kernel)]; exact ⟨rfl, rfl⟩))
    (fun os started H enc _ => lifted os started H enc)

theorem proved : Rows.SumsPlacesSaid := over
#print axioms proved

end Go.Proofs.Ythimojebincheaa.sumsPlaces
