/- What halves, On and Of do: the bytes, half by half, divided behind the sum. Condition: the bytes can be read. -/
import Derived.Test.YthimojebincheaaHalf
import Derived.Test.YthimojebincheaaRound
import Derived.RangeFuncNested
import Derived.RangeFuncBound
import Derived.RangeFuncCalls
import Derived.RangeFuncLeaves
import Derived.Shelf.Abstract
import Derived.OwnWalkIn
import Derived.TacticsInMore
import Derived.LoopNIn
import Derived.LoopIn
namespace Go.Proofs.Ythimojebincheaa
open Go.RowKit Go.Shelf

attribute [local go_sem] Oper.semAt_some

theorem halves_in (F : Fence) (n : Nat) (h18 : F.fn 18) (hro : F.round = none) (v : Value) (w : World) (A : Option Addr) (m c : Nat) (hv : v = .slice A m c) :
    CallsIn F n Try.prog 18 #[v] w fun e w' => e = .returned (.func (.func 21) #[] #[.pointer (some ⟨w.heap.size, 0, none⟩)]) ∧ w' = w.alloc (.cells #[v] 22) := by
  subst hv
  refine callsIn_of_wp Try.func18 rfl h18 ?_ hro
  simp only [Try.ntmps18, List.size_toArray, List.length_cons, List.length_nil, Nat.reduceAdd, Nat.reduceSub, Array.replicate_succ, Array.replicate_zero, List.push_toArray, List.append_toArray, List.nil_append, List.cons_append]
  gi_wp2
  go_ret
  exact ⟨rfl, rfl⟩

theorem hv_snoc (l : List UInt8) (k : Nat) (h : k < l.length) : hv (l.take (k + 1)) = hv (l.take k) ++ [(l[k].toNat % 16).toUInt8] ++ [(l[k].toNat / 16).toUInt8] := by
  rw [List.take_succ_eq_append_getElem h, hv_append]
  simp [hv]

theorem hv_pre (l : List UInt8) (k : Nat) : hv (l.take k) <+: hv l := ⟨hv (l.drop k), by rw [← hv_append, List.take_append_drop]⟩

def YRel (l : List UInt8) (B : Nat) (A : Option Addr) (n c : Nat) (J : List UInt8 → World → Prop) (i7 : Value) (wr : World) : Prop :=
  ∃ k : Nat, i7 = .int .i64 (k : Int) ∧ k ≤ l.length ∧ Rd wr B A n c l ∧ J (hv (l.take k)) wr

set_option maxRecDepth 100000 in
set_option maxHeartbeats 1000000 in
theorem halves1_in (F : Fence) (n : Nat) (h21 : F.fn 21) (hro : F.round = none) (hn : 1 ≤ n) (l Bn n₀ : Nat) (A : Option Addr) (m c : Nat) (bs : List UInt8) (J Jx : List UInt8 → World → Prop)
    (hY : ∀ pre x W, J pre W → pre.length < (hv bs).length → YieldAt F (n - 1) Try.prog l #[.int .u8 (x.toNat : Int)] W fun e W' =>
      (e = .returned (.bool true) ∧ J (pre ++ [x]) W' ∧ Below n₀ W W') ∨ (e = .returned (.bool false) ∧ Jx (pre ++ [x]) W'))
    (W : World) (hBn : W.cell? ⟨Bn, 0, none⟩ = some (.slice A m c)) (hL : Rd W n₀ A m c bs) (h0 : J [] W) :
    CallsIn F n Try.prog 21 #[.func (.yield l) #[] #[], .pointer (some ⟨Bn, 0, none⟩)] W fun e W' => (∃ v, e = .returned v) ∧
      ((∃ ys, ys = hv bs ∧ J ys W') ∨ (∃ pre, pre <+: hv bs ∧ Jx pre W')) := by
  have HL := Lib.hid hL.len
  have htop := hL.top
  have hcap := hL.cap
  unfold maxLen at htop
  refine callsIn_of_wp Try.func21 rfl h21 ?_ hro
  simp only [Try.ntmps21, List.size_toArray, List.length_cons, List.length_nil, Nat.reduceAdd, Nat.reduceSub, Array.replicate_succ, Array.replicate_zero, List.push_toArray, List.append_toArray, List.nil_append, List.cons_append]
  gi_wp2
  gi_loopw [7] (fun i7 wr => YRel bs n₀ A m c J i7 wr) (fun i7 _ => m - (intOf i7).toNat)
  case atStart => exact ⟨0, rfl, Nat.zero_le _, hL, h0⟩
  case round =>
    obtain ⟨k, rfl, hk, hr, hJs⟩ := hrel
    by_cases hlt : k < m
    · have hk' : k < bs.length := by rw [HL.out]; exact hlt
      obtain ⟨b, o, rfl, hb, hc⟩ := hr.spot (by omega)
      have hcell := hc k hk'
      have HS := Lib.hid (hv_snoc bs k hk')
      have HP := Lib.hid (hv_length bs)
      have HT := Lib.hid (hv_length (bs.take k))
      have hq := byte_lt bs[k]
      clear hc
      generalize bs[k].toNat = q at *
      have hd1 : (((q % 16).toUInt8.toNat : Nat) : Int) = (q : Int) % 16 := by rw [u8_of (by omega)]; omega
      have hd2 : (((q / 16).toUInt8.toNat : Nat) : Int) = (q : Int) / 16 := by rw [u8_of (by omega)]; omega
      obtain ⟨fn, tmps, assign, body, hy, hR⟩ := hY _ (q % 16).toUInt8 wr hJs (by rw [HP.out, HT.out, List.length_take]; omega)
      rw [hd1] at hy
      have HD2 := Lib.hid hd2
      clear hd1 hd2
      gi_wp2
      refine hR.mono ?_
      rintro e W3 (⟨rfl, hJ3, hk3⟩ | ⟨rfl, hJx3⟩)
      · obtain ⟨fn2, tmps2, assign2, body2, hy2, hR2⟩ := hY _ (q / 16).toUInt8 W3 hJ3 (by rw [HP.out, List.length_append, HT.out, List.length_take]; simp; omega)
        rw [HD2.out] at hy2
        clear hy hR
        gi_wp2
        refine hR2.mono ?_
        rintro e W4 (⟨rfl, hJ4, hk4⟩ | ⟨rfl, hJx4⟩)
        · gi_wp2
          go_roundw
          case rel => exact ⟨k + 1, by go_num, by omega, (hr.below hk3).below hk4, by rw [HS.out]; exact hJ4⟩
          case measure => simp [intOf]; omega
        · gi_wp2
          refine bodyPost_ret (results_none rfl _ _ _) rfl ?_
          exact ⟨⟨_, rfl⟩, .inr ⟨_, by rw [← HS.out]; exact hv_pre bs (k + 1), hJx4⟩⟩
      · gi_wp2
        refine ⟨fun _ h => (by cases h), ?_⟩
        gi_wp2
        refine bodyPost_ret (results_none rfl _ _ _) rfl ?_
        exact ⟨⟨_, rfl⟩, .inr ⟨_, List.IsPrefix.trans ⟨[(q / 16).toUInt8], HS.out.symm⟩ (hv_pre bs (k + 1)), hJx3⟩⟩
    · gi_wp2
      go_end0
      exact ⟨⟨_, rfl⟩, .inl ⟨_, by rw [List.take_of_length_le (by rw [HL.out]; omega)], hJs⟩⟩

theorem halves_stops (F : Fence) (n : Nat) (h21 : F.fn 21) (hro : F.round = none) (hn : 1 ≤ n) (Bn n₀ : Nat) (A : Option Addr) (m c : Nat) (bs : List UInt8) (w : World) (hBn : Bn < w.heap.size) (hn₀ : n₀ ≤ w.heap.size)
    (hc : w.cell? ⟨Bn, 0, none⟩ = some (.slice A m c)) (hL : Rd w n₀ A m c bs) :
    SeqStopsK F n Try.prog 21 #[.pointer (some ⟨Bn, 0, none⟩)] (fun x : UInt8 => #[Value.int .u8 (x.toNat : Int)]) (Below n₀) (fun ys => ys = hv bs) (fun pre => pre <+: hv bs) (hv bs).length w := fun l J Jx W hW _ _ hY h0 =>
  halves1_in F n h21 hro hn l Bn n₀ A m c bs J Jx hY W ((hW.cell (p := ⟨Bn, 0, none⟩) hBn).trans hc) (hL.below (hW.mono hn₀)) h0

/-- What On has divided so far. -/
def hs (s : Nat) (pre : List UInt8) : Nat := pre.foldl (fun s h => hstep s h.toNat) s

theorem hs_snoc (s : Nat) (pre : List UInt8) (x : UInt8) : hs s (pre ++ [x]) = hstep (hs s pre) x.toNat := by simp [hs]
theorem hs_lt : ∀ (pre : List UInt8) {s : Nat}, s < 4294967296 → hs s pre < 4294967296
  | [], _, h => h
  | x :: pre, _, h => hs_lt pre (hstep_lt x.toNat h)

theorem not_u32 (x : Nat) (h : x < 4294967296) : bits .xor .u32 IntKind.u32.max (x : Int) = ((4294967295 - x : Nat) : Int) := by
  rw [show IntKind.u32.max = ((4294967295 : Nat) : Int) from rfl, u32_xor_nat 4294967295 x (by omega) h]
  congr 1
  have h1 : BitVec.allOnes 32 ^^^ BitVec.ofNat 32 x = ~~~ BitVec.ofNat 32 x := BitVec.allOnes_xor
  have h2 := congrArg BitVec.toNat h1
  rw [BitVec.toNat_xor, BitVec.toNat_not, BitVec.toNat_allOnes, BitVec.toNat_ofNat, Nat.mod_eq_of_lt (show x < 2 ^ 32 from h)] at h2
  exact h2

/-- What is left of each half, written out. -/
def leftsLit : Array Value := #[.int .u32 0, .int .u32 498536548, .int .u32 997073096, .int .u32 651767980, .int .u32 1994146192, .int .u32 1802195444, .int .u32 1303535960, .int .u32 1342533948, .int .u32 3988292384, .int .u32 4027552580, .int .u32 3604390888, .int .u32 3412177804, .int .u32 2607071920, .int .u32 2262029012, .int .u32 2685067896, .int .u32 3183342108]
theorem lefts_lit : (lefts 16).toArray = leftsLit := by rfl

theorem leftOfHalves_lit (w : World) : Calls Try.prog 17 #[] w fun e w' => e = .returned (.agg #[.int .u32 0, .int .u32 498536548, .int .u32 997073096, .int .u32 651767980, .int .u32 1994146192, .int .u32 1802195444, .int .u32 1303535960, .int .u32 1342533948, .int .u32 3988292384, .int .u32 4027552580, .int .u32 3604390888, .int .u32 3412177804, .int .u32 2607071920, .int .u32 2262029012, .int .u32 2685067896, .int .u32 3183342108]) ∧ Below w.heap.size w w' :=
  (leftOfHalves_any w).mono fun _ _ ⟨he, hb⟩ => ⟨by rw [he, lefts_lit]; rfl, hb⟩

theorem lits_at (z : Nat) : leftsLit[z % 16]? = some (.int .u32 (it 4 (z % 16) : Int)) := by
  rw [← lefts_lit, lefts_at 16 _ (by omega), if_pos (by omega)]

theorem blk_own {β : Type} (B : Nat) (cs : Array Value) (t : TypeId) : Own (fun (_ : β) W => W.heap[B]? = some (.cells cs t (0, 0))) := fun _ X Y row hs hg hrow =>
  (hg.block B (Array.getElem?_eq_some_iff.1 hs).1 (fun e' => by obtain ⟨o, ho, hc⟩ := hrow B e'.symm; rw [hs] at ho; cases ho; cases hc)).trans hs

theorem hstep_in (y : Nat) (x : UInt8) : hstep y x.toNat = y / 16 ^^^ it 4 ((y % 256 ^^^ x.toNat) % 16) := by
  unfold hstep
  congr 2
  have e1 := Nat.xor_mod_two_pow (a := y) (b := x.toNat) (n := 4)
  have e2 := Nat.xor_mod_two_pow (a := y % 256) (b := x.toNat) (n := 4)
  rw [show (2 : Nat) ^ 4 = 16 from rfl] at e1 e2
  rw [e1, e2, show y % 256 % 16 = y % 16 by omega]

theorem body_end (s' : Nat) (w w1 W : World) (pre : List UInt8) (x : UInt8) (y y' : Nat) {a : Act} (hz1 : w.heap.size ≤ w1.heap.size) (hA : W.heap[w1.heap.size]? = some (.cells leftsLit 38 (0, 0))) (hB : Boxed W (w1.heap.size + 1) 23 (.int .u32 (y : Int))) (hW : Below w.heap.size w W) (HY : Hid (hs s' (pre ++ [x]) = y')) :
    ownPostK (Below w.heap.size) (fun pre W => (W.heap[w1.heap.size]? = some (.cells leftsLit 38 (0, 0)) ∧ Boxed W (w1.heap.size + 1) 23 (.int .u32 (hs s' pre : Int))) ∧ Below w.heap.size w W) (fun _ _ _ => False) (pre ++ [x]) W .normal a
      (W.setCell ⟨w1.heap.size + 1, 0, none⟩ (.int .u32 (y' : Int))).drew := by
  have hle : w.heap.size ≤ (⟨w1.heap.size + 1, 0, none⟩ : Addr).block := by simp; omega
  refine ⟨(KeepsOthers.setCell _ _ _).trans (KeepsOthers.drew _), ((Below.refl w.heap.size W).setCell (p := ⟨w1.heap.size + 1, 0, none⟩) hle _).drew, ⟨?_, ?_⟩, (hW.setCell (p := ⟨w1.heap.size + 1, 0, none⟩) hle _).drew⟩
  · exact (heap_setCell_other _ _ _ _ (by simp)).trans hA
  · rw [HY.out]
    exact hB.set _

set_option maxRecDepth 100000 in
set_option maxHeartbeats 2000000 in
theorem on_wide (s : Nat) (A : Option Addr) (m c : Nat) (bs : List UInt8) (w : World) (hs0 : s < 4294967296) (hL : Rd w w.heap.size A m c bs) :
    CallsIn Fence.wide 8 Try.prog 11 #[.int .u32 (s : Int), .slice A m c] w fun e w' => e = .returned (.int .u32 (sumOf s bs : Int)) ∧ Below w.heap.size w w' := by
  have hro : Fence.wide.round = none := rfl
  have hsg : IntKind.u32.signed = false := rfl
  have hn := not_u32 s hs0
  have h17 : Fence.wide.fn 17 := trivial
  have h18 : Fence.wide.fn 18 := trivial
  have HS : Hid (sumOf s bs = 4294967295 - hs (4294967295 - s) (hv bs)) := by
    show _ = _
    rw [hs, hv_crc]
    rfl
  have hlt0 : 4294967295 - s < 4294967296 := by omega
  generalize 4294967295 - s = s' at *
  generalize sumOf s bs = r at *
  refine callsIn_of_wp_marks Try.func11 rfl trivial ?_ hro
  simp only [Try.ntmps11, List.size_toArray, List.length_cons, List.length_nil, Nat.reduceAdd, Nat.reduceSub, Array.replicate_succ, Array.replicate_zero, List.push_toArray, List.append_toArray, List.nil_append, List.cons_append]
  gi_wp2_with (first
    | (gi_at_call 17; refine (callsIn_wide.2 (leftOfHalves_lit _)).mono ?_; rintro e w1 ⟨rfl, b1⟩)
    | (gi_at_call 18; refine (halves_in Fence.wide _ trivial rfl _ _ A m c rfl).mono ?_; rintro e w2 ⟨rfl, rfl⟩))
  generalize hv8 : Value.agg #[.int .u32 0, .int .u32 498536548, .int .u32 997073096, .int .u32 651767980, .int .u32 1994146192, .int .u32 1802195444, .int .u32 1303535960, .int .u32 1342533948, .int .u32 3988292384, .int .u32 4027552580, .int .u32 3604390888, .int .u32 3412177804, .int .u32 2607071920, .int .u32 2262029012, .int .u32 2685067896, .int .u32 3183342108] = v8
  clear hv8
  have hz1 := b1.size
  have k0 : Below w.heap.size w (w1.alloc (.cells leftsLit 38)) := b1.alloc hz1 _
  have k1 : Below w.heap.size w ((w1.alloc (.cells leftsLit 38)).alloc (.cells #[.int .u32 (s' : Int)] 23)) := k0.alloc (by simp; omega) _
  have k2 : Below w.heap.size w (((w1.alloc (.cells leftsLit 38)).alloc (.cells #[.int .u32 (s' : Int)] 23)).alloc (.cells #[.slice A m c] 22)) := k1.alloc (by simp; omega) _
  have c0 : (((w1.alloc (.cells leftsLit 38)).alloc (.cells #[.int .u32 (s' : Int)] 23)).alloc (.cells #[.slice A m c] 22)).heap[w1.heap.size]? = some (.cells leftsLit 38 (0, 0)) := (Below.heap_alloc _ _ _ (by simp; omega)).trans (heap_alloc2_old _ _ _)
  have c1 : Boxed (((w1.alloc (.cells leftsLit 38)).alloc (.cells #[.int .u32 (s' : Int)] 23)).alloc (.cells #[.slice A m c] 22)) (w1.heap.size + 1) 23 (.int .u32 (s' : Int)) := Boxed.alloc (heap_alloc2_new _ _ _) _
  have c2 : Boxed (((w1.alloc (.cells leftsLit 38)).alloc (.cells #[.int .u32 (s' : Int)] 23)).alloc (.cells #[.slice A m c] 22)) (w1.heap.size + 1 + 1) 22 (.slice A m c) := by have := Boxed.new ((w1.alloc (.cells leftsLit 38)).alloc (.cells #[.int .u32 (s' : Int)] 23)) 22 (.slice A m c); simpa using this
  refine wpIn_rangeFunc_ownF hro (by decide) (gf := 21) (lb := #[.pointer (some ⟨w1.heap.size + 1 + 1, 0, none⟩)]) rfl trivial (enters_of Try.func21 (by kernel_rfl) rfl)
    (halves_stops Fence.wide (8 - 1) trivial hro (by decide) (w1.heap.size + 1 + 1) w.heap.size A m c bs _ (by simp) (by simp; omega) c2.cell (hL.below k2)) belowK_t (belowK_b (by simp; omega)) (Below.refl _ _) (fun _ => rfl)
    (fun pre W => (W.heap[w1.heap.size]? = some (.cells leftsLit 38 (0, 0)) ∧ Boxed W (w1.heap.size + 1) 23 (.int .u32 (hs s' pre : Int))) ∧ Below w.heap.size w W)
    (fun _ _ _ => False)
    (OwnFrom.and (OwnFrom.and (Own.from (blk_own _ _ _) _) (Own.from (boxed_own _ _ _) _)) (ownFrom_below (Nat.le_refl _) (by simp; omega)))
    (fun _ _ _ _ _ hs _ _ => hs)
    ⟨⟨c0, c1⟩, k2⟩
    (fun x => { tmps := #[.int .u32 (s : Int), .slice A m c, undef, undef, .int .u32 0, .pointer (some ⟨w1.heap.size, 0, none⟩), .pointer (some ⟨w1.heap.size + 1, 0, none⟩), .int .u8 (x.toNat : Int), v8, .int .u32 (s : Int), .int .u32 (s' : Int), .slice A m c, .func (.func 21) #[] #[.pointer (some ⟨w1.heap.size + 1 + 1, 0, none⟩)], .int .u8 (x.toNat : Int), undef, undef, undef, undef, undef, undef, undef, undef, undef, undef, undef, undef], defers := [] }) ?assign ?body ?done ?stop
  case assign =>
    intro l x W K hK
    gi_wp2
    exact hK
  case body =>
    rintro l pre x W ⟨⟨hA, hB⟩, hW⟩ _
    have hmx : Try.prog.follows .mixedOrders = true := by kernel_rfl
    have HSN := Lib.hid (hs_snoc s' pre x)
    have HIN := Lib.hid (hstep_in (hs s' pre) x)
    have hy := hs_lt pre hlt0
    have hy' := hs_lt (pre ++ [x]) hlt0
    have hcn := hB.cell
    have hfn := hB.frozen
    have hx := byte_lt x
    generalize hs s' pre = y at *
    generalize hyy : hs s' (pre ++ [x]) = y' at *
    have HY := Lib.hid hyy
    clear hyy
    have hwr : IntKind.u8.wrap (y : Int) = ((y % 256 : Nat) : Int) := by rw [IntKind.wrap_u8]; omega
    have hx1 : bits .xor .u8 ((y % 256 : Nat) : Int) (x.toNat : Int) = ((y % 256 ^^^ x.toNat : Nat) : Int) := u8_xor_nat (y % 256) x.toNat (by omega) hx
    have hz : y % 256 ^^^ x.toNat < 256 := Nat.xor_lt_two_pow (n := 8) (by omega) hx
    generalize hzz : y % 256 ^^^ x.toNat = z at *
    have hcz : W.cell? ⟨w1.heap.size, z % 16, none⟩ = some (.int .u32 (it 4 (z % 16) : Int)) := (cell_of_row W _ _ _ _ _ hA).trans (lits_at z)
    have hxo : bits .xor .u32 ((y : Int) / 16) (it 4 (z % 16) : Int) = (y' : Int) := by
      rw [HSN.out, HIN.out]
      exact u32_xor_nat (y / 16) _ (by omega) (it_lt 4 (by omega))
    generalize it 4 (z % 16) = u at *
    have han : bits .and .u8 (z : Int) 15 = ((z % 16 : Nat) : Int) := by
      rw [show z % 16 = z &&& 15 from (Nat.and_two_pow_sub_one_eq_mod z 4).symm]
      exact u8_and_nat z 15 hz (by omega)
    have hq : z % 16 < 16 := by omega
    clear hzz HIN HSN hn HS hL k0 k1 k2 c0 c1 c2 b1 h17 h18
    generalize z % 16 = q at *
    generalize y % 256 = p at *
    have hq1 : (q : Int) < 16 := by omega
    gi_wp2
    refine wpIn_region_ord [0, 1, 2, 3, 4, 5, 6, 7, 8, 9, 10] [10] 10 (fun w' => w'.cell? ⟨w1.heap.size + 1, 0, none⟩ = some (.int .u32 (y : Int)) ∧ w'.cell? ⟨w1.heap.size, q, none⟩ = some (.int .u32 (u : Int))) hmx (by kernel_rfl) (by kernel_rfl) (fun ⟨_, _, h⟩ => h) (by kernel_rfl) (by kernel_rfl) (fun _ _ _ _ _ h => h) ⟨hcn, hcz⟩ ?_
    simp only [steps, List.getElem?_cons_zero, List.getElem?_cons_succ]
    repeat (first
      | (refine ord_no rfl ?_; simp only [Act.put, List.setIfInBounds_toArray, List.set_cons_zero, List.set_cons_succ])
      | (refine ord_yes (v := ?_) rfl rfl ?_ ?_; rotate_left; (focus (rintro w' ⟨hS0, hS1⟩; go_simp; try with_reducible rfl)); simp only [Act.put, List.setIfInBounds_toArray, List.set_cons_zero, List.set_cons_succ]))
    refine ord_hard rfl rfl (fun K hK => ?_)
    go_simp
    refine hK.out _ _ (fun h => absurd rfl h) ?_
    exact ord_end (body_end s' w w1 W pre x y y' (a := { tmps := #[], defers := [] }) hz1 hA hB hW HY)
  case done =>
    rintro D ys W hD rfl ⟨⟨hA, hB⟩, hW⟩ hK
    have hr := hs_lt (hv bs) hlt0
    generalize hs s' (hv bs) = y at *
    have hcn := hB.cell
    have hn2 := not_u32 y hr
    rw [← HS.out] at hn2
    gi_wp2
    refine ⟨by simp, .inl ⟨_, _, rfl, run_takeDeferred hK, ?_⟩⟩
    exact ⟨_, results_tmp rfl _ _ _, rfl, hW.trans (belowK_b (w := w) (Nat.le_refl _) W D _ _ (by simp at hD; omega) hK rfl rfl)⟩
  case stop =>
    rintro D c pre W _ _ h _
    exact h.elim

theorem on_any (s : Nat) (A : Option Addr) (m c : Nat) (bs : List UInt8) (w : World) (hs0 : s < 4294967296) (hL : Rd w w.heap.size A m c bs) :
    Calls Try.prog 11 #[.int .u32 (s : Int), .slice A m c] w fun e w' => e = .returned (.int .u32 (sumOf s bs : Int)) ∧ Below w.heap.size w w' :=
  callsIn_wide.1 (on_wide s A m c bs w hs0 hL)

set_option maxRecDepth 100000 in
theorem of_any (A : Option Addr) (m c : Nat) (bs : List UInt8) (w : World) (hL : Rd w w.heap.size A m c bs) :
    Calls Try.prog 9 #[.slice A m c] w fun e w' => e = .returned (.int .u32 (sumOf 0 bs : Int)) ∧ Below w.heap.size w w' := by
  go_enter Try.func9, Try.ntmps9
  go_wp2_with fail
  refine (on_any 0 A m c bs _ (by omega) hL).mono ?_
  rintro e w1 ⟨rfl, b1⟩
  go_wp2_with fail
  go_ret
  exact ⟨rfl, b1⟩
end Go.Proofs.Ythimojebincheaa
