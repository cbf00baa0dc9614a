/- What the reference's left, On and Of do: the row of bits, divided bit by bit. Conditions: sizes alone. -/
import Derived.Test.YthimojebincheaaRow
import Derived.Test.YthimojebincheaaTwin
import Derived.Test.YthimojebincheaaZeros
import Derived.Test.YthimojebincheaaHalf
namespace Go.Proofs.Ythimojebincheaa
open Go.RowKit

/-- A bit as an int. -/
def bI (b : Bool) : Int := if b then 1 else 0

/-- A row of bits in memory. -/
def rowOf (n : Nat) (R : Nat → Bool) : List Value := (List.range n).map fun j => .int .i64 (bI (R j))

theorem rowOf_length (n : Nat) (R : Nat → Bool) : (rowOf n R).length = n := by simp [rowOf]
theorem rowOf_at (n : Nat) (R : Nat → Bool) (j : Nat) (h : j < n) : (rowOf n R)[j]? = some (.int .i64 (bI (R j))) := by simp [rowOf, h]
theorem rowOf_snoc (n : Nat) (R : Nat → Bool) : rowOf n R ++ [.int .i64 (bI (R n))] = rowOf (n + 1) R := by simp [rowOf, List.range_succ]
theorem rowOf_ext {n : Nat} {R R' : Nat → Bool} (h : ∀ j, j < n → R j = R' j) : rowOf n R = rowOf n R' := by
  unfold rowOf
  apply List.map_congr_left
  intro j hj
  rw [h j (List.mem_range.1 hj)]
theorem rowOf_zeros (n m : Nat) (R : Nat → Bool) (h : ∀ j, n ≤ j → R j = false) : rowOf n R ++ List.replicate m (.int .i64 0) = rowOf (n + m) R := by
  apply List.ext_getElem?
  intro j
  by_cases h1 : j < n
  · rw [List.getElem?_append_left (by rw [rowOf_length]; exact h1), rowOf_at _ _ _ h1, rowOf_at _ _ _ (by omega)]
  · rw [List.getElem?_append_right (by rw [rowOf_length]; omega), rowOf_length]
    by_cases h2 : j < n + m
    · rw [rowOf_at _ _ _ h2, h j (by omega), List.getElem?_replicate_of_lt (by omega)]
      rfl
    · rw [List.getElem?_eq_none (by rw [List.length_replicate]; omega), List.getElem?_eq_none (by rw [rowOf_length]; omega)]

/-- One bit turned. -/
def turn (R : Nat → Bool) (p : Nat) : Nat → Bool := fun j => if j = p then !R j else R j

theorem bI_not (b : Bool) : 1 - bI b = bI (!b) := by cases b <;> rfl
theorem rowOf_turn (n : Nat) (R : Nat → Bool) (p : Nat) : (rowOf n R).set p (.int .i64 (1 - bI (R p))) = rowOf n (turn R p) := by
  apply List.ext_getElem?
  intro j
  by_cases hj : j < n
  · rw [List.getElem?_set, rowOf_at _ _ _ hj, rowOf_at _ _ _ hj]
    by_cases e : p = j
    · subst e
      rw [if_pos rfl, if_pos (by rw [rowOf_length]; exact hj), bI_not]
      simp [turn]
    · rw [if_neg e]
      simp [turn, Ne.symm e]
  · rw [List.getElem?_eq_none (by rw [List.length_set, rowOf_length]; omega), List.getElem?_eq_none (by rw [rowOf_length]; omega)]

theorem bit_at {b : Bool} {x : Nat} (h : b.toNat = x % 2) : bI b = (x : Int) % 2 := by
  have : bI b = (b.toNat : Int) := by cases b <;> rfl
  rw [this, h]
  omega

theorem int_info : (Try.prog.info? 3).map (fun i => (i.zero, i.size, i.bytes)) = some (some (.int .i64 0), 1, 8) := by kernel_rfl

def LRelA (l : List UInt8) (w : World) (v5 i6 : Value) (wr : World) : Prop :=
  ∃ i : Nat, i6 = .int .i64 (i : Int) ∧ i ≤ l.length ∧ wr.ownsRow w.heap.size 3 1 v5 (8 * i) (rowOf (8 * i) (raw l)) ∧ Below w.heap.size w wr

def LRelB (l : List UInt8) (i : Nat) (w : World) (v5 i7 : Value) (wr : World) : Prop :=
  ∃ k : Nat, i7 = .int .i64 (k : Int) ∧ k ≤ 8 ∧ wr.ownsRow w.heap.size 3 1 v5 (8 * i + k) (rowOf (8 * i + k) (raw l)) ∧ Below w.heap.size w wr

theorem raw_none (l : List UInt8) (j : Nat) (h : 8 * l.length ≤ j) : raw l j = false := by
  unfold raw
  rw [List.getElem?_eq_none (by omega)]

theorem int_size (w : World) : (Go.sizeOf 3).run Try.prog w = .ok 1 w := by kernel_rfl

theorem slice_from (W : World) (g n c lo : Nat) (h1 : lo ≤ n) (h2 : lo < c) :
    (Instr.slice 43 (.slice (some ⟨g, 0, none⟩) n c) (some (.int .i64 (lo : Int))) none none).run Try.prog W = .ok (.slice (some ⟨g, lo, none⟩) (n - lo) (c - lo)) W := by
  have he : Try.prog.elem 43 = 3 := by simp [Program.elem, Try.underlying43]
  have ht' : Try.prog.underlying 43 = some (.slice (Try.prog.elem 43)) := by rw [he]; exact Try.underlying43
  rw [run_slice_l W 43 _ _ _ ht' .i64 _ (by omega) (by omega), he, int_size]
  have hne : ¬ c = lo := by omega
  simp [Result.andThen, sliced, hne, Addr.add_lit]

/-- Some bits are turned where the sum has a 0. -/
def LRelC (l : List UInt8) (s K g c : Nat) (w : World) (i8 : Value) (wr : World) : Prop :=
  ∃ (i : Nat) (R : Nat → Bool), i8 = .int .i64 (i : Int) ∧ i ≤ 32 ∧ (∀ j, R j = (raw l j ^^ (decide (j < i) && !s.testBit j))) ∧ wr.ownsRow w.heap.size 3 1 (.slice (some ⟨g, 0, none⟩) K c) K (rowOf K R) ∧ Below w.heap.size w wr

/-- Some bits are divided. -/
def LRelD (l : List UInt8) (s K g c : Nat) (w : World) (i9 : Value) (wr : World) : Prop :=
  ∃ (i : Nat) (R : Nat → Bool), i9 = .int .i64 (i : Int) ∧ i + 32 ≤ K ∧ RowIs R l (st (4294967295 - s) l i) i ∧ wr.ownsRow w.heap.size 3 1 (.slice (some ⟨g, 0, none⟩) K c) K (rowOf K R) ∧ Below w.heap.size w wr

/-- A bit is being divided. -/
def LRelE (R : Nat → Bool) (i K g c : Nat) (w : World) (i10 : Value) (wr : World) : Prop :=
  ∃ (k : Nat) (R' : Nat → Bool), i10 = .int .i64 (k : Int) ∧ k ≤ 32 ∧ (∀ j, R' j = (R j ^^ (decide (i < j ∧ j - i - 1 < k) && dv.testBit (j - i - 1)))) ∧ wr.ownsRow w.heap.size 3 1 (.slice (some ⟨g, 0, none⟩) K c) K (rowOf K R') ∧ Below w.heap.size w wr

theorem turn_yes {l : List UInt8} {s j : Nat} {R : Nat → Bool} (h : ∀ i, R i = (raw l i ^^ (decide (i < j) && !s.testBit i))) (hb : s.testBit j = false) : ∀ i, turn R j i = (raw l i ^^ (decide (i < j + 1) && !s.testBit i)) := by
  intro i
  unfold turn
  by_cases e : i = j
  · subst e
    rw [if_pos rfl, h i, hb]
    simp
  · rw [if_neg e, h i, show (decide (i < j + 1)) = decide (i < j) by rw [decide_eq_decide]; omega]

theorem turn_no {l : List UInt8} {s j : Nat} {R : Nat → Bool} (h : ∀ i, R i = (raw l i ^^ (decide (i < j) && !s.testBit i))) (hb : s.testBit j = true) : ∀ i, R i = (raw l i ^^ (decide (i < j + 1) && !s.testBit i)) := by
  intro i
  by_cases e : i = j
  · subst e
    rw [h i, hb]
    simp
  · rw [h i, show (decide (i < j + 1)) = decide (i < j) by rw [decide_eq_decide]; omega]

theorem row_start {l : List UInt8} {s : Nat} {R : Nat → Bool} (hs : s < 4294967296) (h : ∀ i, R i = (raw l i ^^ (decide (i < 32) && !s.testBit i))) : RowIs R l (st (4294967295 - s) l 0) 0 := by
  intro j _
  rw [h j, Nat.sub_zero]
  show _ = (_ ^^ (4294967295 - s).testBit j)
  rw [not_bit hs]

theorem div_yes {R R' : Nat → Bool} {i k : Nat} (h : ∀ j, R' j = (R j ^^ (decide (i < j ∧ j - i - 1 < k) && dv.testBit (j - i - 1)))) (hb : dv.testBit k = true) : ∀ j, turn R' (i + 1 + k) j = (R j ^^ (decide (i < j ∧ j - i - 1 < k + 1) && dv.testBit (j - i - 1))) := by
  intro j
  unfold turn
  by_cases e : j = i + 1 + k
  · rw [if_pos e, h j, show j - i - 1 = k by omega, hb, decide_eq_false (by omega), decide_eq_true (by omega)]
    simp
  · rw [if_neg e, h j, show (decide (i < j ∧ j - i - 1 < k + 1)) = decide (i < j ∧ j - i - 1 < k) by rw [decide_eq_decide]; omega]

theorem div_no {R R' : Nat → Bool} {i k : Nat} (h : ∀ j, R' j = (R j ^^ (decide (i < j ∧ j - i - 1 < k) && dv.testBit (j - i - 1)))) (hb : dv.testBit k = false) : ∀ j, R' j = (R j ^^ (decide (i < j ∧ j - i - 1 < k + 1) && dv.testBit (j - i - 1))) := by
  intro j
  by_cases e : j = i + 1 + k
  · rw [h j, show j - i - 1 = k by omega, hb]
    simp
  · rw [h j, show (decide (i < j ∧ j - i - 1 < k + 1)) = decide (i < j ∧ j - i - 1 < k) by rw [decide_eq_decide]; omega]

theorem div_all {R R' : Nat → Bool} {i : Nat} (h : ∀ j, R' j = (R j ^^ (decide (i < j ∧ j - i - 1 < 32) && dv.testBit (j - i - 1)))) : ∀ j, i < j → R' j = (R j ^^ dv.testBit (j - i - 1)) := by
  intro j hj
  rw [h j]
  by_cases e : j - i - 1 < 32
  · rw [decide_eq_true ⟨hj, e⟩, Bool.true_and]
  · rw [dv_none _ (by omega), Bool.and_false]

theorem text_at : ∀ k : Fin 32, (dv.testBit k.val = true → ((((⟨#[48, 48, 48, 48, 48, 49, 48, 48, 49, 49, 48, 48, 48, 48, 48, 49, 48, 48, 48, 49, 49, 49, 48, 49, 49, 48, 49, 49, 48, 49, 49, 49]⟩ : ByteArray)[k.val]'(k.isLt)).toNat : Int) == 49) = true) ∧ (dv.testBit k.val = false → ((((⟨#[48, 48, 48, 48, 48, 49, 48, 48, 49, 49, 48, 48, 48, 48, 48, 49, 48, 48, 48, 49, 49, 49, 48, 49, 49, 48, 49, 49, 48, 49, 49, 49]⟩ : ByteArray)[k.val]'(k.isLt)).toNat : Int) == 49) = false) := by decide
theorem text_yes (k : Nat) (h : k < 32) (hb : dv.testBit k = true) : ((((⟨#[48, 48, 48, 48, 48, 49, 48, 48, 49, 49, 48, 48, 48, 48, 48, 49, 48, 48, 48, 49, 49, 49, 48, 49, 49, 48, 49, 49, 48, 49, 49, 49]⟩ : ByteArray)[k]'h).toNat : Int) == 49) = true := (text_at ⟨k, h⟩).1 hb
theorem text_no (k : Nat) (h : k < 32) (hb : dv.testBit k = false) : ((((⟨#[48, 48, 48, 48, 48, 49, 48, 48, 49, 49, 48, 48, 48, 48, 48, 49, 48, 48, 48, 49, 49, 49, 48, 49, 49, 48, 49, 49, 48, 49, 49, 49]⟩ : ByteArray)[k]'h).toNat : Int) == 49) = false := (text_at ⟨k, h⟩).2 hb

theorem not_int (b : Bool) : ((!b).toNat : Int) = 1 - bI b := by cases b <;> rfl

theorem bI_le (b : Bool) : 0 ≤ bI b ∧ bI b ≤ 1 := by cases b <;> decide

/-- What left leaves: 32 cells with the bits that are left. -/
def LeftIs (s : Nat) (l : List UInt8) (w : World) (e : Ending) (w' : World) : Prop :=
  ∃ g o c', e = .returned (.slice (some ⟨g, o, none⟩) 32 c') ∧ (∀ j, j < 32 → w'.cell? ⟨g, o + j, none⟩ = some (.int .i64 (bI ((crc (4294967295 - s) l).testBit j)))) ∧ Below w.heap.size w w'

theorem left_end {l : List UInt8} {s m g c base : Nat} {R : Nat → Bool} {wr : World} (hm : m = 8 * l.length) (hR : RowIs R l (st (4294967295 - s) l m) m) (own : wr.ownsRow base 3 1 (.slice (some ⟨g, 0, none⟩) (m + 32) c) (m + 32) (rowOf (m + 32) R)) :
    ∀ j, j < 32 → wr.cell? ⟨g, m + j, none⟩ = some (.int .i64 (bI ((crc (4294967295 - s) l).testBit j))) := by
  intro j hj
  rw [own.cellAt (m + j) (by omega), rowOf_at _ _ _ (by omega), hR (m + j) (by omega), raw_none l _ (by omega), Nat.add_sub_cancel_left, Bool.false_xor, hm, st_all]

set_option maxRecDepth 100000 in
set_option maxHeartbeats 1000000 in
theorem left_any_ref (s : Nat) (A : Option Addr) (n c : Nat) (l : List UInt8) (w : World) (hs : s < 4294967296) (hl : Rd w w.heap.size A n c l) (hn : n ≤ 3000) :
    Calls Try.prog 19 #[.int .u32 (s : Int), .slice A n c] w (LeftIs s l w) := by
  obtain ⟨i0, hi0, hz0, hz1, hz2⟩ := info_parts int_info
  have HL := Lib.hid hl.len
  go_enter Try.func19, Try.ntmps19
  go_wp2
  go_loopw [5, 6] (fun v5 i6 wr => LRelA l w v5 i6 wr) (fun _ i6 _ => n - (intOf i6).toNat)
  case atStart => exact ⟨0, rfl, Nat.zero_le _, World.ownsRow_nil _ _ _ _, Below.refl _ _⟩
  case round =>
    obtain ⟨i, rfl, hi, hown, hbr⟩ := hrel
    by_cases hlt : i < n
    · obtain ⟨b, o, rfl, hbb, hc⟩ := hl.spot (by omega)
      have hi' : i < l.length := by rw [HL.out]; exact hlt
      have hcell := hc i hi'
      have hq := byte_lt l[i]
      have HRA := Lib.hid (fun k => raw_at l i k hi')
      clear hc
      generalize l[i].toNat = q at *
      go_wp2
      obtain ⟨wo, rfl⟩ : ∃ wo : World, wo = wr := ⟨_, rfl⟩
      go_loopw [5, 7] (fun v5 i7 wr => LRelB l i w v5 i7 wr) (fun _ i7 _ => 8 - (intOf i7).toNat)
      case atStart => exact ⟨0, rfl, by omega, hown, hbr⟩
      case round =>
        obtain ⟨k, rfl, hk, hown2, hbr2⟩ := hrel
        by_cases hk8 : k < 8
        · have hcell2 := (hbr2.cell (p := ⟨b, o + i, none⟩) hbb).trans hcell
          have HB : Hid (bI (raw l (8 * i + k)) = ((q / 2 ^ k : Nat) : Int) % 2) := bit_at (HRA.out k hk8)
          have hsh : (q : Int) / 2 ^ k = ((q / 2 ^ k : Nat) : Int) := by rw [Int.natCast_ediv, Int.natCast_pow]; rfl
          have hp : q / 2 ^ k < 256 := Nat.lt_of_le_of_lt (Nat.div_le_self _ _) hq
          generalize q / 2 ^ k = p at *
          go_wp2_with (at_builtin; refine wpList_append_own _ rfl (.tmp 21) (.tmp 31) 43 rfl w.heap.size 3 i0 (.int .i64 0) 1 8 Try.underlying43 hi0 hz0 hz1 hz2 rfl (by decide) _ _ _ rfl (hown2.alloc _) ⟨wr.heap.size, 0, none⟩ 1 1 [.int .i64 ((p : Int) % 2)] rfl rfl (one_src _ _ _) (one_one rfl) (by unfold maxLen; omega) (by omega) (Nat.le_trans hbr2.size (by simp)) ?_; intro v1 w1 hown1 hg1 hn1)
          go_roundw
          case rel => exact ⟨k + 1, by go_num, by omega, by rw [← HB.out, rowOf_snoc] at hown1; exact hown1, (hbr2.alloc hbr2.size _).grown hg1 (Nat.le_trans hbr2.size (by simp)) fun j hj => (hown2.lt j hj).1⟩
          case measure => simp [intOf]; omega
        · obtain rfl : k = 8 := by omega
          go_wp2
          go_roundw
          case rel => exact ⟨i + 1, by go_num, by omega, hown2, hbr2⟩
          case measure => simp [intOf]; omega
    · obtain rfl : i = n := by have := HL.out; omega
      have HZ := Lib.hid (rowOf_zeros (8 * i) 32 (raw l) (fun j hj => raw_none l j (by rw [HL.out]; exact hj)))
      go_wp2_with (at_builtin; refine wpList_append_zeros _ rfl (.tmp 33) (.const (.int .i64 32)) 43 3 rfl w.heap.size 3 .i64 i0 (.int .i64 0) 8 Try.underlying43 Try.underlying3 hi0 hz0 hz1 hz2 rfl rfl _ (8 * i) _ rfl hown .i64 32 32 rfl rfl (by unfold maxLen; omega) (by omega) hbr.size ?_; intro A1 K c1 w1 hK own1 hg1 ha1)
      have b1 : Below w.heap.size w w1 := hbr.grown hg1 hbr.size (fun j hj => (hown.lt j hj).1)
      rw [HZ.out, ← hK.out] at own1
      have hKs : K = 8 * i + 32 := hK.out
      obtain ⟨g, rfl⟩ : ∃ g, A1 = some ⟨g, 0, none⟩ := by
        rcases own1.2 with ⟨h, h0⟩ | ⟨g, cap, cur, h, _⟩
        · omega
        · injection h with h1 h2 h3
          exact ⟨g, h1⟩
      have hKl : K ≤ 24032 := by omega
      have HKS := Lib.hid hKs
      have h32 : 32 ≤ K := by omega
      clear hKs hown hg1 ha1 hK HZ hbr
      go_loopw [8] (fun i8 wr => LRelC l s K g c1 w i8 wr) (fun i8 _ => 32 - (intOf i8).toNat)
      case atStart => exact ⟨0, raw l, rfl, by omega, (fun j => by simp), own1, b1⟩
      case round =>
        rename_i wr
        obtain ⟨j, R, rfl, hj, hR, own2, b2⟩ := hrel
        clear own1 b1
        by_cases hlt2 : j < 32
        · have HR := Lib.hid hR
          clear hR
          have hcell := (own2.cellAt j (by omega)).trans (rowOf_at K R j (by omega))
          have hfr := own2.frozenAt j
          have hst := (own2.stored j (.int .i64 (1 - bI (R j)))).1
          rw [rowOf_turn] at hst
          have hb01 := bI_le (R j)
          have hsh : (s : Int) / 2 ^ j = ((s / 2 ^ j : Nat) : Int) := by rw [Int.natCast_ediv, Int.natCast_pow]; rfl
          have hp : s / 2 ^ j < 4294967296 := Nat.lt_of_le_of_lt (Nat.div_le_self _ _) hs
          have HT : Hid (s.testBit j = decide (s / 2 ^ j % 2 = 1)) := by
            show _ = _
            rw [← bit_zero, Nat.testBit_div_two_pow, Nat.zero_add]
          obtain ⟨h0, h1⟩ := hb01
          generalize bI (R j) = r at *
          generalize s / 2 ^ j = p at *
          rcases Nat.mod_two_eq_zero_or_one p with h2 | h2
          · have ht : ((p : Int) % 2 == 0) = true := by simp; omega
            go_wp2
            go_roundw
            case rel => exact ⟨j + 1, turn R j, by go_num, by omega, turn_yes HR.out (HT.out.trans (decide_eq_false (by omega))), hst, b2.setCell (p := ⟨g, j, none⟩) (own2.lt g rfl).1 _⟩
            case measure => simp [intOf]; omega
          · have ht : ((p : Int) % 2 == 0) = false := by simp; omega
            go_wp2
            go_roundw
            case rel => exact ⟨j + 1, R, by go_num, by omega, turn_no HR.out (HT.out.trans (decide_eq_true h2)), own2, b2⟩
            case measure => simp [intOf]; omega
        · obtain rfl : j = 32 := by omega
          have hR0 : RowIs R l (st (4294967295 - s) l 0) 0 := row_start hs hR
          clear hR
          go_wp2
          go_loopw [9] (fun i9 wr => LRelD l s K g c1 w i9 wr) (fun i9 _ => K - (intOf i9).toNat)
          case atStart => exact ⟨0, R, rfl, by omega, hR0, own2, b2⟩
          case round =>
            rename_i wr
            obtain ⟨m, R1, rfl, hm, hR1, own3, b3⟩ := hrel
            clear own2 b2 hR0
            by_cases hlt3 : m + 32 < K
            · have hcell := (own3.cellAt m (by omega)).trans (rowOf_at K R1 m (by omega))
              cases hbit : R1 m with
              | false =>
                rw [hbit] at hcell
                have hcell2 : wr.cell? ⟨g, m, none⟩ = some (.int .i64 0) := hcell
                have hR2 := hR1.zero hbit
                clear hbit hcell
                go_wp2
                go_roundw
                case rel => exact ⟨m + 1, R1, by go_num, by omega, hR2, own3, b3⟩
                case measure => simp [intOf]; omega
              | true =>
                rw [hbit] at hcell
                have hcell2 : wr.cell? ⟨g, m, none⟩ = some (.int .i64 1) := hcell
                have HBIT := Lib.hid hbit
                clear hbit hcell
                go_wp2
                obtain ⟨wo, rfl⟩ : ∃ wo : World, wo = wr := ⟨_, rfl⟩
                go_loopw [10] (fun i10 wr => LRelE R1 m K g c1 w i10 wr) (fun i10 _ => 32 - (intOf i10).toNat)
                case atStart => exact ⟨0, R1, rfl, by omega, (fun j => by simp), own3, b3⟩
                case round =>
                  rename_i wr
                  obtain ⟨k, R2, rfl, hk, hR2, own4, b4⟩ := hrel
                  by_cases hlt4 : k < 32
                  · have hcell4 := (own4.cellAt (m + 1 + k) (by omega)).trans (rowOf_at K R2 (m + 1 + k) (by omega))
                    have hfr := own4.frozenAt (m + 1 + k)
                    have hst := (own4.stored (m + 1 + k) (.int .i64 (1 - bI (R2 (m + 1 + k))))).1
                    rw [rowOf_turn] at hst
                    obtain ⟨h0, h1⟩ := bI_le (R2 (m + 1 + k))
                    have HR2 := Lib.hid hR2
                    clear hR2
                    generalize bI (R2 (m + 1 + k)) = r at *
                    cases hdv : dv.testBit k with
                    | true =>
                      have ht := text_yes k hlt4 hdv
                      have HDV := Lib.hid hdv
                      clear hdv
                      go_wp2
                      go_roundw
                      case rel => exact ⟨k + 1, turn R2 (m + 1 + k), by go_num, by omega, div_yes HR2.out HDV.out, hst, b4.setCell (p := ⟨g, m + 1 + k, none⟩) (own4.lt g rfl).1 _⟩
                      case measure => simp [intOf]; omega
                    | false =>
                      have ht := text_no k hlt4 hdv
                      have HDV := Lib.hid hdv
                      clear hdv
                      go_wp2
                      go_roundw
                      case rel => exact ⟨k + 1, R2, by go_num, by omega, div_no HR2.out HDV.out, own4, b4⟩
                      case measure => simp [intOf]; omega
                  · obtain rfl : k = 32 := by omega
                    have hR3 := hR1.one HBIT.out (div_all hR2)
                    clear hR2
                    go_wp2
                    go_roundw
                    case rel => exact ⟨m + 1, R2, by go_num, by omega, hR3, own4, b4⟩
                    case measure => simp [intOf]; omega
            · obtain rfl : K = m + 32 := by omega
              have hcap : m + 32 ≤ c1 := by
                rcases own3.2 with ⟨h, _⟩ | ⟨g', cap, cur, h, _, _, hnc, _⟩
                · cases h
                · injection h with h1 h2 h3
                  omega
              have hmi : m = 8 * l.length := by have := HKS.out; rw [HL.out]; omega
              have HE := Lib.hid (left_end hmi hR1 own3)
              clear hmi
              go_wp2
              go_ret
              exact ⟨g, m, _, rfl, HE.out, b3⟩

/-- A sum's bits from the top. -/
def ORel (y : Nat) (i7 n6 : Value) : Prop := ∃ (k v : Nat) (z : Int), k ≤ 32 ∧ z = (k : Int) - 1 ∧ v = y / 2 ^ k ∧ i7 = .int .i64 z ∧ n6 = .int .u32 (v : Int)

set_option maxRecDepth 100000 in
set_option maxHeartbeats 1000000 in
theorem refOn_any (s : Nat) (A : Option Addr) (n c : Nat) (l : List UInt8) (w : World) (hs : s < 4294967296) (hl : Rd w w.heap.size A n c l) (hn : n ≤ 3000) :
    Calls Try.prog 12 #[.int .u32 (s : Int), .slice A n c] w fun e w' => e = .returned (.int .u32 (sumOf s l : Int)) ∧ Below w.heap.size w w' := by
  go_enter Try.func12, Try.ntmps12
  go_wp2_with fail
  refine (left_any_ref s A n c l _ hs hl hn).mono ?_
  rintro e w1 ⟨g, o, c', rfl, hc, b1⟩
  have hx := crc_lt l (s := 4294967295 - s) (by omega)
  have HS : Hid (sumOf s l = 4294967295 - crc (4294967295 - s) l) := by exact rfl
  generalize crc (4294967295 - s) l = x at *
  have HC := Lib.hid hc
  clear hc
  go_wp2_with fail
  go_loop [7, 6] (fun i7 n6 => ORel (4294967295 - x) i7 n6) (fun i7 _ => (intOf i7 + 1).toNat)
  case atStart => exact ⟨32, 0, 31, by omega, by omega, (Nat.div_eq_of_lt (by omega)).symm, rfl, rfl⟩
  case round =>
    obtain ⟨k, v, z, hk, hz, hv, rfl, rfl⟩ := hrel
    cases k with
    | zero =>
      obtain rfl : z = -1 := by omega
      obtain rfl : v = 4294967295 - x := by rw [hv, Nat.pow_zero, Nat.div_one]
      clear hz hv
      go_wp2_with fail
      go_ret
      exact ⟨by rw [HS.out]; rfl, b1⟩
    | succ k =>
      obtain rfl : z = (k : Int) := by omega
      have hcell := HC.out k (by omega)
      have hN : (4294967295 - x) / 2 ^ k = 2 * v + ((4294967295 - x).testBit k).toNat := by rw [hv]; exact back_bit
      rw [not_bit hx, decide_eq_true (by omega), Bool.true_and] at hN
      have hle : (4294967295 - x) / 2 ^ k < 4294967296 := Nat.lt_of_le_of_lt (Nat.div_le_self _ _) (by omega)
      have hb := not_int (x.testBit k)
      obtain ⟨h0, h1⟩ := bI_le (x.testBit k)
      generalize bI (x.testBit k) = r at *
      generalize (!x.testBit k).toNat = d at *
      generalize hvn : (4294967295 - x) / 2 ^ k = v' at *
      have HV := Lib.hid hvn
      clear hvn hz hv
      have HN := Lib.hid hN
      have hv2 : 2 * v ≤ 4294967294 := by omega
      have HB := Lib.hid hb
      clear hN hb
      go_wp2_with fail
      go_round
      case rel => exact ⟨k, v', (k : Int) - 1, by omega, rfl, HV.out.symm, rfl, by have := HN.out; have := HB.out; congr 1; omega⟩
      case measure => simp [intOf]

set_option maxRecDepth 100000 in
theorem refOf_any (A : Option Addr) (n c : Nat) (l : List UInt8) (w : World) (hl : Rd w w.heap.size A n c l) (hn : n ≤ 3000) :
    Calls Try.prog 10 #[.slice A n c] w fun e w' => e = .returned (.int .u32 (sumOf 0 l : Int)) ∧ Below w.heap.size w w' := by
  go_enter Try.func10, Try.ntmps10
  go_wp2_with fail
  refine (refOn_any 0 A n c l _ (by omega) hl hn).mono ?_
  rintro e w1 ⟨rfl, b1⟩
  go_wp2_with fail
  go_ret
  exact ⟨rfl, b1⟩
end Go.Proofs.Ythimojebincheaa
