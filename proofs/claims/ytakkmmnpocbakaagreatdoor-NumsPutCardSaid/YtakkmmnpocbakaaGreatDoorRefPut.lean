/- What the document's own Put, PutFour and PutText answer: the same as the program's. Conditions: sizes. -/
import Derived.Test.YtakkmmnpocbakaaGreatDoorTwin
namespace Go.Proofs.YtakkmmnpocbakaaGreatDoor
open Go.RowKit

/-- y is left, pre is put; together they are T. -/
def PRel (T : List UInt8) (w : World) (m v : Value) (wr : World) : Prop :=
  ∃ (y : Nat) (pre : List UInt8), m = .int .u64 (y : Int) ∧ y < 18446744073709551616 ∧ pre ++ Lib.uvarint y = T ∧
    wr.ownsRow w.heap.size 5 1 v pre.length (Lib.byteCells pre) ∧ Below w.heap.size w wr

theorem prel_next {T : List UInt8} {w wr w1 : World} {v v1 : Value} {y : Nat} {pre : List UInt8} (o : Obj) (hy : y < 18446744073709551616) (hlt : 128 ≤ y) (he : pre ++ Lib.uvarint y = T)
    (hown : wr.ownsRow w.heap.size 5 1 v pre.length (Lib.byteCells pre)) (hbel : Below w.heap.size w wr)
    (hown1 : w1.ownsRow w.heap.size 5 1 v1 (pre.length + 1) (Lib.byteCells pre ++ [.int .u8 ((y : Int) % 128 + 128)])) (hg : (wr.alloc o).grownBy w1 v.ownBlock) :
    PRel T w (.int .u64 ((y : Int) / 128)) v1 w1 := by
  refine ⟨y / 128, pre ++ [(y % 128 + 128).toUInt8], by simp, by omega, ?_, snoc_own (by omega) (by omega) hown1, ?_⟩
  · rw [← he, Lib.uvarint_big hlt]
    simp
  · exact (hbel.alloc hbel.size o).grown hg (Nat.le_trans hbel.size (by simp)) fun k hk => (hown.lt k hk).1

theorem prel_end {T : List UInt8} {w wr w1 : World} {v v1 : Value} {y : Nat} {pre : List UInt8} (o : Obj) (hlt : y < 128) (he : pre ++ Lib.uvarint y = T)
    (hown : wr.ownsRow w.heap.size 5 1 v pre.length (Lib.byteCells pre)) (hbel : Below w.heap.size w wr)
    (hown1 : w1.ownsRow w.heap.size 5 1 v1 (pre.length + 1) (Lib.byteCells pre ++ [.int .u8 (y : Int)])) (hg : (wr.alloc o).grownBy w1 v.ownBlock) :
    ∃ A n c, Ending.returned v1 = .returned (.slice A n c) ∧ Fresh 5 w w1 A n c T := by
  have ho := snoc_own (a := y) (by omega) rfl hown1
  rw [← Lib.uvarint_small hlt, he] at ho
  obtain ⟨A, c, rfl⟩ := own_form ho
  exact ⟨A, _, c, rfl, ho, (hbel.alloc hbel.size o).grown hg (Nat.le_trans hbel.size (by simp)) fun k hk => (hown.lt k hk).1⟩

set_option maxRecDepth 100000 in
set_option maxHeartbeats 400000 in
theorem rput_any (A : Option Addr) (n c : Nat) (bs : List UInt8) (x : Nat) (w : World) (h : Rd w w.heap.size A n c bs) (hx : x < 18446744073709551616) (hb : n ≤ 140737488351232) :
    Calls Tryz.prog 9 #[.slice A n c, .int .u64 (x : Int)] w fun e w' => ∃ A n c, e = .returned (.slice A n c) ∧ Fresh 5 w w' A n c (bs ++ Lib.uvarint x) := by
  obtain ⟨i0, hi0, hz0, hz1, hz2⟩ := info_parts byte_info
  have hlen := Lib.uvarint_length64 hx
  have HX := Lib.hid hx
  have HL := Lib.hid h.len
  clear hx
  go_enter Tryz.func9, Tryz.ntmps9
  go_wp2_with (at_builtin; refine wpList_append_rd _ rfl (.const (.slice none 0 0)) (.tmp 6) 22 rfl w.heap.size 5 i0 Tryz.underlying22 hi0 hz0 hz1 hz2 (.slice none 0 0) 0 [] rfl (World.ownsRow_nil _ _ _ _) w.heap.size A n c bs rfl h (by omega) (Nat.le_refl _) ?_; intro A1 n1 c1 w1 hn1 own1 hg1 ha1)
  have b1 : Below w.heap.size w w1 := (Below.refl _ _).grown hg1 (Nat.le_refl _) (by simp [Value.ownBlock])
  have hl1 : n1 = bs.length := by have := own_len own1; simpa using this.symm
  go_loopw [1, 5] (fun m v wr => PRel (bs ++ Lib.uvarint x) w m v wr) (fun m _ _ => (intOf m).toNat)
  case atStart => exact ⟨x, bs, rfl, HX.out, rfl, by rw [hl1] at own1; simpa [hl1] using own1, b1⟩
  case round =>
    obtain ⟨y, pre, rfl, hy, he, hown, hbel⟩ := hrel
    have HE := Lib.hid he
    have HY := Lib.hid hy
    have hpl : pre.length + (Lib.uvarint y).length = (bs ++ Lib.uvarint x).length := by rw [← he, List.length_append]
    have hp1 := Lib.uvarint_pos y
    rw [List.length_append, HL.out] at hpl
    have hp2 : pre.length + 1 ≤ n + 10 := by omega
    clear hpl hp1 he hy own1 b1 hg1 ha1 hn1 hl1
    by_cases hlt : 128 ≤ y
    · have hd : decide (128 ≤ (y : Int)) = true := by simp; omega
      have hw1 : IntKind.u64.wrap ((y : Int) % 128 + 128) = (y : Int) % 128 + 128 := by rw [IntKind.wrap_u64]; omega
      have hw2 : IntKind.u64.wrap ((y : Int) / 128) = (y : Int) / 128 := by rw [IntKind.wrap_u64]; have := HY.out; omega
      have hw3 : ((y : Int) % 128 + 128) % 256 = (y : Int) % 128 + 128 := by omega
      go_wp2_with (at_builtin; refine wpList_append_own _ rfl (.tmp 10) (.tmp 15) 22 rfl w.heap.size 5 i0 (.int .u8 0) 1 1 Tryz.underlying22 hi0 hz0 hz1 hz2 rfl (by decide) _ _ _ rfl (hown.alloc _) ⟨wr.heap.size, 0, none⟩ 1 1 [.int .u8 ((y : Int) % 128 + 128)] rfl rfl (one_src _ _ _) (one_one rfl) (by unfold maxLen; omega) (by omega) (Nat.le_trans hbel.size (by simp)) ?_; intro v1 w1 hown1 hg1 hn1)
      go_roundw
      case rel => exact prel_next _ HY.out hlt HE.out hown hbel hown1 hg1
      case measure => simp [intOf]; omega
    · have hd : decide (128 ≤ (y : Int)) = false := by simp; omega
      have hm : (y : Int) % 256 = y := by omega
      go_wp2_with (at_builtin; refine wpList_append_own _ rfl (.tmp 19) (.tmp 22) 22 rfl w.heap.size 5 i0 (.int .u8 0) 1 1 Tryz.underlying22 hi0 hz0 hz1 hz2 rfl (by decide) _ _ _ rfl (hown.alloc _) ⟨wr.heap.size, 0, none⟩ 1 1 [.int .u8 (y : Int)] rfl rfl (one_src _ _ _) (one_one rfl) (by unfold maxLen; omega) (by omega) (Nat.le_trans hbel.size (by simp)) ?_; intro v1 w1 hown1 hg1 hn1)
      go_ret
      exact prel_end _ (by omega) HE.out hown hbel hown1 hg1

set_option maxRecDepth 100000 in
set_option maxHeartbeats 400000 in
theorem rputText_any (A : Option Addr) (n c : Nat) (bs : List UInt8) (s : ByteArray) (w : World) (h : Rd w w.heap.size A n c bs) (hs : s.size ≤ 140737488351232) (hb : n + s.size ≤ 140737488351232) :
    Calls Tryz.prog 11 #[.slice A n c, .string s] w fun e w' => ∃ A' n' c', e = .returned (.slice A' n' c') ∧ Fresh 5 w w' A' n' c' (bs ++ (Lib.uvarint s.size ++ s.data.toList)) := by
  obtain ⟨i0, hi0, hz0, hz1, hz2⟩ := info_parts byte_info
  go_enter Tryz.func11, Tryz.ntmps11
  go_wp2_with fail
  refine (rput_any A n c bs s.size _ h (by omega) (by omega)).mono ?_
  rintro e w1 ⟨A1, n1, c1, rfl, hf1⟩
  have hl1 : n1 ≤ n + 10 := by
    have h1 := hf1.len
    have h2 := Lib.uvarint_length64 (x := s.size) (by omega)
    have h3 := h.len
    rw [List.length_append] at h1
    omega
  go_wp2_with (at_builtin; refine wpList_append_text _ rfl (.tmp 9) (.tmp 10) 22 9 rfl w.heap.size 5 i0 Tryz.underlying22 Tryz.underlying9 hi0 hz0 hz1 hz2 _ n1 _ rfl hf1.own s rfl (by omega) hf1.bel.size ?_; intro A2 n2 c2 w2 hn2 hown2 hg2 hat2)
  go_ret
  rw [List.append_assoc] at hown2
  exact ⟨A2, n2, c2, rfl, hown2, hf1.bel.grown hg2 hf1.bel.size (fun k hk => (hf1.own.lt k hk).1)⟩

/-- So many bytes of a number, the lowest first. -/
def dig : Nat → Nat → List UInt8
  | 0, _ => []
  | k + 1, y => (y % 256).toUInt8 :: dig k (y / 256)

theorem four_dig (x : Nat) : four x = dig 4 x := by
  simp only [four, dig]
  rw [Nat.div_div_eq_div_mul, Nat.div_div_eq_div_mul]

def DRel (T : List UInt8) (w : World) (m v i6 : Value) (wr : World) : Prop :=
  ∃ (i y : Nat) (pre : List UInt8), m = .int .u32 (y : Int) ∧ i6 = .int .i64 (i : Int) ∧ i ≤ 4 ∧ y < 4294967296 ∧ pre ++ dig (4 - i) y = T ∧ wr.ownsRow w.heap.size 5 1 v pre.length (Lib.byteCells pre) ∧ Below w.heap.size w wr

theorem drel_next {T : List UInt8} {w wr w1 : World} {v v1 : Value} {i y : Nat} {pre : List UInt8} (o : Obj) (hi : i < 4) (hy : y < 4294967296) (he : pre ++ dig (4 - i) y = T)
    (hown : wr.ownsRow w.heap.size 5 1 v pre.length (Lib.byteCells pre)) (hbel : Below w.heap.size w wr)
    (hown1 : w1.ownsRow w.heap.size 5 1 v1 (pre.length + 1) (Lib.byteCells pre ++ [.int .u8 ((y : Int) % 256)])) (hg : (wr.alloc o).grownBy w1 v.ownBlock) :
    DRel T w (.int .u32 ((y : Int) / 256)) v1 (.int .i64 ((i : Int) + 1)) w1 := by
  refine ⟨i + 1, y / 256, pre ++ [(y % 256).toUInt8], by simp, by simp, by omega, by omega, ?_, snoc_own (by omega) (by omega) hown1, ?_⟩
  · rw [← he, show 4 - i = (4 - (i + 1)) + 1 by omega, dig]
    simp
  · exact (hbel.alloc hbel.size o).grown hg (Nat.le_trans hbel.size (by simp)) fun k hk => (hown.lt k hk).1

set_option maxRecDepth 100000 in
set_option maxHeartbeats 400000 in
theorem rputFour_any (A : Option Addr) (n c : Nat) (bs : List UInt8) (x : Nat) (w : World) (h : Rd w w.heap.size A n c bs) (hx : x < 4294967296) (hb : n ≤ 140737488351232) :
    Calls Tryz.prog 10 #[.slice A n c, .int .u32 (x : Int)] w fun e w' => ∃ A n c, e = .returned (.slice A n c) ∧ Fresh 5 w w' A n c (bs ++ four x) := by
  obtain ⟨i0, hi0, hz0, hz1, hz2⟩ := info_parts byte_info
  have HL := Lib.hid h.len
  go_enter Tryz.func10, Tryz.ntmps10
  go_wp2_with (at_builtin; refine wpList_append_rd _ rfl (.const (.slice none 0 0)) (.tmp 7) 22 rfl w.heap.size 5 i0 Tryz.underlying22 hi0 hz0 hz1 hz2 (.slice none 0 0) 0 [] rfl (World.ownsRow_nil _ _ _ _) w.heap.size A n c bs rfl h (by omega) (Nat.le_refl _) ?_; intro A1 n1 c1 w1 hn1 own1 hg1 ha1)
  have b1 : Below w.heap.size w w1 := (Below.refl _ _).grown hg1 (Nat.le_refl _) (by simp [Value.ownBlock])
  have hl1 : n1 = bs.length := by have := own_len own1; simpa using this.symm
  go_loopw [1, 5, 6] (fun m v i6 wr => DRel (bs ++ four x) w m v i6 wr) (fun _ _ i6 _ => 4 - (intOf i6).toNat)
  case atStart => exact ⟨0, x, bs, rfl, rfl, by omega, hx, by rw [four_dig], by rw [hl1] at own1; simpa [hl1] using own1, b1⟩
  case round =>
    obtain ⟨i, y, pre, rfl, rfl, hi, hy, he, hown, hbel⟩ := hrel
    have HE := Lib.hid he
    have hpl : pre.length ≤ (bs ++ four x).length := by rw [← he, List.length_append]; omega
    rw [List.length_append, HL.out] at hpl
    have hp2 : pre.length ≤ n + 4 := hpl
    clear hpl he own1 b1 hg1 ha1 hn1 hl1
    by_cases hlt : i < 4
    · have hd : decide ((i : Int) < 4) = true := by simp; omega
      have hm : (y : Int) % 256 % 256 = (y : Int) % 256 := by omega
      go_wp2_with (at_builtin; refine wpList_append_own _ rfl (.tmp 13) (.tmp 17) 22 rfl w.heap.size 5 i0 (.int .u8 0) 1 1 Tryz.underlying22 hi0 hz0 hz1 hz2 rfl (by decide) _ _ _ rfl (hown.alloc _) ⟨wr.heap.size, 0, none⟩ 1 1 [.int .u8 ((y : Int) % 256)] rfl rfl (one_src _ _ _) (one_one rfl) (by unfold maxLen; omega) (by omega) (Nat.le_trans hbel.size (by simp)) ?_; intro v1 w1 hown1 hg1 hn1)
      go_roundw
      case rel => exact drel_next _ hlt hy HE.out hown hbel hown1 hg1
      case measure => simp [intOf]; omega
    · have hd : decide ((i : Int) < 4) = false := by simp; omega
      obtain ⟨A2, c2, hv⟩ := own_form hown
      subst hv
      go_wp2_with fail
      go_ret
      have he := HE.out
      rw [show 4 - i = 0 by omega, dig, List.append_nil] at he
      subst he
      exact ⟨A2, _, c2, rfl, hown, hbel⟩

end Go.Proofs.YtakkmmnpocbakaaGreatDoor
