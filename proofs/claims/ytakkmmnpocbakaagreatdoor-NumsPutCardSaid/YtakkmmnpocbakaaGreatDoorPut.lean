/- What putBytes, Put, PutFour and PutText do: the bytes that were there, and behind them the number's, the four, or how many the text has and these. Conditions: sizes alone. -/
import Derived.Test.YtakkmmnpocbakaaGreatDoorBytesOf
namespace Go.Proofs.YtakkmmnpocbakaaGreatDoor
open Go.RowKit

set_option maxRecDepth 100000 in
set_option maxHeartbeats 400000 in
theorem putBytes_any (A1 A2 : Option Addr) (n1 c1 n2 c2 : Nat) (bs ms : List UInt8) (w : World) (h1 : Rd w w.heap.size A1 n1 c1 bs) (h2 : Rd w w.heap.size A2 n2 c2 ms) (hb : n1 + n2 ≤ 140737488355328) :
    Calls Tryz.prog 15 #[.slice A1 n1 c1, .slice A2 n2 c2] w fun e w' => ∃ A n c, e = .returned (.slice A n c) ∧ Fresh 5 w w' A n c (bs ++ ms) := by
  obtain ⟨i0, hi0, hz0, hz1, hz2⟩ := info_parts byte_info
  go_enter Tryz.func15, Tryz.ntmps15
  go_wp2_with (first
    | (at_make; refine wpList_make_own _ rfl _ _ 22 rfl w.heap.size 5 i0 (.int .u8 0) 1 Tryz.underlying22 hi0 hz0 hz1 .i64 .i64 _ (n1 + n2) rfl rfl (by omega) (by rw [hz2]; omega) (by unfold maxLen; omega) (Nat.le_refl _) ?_; intro w1 hown1 hg1; have hb1 : Below w.heap.size w w1 := (Below.refl _ _).grown hg1 (Nat.le_refl _) (by simp))
    | (at_builtin; refine wpList_append_rd _ rfl (.tmp 12) (.tmp 13) 22 rfl w.heap.size 5 i0 Tryz.underlying22 hi0 hz0 hz1 hz2 _ 0 [] rfl hown1 w.heap.size A1 n1 c1 bs rfl (h1.below hb1) (by omega) hb1.size ?_; intro A3 n3 c3 w2 hn3 hown2 hg2 hat2; have hb2 : Below w.heap.size w w2 := hb1.grown hg2 hb1.size (fun k hk => (hown1.lt k hk).1))
    | (at_builtin; refine wpList_append_rd _ rfl (.tmp 15) (.tmp 16) 22 rfl w.heap.size 5 i0 Tryz.underlying22 hi0 hz0 hz1 hz2 _ n3 ([] ++ bs) rfl hown2 w.heap.size A2 n2 c2 ms rfl (h2.below hb2) (by rw [hn3.out]; omega) hb2.size ?_; intro A4 n4 c4 w3 hn4 hown3 hg3 hat3))
  go_ret
  exact ⟨A4, n4, c4, rfl, hown3, hb2.grown hg3 hb2.size hat2⟩

theorem bytesOf_int (z : Int) (w : World) (h0 : 0 ≤ z) (h1 : z < 18446744073709551616) :
    Calls Tryz.prog 16 #[.int .u64 z] w fun e w' => ∃ A n c, e = .returned (.slice A n c) ∧ Fresh 5 w w' A n c (Lib.uvarint z.toNat) := by
  obtain ⟨x, rfl⟩ := Int.eq_ofNat_of_zero_le h0
  exact bytesOf_any x w (by omega)

/-- A row of the call's own stands while new blocks come. -/
theorem Fresh.trans {w w1 w2 : World} {A : Option Addr} {n c : Nat} {l : List UInt8} (hb : Below w.heap.size w w1) (h : Fresh 5 w1 w2 A n c l) : Fresh 5 w w2 A n c l := by
  refine ⟨⟨h.own.1, ?_⟩, hb.trans (h.bel.mono hb.size)⟩
  rcases h.own.2 with hn | ⟨g, cap, cur, hv, hg, r⟩
  · exact .inl hn
  · exact .inr ⟨g, cap, cur, hv, Nat.le_trans hb.size hg, r⟩

set_option maxRecDepth 100000 in
set_option maxHeartbeats 400000 in
theorem put_any (A : Option Addr) (n c : Nat) (bs : List UInt8) (z : Int) (w : World) (h : Rd w w.heap.size A n c bs) (h0 : 0 ≤ z) (h1 : z < 18446744073709551616) (hb : n ≤ 140737488351232) :
    Calls Tryz.prog 5 #[.slice A n c, .int .u64 z] w fun e w' => ∃ A' n' c', e = .returned (.slice A' n' c') ∧ Fresh 5 w w' A' n' c' (bs ++ Lib.uvarint z.toNat) := by
  have H1 := Lib.hid h1
  clear h1
  go_enter Tryz.func5, Tryz.ntmps5
  go_wp2_with fail
  refine (bytesOf_int z _ h0 H1.out).mono ?_
  rintro e w1 ⟨A1, n1, c1, rfl, hf1⟩
  have hl1 : n1 ≤ 10 := by have := hf1.len; have := Lib.uvarint_length64 (x := z.toNat) (by have := H1.out; omega); omega
  go_wp2_with fail
  refine (putBytes_any A A1 n c n1 c1 bs _ _ (h.at_size (Nat.le_refl _) hf1.bel) hf1.rd (by omega)).mono ?_
  rintro e w2 ⟨A2, n2, c2, rfl, hf2⟩
  go_wp2_with fail
  go_ret
  exact ⟨A2, n2, c2, rfl, hf2.trans hf1.bel⟩

/-- A number's four bytes. -/
def four (x : Nat) : List UInt8 := [(x % 256).toUInt8, (x / 256 % 256).toUInt8, (x / 65536 % 256).toUInt8, (x / 16777216 % 256).toUInt8]

set_option maxRecDepth 100000 in
set_option maxHeartbeats 400000 in
theorem putFour_any (A : Option Addr) (n c : Nat) (bs : List UInt8) (z : Int) (w : World) (h : Rd w w.heap.size A n c bs) (h0 : 0 ≤ z) (h1 : z < 4294967296) (hb : n ≤ 140737488351232) :
    Calls Tryz.prog 6 #[.slice A n c, .int .u32 z] w fun e w' => ∃ A' n' c', e = .returned (.slice A' n' c') ∧ Fresh 5 w w' A' n' c' (bs ++ four z.toNat) := by
  have hcs : (#[Value.int .u8 (z % 256), .int .u8 (z / 256 % 256), .int .u8 (z / 65536 % 256), .int .u8 (z / 16777216)] : Array Value).toList = Lib.byteCells (four z.toNat) := by
    obtain ⟨x, rfl⟩ := Int.eq_ofNat_of_zero_le h0
    simp only [four, Lib.byteCells, List.map_cons, List.map_nil, Int.toNat_natCast]
    rw [Lib.toUInt8_toNat (by omega), Lib.toUInt8_toNat (by omega), Lib.toUInt8_toNat (by omega), Lib.toUInt8_toNat (by omega)]
    have e1 : ((x : Int) % 256) = ((x % 256 : Nat) : Int) := by omega
    have e2 : ((x : Int) / 256 % 256) = ((x / 256 % 256 : Nat) : Int) := by omega
    have e3 : ((x : Int) / 65536 % 256) = ((x / 65536 % 256 : Nat) : Int) := by omega
    have e4 : ((x : Int) / 16777216) = ((x / 16777216 % 256 : Nat) : Int) := by omega
    rw [e1, e2, e3, e4]
  have HC := Lib.hid hcs
  clear hcs
  go_enter Tryz.func6, Tryz.ntmps6
  go_wp2_with fail
  have hb1 : ∀ o : Obj, Below w.heap.size w (w.alloc o) := fun o => (Below.refl _ _).alloc (Nat.le_refl _) o
  refine (putBytes_any A _ n c 4 4 bs (four z.toNat) _ (h.at_size (Nat.le_refl _) (hb1 _)) (Rd.new w _ 5 4 _ HC.out rfl (by decide)) (by omega)).mono ?_
  rintro e w2 ⟨A2, n2, c2, rfl, hf2⟩
  go_wp2_with fail
  go_ret
  exact ⟨A2, n2, c2, rfl, hf2.trans (hb1 _)⟩

set_option maxRecDepth 100000 in
set_option maxHeartbeats 400000 in
theorem putText_any (A : Option Addr) (n c : Nat) (bs : List UInt8) (s : ByteArray) (w : World) (h : Rd w w.heap.size A n c bs) (hs : s.size ≤ 140737488351232) (hb : n + s.size ≤ 140737488351232) :
    Calls Tryz.prog 7 #[.slice A n c, .string s] w fun e w' => ∃ A' n' c', e = .returned (.slice A' n' c') ∧ Fresh 5 w w' A' n' c' (bs ++ (Lib.uvarint s.size ++ s.data.toList)) := by
  obtain ⟨i0, hi0, hz0, hz1, hz2⟩ := info_parts byte_info
  go_enter Tryz.func7, Tryz.ntmps7
  go_wp2_with fail
  refine (bytesOf_any s.size _ (by omega)).mono ?_
  rintro e w1 ⟨A1, n1, c1, rfl, hf1⟩
  have hl1 : n1 ≤ 10 := by have := hf1.len; have := Lib.uvarint_length64 (x := s.size) (by omega); omega
  go_wp2_with (at_builtin; refine wpList_append_text _ rfl (.tmp 9) (.tmp 10) 22 9 rfl w.heap.size 5 i0 Tryz.underlying22 Tryz.underlying9 hi0 hz0 hz1 hz2 _ n1 _ rfl hf1.own s rfl (by omega) hf1.bel.size ?_; intro A2 n2 c2 w2 hn2 hown2 hg2 hat2)
  have hb2 : Below w.heap.size w w2 := hf1.bel.grown hg2 hf1.bel.size (fun k hk => (hf1.own.lt k hk).1)
  refine (putBytes_any A A2 n c n2 c2 bs _ _ (h.at_size (Nat.le_refl _) hb2) (Rd.of_own hown2) (by rw [hn2.out]; omega)).mono ?_
  rintro e w3 ⟨A3, n3, c3, rfl, hf3⟩
  go_wp2_with fail
  go_ret
  exact ⟨A3, n3, c3, rfl, hf3.trans hb2⟩

end Go.Proofs.YtakkmmnpocbakaaGreatDoor
