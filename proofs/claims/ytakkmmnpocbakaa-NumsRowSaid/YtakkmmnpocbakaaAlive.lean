/- The document's own examples, as the statements ask them: they come out as it says. No condition. -/
import Derived.Test.YtakkmmnpocbakaaGetText
namespace Go.Proofs.Ytakkmmnpocbakaa
open Go.RowKit

theorem Below.next {w a a' : World} {o : Obj} (h : Below w.heap.size w a) (k : Below (a.alloc o).heap.size (a.alloc o) a') : Below w.heap.size w a' :=
  (h.alloc h.size o).trans (k.mono (Nat.le_trans h.size (by simp)))

theorem Below.then {w a a' : World} (h : Below w.heap.size w a) (k : Below a.heap.size a a') : Below w.heap.size w a' := h.trans (k.mono h.size)

theorem below_drewN (w : World) (k : Nat) : Below w.heap.size w (w.drewN k) := ⟨rfl, rfl, rfl, Nat.le_refl _, fun _ _ => rfl⟩

theorem Rd.drew {w : World} {B : Nat} {A : Option Addr} {n c : Nat} {l : List UInt8} (h : Rd w B A n c l) : Rd w.drew B A n c l := h.keep fun _ _ => rfl
theorem Rd.drewN {w : World} {B : Nat} {A : Option Addr} {n c : Nat} {l : List UInt8} (h : Rd w B A n c l) (k : Nat) : Rd (w.drewN k) B A n c l := h.keep fun _ _ => rfl

section
variable {B : Nat} {A : Option Addr} {n c : Nat} {l : List UInt8} (w : World) (h : Rd w B A n c l)
include h
theorem get_now {m k : Nat} {z : Int} (hg : getL l = (m, k, z)) :
    Calls Try.prog 9 #[.slice A n c] w fun e w' => e = .returned (.tuple #[.int .u64 (m : Int), .int .i64 (k : Int), .int .i64 z]) ∧ Below w.heap.size w w' :=
  (get_at w h hg).mono fun _ _ ⟨he, hw⟩ => ⟨he, hw ▸ Below.refl _ _⟩
theorem four_now {v : Value} (hg : gotFour l = v) : Calls Try.prog 11 #[.slice A n c] w fun e w' => e = .returned v ∧ Below w.heap.size w w' :=
  (getFour_any B A n c l w h).mono fun _ _ ⟨he, k, hw⟩ => ⟨hg ▸ he, hw ▸ below_drewN w k⟩
theorem text_now {a : List UInt8} {b : Nat} {z : Int} {s : ByteArray} (hg : textL l = (a, b, z)) (hs : str a = s) :
    Calls Try.prog 13 #[.slice A n c] w fun e w' => e = .returned (.tuple #[.string s, .int .i64 (b : Int), .int .i64 z]) ∧ Below w.heap.size w w' :=
  (getText_any B A n c l w h).mono fun _ _ ⟨he, hw⟩ => ⟨by rw [he, hg, gotText, hs], hw ▸ Below.refl _ _⟩
end

theorem rd_lit (w : World) (cs : Array Value) (n : Nat) (l : List UInt8) (hcs : cs.toList = Lib.byteCells l) (hn : l.length = n) (hm : n ≤ maxLen) :
    Rd (w.alloc (.cells cs 5)) (w.alloc (.cells cs 5)).heap.size (some ⟨w.heap.size, 0, none⟩) n n l := Rd.new w cs 5 n l hcs hn hm

theorem uv300 : Lib.uvarint 300 = [172, 2] := by rw [Lib.uvarint_big (by decide), Lib.uvarint_small (by decide)]; rfl
theorem uv0 : Lib.uvarint 0 = [0] := by rw [Lib.uvarint_small (by decide)]; rfl
theorem uv2 : Lib.uvarint 2 = [2] := by rw [Lib.uvarint_small (by decide)]; rfl

theorem uvmax : ([] ++ Lib.uvarint (18446744073709551615 : Int).toNat).length = 10 := by
  rw [show (18446744073709551615 : Int).toNat = 18446744073709551615 from rfl]
  rw [Lib.uvarint_big (by decide), Lib.uvarint_big (by decide), Lib.uvarint_big (by decide), Lib.uvarint_big (by decide), Lib.uvarint_big (by decide), Lib.uvarint_big (by decide), Lib.uvarint_big (by decide), Lib.uvarint_big (by decide), Lib.uvarint_big (by decide), Lib.uvarint_small (by decide)]
  rfl

theorem conv_now {w : World} {B : Nat} {A : Option Addr} {n c : Nat} {l : List UInt8} {s : ByteArray} (h : Rd w B A n c l) (hs : str l = s) : (convert 22 9 (.slice A n c)).run Try.prog w = .ok (.string s) w := by
  rw [rd_convert h 22 5 9 Try.underlying22 Try.underlying5 Try.underlying9, hs]

set_option maxRecDepth 100000 in
set_option maxHeartbeats 1000000 in
theorem alive_any (w : World) : Calls Try.prog 16 #[] w fun e w' => e = .returned (.bool true) ∧ Below w.heap.size w w' := by
  go_enter Try.func16, Try.ntmps16
  go_wp2_with fail
  refine (get_now (m := 300) (k := 2) (z := 0) _ (rd_lit _ _ 3 [172, 2, 7] rfl rfl (by decide)) (by decide)).mono ?_
  rintro e w1 ⟨rfl, b1⟩
  replace b1 := Below.next (Below.refl _ _) b1
  go_wp2_with fail
  refine (get_now (m := 0) (k := 0) (z := 5) _ (rd_lit _ _ 1 [128] rfl rfl (by decide)) (by decide)).mono ?_
  rintro e w2 ⟨rfl, b2⟩
  replace b2 := Below.next b1 b2
  clear b1
  go_wp2_with fail
  refine (get_now (m := 0) (k := 0) (z := 4) _ (rd_lit _ _ 2 [128, 0] rfl rfl (by decide)) (by decide)).mono ?_
  rintro e w3 ⟨rfl, b3⟩
  replace b3 := Below.next b2 b3
  clear b2
  go_wp2_with fail
  refine (get_now (m := 0) (k := 0) (z := 4) _ (rd_lit _ _ 10 [255, 255, 255, 255, 255, 255, 255, 255, 255, 2] rfl rfl (by decide)) (by decide)).mono ?_
  rintro e w4 ⟨rfl, b4⟩
  replace b4 := Below.next b3 b4
  clear b3
  go_wp2_with fail
  refine (four_now (v := .tuple #[.int .u32 258, .int .i64 0]) _ (rd_lit _ _ 5 [2, 1, 0, 0, 5] rfl rfl (by decide)) rfl).mono ?_
  rintro e w5 ⟨rfl, b5⟩
  replace b5 := Below.next b4 b5
  clear b4
  go_wp2_with fail
  refine (four_now (v := .tuple #[.int .u32 0, .int .i64 5]) _ (rd_lit _ _ 3 [2, 1, 0] rfl rfl (by decide)) rfl).mono ?_
  rintro e w6 ⟨rfl, b6⟩
  replace b6 := Below.next b5 b6
  clear b5
  go_wp2_with fail
  refine (text_now (a := [97, 98]) (b := 3) (z := 0) (s := ⟨#[97, 98]⟩) _ (rd_lit _ _ 4 [2, 97, 98, 99] rfl rfl (by decide)) (by decide) rfl).mono ?_
  rintro e w7 ⟨rfl, b7⟩
  replace b7 := Below.next b6 b7
  clear b6
  go_wp2_with fail
  refine (text_now (a := []) (b := 0) (z := 5) (s := ⟨#[]⟩) _ (rd_lit _ _ 2 [2, 97] rfl rfl (by decide)) (by decide) rfl).mono ?_
  rintro e w8 ⟨rfl, b8⟩
  replace b8 := Below.next b7 b8
  clear b7
  go_wp2_with fail
  refine (put_any _ 1 1 [9] 300 _ (rd_lit _ _ 1 [9] rfl rfl (by decide)) (by decide) (by decide) (by decide)).mono ?_
  rintro e w9 ⟨A9, n9, c9, rfl, f9⟩
  have b9 := Below.next b8 f9.bel
  clear b8
  have cv := conv_now (s := ⟨#[9, 172, 2]⟩) f9.rd (by rw [show (300 : Int).toNat = 300 from rfl, uv300]; rfl)
  go_wp2_with fail
  clear cv
  refine (put_any none 0 0 [] 0 _ (Rd.nil _ _) (by decide) (by decide) (by decide)).mono ?_
  rintro e w10 ⟨A10, n10, c10, rfl, f10⟩
  have b10 := Below.then b9 f10.bel
  clear b9
  have cv := conv_now (s := ⟨#[0]⟩) f10.rd (by rw [show (0 : Int).toNat = 0 from rfl, uv0]; rfl)
  go_wp2_with fail
  clear cv
  refine (put_any none 0 0 [] 18446744073709551615 _ (Rd.nil _ _) (by decide) (by decide) (by decide)).mono ?_
  rintro e w11 ⟨A11, n11, c11, rfl, f11⟩
  have b11 := Below.then b10 f11.bel
  clear b10
  obtain rfl : n11 = 10 := by rw [← f11.len]; exact uvmax
  go_wp2_with fail
  refine (putFour_any none 0 0 [] 258 _ (Rd.nil _ _) (by decide) (by decide) (by decide)).mono ?_
  rintro e w12 ⟨A12, n12, c12, rfl, f12⟩
  have b12 := Below.then b11 f12.bel
  clear b11
  have cv := conv_now (s := ⟨#[2, 1, 0, 0]⟩) f12.rd (by rfl)
  go_wp2_with fail
  clear cv
  refine (putText_any none 0 0 [] ⟨#[97, 98]⟩ _ (Rd.nil _ _) (by decide) (by decide)).mono ?_
  rintro e w13 ⟨A13, n13, c13, rfl, f13⟩
  have b13 := Below.then b12 f13.bel
  clear b12
  have cv := conv_now (s := ⟨#[2, 97, 98]⟩) f13.rd (by rw [show (ByteArray.mk #[97, 98]).size = 2 from rfl, uv2]; rfl)
  go_wp2_with fail
  go_ret
  exact ⟨rfl, b13⟩

end Go.Proofs.Ytakkmmnpocbakaa
