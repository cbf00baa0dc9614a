/- Proved: however many noughts, whatever the bytes, SumsLost answers true: noughts behind four bytes 255 change nothing. No condition. -/
import Derived.Test.YthimojebincheaaAlive
import Derived.Test.YthimojebincheaaZeros
import Derived.Test.YthimojebincheaaOpen
import Derived.Test.YthimojebincheaaRows
namespace Go.Proofs.Ythimojebincheaa.sumsLost
open Go.ChangeShapes Go.WideShapes Go.ChangeAt Go.RowKit

theorem own : ownKnob Try.prog.godebug = none := by kernel_rfl
theorem laidOut : laidOutB Try.prog = true := by kernel_rfl
theorem byte_info : (Try.prog.info? 5).map (fun i => (i.zero, i.size, i.bytes)) = some (some (.int .u8 0), 1, 1) := by kernel_rfl

theorem zeros_bytes (l : List UInt8) (m : Nat) : Lib.byteCells l ++ List.replicate m (.int .u8 0) = Lib.byteCells (l ++ List.replicate m 0) := by
  rw [Lib.byteCells_append]
  congr 1
  simp [Lib.byteCells]

theorem lost (m : Nat) (l : List UInt8) : sumOf 0 ([255, 255, 255, 255] ++ List.replicate m 0 ++ l) = sumOf 0 ([255, 255, 255, 255] ++ l) := by
  unfold sumOf
  rw [crc_append, crc_append, crc_append, Nat.sub_zero, crc_255, crc_noughts]

theorem lost_all (m : Nat) : sumOf 0 ([255, 255, 255, 255] ++ List.replicate m 0) = 4294967295 := by
  unfold sumOf
  rw [crc_append, Nat.sub_zero, crc_255, crc_noughts]

set_option maxRecDepth 100000 in
set_option maxHeartbeats 1000000 in
theorem walk_small (x : Nat) (A : Option Addr) (m c : Nat) (l : List UInt8) (w : World) (hx : x < 65536) (hl : Rd w w.heap.size A m c l) (hm : m ≤ 50000) :
    Calls Try.prog 7 #[.int .u16 (x : Int), .slice A m c] w fun e w' => e = .returned (.bool true) ∧ Below w.heap.size w w' := by
  obtain ⟨i0, hi0, hz0, hz1, hz2⟩ := info_parts byte_info
  have hn : m ≤ 9223372036854775807 := by omega
  have b0 : Below w.heap.size w (w.alloc (.cells #[.slice A m c] 22)) := (Below.refl _ _).alloc (Nat.le_refl _) _
  have t1 : decide (50000 < (m : Int)) = false := by simp; omega
  have HA := Lib.hid (lost_all (x % 5000))
  obtain ⟨r, hr⟩ : ∃ r, sumOf 0 ([255, 255, 255, 255] ++ l) = r := ⟨_, rfl⟩
  have HB := Lib.hid ((lost (x % 5000) l).trans hr)
  have HR := Lib.hid hr
  clear hr
  go_enter Try.func7, Try.ntmps7
  go_wp2_with fail
  refine (great_one A m c _ _ hn (by simp)).mono ?_
  rintro e w1 ⟨rfl, rfl⟩
  obtain ⟨w1, hw1⟩ : ∃ w1, w.alloc (.cells #[.slice A m c] 22) = w1 := ⟨_, rfl⟩
  rw [hw1] at b0 ⊢
  clear hw1
  have ow := own_new w1 w1.heap.size #[.int .u8 255, .int .u8 255, .int .u8 255, .int .u8 255] 4 [255, 255, 255, 255] rfl rfl (by decide) (Nat.le_refl _)
  have b1 : Below w.heap.size w (w1.alloc (.cells #[.int .u8 255, .int .u8 255, .int .u8 255, .int .u8 255] 5)) := b0.alloc b0.size _
  have hz : (w1.alloc (.cells #[.int .u8 255, .int .u8 255, .int .u8 255, .int .u8 255] 5)).heap.size = w1.heap.size + 1 := by simp
  have hle : w.heap.size ≤ w1.heap.size := b0.size
  obtain ⟨W1, hW1⟩ : ∃ W1, w1.alloc (.cells #[.int .u8 255, .int .u8 255, .int .u8 255, .int .u8 255] 5) = W1 := ⟨_, rfl⟩
  rw [hW1] at ow b1 hz
  have HZ := Lib.hid hz
  have HW := Lib.hid hW1
  clear hz hW1 b0
  go_wp2_with (first
    | (at_builtin; rw [HW.out]; refine wpList_append_rd W1 rfl (.const (.slice none 0 0)) (.tmp 12) 22 rfl W1.heap.size 5 i0 Try.underlying22 hi0 hz0 hz1 hz2 (.slice none 0 0) 0 [] rfl (World.ownsRow_nil _ _ _ _) _ _ 4 4 [255, 255, 255, 255] rfl (Rd.of_own ow) (by omega) (Nat.le_refl _) ?_; intro A1 k1 c1 w2 hk1 own1 hg1 ha1; have e2 : Below W1.heap.size W1 w2 := (Below.refl _ _).grown hg1 (Nat.le_refl _) (by simp [Value.ownBlock]))
    | (at_builtin; refine wpList_append_zeros _ rfl (.tmp 13) (.tmp 16) 22 3 rfl W1.heap.size 5 .i64 i0 (.int .u8 0) 1 Try.underlying22 Try.underlying3 hi0 hz0 hz1 hz2 rfl rfl _ k1 _ rfl own1 .i64 (x % 5000) _ rfl (by omega) (by have := hk1.out; unfold maxLen; omega) (by have := hk1.out; omega) e2.size ?_; intro A2 k2 c2 w3 hk2 own2 hg2 ha2; have e3 : Below W1.heap.size W1 w3 := e2.grown hg2 e2.size ha1))
  rw [zeros_bytes] at own2
  have hk : k2 ≤ 6000 := by have := hk1.out; have := hk2.out; omega
  refine (alive_any _).mono ?_
  rintro e w4 ⟨rfl, b4⟩
  have own4 := own_keep own2 b4
  replace b4 := Below.then e3 b4
  clear own1 own2 hg1 hg2 ha1 e2 e3 hk1 hk2
  go_wp2_with fail
  refine (of_now (r := 4294967295) _ (Rd.of_own own4) (by rw [List.nil_append]; exact HA.out)).mono ?_
  rintro e w5 ⟨rfl, b5⟩
  have own5 := own_keep own4 b5
  replace b5 := Below.then b4 b5
  clear own4 b4
  go_wp2_with (at_builtin; refine wpList_append_rd_if _ rfl (.tmp 25) (.tmp 26) 22 rfl W1.heap.size 5 i0 Try.underlying22 hi0 hz0 hz1 hz2 _ k2 _ rfl own5 _ A m c l rfl (hl.at_size (Nat.le_refl _) (Below.then b1 b5)) (by omega) b5.size ?_; intro A3 k3 c3 w6 hk3 own6 hg6 ha6)
  have e6 : Below W1.heap.size W1 w6 := b5.grown hg6 b5.size ha2
  refine (of_now (r := r) _ (Rd.of_own own6) HB.out).mono ?_
  rintro e w7 ⟨rfl, b7⟩
  replace b7 := Below.then e6 b7
  have ow7 := own_keep ow b7
  clear own5 b5 own6 hg6 ha6 e6
  go_wp2_with (at_builtin; refine wpList_append_rd_if _ rfl (.tmp 29) (.tmp 30) 22 rfl w1.heap.size 5 i0 Try.underlying22 hi0 hz0 hz1 hz2 _ 4 _ rfl ow7 _ A m c l rfl (hl.at_size (Nat.le_refl _) (Below.then b1 b7)) (by omega) (by have := b7.size; have := HZ.out; omega) ?_; intro A4 k4 c4 w8 hk4 own8 hg8 ha8)
  have e8 : Below w.heap.size w w8 := (Below.then b1 b7).grown hg8 (Below.then b1 b7).size (by intro k hk; cases hk; exact hle)
  refine (of_now (r := r) _ (Rd.of_own own8) HR.out).mono ?_
  rintro e w9 ⟨rfl, b9⟩
  go_wp2_with fail
  go_ret
  exact ⟨rfl, Below.then e8 b9⟩

set_option maxRecDepth 100000 in
set_option maxHeartbeats 400000 in
theorem walk_great (x : Nat) (A : Option Addr) (m c : Nat) (l : List UInt8) (w : World) (hl : Rd w w.heap.size A m c l) (hm : ¬ m ≤ 50000) :
    Calls Try.prog 7 #[.int .u16 (x : Int), .slice A m c] w fun e w' => e = .returned (.bool true) ∧ Below w.heap.size w w' := by
  have hn : m ≤ 9223372036854775807 := by have := hl.top; have := hl.cap; unfold maxLen at *; omega
  have b0 : Below w.heap.size w (w.alloc (.cells #[.slice A m c] 22)) := (Below.refl _ _).alloc (Nat.le_refl _) _
  have t1 : decide (50000 < (m : Int)) = true := by simp; omega
  go_enter Try.func7, Try.ntmps7
  go_wp2_with fail
  refine (great_one A m c _ _ hn (by simp)).mono ?_
  rintro e w1 ⟨rfl, rfl⟩
  go_wp2_with fail
  refine (alive_any _).mono ?_
  rintro e w2 ⟨rfl, b2⟩
  go_wp2_with fail
  go_ret
  exact ⟨rfl, Below.then b0 b2⟩

theorem walk (x : Nat) (A : Option Addr) (m c : Nat) (l : List UInt8) (w : World) (hx : x < 65536) (hl : Rd w w.heap.size A m c l) :
    Calls Try.prog 7 #[.int .u16 (x : Int), .slice A m c] w fun e w' => e = .returned (.bool true) ∧ Below w.heap.size w w' := by
  by_cases hm : m ≤ 50000
  · exact walk_small x A m c l w hx hl hm
  · exact walk_great x A m c l w hl hm

set_option maxRecDepth 100000 in
theorem lifted (os : Os) (started : os.Started) (H : Type) (enc : TypeId × Value → H) :
    ReturnsInHanded {} Try.checked os 7 .any (Rows.sumsLostSpec.pre6 enc Try.prog Try.f7 Rows.sumsLostRow.domain false) (Rows.sumsLostSpec.post enc Try.prog Try.f7 false true false false) := by
  refine returnsInHanded_of_change (C := Try.checked) own started (by kernel_rfl) Try.func7
    (ChangeSpec.witness6 (enc := enc) (C := Try.checked) false ⟨#[], #[.int .u16 0, .slice none 0 0], []⟩ 8 (by kernel_rfl) (by kernel_rfl) (by kernel_rfl) (by kernel_rfl)) ?_
  intro W base args ds gs before hval0 hW hcnd _
  have hval : ∀ (j : Nat) t v, Try.f7.params[j]? = some t → args[j]? = some v → Value.okWide Try.prog W .any base t v := hval0
  have hW' := hW
  obtain ⟨p, q, hA0, hV, rfl, hfz, hnd⟩ := hW
  have hA : DataW.TrodAll enc Try.prog W 0 (fun _ => true) true Try.f7.params.toList args.toList ds p := hA0
  rw [Try.params7] at hA hval
  obtain ⟨v0, vs0, d0, ds0, p0, q0, hargs, rfl, rfl, h0, r0⟩ := trodAll_cons hA
  obtain ⟨v1, vs1, d1, ds1, p1, q1, rfl, rfl, rfl, h1, r1⟩ := trodAll_cons r0
  obtain ⟨rfl, rfl, rfl⟩ := trodAll_nil r1
  obtain rfl : args = #[v0, v1] := by cases args; simp_all
  obtain ⟨rfl, rfl⟩ := trodVars_none hV
  obtain ⟨a0, rfl, rfl, rfl, w0⟩ := open_int Try.underlying35 (hval 0 35 v0 rfl rfl) h0
  obtain ⟨A1, n1, c1, rfl⟩ := okWide_slice Try.underlying22 (hval 1 22 v1 rfl rfl)
  have lt1 : ∀ x ∈ p1, x.block < W.heap.size := by obtain ⟨m, hm⟩ := h1; exact DataW.trod_lt m _ _ _ hm
  obtain ⟨l1, hr1⟩ := opened_bytes Try.underlying22 Try.underlying5 (by kernel_rfl) h1
  clear hA0 hval0
  obtain ⟨x0, hx0, l0⟩ := u16_nat w0
  subst hx0
  refine (walk x0 A1 n1 c1 l1 W l0 hr1).mono fun e W' ⟨he, bel⟩ => ?_
  subst he
  exact ⟨_, rfl, _, _, _, [], _, [], hW', trodAll_mk1 (shut_bool Try.underlying4 _), (trodAll_cons_mk (shut_int Try.underlying35 w0) (trodAll_cons_mk (Below.trod laidOut (by kernel_rfl) (of_decide_eq_true (by kernel_rfl)) h1 bel lt1) trodAll_mk0)), rfl, bel.frame _, fun h => by cases h⟩

theorem over : Rows.sumsLostRow.holds Try.pinned (OpenSpec.ofChange Rows.sumsLostSpec) :=
  OpenClaim.holds_of_wide 7 Try.f7 rfl rfl rfl rfl rfl rfl rfl ⟨rfl, rfl, rfl, rfl, rfl⟩ rfl rfl rfl rfl rfl (by kernel_rfl) Try.func7 (by kernel_rfl)
    (of_decide_eq_true (by kernel_rfl)) (by unfold Func.isWrapper; first | (rw [if_pos (by decide +kernel)]; kernel_rfl) | (rw [if_neg (by decide +kernel)]; exact ⟨rfl, rfl⟩))
    (fun os started H enc _ => lifted os started H enc)

theorem proved : Rows.SumsLostSaid := over
#print axioms proved

end Go.Proofs.Ythimojebincheaa.sumsLost
