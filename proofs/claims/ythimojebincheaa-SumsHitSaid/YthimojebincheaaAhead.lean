/- What ahead does: thirty-two bits back. No condition but sizes. -/
import Derived.Test.YthimojebincheaaHalf
namespace Go.Proofs.Ythimojebincheaa
open Go.RowKit

/-- k bits back from r is t. -/
structure BkIs (k r t : Nat) : Prop where
  eq : bki k r = t

theorem BkIs.next {k r t : Nat} (h : BkIs (32 - k) r t) (hk : k < 32) : BkIs (32 - (k + 1)) (bk r) t := by
  have e := h.eq
  rw [show 32 - k = (32 - (k + 1)) + 1 by omega] at e
  exact ⟨e⟩

theorem BkIs.last {r t : Nat} (h : BkIs (32 - 32) r t) : r = t := h.eq

def ARel (t : Nat) (a3 x0 : Value) : Prop := ∃ k r : Nat, a3 = .int .i64 (k : Int) ∧ k ≤ 32 ∧ x0 = .int .u32 (r : Int) ∧ r < 4294967296 ∧ BkIs (32 - k) r t

theorem or_one (y : Nat) (h : y < 2147483648) : bits .or .u32 ((y : Int) * 2) 1 = ((y * 2 + 1 : Nat) : Int) := by
  have e : (y : Int) * 2 = ((y * 2 : Nat) : Int) := by omega
  have e1 : y * 2 ||| 1 = y * 2 + 1 := by
    rw [Nat.mul_comm]
    exact (Nat.two_pow_add_eq_or_of_lt (i := 1) (by decide) y).symm
  have := u32_or_nat (y * 2) 1 (by omega) (by omega)
  rw [e1] at this
  rw [e]
  exact this

theorem bk_top {r : Nat} (h2 : 2147483648 ≤ r) (hr : r < 4294967296) : ∃ y : Nat, y < 2147483648 ∧ bits .xor .u32 (r : Int) 3988292384 = (y : Int) ∧ bits .or .u32 ((y : Int) * 2) 1 = ((bk r : Nat) : Int) := by
  refine ⟨r ^^^ dv, top_xor h2 hr, u32_xor_nat r dv hr dv_lt, ?_⟩
  rw [or_one _ (top_xor h2 hr)]
  unfold bk
  rw [if_pos h2]

set_option maxRecDepth 100000 in
set_option maxHeartbeats 400000 in
theorem ahead_at (r0 t : Nat) (w : World) (h0 : r0 < 4294967296) (ht : BkIs 32 r0 t) :
    Calls Try.prog 16 #[.int .u32 (r0 : Int)] w fun e w' => e = .returned (.int .u32 (t : Int)) ∧ w = w' := by
  have H := Lib.hid h0
  clear h0
  go_enter Try.func16, Try.ntmps16
  go_wp2
  go_loop [0, 3] (fun x0 a3 => ARel t a3 x0) (fun _ a3 => 32 - (intOf a3).toNat)
  case atStart => exact ⟨0, r0, rfl, by omega, rfl, H.out, ht⟩
  case round =>
    obtain ⟨k, r, rfl, hk, rfl, hr, hi⟩ := hrel
    clear ht H
    by_cases hlt : k < 32
    · have hn := hi.next hlt
      have hbl := bk_lt hr
      by_cases h2 : 2147483648 ≤ r
      · have ht : ((r : Int) / 2147483648 == 1) = true := by simp; omega
        obtain ⟨y, htop, hx, hor⟩ := bk_top h2 hr
        generalize bk r = r' at *
        go_wp2
        go_round
        case rel => exact ⟨k + 1, r', by go_num, by omega, rfl, hbl, hn⟩
        case measure => simp [intOf]; omega
      · have ht : ((r : Int) / 2147483648 == 1) = false := by simp; omega
        have hb : bk r = r * 2 := by unfold bk; rw [if_neg h2]
        rw [hb] at hn
        clear hb
        go_wp2
        go_round
        case rel => exact ⟨k + 1, r * 2, by go_num, by omega, by go_num, by omega, hn⟩
        case measure => simp [intOf]; omega
    · obtain rfl : k = 32 := by omega
      obtain rfl : r = t := hi.last
      go_wp2
      go_ret
      exact ⟨rfl, rfl⟩

theorem ahead_any (r0 : Nat) (w : World) (h0 : r0 < 4294967296) :
    Calls Try.prog 16 #[.int .u32 (r0 : Int)] w fun e w' => e = .returned (.int .u32 (bki 32 r0 : Int)) ∧ w = w' := ahead_at r0 _ w h0 ⟨rfl⟩
end Go.Proofs.Ythimojebincheaa
