/- What the document's own Get, GetFour and GetText answer: the same as the program's. No condition. -/
import Derived.Test.YtakkmmnpocbakaaGetText
import Derived.BigGuardPart
namespace Go.Proofs.Ytakkmmnpocbakaa
open Go.RowKit

/-- k bytes are read, acc is their number, the next one's weight is 2^(7k). -/
def WRel (l : List UInt8) (n5 w6 i7 : Value) : Prop :=
  ∃ k acc W : Nat, n5 = .int .u64 (acc : Int) ∧ w6 = .int .u64 (W : Int) ∧ i7 = .int .i64 (k : Int) ∧ k ≤ l.length ∧ k ≤ 9 ∧ acc < 2 ^ (7 * k) ∧ W = 2 ^ (7 * k) ∧ getFrom k acc (l.drop k) = getL l

theorem sum_fits (acc q k W : Nat) (hW : W = 2 ^ (7 * k)) (h : acc + q % 128 * 2 ^ (7 * k) < 18446744073709551616) : IntKind.u64.wrap ((acc : Int) + IntKind.u64.wrap ((W : Int) * ((q : Int) % 128))) = ((acc + q % 128 * 2 ^ (7 * k) : Nat) : Int) := by
  subst hW
  have e : ((2 ^ (7 * k) : Nat) : Int) * ((q : Int) % 128) = ((q % 128 * 2 ^ (7 * k) : Nat) : Int) := by simp [Int.mul_comm]
  rw [e, IntKind.wrap_u64, IntKind.wrap_u64]
  omega

theorem weight_next (k W : Nat) (hW : W = 2 ^ (7 * k)) (hk : k ≤ 8) : IntKind.u64.wrap ((W : Int) * 128) = ((2 ^ (7 * (k + 1)) : Nat) : Int) := by
  subst hW
  have h := pow7_le (k + 1) (by omega)
  rw [pow7_succ] at h ⊢
  rw [IntKind.wrap_u64]
  omega

set_option maxRecDepth 100000 in
set_option maxHeartbeats 400000 in
theorem rget_some (b o n c : Nat) (l : List UInt8) (w : World) (hl : l.length = n) (hn : n ≤ 9223372036854775807)
    (hc : ∀ j (h : j < l.length), w.cell? ⟨b, o + j, none⟩ = some (.int .u8 (l[j].toNat : Int))) :
    Calls Try.prog 10 #[.slice (some ⟨b, o, none⟩) n c] w fun e w' => e = .returned (got (getL l)) ∧ w = w' := by
  subst hl
  have HC := Lib.hid hc
  clear hc
  go_enter Try.func10, Try.ntmps10
  go_wp2
  go_loop [5, 6, 7] (fun n5 w6 i7 => WRel l n5 w6 i7) (fun _ _ i7 => l.length - (intOf i7).toNat)
  case atStart => exact ⟨0, 0, 1, rfl, rfl, rfl, by omega, by omega, by decide, rfl, rfl⟩
  case round =>
    obtain ⟨k, acc, W, rfl, rfl, rfl, hkl, hk9, hacc, hW, he⟩ := hrel
    have HE := Lib.hid he
    have HA := Lib.hid hacc
    have HW := Lib.hid hW
    clear he hacc hW
    by_cases hlt : k < l.length
    · have hcell := HC.out k hlt
      have hby := byte_lt l[k]
      have hst := getFrom_step l k acc hlt
      rw [HE.out] at hst
      generalize l[k].toNat = q at *
      have HS := Lib.hid hst
      clear hst HE
      have hk9' : (((k : Int) == 9) = true ∧ k = 9) ∨ (((k : Int) == 9) = false ∧ k ≤ 8) := by
        by_cases h : k = 9
        · exact .inl ⟨by simp; omega, h⟩
        · exact .inr ⟨by simp; omega, by omega⟩
      by_cases h9 : k = 9 ∧ 1 < q
      · obtain ⟨hk, hq⟩ := h9
        have H4 := Lib.hid (HS.out.trans (if_pos (.inl ⟨hk, hq⟩)))
        have hb : ((k : Int) == 9) = true := by simp; omega
        have hq' : decide (1 < (q : Int)) = true := by simp; omega
        have HK := Lib.hid hk
        clear HS hk9' hk
        go_wp2
        go_ret3
        exact ⟨got_of H4.out, rfl⟩
      · by_cases h0 : 0 < k ∧ q = 0
        · obtain ⟨hk0, rfl⟩ := h0
          have H4 := Lib.hid (HS.out.trans (if_pos (.inr ⟨hk0, rfl⟩)))
          clear HS h9
          rcases hk9' with ⟨hb, hk8⟩ | ⟨hb, hk8⟩
          all_goals
            have HK8 := Lib.hid hk8
            clear hk8
            go_wp2
            go_ret3
            exact ⟨got_of H4.out, rfl⟩
        · have hn4 : ¬ ((k = 9 ∧ 1 < q) ∨ (0 < k ∧ q = 0)) := fun h => h.elim h9 h0
          have H5 := Lib.hid (HS.out.trans (if_neg hn4))
          clear HS hn4
          have hq0 : (((q : Int) == 0) = false ∧ 0 < k) ∨ k = 0 := by
            by_cases h : k = 0
            · exact .inr h
            · exact .inl ⟨by simp; omega, by omega⟩
          have hq9 : k = 9 → q ≤ 1 := by omega
          have HO := Lib.hid (sum_fits acc q k W HW.out (acc_64 acc (q % 128) k hk9 HA.out (by omega) (by omega)))
          clear h9 h0
          by_cases h7 : q < 128
          · have HF : Hid (getL l = (acc + q % 128 * 2 ^ (7 * k), k + 1, 0)) := by rw [Nat.mod_eq_of_lt h7]; exact H5.out.trans (if_pos h7)
            clear H5
            rcases hk9' with ⟨hb, hk8⟩ | ⟨hb, hk8⟩
            · have hq1 : decide (1 < (q : Int)) = false := by have := hq9 hk8; simp; omega
              have hq0' : ((q : Int) == 0) = false := by rcases hq0 with h | h
                                                         · exact h.1
                                                         · omega
              have HK8 := Lib.hid hk8
              clear hk8 hq9 hq0
              go_wp2
              go_ret3
              rw [HO.out]
              exact ⟨got_of HF.out, rfl⟩
            · clear hq9
              rcases hq0 with ⟨hz, hkp⟩ | hk0
              · go_wp2
                go_ret3
                rw [HO.out]
                exact ⟨got_of HF.out, rfl⟩
              · have hkp : ¬ 0 < k := by omega
                have HK0 := Lib.hid hk0
                clear hk0
                by_cases hq : q = 0
                · subst hq
                  have HO' : Hid (IntKind.u64.wrap (acc : Int) = ((acc + 0 % 128 * 2 ^ (7 * k) : Nat) : Int)) := by
                    have h1 : acc + 0 % 128 * 2 ^ (7 * k) = acc := by simp
                    have h2 : acc < 18446744073709551616 := by have := acc_64 acc 0 k hk9 HA.out (by omega) (by omega); omega
                    rw [h1]
                    show IntKind.u64.wrap (acc : Int) = _
                    rw [IntKind.wrap_u64]
                    omega
                  go_wp2
                  go_ret3
                  rw [HO'.out]
                  exact ⟨got_of HF.out, rfl⟩
                · have hz : ((q : Int) == 0) = false := by simp; omega
                  go_wp2
                  go_ret3
                  rw [HO.out]
                  exact ⟨got_of HF.out, rfl⟩
          · have H6 := Lib.hid (H5.out.trans (if_neg h7))
            rcases hk9' with ⟨hb, hk8⟩ | ⟨hb, hk8⟩
            · have := hq9 hk8
              omega
            · have HF : Hid (getFrom (k + 1) (acc + q % 128 * 2 ^ (7 * k)) (l.drop (k + 1)) = getL l) := by
                rw [show q % 128 = q - 128 by omega]
                exact H6.out.symm
              have hz : ((q : Int) == 0) = false := by simp; omega
              have HN := Lib.hid (weight_next k W HW.out hk8)
              clear hq9 H5 H6 hq0
              go_wp2
              go_round
              case rel => exact ⟨k + 1, _, _, by rw [HO.out], by rw [HN.out], by go_num, by omega, by omega, acc_next acc _ k HA.out (by omega), rfl, HF.out⟩
              case measure => simp [intOf]; omega
    · have H5 := Lib.hid (HE.out.symm.trans (getFrom_end l k acc hlt))
      go_wp2
      go_ret3
      exact ⟨got_of H5.out, rfl⟩

theorem rget_none (A : Option Addr) (c : Nat) (w : World) : Calls Try.prog 10 #[.slice A 0 c] w fun e w' => e = .returned (got (getL [])) ∧ w = w' := by
  go_enter Try.func10, Try.ntmps10
  go_wp2
  refine wp_loop_rounds 1 ?_
  rw [rounds_succ]
  go_wp2
  go_ret3
  exact ⟨rfl, rfl⟩

theorem rget_any (B : Nat) (A : Option Addr) (n c : Nat) (l : List UInt8) (w : World) (h : Rd w B A n c l) : Calls Try.prog 10 #[.slice A n c] w fun e w' => e = .returned (got (getL l)) ∧ w = w' := by
  rcases Nat.eq_zero_or_pos n with hn | hn
  · have hl : l = [] := List.eq_nil_of_length_eq_zero (by rw [h.len, hn])
    subst hn
    subst hl
    exact rget_none A c w
  · obtain ⟨b, o, rfl, _, hc⟩ := h.spot hn
    have h1 := h.cap
    have h2 := h.top
    unfold maxLen at h2
    exact rget_some b o n c l w h.len (by omega) hc

theorem rget_at {B : Nat} {A : Option Addr} {n c : Nat} {l : List UInt8} {m k : Nat} {z : Int} (w : World) (h : Rd w B A n c l) (hg : getL l = (m, k, z)) :
    Calls Try.prog 10 #[.slice A n c] w fun e w' => e = .returned (.tuple #[.int .u64 (m : Int), .int .i64 (k : Int), .int .i64 z]) ∧ w = w' := by
  have := rget_any B A n c l w h
  rw [hg] at this
  exact this

theorem rfour_short (A : Option Addr) (n c : Nat) (w : World) (hn : n < 4) : Calls Try.prog 12 #[.slice A n c] w fun e w' => e = .returned (.tuple #[.int .u32 0, .int .i64 5]) ∧ w = w' := by
  go_enter Try.func12, Try.ntmps12
  go_wp2
  go_ret2
  exact ⟨rfl, rfl⟩

set_option maxRecDepth 100000 in
set_option maxHeartbeats 400000 in
theorem rfour_some (b o n c : Nat) (q0 q1 q2 q3 : Nat) (w : World) (hn : 4 ≤ n) (hm : n ≤ 9223372036854775807)
    (h0 : w.cell? ⟨b, o, none⟩ = some (.int .u8 (q0 : Int))) (h1 : w.cell? ⟨b, o + 1, none⟩ = some (.int .u8 (q1 : Int))) (h2 : w.cell? ⟨b, o + 2, none⟩ = some (.int .u8 (q2 : Int))) (h3 : w.cell? ⟨b, o + 3, none⟩ = some (.int .u8 (q3 : Int)))
    (b0 : q0 < 256) (b1 : q1 < 256) (b2 : q2 < 256) (b3 : q3 < 256) :
    Calls Try.prog 12 #[.slice (some ⟨b, o, none⟩) n c] w fun e w' => e = .returned (.tuple #[.int .u32 (unfour q0 q1 q2 q3 : Nat), .int .i64 0]) ∧ w = w' := by
  go_enter Try.func12, Try.ntmps12
  go_wp2
  refine wp_loop_rounds 5 ?_
  rw [rounds_succ]
  go_wp2
  rw [rounds_succ]
  go_wp2
  rw [rounds_succ]
  go_wp2
  rw [rounds_succ]
  go_wp2
  rw [rounds_succ]
  go_wp2
  go_ret2
  refine ⟨?_, rfl⟩
  have e : (((((q3 : Int)) * 256 + q2) * 256 + q1) * 256 + q0) = ((unfour q0 q1 q2 q3 : Nat) : Int) := by unfold unfour; omega
  rw [← e]
  rfl

theorem rfour_any (B : Nat) (A : Option Addr) (n c : Nat) (l : List UInt8) (w : World) (h : Rd w B A n c l) : Calls Try.prog 12 #[.slice A n c] w fun e w' => e = .returned (gotFour l) ∧ w = w' := by
  have hl := h.len
  by_cases h4 : 4 ≤ l.length
  · obtain ⟨b, o, rfl, _, hc⟩ := h.spot (by omega)
    have h1 := h.cap
    have h2 := h.top
    unfold maxLen at h2
    refine (rfour_some b o n c l[0].toNat l[1].toNat l[2].toNat l[3].toNat w (by omega) (by omega) (hc 0 (by omega)) (hc 1 (by omega)) (hc 2 (by omega)) (hc 3 (by omega)) (byte_lt _) (byte_lt _) (byte_lt _) (byte_lt _)).mono fun e w' ⟨he, hw⟩ => ⟨?_, hw⟩
    rw [he, gotFour, dif_pos h4]
  · refine (rfour_short A n c w (by omega)).mono fun e w' ⟨he, hw⟩ => ⟨?_, hw⟩
    rw [he, gotFour, dif_neg h4]

set_option maxRecDepth 100000 in
set_option maxHeartbeats 400000 in
theorem rtext_any (B : Nat) (A : Option Addr) (n c : Nat) (l : List UInt8) (w : World) (h : Rd w B A n c l) : Calls Try.prog 14 #[.slice A n c] w fun e w' => e = .returned (gotText (textL l)) ∧ w = w' := by
  obtain ⟨m, k, e, hg⟩ : ∃ m k e, getL l = (m, k, e) := ⟨_, _, _, rfl⟩
  have hlen := h.len
  have hcap := h.cap
  have htop := h.top
  unfold maxLen at htop
  have hn : n ≤ 9223372036854775807 := by omega
  have HG := Lib.hid hg
  have HT : Hid (textL l = if e ≠ 0 then ([], 0, e) else if n - k < m then ([], 0, 5) else ((l.drop k).take m, k + m, 0)) := by
    show textL l = _
    unfold textL
    rw [hg, hlen]
  clear hg hcap htop
  by_cases he : e = 0
  · subst he
    obtain ⟨hk, ⟨r, hr⟩, hm⟩ := getL_ok HG.out
    have hk1 : k ≤ n := by rw [← hlen, hr, List.length_append, ← hk]; omega
    have HM := Lib.hid hm
    have HLEN := Lib.hid hlen
    clear hk hr hm hlen
    by_cases hs : n - k < m
    · have H5 := Lib.hid (HT.out.trans ((if_neg (by simp)).trans (if_pos hs)))
      have hs' : (n : Int) - k < m := by omega
      go_enter Try.func14, Try.ntmps14
      go_wp2_with fail
      refine (rget_at _ h HG.out).mono ?_
      rintro e w1 ⟨rfl, rfl⟩
      go_wp2_with fail
      go_ret3
      exact ⟨gotText_of H5.out rfl rfl, rfl⟩
    · have H5 := Lib.hid (HT.out.trans ((if_neg (by simp)).trans (if_neg hs)))
      have hs' : ¬ (n : Int) - k < m := by omega
      have hmn : k + m ≤ n := by omega
      obtain ⟨A1, n1, c1, hsl, hr1⟩ := rd_slice_lh (P := Try.prog) 22 5 Try.underlying22 byte_size h (k : Int) ((k : Int) + m) (by omega) (by omega) (by omega)
      have hcv := rd_convert (P := Try.prog) hr1 22 5 9 Try.underlying22 Try.underlying5 Try.underlying9
      go_enter Try.func14, Try.ntmps14
      go_wp2_with fail
      refine (rget_at _ h HG.out).mono ?_
      rintro e w1 ⟨rfl, rfl⟩
      go_wp2_with fail
      go_ret3
      exact ⟨gotText_of H5.out (by rw [show k + m - k = m by omega]) (by omega), rfl⟩
  · have hne : (e != 0) = true := by simpa using he
    have H5 := Lib.hid (HT.out.trans (if_pos he))
    go_enter Try.func14, Try.ntmps14
    go_wp2_with fail
    refine (rget_at _ h HG.out).mono ?_
    rintro e w1 ⟨rfl, rfl⟩
    go_wp2_with fail
    go_ret3
    exact ⟨gotText_of H5.out rfl rfl, rfl⟩

end Go.Proofs.Ytakkmmnpocbakaa
