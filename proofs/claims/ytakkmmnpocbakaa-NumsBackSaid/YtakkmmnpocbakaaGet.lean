/- What Get does: of any bytes the number, how many bytes it took, the error, as getL says. No condition. -/
import Derived.Test.YtakkmmnpocbakaaBytes
import Derived.Test.YtakkmmnpocbakaaNums
import Derived.Test.YtakkmmnpocbakaaChecked
import Derived.WalkKit
import Derived.OwnWalk
import Derived.Outline
import Derived.Deep.LoopGhost
namespace Go.Proofs.Ytakkmmnpocbakaa
open Go.RowKit

/-- The answer of Get as values. -/
def got (r : Nat × Nat × Int) : Value := .tuple #[.int .u64 (r.1 : Int), .int .i64 (r.2.1 : Int), .int .i64 r.2.2]

/-- k bytes are read, acc is their number; g are left. -/
def GRel (l : List UInt8) (w : World) (g : Nat) (m2 n3 k9 : Value) (wr : World) : Prop :=
  ∃ k acc : Nat, m2 = .int .u64 (acc : Int) ∧ n3 = .int .i64 0 ∧ k9 = .int .i64 (k : Int) ∧ g + k = l.length ∧ k ≤ 9 ∧ acc < 2 ^ (7 * k) ∧ getFrom k acc (l.drop k) = getL l ∧ w = wr

theorem got_of {r : Nat × Nat × Int} {a b : Nat} {e : Int} (h : r = (a, b, e)) : Ending.returned (.tuple #[.int .u64 (a : Int), .int .i64 (b : Int), .int .i64 e]) = .returned (got r) := by
  subst h
  rfl

theorem getFrom_step (l : List UInt8) (k acc : Nat) (h : k < l.length) : getFrom k acc (l.drop k) =
    if (k = 9 ∧ 1 < l[k].toNat) ∨ (0 < k ∧ l[k].toNat = 0) then (0, 0, 4)
    else if l[k].toNat < 128 then (acc + l[k].toNat * 2 ^ (7 * k), k + 1, 0)
    else getFrom (k + 1) (acc + (l[k].toNat - 128) * 2 ^ (7 * k)) (l.drop (k + 1)) := by
  rw [List.drop_eq_getElem_cons h, getFrom]

theorem getFrom_end (l : List UInt8) (k acc : Nat) (h : ¬ k < l.length) : getFrom k acc (l.drop k) = (0, 0, 5) := by
  rw [List.drop_eq_nil_of_le (by omega), getFrom]

set_option maxRecDepth 100000 in
set_option maxHeartbeats 400000 in
theorem get_some (b o n c : Nat) (l : List UInt8) (w : World) (hl : l.length = n) (hn : n ≤ 9223372036854775807)
    (hc : ∀ j (h : j < l.length), w.cell? ⟨b, o + j, none⟩ = some (.int .u8 (l[j].toNat : Int))) :
    Calls Try.prog 9 #[.slice (some ⟨b, o, none⟩) n c] w fun e w' => e = .returned (got (getL l)) ∧ w = w' := by
  subst hl
  have HC := Lib.hid hc
  clear hc
  go_enter Try.func9, Try.ntmps9
  go_wp2
  go_step3
  go_wp2
  go_step3
  go_wp2
  go_loopg [2, 3, 9] l.length (fun g m2 n3 k9 wr => GRel l w g m2 n3 k9 wr)
  case atStart => exact ⟨0, 0, rfl, rfl, rfl, rfl, by omega, by decide, rfl, rfl⟩
  case round =>
    obtain ⟨k, acc, rfl, rfl, rfl, hk, hk9, hacc, he, rfl⟩ := hrel
    have HE := Lib.hid he
    have HA := Lib.hid hacc
    have HK := Lib.hid hk
    have hkl : k ≤ l.length := by omega
    clear he hacc hk
    by_cases hlt : k < l.length
    · have hcell := HC.out k hlt
      have hby := byte_lt l[k]
      have hst := getFrom_step l k acc hlt
      rw [HE.out] at hst
      generalize l[k].toNat = q at *
      have HS := Lib.hid hst
      clear hst HE
      have hlow : bits .andNot .u8 (q : Int) 128 = (q : Int) % 128 := low7 _ (by omega) (by omega)
      have hk9' : (((k : Int) == 9) = true ∧ k = 9) ∨ (((k : Int) == 9) = false ∧ k ≤ 8) := by
        by_cases h : k = 9
        · exact .inl ⟨by simp; omega, h⟩
        · exact .inr ⟨by simp; omega, by omega⟩
      by_cases h9 : k = 9 ∧ 1 < q
      · obtain ⟨rfl, hq⟩ := h9
        have H4 := Lib.hid (HS.out.trans (if_pos (.inl ⟨rfl, hq⟩)))
        clear HS hk9'
        go_wp2
        rw [Exit.noGoto_ret]
        go_ret3
        exact ⟨got_of H4.out, rfl⟩
      · by_cases h0 : 0 < k ∧ q = 0
        · obtain ⟨hk0, rfl⟩ := h0
          have H4 := Lib.hid (HS.out.trans (if_pos (.inr ⟨hk0, rfl⟩)))
          clear HS h9
          rcases hk9' with ⟨hb, hk8⟩ | ⟨hb, hk8⟩
          all_goals
            have HK8 := Lib.hid hk8
            clear hk8
            go_wp2
            rw [Exit.noGoto_ret]
            go_ret3
            exact ⟨got_of H4.out, rfl⟩
        · have hn4 : ¬ ((k = 9 ∧ 1 < q) ∨ (0 < k ∧ q = 0)) := fun h => h.elim h9 h0
          have H5 := Lib.hid (HS.out.trans (if_neg hn4))
          clear HS hn4
          have HO := Lib.hid (or_shl acc q k hk9 HA.out (by omega))
          have hq0 : (((q : Int) == 0) = false ∧ 0 < k) ∨ k = 0 := by
            by_cases h : k = 0
            · exact .inr h
            · exact .inl ⟨by simp; omega, by omega⟩
          have hq9 : k = 9 → q ≤ 1 := by omega
          clear h9 h0 hlow
          have hlow : bits .andNot .u8 (q : Int) 128 = (q : Int) % 128 := low7 _ (by omega) (by omega)
          by_cases h7 : q < 128
          · have H6 := Lib.hid (H5.out.trans (if_pos h7))
            have HF : Hid (getL l = (acc + q % 128 * 2 ^ (7 * k), k + 1, 0)) := by rw [Nat.mod_eq_of_lt h7]; exact H6.out
            clear H5 H6
            have hk1 : ((k : Int) + 1 == 0) = false := by simp; omega
            rcases hk9' with ⟨hb, hk8⟩ | ⟨hb, hk8⟩
            · have hq1 : q ≤ 1 := hq9 hk8
              have HK8 := Lib.hid hk8
              have hkp : 0 < k := by omega
              have hq0' : ((q : Int) == 0) = false := by rcases hq0 with h | h
                                                         · exact h.1
                                                         · omega
              clear hk8 hq9 hq0
              go_wp2
              rw [Exit.noGoto_ret]
              go_ret3
              rw [HO.out]
              exact ⟨got_of HF.out, rfl⟩
            · clear hq9
              rcases hq0 with ⟨hz, hkp⟩ | hk0
              · go_wp2
                rw [Exit.noGoto_ret]
                go_ret3
                rw [HO.out]
                exact ⟨got_of HF.out, rfl⟩
              · have hkp : ¬ 0 < k := by omega
                have HK0 := Lib.hid hk0
                clear hk0
                go_wp2
                rw [Exit.noGoto_ret]
                go_ret3
                rw [HO.out]
                exact ⟨got_of HF.out, rfl⟩
          · have H6 := Lib.hid (H5.out.trans (if_neg h7))
            rcases hk9' with ⟨hb, hk8⟩ | ⟨hb, hk8⟩
            · have := hq9 hk8
              omega
            · have HF : Hid (getFrom (k + 1) (acc + q % 128 * 2 ^ (7 * k)) (l.drop (k + 1)) = getL l) := by
                rw [show q % 128 = q - 128 by omega]
                exact H6.out.symm
              clear hq9 H5 H6
              rcases hq0 with ⟨hz, hkp⟩ | hk0
              · go_wp2
                go_roundg (gk - 1)
                case rel => exact ⟨k + 1, _, by rw [HO.out], rfl, by go_num, by have := HK.out; omega, by omega, acc_next acc _ k HA.out (by omega), HF.out, rfl⟩
                all_goals (have := HK.out; omega)
              · have hkp : ¬ 0 < k := by omega
                have HK0 := Lib.hid hk0
                clear hk0
                go_wp2
                go_roundg (gk - 1)
                case rel => exact ⟨k + 1, _, by rw [HO.out], rfl, by go_num, by have := HK.out; omega, by omega, acc_next acc _ k HA.out (by omega), HF.out, rfl⟩
                all_goals (have := HK.out; omega)
    · have H5 := Lib.hid (HE.out.symm.trans (getFrom_end l k acc hlt))
      go_wp2
      rw [Exit.noGoto_ret]
      go_ret3
      exact ⟨got_of H5.out, rfl⟩

theorem get_none (A : Option Addr) (c : Nat) (w : World) : Calls Try.prog 9 #[.slice A 0 c] w fun e w' => e = .returned (got (getL [])) ∧ w = w' := by
  go_enter Try.func9, Try.ntmps9
  go_wp2
  go_step3
  go_wp2
  go_step3
  go_wp2
  refine wp_loop_rounds 1 ?_
  rw [rounds_succ]
  go_wp2
  rw [Exit.noGoto_ret]
  go_ret3
  exact ⟨rfl, rfl⟩

/-- Get, of any bytes. -/
theorem get_any (B : Nat) (A : Option Addr) (n c : Nat) (l : List UInt8) (w : World) (h : Rd w B A n c l) : Calls Try.prog 9 #[.slice A n c] w fun e w' => e = .returned (got (getL l)) ∧ w = w' := by
  rcases Nat.eq_zero_or_pos n with hn | hn
  · have hl : l = [] := List.eq_nil_of_length_eq_zero (by rw [h.len, hn])
    subst hn
    subst hl
    exact get_none A c w
  · obtain ⟨b, o, rfl, _, hc⟩ := h.spot hn
    have h1 := h.cap
    have h2 := h.top
    unfold maxLen at h2
    exact get_some b o n c l w h.len (by omega) hc

end Go.Proofs.Ytakkmmnpocbakaa
