/- What the document's Same tells. No condition but sizes. -/
import Derived.Test.YtlcbcggcmmlfdaaSame
import Derived.Test.YtlcbcggcmmlfdaaTell
namespace Go.Proofs.Ytlcbcggcmmlfdaa
open Go.RowKit

theorem drewN_two (w : World) (q n : Nat) : (w.drewN q).drewN n = w.drewN (q + n) := by simp [World.drewN, Nat.add_assoc]

def RsRel (a b : List Nd) (w : World) (v5 : Value) (wr : World) : Prop := ∃ k q : Nat, v5 = .int .i64 (k : Int) ∧ k ≤ a.length ∧ (∀ j (h : j < a.length) (h' : j < b.length), j < k → alikeB a[j] b[j] = true) ∧ wr = w.drewN q

set_option maxRecDepth 100000 in
set_option maxHeartbeats 2000000 in
theorem refSame_any (A A2 : Option Addr) (n c n2 c2 B : Nat) (a b : List Nd) (w : World) (h : Ns w B A n c a) (h2 : Ns w B A2 n2 c2 b) :
    Calls Try.prog 32 #[.slice A n c, .slice A2 n2 c2] w fun e w' => e = .returned (.bool (sameB a b)) ∧ ∃ q, w' = w.drewN q := by
  have HL := Lib.hid h.len
  have HL2 := Lib.hid h2.len
  have hcap := h.cap
  have htop := h.top
  unfold maxLen at htop
  have HS := Lib.hid h
  have HS2 := Lib.hid h2
  go_enter Try.func32, Try.ntmps32
  by_cases hne : n = n2
  case neg =>
    have hne' : ((n : Int) != (n2 : Int)) = true := by simp; omega
    have HR : Hid (sameB a b = false) := Lib.hid (same_no (by rw [HL.out, HL2.out]; exact hne))
    go_wp2
    go_ret
    exact ⟨by rw [HR.out]; rfl, 0, rfl⟩
  subst hne
  have hne' : ((n : Int) != (n : Int)) = false := by simp
  clear h h2
  go_wp2
  go_loopw [5] (fun v5 wr => RsRel a b w v5 wr) (fun v5 _ => n - (intOf v5).toNat)
  case atStart => exact ⟨0, 0, rfl, by omega, fun _ _ _ h => absurd h (by omega), rfl⟩
  case round =>
    obtain ⟨k, q, rfl, hk, hall, rfl⟩ := hrel
    have HALL := Lib.hid hall
    clear hall
    by_cases hlt : k < n
    · have hk' : k < a.length := by rw [HL.out]; exact hlt
      have hk2 : k < b.length := by rw [HL2.out]; exact hlt
      have HST : Hid (alikeB a[k] b[k] = true → ∀ j (h : j < a.length) (h' : j < b.length), j < k + 1 → alikeB a[j] b[j] = true) := by
        intro e j h h' hj
        rcases Nat.lt_or_ge j k with h3 | h3
        · exact HALL.out j h h' h3
        · obtain rfl : j = k := by omega
          exact e
      have HNO : Hid (alikeB a[k] b[k] = false → sameB a b = false) := Lib.hid (same_at hk' hk2)
      obtain ⟨p, o, rfl, hp, c0, c1, c2, c3, -⟩ := HS.out.node hk'
      obtain ⟨p2, o2, rfl, hp2, d0, d1, d2, d3, -⟩ := HS2.out.node hk2
      generalize a[k] = x at *
      generalize b[k] = y at *
      obtain ⟨xk, xm, xs, xn, xlv, xln, xpv, xpn, xev, xen⟩ := x
      obtain ⟨yk, ym, ys, yn, ylv, yln, ypv, ypn, yev, yen⟩ := y
      have hs := same_str xs ys
      unfold alikeB at HST HNO
      simp only at c0 c1 c2 c3 d0 d1 d2 d3 HST HNO
      generalize decide (xs = ys) = b3 at *
      generalize str xs = S at *
      generalize str ys = S' at *
      by_cases h1 : xk = yk
      · subst h1
        have h1' : (xk != xk) = false := by simp
        by_cases h2 : xm = ym
        · subst h2
          have h2' : (xm != xm) = false := by simp
          cases b3 with
          | false =>
            have HR := Lib.hid (HNO.out (by simp))
            clear HST HNO
            go_wp2
            go_quiet (fail)
            go_wp2
            go_ret
            exact ⟨by rw [HR.out]; rfl, _, by first | rfl | exact drewN_two _ _ _⟩
          | true =>
            by_cases h4 : xn = yn
            · subst h4
              have h4' : (xn != xn) = false := by simp
              have HST2 := Lib.hid (HST.out (by simp))
              clear HST HNO
              go_wp2
              go_quiet (fail)
              go_wp2
              go_roundw
              case rel => exact ⟨k + 1, _, by go_num, by omega, HST2.out, rfl⟩
              case measure => simp [intOf]; omega
            · have h4' : (xn != yn) = true := by simpa using h4
              have HR := Lib.hid (HNO.out (by simp [h4]))
              clear HST HNO
              go_wp2
              go_quiet (fail)
              go_wp2
              go_ret
              exact ⟨by rw [HR.out]; rfl, _, by first | rfl | exact drewN_two _ _ _⟩
        · have h2' : (xm != ym) = true := by simpa using h2
          have HR := Lib.hid (HNO.out (by simp [h2]))
          clear HST HNO
          go_wp2
          go_quiet (fail)
          go_wp2
          go_ret
          exact ⟨by rw [HR.out]; rfl, _, by first | rfl | exact drewN_two _ _ _⟩
      · have h1' : (xk != yk) = true := by simpa using h1
        have HR := Lib.hid (HNO.out (by simp [h1]))
        clear HST HNO
        go_wp2
        go_quiet (fail)
        go_wp2
        go_ret
        exact ⟨by rw [HR.out]; rfl, _, by first | rfl | exact drewN_two _ _ _⟩
    · obtain rfl : k = n := by have := HL.out; omega
      have HR : Hid (sameB a b = true) := Lib.hid ((same_iff a b).2 ⟨by rw [HL.out, HL2.out], fun j h h' => HALL.out j h h' (by rw [← HL.out]; exact h)⟩)
      go_wp2
      go_ret
      exact ⟨by rw [HR.out]; rfl, _, by first | rfl | exact drewN_two _ _ _⟩
end Go.Proofs.Ytlcbcggcmmlfdaa
