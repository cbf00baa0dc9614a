/- What alike, slices.EqualFunc, Same and the document's Same tell. No condition but sizes. -/
import Derived.Test.YtmiconjmeaammaaDepths
import Derived.Test.YtmiconjmeaammaaNdMay
namespace Go.Proofs.Ytmiconjmeaammaa
open Go.RowKit

/-- Nodes are the same, but for their terms. -/
def alikeB (x y : Nd) : Bool := decide (x.k = y.k) && (decide (x.m = y.m) && (decide (x.s = y.s) && decide (x.n = y.n)))
def sameB : List Nd → List Nd → Bool
  | [], [] => true
  | x :: l, y :: m => alikeB x y && sameB l m
  | [], _ :: _ => false
  | _ :: _, [] => false

theorem same_iff : ∀ a b : List Nd, sameB a b = true ↔ a.length = b.length ∧ ∀ j (h : j < a.length) (h' : j < b.length), alikeB a[j] b[j] = true
  | [], [] => by simp [sameB]
  | x :: l, [] => by simp [sameB]
  | [], y :: m => by simp [sameB]
  | x :: l, y :: m => by
    rw [sameB, Bool.and_eq_true, same_iff l m]
    constructor
    · rintro ⟨h1, h2, h3⟩
      refine ⟨by simp [h2], fun j hj hj' => ?_⟩
      rcases j with _ | j
      · exact h1
      · exact h3 j (by simpa using hj) (by simpa using hj')
    · rintro ⟨h1, h2⟩
      refine ⟨h2 0 (by simp) (by simp), by simpa using h1, fun j hj hj' => h2 (j + 1) (by simpa using hj) (by simpa using hj')⟩
theorem same_no {a b : List Nd} (h : a.length ≠ b.length) : sameB a b = false := by
  rw [← Bool.not_eq_true, same_iff]
  exact fun k => h k.1
theorem same_at {a b : List Nd} {j : Nat} (h : j < a.length) (h' : j < b.length) (e : alikeB a[j] b[j] = false) : sameB a b = false := by
  rw [← Bool.not_eq_true, same_iff]
  intro k
  rw [k.2 j h h'] at e
  cases e

set_option maxRecDepth 100000 in
set_option maxHeartbeats 1000000 in
theorem alike_any (x y : Nd) (w : World) : Calls Try.prog 25 #[ndv x, ndv y] w fun e w' => e = .returned (.bool (alikeB x y)) ∧ Below w.heap.size w w' := by
  obtain ⟨k, m, s, n, lv, ln, pv, pn, ev, en⟩ := x
  obtain ⟨k', m', s', n', lv', ln', pv', pn', ev', en'⟩ := y
  have HR : Hid (alikeB ⟨k, m, s, n, lv, ln, pv, pn, ev, en⟩ ⟨k', m', s', n', lv', ln', pv', pn', ev', en'⟩ = (decide (k = k') && (decide (m = m') && (decide (s = s') && decide (n = n'))))) := Lib.hid rfl
  have hs := same_str s s'
  show Calls Try.prog 25 #[nda k m (str s) n lv ln pv pn ev en, nda k' m' (str s') n' lv' ln' pv' pn' ev' en'] w _
  generalize decide (s = s') = b3 at *
  generalize str s = S at *
  generalize str s' = S' at *
  go_enter Try.func25, Try.ntmps25
  by_cases h1 : k = k'
  · have h1' : (k == k') = true := by simpa using h1
    by_cases h2 : m = m'
    · have h2' : (m == m') = true := by simpa using h2
      cases b3 with
      | false =>
        go_wp2
        go_ret
        exact ⟨by rw [HR.out]; simp, ((Below.refl _ _).alloc (Nat.le_refl _) _).alloc (by simp) _⟩
      | true =>
        by_cases h4 : n = n'
        · have h4' : (n == n') = true := by simpa using h4
          go_wp2
          go_ret
          exact ⟨by rw [HR.out]; simp [h1, h2, h4], ((Below.refl _ _).alloc (Nat.le_refl _) _).alloc (by simp) _⟩
        · have h4' : (n == n') = false := by simpa using h4
          go_wp2
          go_ret
          exact ⟨by rw [HR.out]; simp [h4], ((Below.refl _ _).alloc (Nat.le_refl _) _).alloc (by simp) _⟩
    · have h2' : (m == m') = false := by simpa using h2
      go_wp2
      go_ret
      exact ⟨by rw [HR.out]; simp [h2], ((Below.refl _ _).alloc (Nat.le_refl _) _).alloc (by simp) _⟩
  · have h1' : (k == k') = false := by simpa using h1
    go_wp2
    go_ret
    exact ⟨by rw [HR.out]; simp [h1], ((Below.refl _ _).alloc (Nat.le_refl _) _).alloc (by simp) _⟩

def EqRel (a b : List Nd) (w : World) (v17 : Value) (wr : World) : Prop := ∃ k : Nat, v17 = .int .i64 (k : Int) ∧ k ≤ a.length ∧ (∀ j (h : j < a.length) (h' : j < b.length), j < k → alikeB a[j] b[j] = true) ∧ Below w.heap.size w wr

set_option maxRecDepth 100000 in
set_option maxHeartbeats 1000000 in
theorem equalFunc_any (A A2 : Option Addr) (n c n2 c2 B : Nat) (a b : List Nd) (w : World) (h : Ns w B A n c a) (h2 : Ns w B A2 n2 c2 b) (hB : B ≤ w.heap.size) :
    Calls Try.prog 24 #[.slice A n c, .slice A2 n2 c2, .func (.func 25) #[] #[]] w fun e w' => e = .returned (.bool (sameB a b)) ∧ Below w.heap.size w w' := by
  have HL := Lib.hid h.len
  have HL2 := Lib.hid h2.len
  have hcap := h.cap
  have htop := h.top
  unfold maxLen at htop
  have HS := Lib.hid h
  have HS2 := Lib.hid h2
  go_enter Try.func24, Try.ntmps24
  by_cases hne : n = n2
  case neg =>
    have hne' : ((n : Int) != (n2 : Int)) = true := by simp; omega
    have HR : Hid (sameB a b = false) := Lib.hid (same_no (by rw [HL.out, HL2.out]; exact hne))
    go_wp2
    go_ret
    exact ⟨by rw [HR.out]; rfl, Below.refl _ _⟩
  subst hne
  have hne' : ((n : Int) != (n : Int)) = false := by simp
  clear h h2
  go_wp2
  go_loopw [17] (fun v17 wr => EqRel a b w v17 wr) (fun v17 _ => n - (intOf v17).toNat)
  case atStart => exact ⟨0, rfl, by omega, fun _ _ _ h => absurd h (by omega), Below.refl _ _⟩
  case round =>
    obtain ⟨k, rfl, hk, hall, hb⟩ := hrel
    have HALL := Lib.hid hall
    clear hall
    by_cases hlt : k < n
    · have hk' : k < a.length := by rw [HL.out]; exact hlt
      have hk2 : k < b.length := by rw [HL2.out]; exact hlt
      obtain ⟨p, o, rfl, hp, c0, c1, c2, c3, c4, c5, c6, c7, c8, c9⟩ := (HS.out.below (hb.mono hB)).node hk'
      have hsz : B ≤ wr.heap.size := Nat.le_trans hB hb.size
      have HST : Hid (alikeB a[k] b[k] = true → ∀ j (h : j < a.length) (h' : j < b.length), j < k + 1 → alikeB a[j] b[j] = true) := by
        intro e j h h' hj
        rcases Nat.lt_or_ge j k with h3 | h3
        · exact HALL.out j h h' h3
        · obtain rfl : j = k := by omega
          exact e
      have HNO : Hid (alikeB a[k] b[k] = false → sameB a b = false) := Lib.hid (same_at hk' hk2)
      have hal := fun W => alike_any a[k] b[k] W
      have hnode2 := fun (W : World) (hW : Below wr.heap.size wr W) => ((HS2.out.below (hb.mono hB)).below (hW.mono hsz)).node hk2
      generalize a[k] = x at *
      generalize b[k] = y at *
      generalize alikeB x y = r at *
      obtain ⟨xk, xm, xs, xn, xlv, xln, xpv, xpn, xev, xen⟩ := x
      obtain ⟨yk, ym, ys, yn, ylv, yln, ypv, ypn, yev, yen⟩ := y
      simp only at c0 c1 c2 c3 c4 c5 c6 c7 c8 c9 hnode2
      have ha1 : Below wr.heap.size wr (wr.alloc (.cells #[.int .u8 xk, .int .i64 xm, .string (str xs), .int .i64 xn, .bool xlv, .int .u64 xln, .bool xpv, .int .u64 xpn, .bool xev, .int .u64 xen] 64)) := (Below.refl _ _).alloc (Nat.le_refl _) _
      have ha2 := ha1.alloc ha1.size (.cells #[.int .u8 yk, .int .i64 ym, .string (str ys), .int .i64 yn, .bool ylv, .int .u64 yln, .bool ypv, .int .u64 ypn, .bool yev, .int .u64 yen] 64)
      obtain ⟨p2, o2, rfl, hp2, d0, d1, d2, d3, d4, d5, d6, d7, d8, d9⟩ := hnode2 _ ha1
      have hblk := heap_alloc_new wr (.cells #[.int .u8 xk, .int .i64 xm, .string (str xs), .int .i64 xn, .bool xlv, .int .u64 xln, .bool xpv, .int .u64 xpn, .bool xev, .int .u64 xen] 64)
      obtain ⟨e0, e1, e2, e3, e4, e5, e6, e7, e8, e9⟩ := blk10 hblk ((Below.refl _ (wr.alloc (.cells #[.int .u8 xk, .int .i64 xm, .string (str xs), .int .i64 xn, .bool xlv, .int .u64 xln, .bool xpv, .int .u64 xpn, .bool xev, .int .u64 xen] 64))).alloc (Nat.le_refl _) (.cells #[.int .u8 yk, .int .i64 ym, .string (str ys), .int .i64 yn, .bool ylv, .int .u64 yln, .bool ypv, .int .u64 ypn, .bool yev, .int .u64 yen] 64))
      have hb2 := hb.trans (ha2.mono hb.size)
      clear hnode2 ha1 ha2 hblk
      go_wp2_with fail
      refine (hal _).mono ?_
      rintro e w3 ⟨rfl, hb3⟩
      have hb4 := hb2.trans (hb3.mono hb2.size)
      clear hb2 hb3 c0 c1 c2 c3 c4 c5 c6 c7 c8 c9 d0 d1 d2 d3 d4 d5 d6 d7 d8 d9 e0 e1 e2 e3 e4 e5 e6 e7 e8 e9
      cases r with
      | true =>
        have HST2 := Lib.hid (HST.out rfl)
        clear HST HNO
        go_wp2_with fail
        go_roundw
        case rel => exact ⟨k + 1, by go_num, by omega, HST2.out, hb4⟩
        case measure => simp [intOf]; omega
      | false =>
        have HR := Lib.hid (HNO.out rfl)
        go_wp2_with fail
        go_ret
        exact ⟨by rw [HR.out]; rfl, hb4⟩
    · obtain rfl : k = n := by have := HL.out; omega
      have HR : Hid (sameB a b = true) := Lib.hid ((same_iff a b).2 ⟨by rw [HL.out, HL2.out], fun j h h' => HALL.out j h h' (by rw [← HL.out]; exact h)⟩)
      go_wp2
      go_ret
      exact ⟨by rw [HR.out]; rfl, hb⟩

set_option maxRecDepth 100000 in
theorem same_any (A A2 : Option Addr) (n c n2 c2 B : Nat) (a b : List Nd) (w : World) (h : Ns w B A n c a) (h2 : Ns w B A2 n2 c2 b) (hB : B ≤ w.heap.size) :
    Calls Try.prog 12 #[.slice A n c, .slice A2 n2 c2] w fun e w' => e = .returned (.bool (sameB a b)) ∧ Below w.heap.size w w' := by
  have hc := equalFunc_any A A2 n c n2 c2 B a b w h h2 hB
  clear h h2
  go_enter Try.func12, Try.ntmps12
  go_wp2_with fail
  refine hc.mono ?_
  rintro e w1 ⟨rfl, hb⟩
  go_wp2_with fail
  go_ret
  exact ⟨rfl, hb⟩
end Go.Proofs.Ytmiconjmeaammaa
