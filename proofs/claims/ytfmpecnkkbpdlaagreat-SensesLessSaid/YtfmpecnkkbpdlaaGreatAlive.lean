/- Same; Tell; Alive: merged. -/
import Derived.Test.YtfmpecnkkbpdlaaGreatDepths
import Derived.Test.YtfmpecnkkbpdlaaGreatNdMay

/- What alike, slices.EqualFunc, Same and the document's Same tell. No condition but sizes. -/
namespace Go.Proofs.YtfmpecnkkbpdlaaGreat
open Go.RowKit

/-- Nodes are the same, but for their terms. -/
def alikeB (x y : Nd) : Bool := decide (x.k = y.k) && (decide (x.m = y.m) && (decide (x.s = y.s) && decide (x.n = y.n)))
def sameB : List Nd → List Nd → Bool
  | [], [] => true
  | x :: l, y :: m => alikeB x y && sameB l m
  | [], _ :: _ => false
  | _ :: _, [] => false

theorem same_iff : ∀ a b : List Nd, sameB a b = true ↔ a.length = b.length ∧ ∀ j (h : j < a.length) (h' : j < b.length), alikeB a[j] b[j] = true
  | [], [] => by simp [sameB]
  | x :: l, [] => by simp [sameB]
  | [], y :: m => by simp [sameB]
  | x :: l, y :: m => by
    rw [sameB, Bool.and_eq_true, same_iff l m]
    constructor
    · rintro ⟨h1, h2, h3⟩
      refine ⟨by simp [h2], fun j hj hj' => ?_⟩
      rcases j with _ | j
      · exact h1
      · exact h3 j (by simpa using hj) (by simpa using hj')
    · rintro ⟨h1, h2⟩
      refine ⟨h2 0 (by simp) (by simp), by simpa using h1, fun j hj hj' => h2 (j + 1) (by simpa using hj) (by simpa using hj')⟩
theorem same_no {a b : List Nd} (h : a.length ≠ b.length) : sameB a b = false := by
  rw [← Bool.not_eq_true, same_iff]
  exact fun k => h k.1
theorem same_at {a b : List Nd} {j : Nat} (h : j < a.length) (h' : j < b.length) (e : alikeB a[j] b[j] = false) : sameB a b = false := by
  rw [← Bool.not_eq_true, same_iff]
  intro k
  rw [k.2 j h h'] at e
  cases e

set_option maxRecDepth 100000 in
set_option maxHeartbeats 1000000 in
theorem alike_any (x y : Nd) (w : World) : Calls Tryz.prog 59 #[ndv x, ndv y] w fun e w' => e = .returned (.bool (alikeB x y)) ∧ Below w.heap.size w w' := by
  obtain ⟨k, m, s, n, lv, ln, pv, pn, ev, en⟩ := x
  obtain ⟨k', m', s', n', lv', ln', pv', pn', ev', en'⟩ := y
  have HR : Hid (alikeB ⟨k, m, s, n, lv, ln, pv, pn, ev, en⟩ ⟨k', m', s', n', lv', ln', pv', pn', ev', en'⟩ = (decide (k = k') && (decide (m = m') && (decide (s = s') && decide (n = n'))))) := Lib.hid rfl
  have hs := same_str s s'
  show Calls Tryz.prog 59 #[nda k m (str s) n lv ln pv pn ev en, nda k' m' (str s') n' lv' ln' pv' pn' ev' en'] w _
  generalize decide (s = s') = b3 at *
  generalize str s = S at *
  generalize str s' = S' at *
  go_enter Tryz.func59, Tryz.ntmps59
  by_cases h1 : k = k'
  · have h1' : (k == k') = true := by simpa using h1
    by_cases h2 : m = m'
    · have h2' : (m == m') = true := by simpa using h2
      cases b3 with
      | false =>
        go_wp2
        go_ret
        exact ⟨by rw [HR.out]; simp, ((Below.refl _ _).alloc (Nat.le_refl _) _).alloc (by simp) _⟩
      | true =>
        by_cases h4 : n = n'
        · have h4' : (n == n') = true := by simpa using h4
          go_wp2
          go_ret
          exact ⟨by rw [HR.out]; simp [h1, h2, h4], ((Below.refl _ _).alloc (Nat.le_refl _) _).alloc (by simp) _⟩
        · have h4' : (n == n') = false := by simpa using h4
          go_wp2
          go_ret
          exact ⟨by rw [HR.out]; simp [h4], ((Below.refl _ _).alloc (Nat.le_refl _) _).alloc (by simp) _⟩
    · have h2' : (m == m') = false := by simpa using h2
      go_wp2
      go_ret
      exact ⟨by rw [HR.out]; simp [h2], ((Below.refl _ _).alloc (Nat.le_refl _) _).alloc (by simp) _⟩
  · have h1' : (k == k') = false := by simpa using h1
    go_wp2
    go_ret
    exact ⟨by rw [HR.out]; simp [h1], ((Below.refl _ _).alloc (Nat.le_refl _) _).alloc (by simp) _⟩

def EqRel (a b : List Nd) (w : World) (v17 : Value) (wr : World) : Prop := ∃ k : Nat, v17 = .int .i64 (k : Int) ∧ k ≤ a.length ∧ (∀ j (h : j < a.length) (h' : j < b.length), j < k → alikeB a[j] b[j] = true) ∧ Below w.heap.size w wr

set_option maxRecDepth 100000 in
set_option maxHeartbeats 1000000 in
theorem equalFunc_any (A A2 : Option Addr) (n c n2 c2 B : Nat) (a b : List Nd) (w : World) (h : Ns w B A n c a) (h2 : Ns w B A2 n2 c2 b) (hB : B ≤ w.heap.size) :
    Calls Tryz.prog 58 #[.slice A n c, .slice A2 n2 c2, .func (.func 59) #[] #[]] w fun e w' => e = .returned (.bool (sameB a b)) ∧ Below w.heap.size w w' := by
  have HL := Lib.hid h.len
  have HL2 := Lib.hid h2.len
  have hcap := h.cap
  have htop := h.top
  unfold maxLen at htop
  have HS := Lib.hid h
  have HS2 := Lib.hid h2
  go_enter Tryz.func58, Tryz.ntmps58
  by_cases hne : n = n2
  case neg =>
    have hne' : ((n : Int) != (n2 : Int)) = true := by simp; omega
    have HR : Hid (sameB a b = false) := Lib.hid (same_no (by rw [HL.out, HL2.out]; exact hne))
    go_wp2
    go_ret
    exact ⟨by rw [HR.out]; rfl, Below.refl _ _⟩
  subst hne
  have hne' : ((n : Int) != (n : Int)) = false := by simp
  clear h h2
  go_wp2
  go_loopw [17] (fun v17 wr => EqRel a b w v17 wr) (fun v17 _ => n - (intOf v17).toNat)
  case atStart => exact ⟨0, rfl, by omega, fun _ _ _ h => absurd h (by omega), Below.refl _ _⟩
  case round =>
    obtain ⟨k, rfl, hk, hall, hb⟩ := hrel
    have HALL := Lib.hid hall
    clear hall
    by_cases hlt : k < n
    · have hk' : k < a.length := by rw [HL.out]; exact hlt
      have hk2 : k < b.length := by rw [HL2.out]; exact hlt
      obtain ⟨p, o, rfl, hp, c0, c1, c2, c3, c4, c5, c6, c7, c8, c9⟩ := (HS.out.below (hb.mono hB)).node hk'
      have hsz : B ≤ wr.heap.size := Nat.le_trans hB hb.size
      have HST : Hid (alikeB a[k] b[k] = true → ∀ j (h : j < a.length) (h' : j < b.length), j < k + 1 → alikeB a[j] b[j] = true) := by
        intro e j h h' hj
        rcases Nat.lt_or_ge j k with h3 | h3
        · exact HALL.out j h h' h3
        · obtain rfl : j = k := by omega
          exact e
      have HNO : Hid (alikeB a[k] b[k] = false → sameB a b = false) := Lib.hid (same_at hk' hk2)
      have hal := fun W => alike_any a[k] b[k] W
      have hnode2 := fun (W : World) (hW : Below wr.heap.size wr W) => ((HS2.out.below (hb.mono hB)).below (hW.mono hsz)).node hk2
      generalize a[k] = x at *
      generalize b[k] = y at *
      generalize alikeB x y = r at *
      obtain ⟨xk, xm, xs, xn, xlv, xln, xpv, xpn, xev, xen⟩ := x
      obtain ⟨yk, ym, ys, yn, ylv, yln, ypv, ypn, yev, yen⟩ := y
      simp only at c0 c1 c2 c3 c4 c5 c6 c7 c8 c9 hnode2
      have ha1 : Below wr.heap.size wr (wr.alloc (.cells #[.int .u8 xk, .int .i64 xm, .string (str xs), .int .i64 xn, .bool xlv, .int .u64 xln, .bool xpv, .int .u64 xpn, .bool xev, .int .u64 xen] 91)) := (Below.refl _ _).alloc (Nat.le_refl _) _
      have ha2 := ha1.alloc ha1.size (.cells #[.int .u8 yk, .int .i64 ym, .string (str ys), .int .i64 yn, .bool ylv, .int .u64 yln, .bool ypv, .int .u64 ypn, .bool yev, .int .u64 yen] 91)
      obtain ⟨p2, o2, rfl, hp2, d0, d1, d2, d3, d4, d5, d6, d7, d8, d9⟩ := hnode2 _ ha1
      have hblk := heap_alloc_new wr (.cells #[.int .u8 xk, .int .i64 xm, .string (str xs), .int .i64 xn, .bool xlv, .int .u64 xln, .bool xpv, .int .u64 xpn, .bool xev, .int .u64 xen] 91)
      obtain ⟨e0, e1, e2, e3, e4, e5, e6, e7, e8, e9⟩ := blk10 hblk ((Below.refl _ (wr.alloc (.cells #[.int .u8 xk, .int .i64 xm, .string (str xs), .int .i64 xn, .bool xlv, .int .u64 xln, .bool xpv, .int .u64 xpn, .bool xev, .int .u64 xen] 91))).alloc (Nat.le_refl _) (.cells #[.int .u8 yk, .int .i64 ym, .string (str ys), .int .i64 yn, .bool ylv, .int .u64 yln, .bool ypv, .int .u64 ypn, .bool yev, .int .u64 yen] 91))
      have hb2 := hb.trans (ha2.mono hb.size)
      clear hnode2 ha1 ha2 hblk
      go_wp2_with fail
      refine (hal _).mono ?_
      rintro e w3 ⟨rfl, hb3⟩
      have hb4 := hb2.trans (hb3.mono hb2.size)
      clear hb2 hb3 c0 c1 c2 c3 c4 c5 c6 c7 c8 c9 d0 d1 d2 d3 d4 d5 d6 d7 d8 d9 e0 e1 e2 e3 e4 e5 e6 e7 e8 e9
      cases r with
      | true =>
        have HST2 := Lib.hid (HST.out rfl)
        clear HST HNO
        go_wp2_with fail
        go_roundw
        case rel => exact ⟨k + 1, by go_num, by omega, HST2.out, hb4⟩
        case measure => simp [intOf]; omega
      | false =>
        have HR := Lib.hid (HNO.out rfl)
        go_wp2_with fail
        go_ret
        exact ⟨by rw [HR.out]; rfl, hb4⟩
    · obtain rfl : k = n := by have := HL.out; omega
      have HR : Hid (sameB a b = true) := Lib.hid ((same_iff a b).2 ⟨by rw [HL.out, HL2.out], fun j h h' => HALL.out j h h' (by rw [← HL.out]; exact h)⟩)
      go_wp2
      go_ret
      exact ⟨by rw [HR.out]; rfl, hb⟩

set_option maxRecDepth 100000 in
theorem same_any (A A2 : Option Addr) (n c n2 c2 B : Nat) (a b : List Nd) (w : World) (h : Ns w B A n c a) (h2 : Ns w B A2 n2 c2 b) (hB : B ≤ w.heap.size) :
    Calls Tryz.prog 20 #[.slice A n c, .slice A2 n2 c2] w fun e w' => e = .returned (.bool (sameB a b)) ∧ Below w.heap.size w w' := by
  have hc := equalFunc_any A A2 n c n2 c2 B a b w h h2 hB
  clear h h2
  go_enter Tryz.func20, Tryz.ntmps20
  go_wp2_with fail
  refine hc.mono ?_
  rintro e w1 ⟨rfl, hb⟩
  go_wp2_with fail
  go_ret
  exact ⟨rfl, hb⟩
end Go.Proofs.YtfmpecnkkbpdlaaGreat

/- What Check, Deep and End tell. No condition but sizes. -/
namespace Go.Proofs.YtfmpecnkkbpdlaaGreat
open Go.RowKit

theorem dep_small (l : List Nd) : (depB l).length ≤ 128 ∧ ∀ y ∈ depB l, y ≤ 16 := by
  by_cases h : checkB l = 0
  · obtain ⟨h1, h2, f, rfl, n, wf, ht⟩ := body_of h
    obtain ⟨_, e⟩ := body_is n wf ht h2
    rw [e]
    refine ⟨by rw [F.deps_len]; exact h2, fun y hy => ?_⟩
    have : y ≤ F.top (f.deps 1) := by
      obtain ⟨a, b, e⟩ := List.append_of_mem hy
      rw [e, F.top_append, F.top_cons]
      omega
    rw [F.top_deps f 0 (by rintro rfl; simp [F.num] at n)] at this
    omega
  · rw [show depB l = [] by unfold depB; rw [if_neg h]]
    exact ⟨by simp, by simp⟩

set_option maxRecDepth 100000 in
theorem check_any (A : Option Addr) (n c : Nat) (l : List Nd) (w : World) (h : Ns w w.heap.size A n c l) (hf : ∀ x ∈ l, x.Fits) :
    Calls Tryz.prog 53 #[.slice A n c] w fun e w' => e = .returned (.int .i64 (checkB l : Int)) ∧ Below w.heap.size w w' := by
  have hd := depths_any A n c l w h hf
  clear hf
  go_enter Tryz.func53, Tryz.ntmps53
  go_wp2_with fail
  refine hd.mono ?_
  rintro e w1 ⟨A', m, c', rfl, _, hb⟩
  go_wp2_with fail
  go_ret
  exact ⟨rfl, hb⟩



/-- Where the nodes below one end: the first place behind it that is no deeper. -/
structure EndIs (ds : List Nat) (k e : Nat) : Prop where
  lt : k < e
  le : e ≤ ds.length
  above : ∀ j (hj : j < ds.length), k < j → j < e → ds[k]'(by omega) < ds[j]
  stop : ∀ (h : e < ds.length), ds[e] ≤ ds[k]'(by omega)

theorem EndIs.uniq {ds : List Nat} {k e e' : Nat} (h : EndIs ds k e) (h' : EndIs ds k e') : e = e' := by
  rcases Nat.lt_trichotomy e e' with hl | hl | hl
  · have h1 := h'.above e (Nat.lt_of_lt_of_le hl h'.le) h.lt hl
    have h2 := h.stop (Nat.lt_of_lt_of_le hl h'.le)
    omega
  · exact hl
  · have h1 := h.above e' (Nat.lt_of_lt_of_le hl h.le) h'.lt hl
    have h2 := h'.stop (Nat.lt_of_lt_of_le hl h.le)
    omega

/-- What End tells. -/
def EndOf (ds : List Nat) (a : Int) (e : Nat) : Prop := ((a < 0 ∨ (ds.length : Int) ≤ a) ∧ e = 0) ∨ ∃ k : Nat, a = (k : Int) ∧ EndIs ds k e
theorem EndOf.uniq {ds : List Nat} {a : Int} {e e' : Nat} (h : EndOf ds a e) (h' : EndOf ds a e') : e = e' := by
  rcases h with ⟨h1, h2⟩ | ⟨k, rfl, h⟩ <;> rcases h' with ⟨h3, h4⟩ | ⟨k', e1, h'⟩
  · rw [h2, h4]
  · have := h'.lt; have := h'.le; omega
  · have := h.lt; have := h.le; omega
  · obtain rfl : k = k' := by omega
    exact h.uniq h'

def EnRel (ds : List Nat) (k : Nat) (hk : k < ds.length) (w : World) (v7 : Value) (wr : World) : Prop := ∃ e q : Nat, v7 = .int .i64 (e : Int) ∧ k < e ∧ e ≤ ds.length ∧ (∀ j (hj : j < ds.length), k < j → j < e → ds[k] < ds[j]) ∧ wr = w.drewN q

theorem below_drewN (w : World) (q : Nat) {B : Nat} : Below B w (w.drewN q) := ⟨rfl, rfl, rfl, Nat.le_refl _, fun _ _ => rfl⟩
theorem below_after {B : Nat} {w w1 : World} (h : Below B w w1) (q : Nat) : Below B w (w1.drewN q) := ⟨h.os, h.tape, h.output, h.size, h.block⟩

end Go.Proofs.YtfmpecnkkbpdlaaGreat

/- The nodes and the examples that the laws make. No condition but sizes. -/
namespace Go.Proofs.YtfmpecnkkbpdlaaGreat
open Go.RowKit

/-- A node int; one of a function. -/
def nInt : Nd := ⟨1, 0, [105, 110, 116], 0, false, 0, false, 0, false, 0⟩
def nFun : Nd := ⟨5, 0, [], 2, false, 0, false, 0, false, 0⟩
abbrev vInt : Value := .agg #[.int .u8 1, .int .i64 0, .string (str [105, 110, 116]), .int .i64 0, .bool false, .int .u64 0, .bool false, .int .u64 0, .bool false, .int .u64 0]
abbrev vFun : Value := .agg #[.int .u8 5, .int .i64 0, .string (str []), .int .i64 2, .bool false, .int .u64 0, .bool false, .int .u64 0, .bool false, .int .u64 0]
theorem fits_int : nInt.Fits := ⟨by decide, by decide, by decide, by decide, by decide, by decide, by decide⟩
theorem fits_fun : nFun.Fits := ⟨by decide, by decide, by decide, by decide, by decide, by decide, by decide⟩



abbrev oOne : Obj := .cells #[.int .u8 1, .int .i64 0, .string (str [105, 110, 116]), .int .i64 0, .bool false, .int .u64 0, .bool false, .int .u64 0, .bool false, .int .u64 0] 91
abbrev oFun : Obj := .cells #[.int .u8 5, .int .i64 0, .string (str []), .int .i64 2, .bool false, .int .u64 0, .bool false, .int .u64 0, .bool false, .int .u64 0, .int .u8 1, .int .i64 0, .string (str [105, 110, 116]), .int .i64 0, .bool false, .int .u64 0, .bool false, .int .u64 0, .bool false, .int .u64 0, .int .u8 1, .int .i64 0, .string (str [105, 110, 116]), .int .i64 0, .bool false, .int .u64 0, .bool false, .int .u64 0, .bool false, .int .u64 0] 91
abbrev oTwo : Obj := .cells #[.int .u8 1, .int .i64 0, .string (str [105, 110, 116]), .int .i64 0, .bool false, .int .u64 0, .bool false, .int .u64 0, .bool false, .int .u64 0, .int .u8 1, .int .i64 0, .string (str [105, 110, 116]), .int .i64 0, .bool false, .int .u64 0, .bool false, .int .u64 0, .bool false, .int .u64 0] 91

theorem check_lit (A : Option Addr) (n c : Nat) (l : List Nd) (r : Nat) (w : World) (h : Ns w w.heap.size A n c l) (hf : ∀ x ∈ l, x.Fits) (e : checkB l = r) :
    Calls Tryz.prog 53 #[.slice A n c] w fun e w' => e = .returned (.int .i64 (r : Int)) ∧ Below w.heap.size w w' := by
  have := check_any A n c l w h hf
  rwa [e] at this
theorem same_lit' (A A2 : Option Addr) (n c n2 c2 : Nat) (a b : List Nd) (r : Bool) (w : World) (h : Ns w w.heap.size A n c a) (h2 : Ns w w.heap.size A2 n2 c2 b) (e : sameB a b = r) :
    Calls Tryz.prog 20 #[.slice A n c, .slice A2 n2 c2] w fun e w' => e = .returned (.bool r) ∧ Below w.heap.size w w' := by
  have := same_any A A2 n c n2 c2 _ a b w h h2 (Nat.le_refl _)
  rwa [e] at this

theorem Rs.head {α : Type} {enc : α → List Value} {sz : Nat} {w : World} {B n c k : Nat} {A : Option Addr} {l : List α} (h : Rs enc sz w B A n c l) (hk : k ≤ n) : Rs enc sz w B A k c (l.take k) := by
  have hl := h.len
  have hc := h.cap
  refine ⟨by rw [List.length_take]; omega, by omega, h.top, h.none0, fun h0 => ?_⟩
  obtain ⟨b, o, e, hb, hc⟩ := h.spot (by omega)
  refine ⟨b, o, e, hb, fun j hj i u hu => ?_⟩
  rw [List.length_take] at hj
  rw [List.getElem_take] at hu
  exact hc j (by omega) i u hu

theorem nd_size (w : World) : (Go.sizeOf 91).run Tryz.prog w = .ok 10 w := by kernel_rfl

theorem k_one : checkB [nInt] = 0 := by decide +kernel
theorem k_fun : checkB [nFun, nInt, nInt] = 0 := by decide +kernel
theorem k_cut : checkB [nFun, nInt] = 4 := by decide +kernel
theorem k_two : checkB [nInt, nInt] = 4 := by decide +kernel
theorem k_dep : depB [nFun, nInt, nInt] = [1, 2, 2] := by decide +kernel
theorem k_end : EndOf (depB [nFun, nInt, nInt]) 1 2 := by
  rw [k_dep]
  refine .inr ⟨1, rfl, by decide, by decide, fun j hj h1 h2 => by omega, fun h => by show (2 : Nat) ≤ 2; decide⟩
theorem k_same : sameB [nFun, nInt, nInt] [nFun, nInt, nInt] = true := by decide +kernel
theorem k_other : sameB [nInt] [nFun, nInt, nInt] = false := by decide +kernel

end Go.Proofs.YtfmpecnkkbpdlaaGreat
