/- NdMath; NdFun: merged. -/
import Derived.Test.YthbonabadelfdaaGreatVals
import Derived.Test.YthbonabadelfdaaGreatKept
import Derived.Test.YthbonabadelfdaaGreatProg
import Derived.Sort.EncStr
import Derived.Lib.Strings
import Derived.Lib.RowBridge
import Derived.WalkKit
import Derived.OwnWalk
import Derived.Laws.StructEq
import Derived.Outline
import Derived.Deep.QuietTactic
import Derived.BigQuiet

/- Nodes of types as data; what a body is: a forest whose nodes stand each ahead of those below it; the check with what is open, node by node. No condition. -/
namespace Go.Proofs.YthbonabadelfdaaGreat

/-- A node: kind, module, name, kids, and the three terms. -/
structure Nd where
  k : Int
  m : Int
  s : List UInt8
  n : Int
  lv : Bool
  ln : Int
  pv : Bool
  pn : Int
  ev : Bool
  en : Int

/-! ### A node may be -/

def lett (r : Nat) : Bool := decide (97 ≤ r ∧ r ≤ 122) || decide (65 ≤ r ∧ r ≤ 90)
def digi (r : Nat) : Bool := decide (48 ≤ r ∧ r ≤ 57)
/-- May the letter r stand at place i? -/
def okAt (i r : Nat) : Bool := lett r || (decide (i ≠ 0) && (digi r || decide (r = 95)))
/-- May it be a name? -/
def nameB (s : List UInt8) : Bool := decide (0 < s.length ∧ s.length ≤ 32 ∧ ∀ i (h : i < s.length), okAt i s[i].toNat = true)
/-- bool, int, text, unit. -/
def baseB (s : List UInt8) : Bool := decide (s = [98, 111, 111, 108]) || (decide (s = [105, 110, 116]) || (decide (s = [116, 101, 120, 116]) || decide (s = [117, 110, 105, 116])))

def Nd.still (x : Nd) : Bool := !x.pv && decide (x.pn = 0) && (!x.ev && decide (x.en = 0))
def Nd.plain (x : Nd) : Bool := decide (x.s = []) && decide (x.m = 0)

/-- May the node be? -/
def Nd.may (x : Nd) : Bool :=
  if x.k = 1 then baseB x.s && decide (x.m = 0) && decide (x.n = 0) && x.still
  else if x.k = 2 then nameB x.s && decide (0 ≤ x.m) && decide (x.m ≤ 16) && decide (x.n = 0) && x.still
  else if x.k = 3 then x.plain && decide (0 ≤ x.n) && x.still
  else if x.k = 4 then x.plain && decide (x.n = 1) && x.still
  else if x.k = 5 then x.plain && decide (x.n = 2)
  else false

theorem base_name {s : List UInt8} (h : baseB s = true) : nameB s = true := by
  simp only [baseB, Bool.or_eq_true, decide_eq_true_eq] at h
  rcases h with rfl | rfl | rfl | rfl <;> decide

theorem Nd.may_kids {x : Nd} (h : x.may = true) : 0 ≤ x.n := by
  unfold Nd.may at h
  split at h
  · simp at h; omega
  split at h
  · simp at h; omega
  split at h
  · simp at h; omega
  split at h
  · simp at h; omega
  split at h
  · simp at h; omega
  · cases h

/-! ### The check, with a list of what is open -/

/-- What a node puts in its own place. -/
def opens (x : Nd) (d : Nat) (st : List Nat) : List Nat := List.replicate x.n.toNat (d + 1) ++ st

def chk : List Nd → List Nat → Nat
  | [], [] => 0
  | [], _ :: _ => 4
  | _ :: _, [] => 4
  | x :: l, d :: st => if x.may = true then (if 8 < x.n ∨ 16 < d then 3 else chk l (opens x d st)) else 4

def dps : List Nd → List Nat → List Nat
  | [], _ => []
  | _ :: _, [] => []
  | x :: l, d :: st => d :: dps l (opens x d st)

/-- What Check tells. -/
def checkB (l : List Nd) : Nat := if l = [] then 1 else if 128 < l.length then 3 else chk l [1]
/-- The depths of a body's nodes, none of one that may not be. -/
def depB (l : List Nd) : List Nat := if checkB l = 0 then dps l [1] else []

/-! ### Forests -/

/-- A row of trees: the first one's root, the trees below it, the other trees. -/
inductive F where
  | nil
  | cons (x : Nd) (ks r : F)

namespace F
def num : F → Nat
  | nil => 0
  | cons _ _ r => r.num + 1
def flat : F → List Nd
  | nil => []
  | cons x ks r => x :: (ks.flat ++ r.flat)
def deps : F → Nat → List Nat
  | nil, _ => []
  | cons _ ks r, d => d :: (ks.deps (d + 1) ++ r.deps d)
def ht : F → Nat
  | nil => 0
  | cons _ ks r => max (ks.ht + 1) r.ht
/-- Its nodes may be, and have as many below them as they say. -/
def wf : F → Prop
  | nil => True
  | cons x ks r => x.may = true ∧ x.n = (ks.num : Int) ∧ ks.num ≤ 8 ∧ ks.wf ∧ r.wf

theorem deps_len : ∀ (f : F) (d : Nat), (f.deps d).length = f.flat.length
  | nil, _ => rfl
  | cons x ks r, d => by simp [deps, flat, deps_len ks, deps_len r]

/-- What stands there is taken node by node. -/
theorem chk_flat : ∀ (f : F) (d : Nat) (l : List Nd) (st : List Nat), f.wf → d + f.ht ≤ 17 → chk (f.flat ++ l) (List.replicate f.num d ++ st) = chk l st
  | nil, _, _, _, _, _ => rfl
  | cons x ks r, d, l, st, h, hd => by
    obtain ⟨h1, h2, h3, h4, h5⟩ := h
    simp only [ht] at hd
    have hk := chk_flat ks (d + 1) (r.flat ++ l) (List.replicate r.num d ++ st) h4 (by omega)
    have hr := chk_flat r d l st h5 (by omega)
    simp only [flat, num, List.replicate_succ, List.cons_append, chk, h1, if_true, opens, h2, Int.toNat_natCast]
    rw [if_neg (by omega), List.append_assoc, hk, hr]

theorem dps_flat : ∀ (f : F) (d : Nat) (l : List Nd) (st : List Nat), f.wf → dps (f.flat ++ l) (List.replicate f.num d ++ st) = f.deps d ++ dps l st
  | nil, _, _, _, _ => rfl
  | cons x ks r, d, l, st, h => by
    obtain ⟨h1, h2, h3, h4, h5⟩ := h
    have hk := dps_flat ks (d + 1) (r.flat ++ l) (List.replicate r.num d ++ st) h4
    have hr := dps_flat r d l st h5
    simp only [flat, num, List.replicate_succ, List.cons_append, dps, opens, h2, Int.toNat_natCast, deps]
    rw [List.append_assoc, hk, hr, List.append_assoc]

/-- What is too deep is told. -/
theorem chk_deep : ∀ (f : F) (d : Nat) (l : List Nd) (st : List Nat), f.wf → d ≤ 17 → 17 < d + f.ht → chk (f.flat ++ l) (List.replicate f.num d ++ st) = 3
  | nil, _, _, _, _, h, k => by simp [ht] at k; omega
  | cons x ks r, d, l, st, h, hd, hk => by
    obtain ⟨h1, h2, h3, h4, h5⟩ := h
    simp only [ht] at hk
    simp only [flat, num, List.replicate_succ, List.cons_append, chk, h1, if_true, opens, h2, Int.toNat_natCast]
    by_cases h16 : 16 < d
    · rw [if_pos (.inr h16)]
    rw [if_neg (by omega), List.append_assoc]
    by_cases hks : 17 < d + 1 + ks.ht
    · exact chk_deep ks (d + 1) (r.flat ++ l) (List.replicate r.num d ++ st) h4 (by omega) hks
    · rw [chk_flat ks (d + 1) _ _ h4 (by omega)]
      exact chk_deep r d l st h5 hd (by omega)

/-- What passes is a forest. -/
theorem of_chk : ∀ (m : Nat) (l : List Nd) (n d : Nat) (st : List Nat), l.length ≤ m → d ≤ 17 → chk l (List.replicate n d ++ st) = 0 → ∃ (f : F) (l' : List Nd), l = f.flat ++ l' ∧ f.num = n ∧ f.wf ∧ d + f.ht ≤ 17 ∧ chk l' st = 0
  | m, l, 0, d, st, _, hd, h => ⟨nil, l, rfl, rfl, trivial, hd, h⟩
  | 0, l, n + 1, d, st, hl, _, h => by
    have : l = [] := List.eq_nil_of_length_eq_zero (by omega)
    subst this
    simp [List.replicate_succ, chk] at h
  | m + 1, [], n + 1, d, st, hl, _, h => by simp [List.replicate_succ, chk] at h
  | m + 1, x :: l, n + 1, d, st, hl, hd, h => by
    simp only [List.replicate_succ, List.cons_append, chk] at h
    split at h
    · rename_i hm
      split at h
      · cases h
      · rename_i hno
        unfold opens at h
        simp only [List.length_cons] at hl
        obtain ⟨ks, l1, e1, n1, w1, d1, c1⟩ := of_chk m l x.n.toNat (d + 1) _ (by omega) (by omega) h
        have hl1 : l1.length ≤ m := by rw [e1, List.length_append] at hl; omega
        obtain ⟨r, l2, e2, n2, w2, d2, c2⟩ := of_chk m l1 n d st hl1 hd c1
        have h0 := Nd.may_kids hm
        refine ⟨cons x ks r, l2, ?_, ?_, ⟨hm, by omega, by omega, w1, w2⟩, ?_, c2⟩
        · rw [e1, e2]; simp [flat]
        · simp [num, n2]
        · simp only [ht]; omega
    · cases h

/-- One forest for each row. -/
theorem flat_inj : ∀ (f g : F) (a b : List Nd), f.wf → g.wf → f.num = g.num → f.flat ++ a = g.flat ++ b → f = g ∧ a = b
  | nil, nil, _, _, _, _, _, h => ⟨rfl, h⟩
  | nil, cons _ _ _, _, _, _, _, h, _ => by simp [num] at h
  | cons _ _ _, nil, _, _, _, _, h, _ => by simp [num] at h
  | cons x ks r, cons y cs t, a, b, hf, hg, hn, h => by
    obtain ⟨h1, h2, h3, h4, h5⟩ := hf
    obtain ⟨k1, k2, k3, k4, k5⟩ := hg
    simp only [flat, List.cons_append, List.cons.injEq, List.append_assoc] at h
    obtain ⟨rfl, h⟩ := h
    obtain ⟨e1, h'⟩ := flat_inj ks cs _ _ h4 k4 (by omega) h
    simp only [num, Nat.add_right_cancel_iff] at hn
    obtain ⟨e2, h''⟩ := flat_inj r t _ _ h5 k5 hn h'
    exact ⟨by rw [e1, e2], h''⟩

/-- All are d at least; each of them. -/
theorem deps_ge : ∀ (f : F) (d : Nat), ∀ y ∈ f.deps d, d ≤ y
  | nil, _, y, h => by simp [deps] at h
  | cons x ks r, d, y, h => by
    simp only [deps, List.mem_cons, List.mem_append] at h
    rcases h with rfl | h | h
    · exact Nat.le_refl _
    · have := deps_ge ks (d + 1) y h; omega
    · exact deps_ge r d y h

/-- The tree at a place: what stands there, and what stands behind it. -/
theorem split : ∀ (f : F) (d k : Nat), k < f.flat.length → f.wf →
    ∃ (x : Nd) (ks : F) (d' : Nat) (post : List Nd) (dpost : List Nat), f.flat.drop k = (cons x ks nil).flat ++ post ∧ (f.deps d).drop k = (cons x ks nil).deps d' ++ dpost ∧ post.length = dpost.length ∧
      (cons x ks nil).wf ∧ d ≤ d' ∧ (d' + (cons x ks nil).ht ≤ d + f.ht) ∧ (∀ y, dpost.head? = some y → y ≤ d') ∧ (0 < k → f.num = 1 → (cons x ks nil).ht < f.ht)
  | nil, _, k, h, _ => by simp [flat] at h
  | cons x ks r, d, 0, _, h => by
    obtain ⟨h1, h2, h3, h4, h5⟩ := h
    refine ⟨x, ks, d, r.flat, r.deps d, by simp [flat], by simp [deps], (deps_len r d).symm, ⟨h1, h2, h3, h4, trivial⟩, Nat.le_refl _, by simp only [ht]; omega, fun y hy => ?_, fun h => absurd h (by omega)⟩
    cases r with
    | nil => simp [deps] at hy
    | cons _ _ _ => simp [deps] at hy; omega
  | cons x ks r, d, k + 1, hk, h => by
    obtain ⟨h1, h2, h3, h4, h5⟩ := h
    simp only [flat, List.length_cons, List.length_append] at hk
    by_cases hlt : k < ks.flat.length
    · obtain ⟨y, cs, d', post, dpost, e1, e2, e3, w, g1, g2, g3, g4⟩ := split ks (d + 1) k hlt h4
      refine ⟨y, cs, d', post ++ r.flat, dpost ++ r.deps d, ?_, ?_, ?_, w, by omega, by simp only [ht] at g2 ⊢; omega, ?_, fun _ _ => by simp only [ht] at g2 ⊢; omega⟩
      · rw [show (cons x ks r).flat = x :: (ks.flat ++ r.flat) from rfl, List.drop_succ_cons, List.drop_append_of_le_length (by omega), e1, List.append_assoc]
      · rw [show (cons x ks r).deps d = d :: (ks.deps (d + 1) ++ r.deps d) from rfl, List.drop_succ_cons, List.drop_append_of_le_length (by rw [deps_len]; omega), e2, List.append_assoc]
      · simp [e3, deps_len]
      · intro z hz
        cases dpost with
        | nil =>
          simp only [List.nil_append] at hz
          cases r with
          | nil => simp [deps] at hz
          | cons _ _ _ => simp [deps] at hz; omega
        | cons q qs => simp only [List.cons_append, List.head?_cons, Option.some.injEq] at hz; subst hz; exact g3 q rfl
    · obtain ⟨y, cs, d', post, dpost, e1, e2, e3, w, g1, g2, g3, g4⟩ := split r d (k - ks.flat.length) (by omega) h5
      refine ⟨y, cs, d', post, dpost, ?_, ?_, e3, w, g1, by simp only [ht] at g2 ⊢; omega, g3, fun _ hn => ?_⟩
      · rw [show (cons x ks r).flat = x :: (ks.flat ++ r.flat) from rfl, List.drop_succ_cons, List.drop_append, List.drop_eq_nil_of_le (by omega), List.nil_append, e1]
      · rw [show (cons x ks r).deps d = d :: (ks.deps (d + 1) ++ r.deps d) from rfl, List.drop_succ_cons, List.drop_append, List.drop_eq_nil_of_le (by rw [deps_len]; omega), List.nil_append, deps_len, e2]
      · simp only [num] at hn
        have : r.num = 0 := by omega
        cases r with
        | nil => simp [flat] at hk; omega
        | cons _ _ _ => simp [num] at this

/-- The greatest depth. -/
def top (l : List Nat) : Nat := l.foldl max 0
theorem foldl_max (l : List Nat) : ∀ a b : Nat, l.foldl max (max a b) = max a (l.foldl max b) := by
  induction l with
  | nil => intro a b; rfl
  | cons x l ih => intro a b; simp only [List.foldl_cons]; rw [Nat.max_assoc, ih]
theorem top_cons (x : Nat) (l : List Nat) : top (x :: l) = max x (top l) := by
  unfold top
  rw [List.foldl_cons, Nat.max_comm 0 x, foldl_max]
theorem top_append (l m : List Nat) : top (l ++ m) = max (top l) (top m) := by
  induction l with
  | nil => simp [top]
  | cons x l ih => rw [List.cons_append, top_cons, top_cons, ih, Nat.max_assoc]

theorem top_deps : ∀ (f : F) (d : Nat), f ≠ nil → top (f.deps (d + 1)) = d + f.ht
  | nil, _, h => absurd rfl h
  | cons x ks r, d, _ => by
    simp only [deps, ht]
    rw [top_cons, top_append]
    have hk : ks = nil ∨ top (ks.deps (d + 2)) = d + 1 + ks.ht := by
      by_cases h : ks = nil
      · exact .inl h
      · exact .inr (top_deps ks (d + 1) h)
    have hr : r = nil ∨ top (r.deps (d + 1)) = d + r.ht := by
      by_cases h : r = nil
      · exact .inl h
      · exact .inr (top_deps r d h)
    have t0 : ∀ d, top (nil.deps d) = 0 := fun _ => rfl
    have h0 : nil.ht = 0 := rfl
    rcases hk with rfl | hk <;> rcases hr with rfl | hr
    · rw [t0, t0, h0]; omega
    · rw [t0, hr, h0]; omega
    · rw [hk, t0, h0]; omega
    · rw [hk, hr]; omega
end F

/-! ### Bodies -/

/-- A body that may be is one tree. -/
theorem body_of {l : List Nd} (h : checkB l = 0) : l ≠ [] ∧ l.length ≤ 128 ∧ ∃ f : F, l = f.flat ∧ f.num = 1 ∧ f.wf ∧ f.ht ≤ 16 := by
  unfold checkB at h
  split at h
  · cases h
  split at h
  · cases h
  rename_i h1 h2
  obtain ⟨f, l', e, n, w, d, c⟩ := F.of_chk l.length l 1 1 [] (Nat.le_refl _) (by omega) h
  have : l' = [] := by
    cases l' with
    | nil => rfl
    | cons _ _ => simp [chk] at c
  subst this
  exact ⟨h1, by omega, f, by simpa using e, n, w, by omega⟩

theorem body_is {f : F} (n : f.num = 1) (w : f.wf) (h : f.ht ≤ 16) (hl : f.flat.length ≤ 128) : checkB f.flat = 0 ∧ depB f.flat = f.deps 1 := by
  have hne : f.flat ≠ [] := by cases f <;> simp [F.num, F.flat] at *
  have hc : checkB f.flat = 0 := by
    unfold checkB
    rw [if_neg hne, if_neg (by omega)]
    have := F.chk_flat f 1 [] [] w (by omega)
    rw [n] at this
    simpa [chk] using this
  refine ⟨hc, ?_⟩
  unfold depB
  rw [if_pos hc]
  have := F.dps_flat f 1 [] [] w
  rw [n] at this
  simpa [dps] using this

end Go.Proofs.YthbonabadelfdaaGreat

/- What may be said of a node alone: letters, digits, names, base names; still, nameless, mayBe; the document's; alike. No condition but sizes. -/
namespace Go.Proofs.YthbonabadelfdaaGreat
open Go.RowKit

/-- The text of bytes. -/
def str (l : List UInt8) : ByteArray := ⟨l.toArray⟩
/-- .. in a cell. -/
def txt (l : List UInt8) : Value := .string (str l)
theorem str_size (l : List UInt8) : (str l).size = l.length := rfl
theorem str_data (l : List UInt8) : (str l).data.toList = l := by simp [str]
theorem str_list (l : List UInt8) : (str l).toList = l := by rw [Lib.toList_data, str_data]
theorem str_of (s : ByteArray) : str s.data.toList = s := by cases s; simp [str]
theorem same_str (a b : List UInt8) : ((str a).toList == (str b).toList) = decide (a = b) := by rw [str_list, str_list]; by_cases h : a = b <;> simp [h]
theorem same_lit (s t : List UInt8) : ((str s).toList == t) = decide (s = t) := by rw [str_list]; by_cases h : s = t <;> simp [h]
theorem str_get (s : List UInt8) (i : Nat) (h : i < (str s).size) : (str s)[i]'h = s[i]'h := by
  simp [str, ByteArray.getElem_eq_getElem_data]
  rfl

/-- The cells of a node. -/
def ndc (x : Nd) : List Value := [.int .u8 x.k, .int .i64 x.m, txt x.s, .int .i64 x.n, .bool x.lv, .int .u64 x.ln, .bool x.pv, .int .u64 x.pn, .bool x.ev, .int .u64 x.en]
theorem ndc_len (x : Nd) : (ndc x).length = 10 := rfl
/-- A node in a variable. -/
abbrev nda (k m : Int) (s : ByteArray) (n : Int) (lv : Bool) (ln : Int) (pv : Bool) (pn : Int) (ev : Bool) (en : Int) : Value :=
  .agg #[.int .u8 k, .int .i64 m, .string s, .int .i64 n, .bool lv, .int .u64 ln, .bool pv, .int .u64 pn, .bool ev, .int .u64 en]
def ndv (x : Nd) : Value := nda x.k x.m (str x.s) x.n x.lv x.ln x.pv x.pn x.ev x.en

set_option maxRecDepth 100000 in
theorem letter_any (r : Nat) (b : Bool) (w : World) (h : lett r = b) : Calls Tryz.prog 104 #[.int .u8 (r : Int)] w fun e w' => e = .returned (.bool b) ∧ w = w' := by
  have HB := Lib.hid h
  clear h
  go_enter Tryz.func104, Tryz.ntmps104
  by_cases h1 : 97 ≤ r <;> by_cases h2 : r ≤ 122 <;> by_cases h3 : 65 ≤ r <;> by_cases h4 : r ≤ 90 <;> first | omega | skip
  all_goals (
    go_wp2
    go_ret
    refine ⟨?_, rfl⟩
    rw [← HB.out]
    simp [lett, h1, h2, h3, h4]
    try omega)

set_option maxRecDepth 100000 in
theorem digit_any (r : Nat) (b : Bool) (w : World) (h : digi r = b) : Calls Tryz.prog 105 #[.int .u8 (r : Int)] w fun e w' => e = .returned (.bool b) ∧ w = w' := by
  have HB := Lib.hid h
  clear h
  go_enter Tryz.func105, Tryz.ntmps105
  by_cases h1 : 48 ≤ r <;> by_cases h2 : r ≤ 57 <;> first | omega | skip
  all_goals (
    go_wp2
    go_ret
    refine ⟨?_, rfl⟩
    rw [← HB.out]
    simp [digi, h1, h2]
    try omega)

theorem index_at (s : List UInt8) (k : Nat) (h : k < s.length) (W : World) : (Instr.index 9 (.string (str s)) (.int .i64 (k : Int))).run Tryz.prog W = .ok (.int .u8 (s[k].toNat : Int)) W := by
  have h1 : k < (str s).size := h
  have h2 : (str s)[k]? = some (s[k]) := by
    rw [getElem?_pos (str s) k h1, str_get]
  simp [Instr.index, asIntOf, run_underlying Tryz.underlying9, h2]
  rfl

/-- The letters ahead of place k may stand where they stand. -/
def NmRel (s : List UInt8) (w : World) (i : Value) (wr : World) : Prop := ∃ k : Nat, i = .int .i64 (k : Int) ∧ k ≤ s.length ∧ (∀ i (h : i < s.length), i < k → okAt i s[i].toNat = true) ∧ wr = w

set_option maxRecDepth 100000 in
set_option maxHeartbeats 1000000 in
theorem name_any (s : List UInt8) (w : World) (hs : s.length ≤ 9223372036854775807) : Calls Tryz.prog 100 #[.string (str s)] w fun e w' => e = .returned (.bool (nameB s)) ∧ w = w' := by
  have hsz := str_size s
  generalize hn : s.length = n at *
  have HL := Lib.hid hn
  clear hn
  go_enter Tryz.func100, Tryz.ntmps100
  by_cases h0 : n = 0
  · have HN : Hid (nameB s = false) := by show _ = _; simp [nameB, HL.out, h0]
    subst h0
    go_wp2
    go_ret
    exact ⟨by rw [HN.out]; rfl, rfl⟩
  have h0' : ((n : Int) == 0) = false := by simp; omega
  by_cases h32 : 32 < n
  · have HN : Hid (nameB s = false) := by show _ = _; simp only [nameB, HL.out, decide_eq_false_iff_not]; omega
    have h32' : (32 : Int) < (n : Int) := by omega
    go_wp2
    go_ret
    exact ⟨by rw [HN.out]; rfl, rfl⟩
  have h32' : ¬ (32 : Int) < (n : Int) := by omega
  go_wp2
  go_loopw [14] (fun i wr => NmRel s w i wr) (fun i _ => n - (intOf i).toNat)
  case atStart => exact ⟨0, rfl, by omega, fun _ _ h => absurd h (by omega), rfl⟩
  case round =>
    obtain ⟨k, rfl, hk, hok, rfl⟩ := hrel
    by_cases hlt : k < n
    · have hk' : k < s.length := by rw [HL.out]; exact hlt
      have hxk := index_at s k hk'
      have hlti : (k : Int) < (n : Int) := by omega
      by_cases hy : okAt k s[k].toNat = true
      · have HS : Hid (∀ i (h : i < s.length), i < k + 1 → okAt i s[i].toNat = true) := by
          intro i hi hj
          rcases Nat.lt_or_ge i k with h | h
          · exact hok i hi h
          · obtain rfl : i = k := by omega
            exact hy
        clear hok
        generalize s[k].toNat = r at *
        unfold okAt at hy
        generalize hb1 : lett r = b1 at *
        have HB := Lib.hid hb1
        clear hb1
        cases b1 with
        | true =>
          go_wp2_with fail
          refine (letter_any r _ _ HB.out).mono ?_
          rintro e w1 ⟨rfl, rfl⟩
          go_wp2_with fail
          go_roundw
          case rel => exact ⟨k + 1, by go_num, by omega, HS.out, rfl⟩
          case measure => simp [intOf]; omega
        | false =>
          have hk0 : ((k : Int) == 0) = false := by simp at hy; simp; omega
          generalize hb2 : digi r = b2 at *
          have HB2 := Lib.hid hb2
          clear hb2
          cases b2 with
          | true =>
            go_wp2_with fail
            refine (letter_any r _ _ HB.out).mono ?_
            rintro e w1 ⟨rfl, rfl⟩
            go_wp2_with fail
            refine (digit_any r _ _ HB2.out).mono ?_
            rintro e w1 ⟨rfl, rfl⟩
            go_wp2_with fail
            go_roundw
            case rel => exact ⟨k + 1, by go_num, by omega, HS.out, rfl⟩
            case measure => simp [intOf]; omega
          | false =>
            have h95 : ((r : Int) != 95) = false := by simp at hy; simp; omega
            go_wp2_with fail
            refine (letter_any r _ _ HB.out).mono ?_
            rintro e w1 ⟨rfl, rfl⟩
            go_wp2_with fail
            refine (digit_any r _ _ HB2.out).mono ?_
            rintro e w1 ⟨rfl, rfl⟩
            go_wp2_with fail
            go_roundw
            case rel => exact ⟨k + 1, by go_num, by omega, HS.out, rfl⟩
            case measure => simp [intOf]; omega
      · have HN : Hid (nameB s = false) := by
          show _ = _
          simp only [nameB, decide_eq_false_iff_not]
          exact fun h => hy (h.2.2 k hk')
        clear hok
        rw [Bool.not_eq_true] at hy
        generalize s[k].toNat = r at *
        unfold okAt at hy
        generalize hb1 : lett r = b1 at *
        have HB := Lib.hid hb1
        clear hb1
        cases b1 with
        | true => simp at hy
        | false =>
          by_cases hk0 : k = 0
          · subst hk0
            have hx0 : ∀ W, (Instr.index 9 (.string (str s)) (.int .i64 0)).run Tryz.prog W = .ok (.int .u8 (r : Int)) W := hxk
            clear hxk
            generalize str s = S at *
            go_wp2_with fail
            refine (letter_any r _ _ HB.out).mono ?_
            rintro e w1 ⟨rfl, rfl⟩
            go_wp2_with fail
            go_ret
            exact ⟨by rw [HN.out]; rfl, rfl⟩
          · have hk0' : ((k : Int) == 0) = false := by simp; omega
            generalize hb2 : digi r = b2 at *
            have HB2 := Lib.hid hb2
            clear hb2
            cases b2 with
            | true => simp [hk0] at hy
            | false =>
              have h95 : ((r : Int) != 95) = true := by simp [hk0] at hy; simp; omega
              go_wp2_with fail
              refine (letter_any r _ _ HB.out).mono ?_
              rintro e w1 ⟨rfl, rfl⟩
              go_wp2_with fail
              refine (digit_any r _ _ HB2.out).mono ?_
              rintro e w1 ⟨rfl, rfl⟩
              go_wp2_with fail
              go_ret
              exact ⟨by rw [HN.out]; rfl, rfl⟩
    · obtain rfl : k = n := by have := HL.out; omega
      have HN : Hid (nameB s = true) := by
        show _ = _
        have hl := HL.out
        simp only [nameB, decide_eq_true_eq]
        exact ⟨by omega, by omega, fun i h => hok i h (by omega)⟩
      clear hok
      go_wp2
      go_ret
      exact ⟨by rw [HN.out]; rfl, rfl⟩

set_option maxRecDepth 100000 in
theorem baseName_any (s : List UInt8) (w : World) : Calls Tryz.prog 99 #[.string (str s)] w fun e w' => e = .returned (.bool (baseB s)) ∧ w = w' := by
  have h1 := same_lit s [98, 111, 111, 108]
  have h2 := same_lit s [105, 110, 116]
  have h3 := same_lit s [116, 101, 120, 116]
  have h4 := same_lit s [117, 110, 105, 116]
  have HB : Hid (baseB s = (decide (s = [98, 111, 111, 108]) || (decide (s = [105, 110, 116]) || (decide (s = [116, 101, 120, 116]) || decide (s = [117, 110, 105, 116]))))) := Lib.hid rfl
  generalize decide (s = [98, 111, 111, 108]) = b1 at *
  generalize decide (s = [105, 110, 116]) = b2 at *
  generalize decide (s = [116, 101, 120, 116]) = b3 at *
  generalize decide (s = [117, 110, 105, 116]) = b4 at *
  generalize str s = S at *
  go_enter Tryz.func99, Tryz.ntmps99
  cases b1 <;> cases b2 <;> cases b3 <;> cases b4
  all_goals (
    go_wp2
    go_ret
    exact ⟨by rw [HB.out]; rfl, rfl⟩)
end Go.Proofs.YthbonabadelfdaaGreat
