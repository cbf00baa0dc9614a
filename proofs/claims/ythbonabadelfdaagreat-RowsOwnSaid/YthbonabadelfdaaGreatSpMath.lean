/- Where what stands, as data: the sides of nodes, the spots of a body, bodies whose terms are others. No condition. -/
import Derived.Test.YthbonabadelfdaaGreatNdLaw
import Derived.Test.YthbonabadelfdaaGreatTerms
namespace Go.Proofs.YthbonabadelfdaaGreat

/-- A side, turned: 0 up, 1 down, 2 both. -/
def turnS (s : Nat) : Nat := if s = 0 then 1 else if s = 1 then 0 else 2
theorem turn_turn {s : Nat} (h : s ≤ 2) : turnS (turnS s) = s := by
  have : s = 0 ∨ s = 1 ∨ s = 2 := by omega
  rcases this with rfl | rfl | rfl <;> rfl
theorem turn_le (s : Nat) : turnS s ≤ 2 := by unfold turnS; split <;> (try split) <;> omega

/-- The sides of the nodes right below one of some side. -/
def belowS (x : Nd) (s : Nat) : List Nat := if x.k = 4 then [2] else if x.k = 5 then [turnS s, s] else List.replicate x.n.toNat s

theorem below_len {x : Nd} (s : Nat) (h : x.may = true) : (belowS x s).length = x.n.toNat := by
  unfold Nd.may at h
  unfold belowS
  by_cases h4 : x.k = 4
  · rw [if_neg (by omega), if_neg (by omega), if_neg (by omega), if_pos h4] at h
    simp at h
    rw [if_pos h4, h.1.2]
    rfl
  by_cases h5 : x.k = 5
  · rw [if_neg (by omega), if_neg (by omega), if_neg (by omega), if_neg h4, if_pos h5] at h
    simp at h
    rw [if_neg h4, if_pos h5, h.2]
    rfl
  rw [if_neg h4, if_neg h5, List.length_replicate]

theorem below_le {x : Nd} {s : Nat} (h : s ≤ 2) : ∀ y ∈ belowS x s, y ≤ 2 := by
  intro y hy
  unfold belowS at hy
  split at hy
  · simp at hy; omega
  split at hy
  · simp at hy
    rcases hy with rfl | rfl
    · exact turn_le s
    · exact h
  · rw [List.eq_of_mem_replicate hy]; exact h

/-- The sides of nodes, where those that are missing have these. -/
def sds : List Nd → List Nat → List Nat
  | [], _ => []
  | _ :: _, [] => []
  | x :: l, s :: st => s :: sds l (belowS x s ++ st)

/-- As many nodes as there are, where the check passes. -/
theorem sds_len : ∀ (l : List Nd) (st dst : List Nat), st.length = dst.length → chk l dst = 0 → (sds l st).length = l.length
  | [], _, _, _, _ => rfl
  | _ :: _, st, [], h, k => by simp [chk] at k
  | _ :: _, [], _ :: _, h, _ => by simp at h
  | x :: l, s :: st, d :: dst, h, k => by
    rw [chk_one] at k
    split at k
    · rename_i hm
      split at k
      · cases k
      · simp only [sds, List.length_cons]
        rw [sds_len l _ _ ?_ k]
        unfold opens
        rw [List.length_append, List.length_append, below_len s hm, List.length_replicate]
        simpa using h
    · cases k

/-- A forest, each tree of a side of its own. -/
def F.sd : F → List Nat → List Nat
  | .nil, _ => []
  | .cons _ _ _, [] => []
  | .cons x ks r, s :: ss => s :: (ks.sd (belowS x s) ++ r.sd ss)

theorem F.sd_len : ∀ (f : F) (ss : List Nat), f.wf → ss.length = f.num → (f.sd ss).length = f.flat.length
  | .nil, _, _, _ => rfl
  | .cons _ _ _, [], _, h => by simp [F.num] at h
  | .cons x ks r, s :: ss, ⟨h1, h2, h3, h4, h5⟩, h => by
    simp only [F.num, List.length_cons, Nat.add_right_cancel_iff] at h
    simp only [F.sd, F.flat, List.length_cons, List.length_append]
    rw [F.sd_len ks _ h4 (by rw [below_len s h1]; omega), F.sd_len r ss h5 h]

theorem sds_flat : ∀ (f : F) (ss : List Nat) (l : List Nd) (st : List Nat), f.wf → ss.length = f.num → sds (f.flat ++ l) (ss ++ st) = f.sd ss ++ sds l st
  | .nil, ss, l, st, _, h => by
    have : ss = [] := List.eq_nil_of_length_eq_zero h
    subst this
    rfl
  | .cons _ _ _, [], _, _, _, h => by simp [F.num] at h
  | .cons x ks r, s :: ss, l, st, ⟨h1, h2, h3, h4, h5⟩, h => by
    simp only [F.num, List.length_cons, Nat.add_right_cancel_iff] at h
    simp only [F.flat, List.cons_append, sds, F.sd, List.append_assoc, List.cons.injEq, true_and]
    rw [sds_flat ks (belowS x s) (r.flat ++ l) (ss ++ st) h4 (by rw [below_len s h1]; omega), sds_flat r ss l st h5 h]

theorem below_map (g : Nat → Nat) (hg : ∀ s, g (turnS s) = turnS (g s)) (h2 : g 2 = 2) (x : Nd) (s : Nat) : belowS x (g s) = (belowS x s).map g := by
  unfold belowS
  split
  · simp [h2]
  split
  · simp [hg]
  · simp

/-- Sides that are others alike. -/
theorem sds_map (g : Nat → Nat) (hg : ∀ s, g (turnS s) = turnS (g s)) (h2 : g 2 = 2) : ∀ (l : List Nd) (st : List Nat), sds l (st.map g) = (sds l st).map g
  | [], _ => rfl
  | _ :: _, [] => rfl
  | x :: l, s :: st => by
    simp only [List.map_cons, sds, List.cons.injEq, true_and]
    rw [below_map g hg h2, ← List.map_append, sds_map g hg h2 l]

theorem sds_le : ∀ (l : List Nd) (st : List Nat), (∀ y ∈ st, y ≤ 2) → ∀ y ∈ sds l st, y ≤ 2
  | [], _, _, y, h => by simp [sds] at h
  | _ :: _, [], _, y, h => by simp [sds] at h
  | x :: l, s :: st, hs, y, h => by
    simp only [sds, List.mem_cons] at h
    rcases h with rfl | h
    · exact hs _ List.mem_cons_self
    · refine sds_le l _ (fun z hz => ?_) y h
      rcases List.mem_append.1 hz with hz | hz
      · exact below_le (hs s List.mem_cons_self) z hz
      · exact hs z (List.mem_cons_of_mem _ hz)

/-! ### Spots -/

/-- A spot: its node, part (0 label, 1 PC, 2 effect), side, and the term there. -/
structure Sp where
  n : Nat
  p : Nat
  s : Nat
  v : Bool
  z : Int

def labS (k : Nat) (x : Nd) (s : Nat) : List Sp := ⟨k, 0, s, x.lv, x.ln⟩ :: (if x.k = 5 then [⟨k, 1, turnS s, x.pv, x.pn⟩] else [])
def effS (k : Nat) (x : Nd) (s : Nat) : List Sp := if x.k = 5 then [⟨k, 2, s, x.ev, x.en⟩] else []

def lab : Nat → List Nd → List Nat → List Sp
  | _, [], _ => []
  | _, _ :: _, [] => []
  | k, x :: l, s :: ss => labS k x s ++ lab (k + 1) l ss
def eff : Nat → List Nd → List Nat → List Sp
  | _, [], _ => []
  | _, _ :: _, [] => []
  | k, x :: l, s :: ss => effS k x s ++ eff (k + 1) l ss

/-- The spots of a body, none of one that may not be. -/
def labB (l : List Nd) : List Sp := if checkB l = 0 then lab 0 l (sds l [0]) else []
def effB (l : List Nd) : List Sp := if checkB l = 0 then eff 0 l (sds l [0]) else []

theorem lab_app : ∀ (a b : List Nd) (k : Nat) (sa sb : List Nat), sa.length = a.length → lab k (a ++ b) (sa ++ sb) = lab k a sa ++ lab (k + a.length) b sb
  | [], b, k, sa, sb, h => by
    have : sa = [] := List.eq_nil_of_length_eq_zero h
    subst this
    rfl
  | x :: a, b, k, [], sb, h => by simp at h
  | x :: a, b, k, s :: sa, sb, h => by
    simp only [List.cons_append, lab, List.append_assoc, List.length_cons]
    rw [lab_app a b (k + 1) sa sb (by simpa using h), show k + 1 + a.length = k + (a.length + 1) by omega]
theorem eff_app : ∀ (a b : List Nd) (k : Nat) (sa sb : List Nat), sa.length = a.length → eff k (a ++ b) (sa ++ sb) = eff k a sa ++ eff (k + a.length) b sb
  | [], b, k, sa, sb, h => by
    have : sa = [] := List.eq_nil_of_length_eq_zero h
    subst this
    rfl
  | x :: a, b, k, [], sb, h => by simp at h
  | x :: a, b, k, s :: sa, sb, h => by
    simp only [List.cons_append, eff, List.append_assoc, List.length_cons]
    rw [eff_app a b (k + 1) sa sb (by simpa using h), show k + 1 + a.length = k + (a.length + 1) by omega]

theorem labS_len (k : Nat) (x : Nd) (s : Nat) : 1 ≤ (labS k x s).length ∧ (labS k x s).length ≤ 2 := by
  unfold labS
  split <;> simp
theorem effS_len (k : Nat) (x : Nd) (s : Nat) : (effS k x s).length ≤ 1 := by
  unfold effS
  split <;> simp

theorem lab_len : ∀ (l : List Nd) (k : Nat) (ss : List Nat), (lab k l ss).length ≤ 2 * l.length
  | [], _, _ => by simp [lab]
  | _ :: _, _, [] => by simp [lab]
  | x :: l, k, s :: ss => by
    have := (labS_len k x s).2
    have := lab_len l (k + 1) ss
    simp only [lab, List.length_append, List.length_cons]
    omega
theorem eff_len : ∀ (l : List Nd) (k : Nat) (ss : List Nat), (eff k l ss).length ≤ l.length
  | [], _, _ => by simp [eff]
  | _ :: _, _, [] => by simp [eff]
  | x :: l, k, s :: ss => by
    have := effS_len k x s
    have := eff_len l (k + 1) ss
    simp only [eff, List.length_append, List.length_cons]
    omega

theorem check_len {l : List Nd} (h : checkB l = 0) : 0 < l.length ∧ l.length ≤ 128 := by
  obtain ⟨h1, h2, _⟩ := check_chk h
  exact ⟨List.length_pos_iff.2 h1, h2⟩
theorem sides_len {l : List Nd} (h : checkB l = 0) : (sds l [0]).length = l.length := sds_len l [0] [1] rfl (check_chk h).2.2

theorem labB_len (l : List Nd) : (labB l).length ≤ 256 := by
  unfold labB
  split
  · have := lab_len l 0 (sds l [0]); have := check_len (by assumption); omega
  · simp
theorem effB_len (l : List Nd) : (effB l).length ≤ 128 := by
  unfold effB
  split
  · have := eff_len l 0 (sds l [0]); have := check_len (by assumption); omega
  · simp

/-- One side changed to another one, wherever it stands. -/
def Sp.at (p : Sp) (k : Nat) (s : Nat) : Sp := { p with n := k, s := s }
theorem lab_map (g : Nat → Nat) (hg : ∀ s, g (turnS s) = turnS (g s)) : ∀ (l : List Nd) (k d : Nat) (ss : List Nat), lab (k + d) l (ss.map g) = (lab k l ss).map fun p => p.at (p.n + d) (g p.s)
  | [], _, _, _ => rfl
  | _ :: _, _, _, [] => rfl
  | x :: l, k, d, s :: ss => by
    have := lab_map g hg l (k + 1) d ss
    simp only [List.map_cons, lab, List.map_append]
    rw [← this, show k + 1 + d = k + d + 1 by omega]
    congr 1
    unfold labS
    split <;> simp [Sp.at, hg]

theorem eff_map (g : Nat → Nat) : ∀ (l : List Nd) (k d : Nat) (ss : List Nat), eff (k + d) l (ss.map g) = (eff k l ss).map fun p => p.at (p.n + d) (g p.s)
  | [], _, _, _ => rfl
  | _ :: _, _, _, [] => rfl
  | x :: l, k, d, s :: ss => by
    have := eff_map g l (k + 1) d ss
    simp only [List.map_cons, eff, List.map_append]
    rw [← this, show k + 1 + d = k + d + 1 by omega]
    congr 1
    unfold effS
    split <;> simp [Sp.at]

/-! ### Terms put -/

abbrev Tm := Bool × Int

/-- A node with another term at some part. -/
def Nd.put (x : Nd) (p : Nat) (t : Tm) : Nd :=
  if p = 0 then { x with lv := t.1, ln := t.2 } else if p = 1 then { x with pv := t.1, pn := t.2 } else { x with ev := t.1, en := t.2 }

/-- Terms at as many spots. -/
def fillB : List Nd → List Sp → List Tm → List Nd
  | m, p :: ps, t :: ts => fillB (m.set p.n ((m.getD p.n ⟨0, 0, [], 0, false, 0, false, 0, false, 0⟩).put p.p t)) ps ts
  | m, _, _ => m

theorem fill_len : ∀ (ps : List Sp) (ts : List Tm) (m : List Nd), (fillB m ps ts).length = m.length
  | [], _, _ => by simp [fillB]
  | _ :: _, [], _ => by simp [fillB]
  | p :: ps, t :: ts, m => by simp [fillB, fill_len ps ts]

theorem fill_snoc : ∀ (ps : List Sp) (ts : List Tm) (m : List Nd) (p : Sp) (t : Tm), ps.length = ts.length →
    fillB m (ps ++ [p]) (ts ++ [t]) = (fillB m ps ts).set p.n (((fillB m ps ts).getD p.n ⟨0, 0, [], 0, false, 0, false, 0, false, 0⟩).put p.p t)
  | [], [], m, p, t, _ => rfl
  | [], _ :: _, m, p, t, h => by simp at h
  | _ :: _, [], m, p, t, h => by simp at h
  | q :: ps, u :: ts, m, p, t, h => by
    simp only [List.cons_append, fillB]
    exact fill_snoc ps ts _ p t (by simpa using h)

/-- The labels taken, node by node. -/
def putL : List Nd → List Tm → List Nd
  | [], _ => []
  | x :: l, [] => x :: l
  | x :: l, t :: ts => if x.k = 5 then (match ts with
    | [] => (x.put 0 t) :: l
    | u :: us => ((x.put 0 t).put 1 u) :: putL l us) else (x.put 0 t) :: putL l ts
def putE : List Nd → List Tm → List Nd
  | [], _ => []
  | x :: l, ts => if x.k = 5 then (match ts with
    | [] => x :: l
    | u :: us => (x.put 2 u) :: putE l us) else x :: putE l ts

theorem set_mid (pre : List Nd) (x y : Nd) (l : List Nd) : (pre ++ x :: l).set pre.length y = pre ++ y :: l := by simp
theorem get_mid (pre : List Nd) (x z : Nd) (l : List Nd) : (pre ++ x :: l).getD pre.length z = x := by simp [List.getD]

theorem put_k (x : Nd) (p : Nat) (t : Tm) : (x.put p t).k = x.k := by unfold Nd.put; split <;> (try split) <;> rfl

theorem fill_lab : ∀ (l : List Nd) (pre : List Nd) (ss : List Nat) (ts : List Tm), ss.length = l.length → ts.length = (lab pre.length l ss).length → fillB (pre ++ l) (lab pre.length l ss) ts = pre ++ putL l ts
  | [], pre, ss, ts, _, h => by
    have : ts = [] := List.eq_nil_of_length_eq_zero h
    subst this
    simp [lab, fillB, putL]
  | x :: l, pre, [], ts, h, _ => by simp at h
  | x :: l, pre, s :: ss, [], _, h => by
    have := (labS_len pre.length x s).1
    simp only [lab, List.length_append, List.length_nil] at h
    omega
  | x :: l, pre, s :: ss, t :: ts, hs, h => by
    have hs' : ss.length = l.length := by simpa using hs
    by_cases h5 : x.k = 5
    · have el : labS pre.length x s = [⟨pre.length, 0, s, x.lv, x.ln⟩, ⟨pre.length, 1, turnS s, x.pv, x.pn⟩] := by simp [labS, h5]
      simp only [lab, el, List.cons_append, List.nil_append, List.length_cons] at h ⊢
      cases ts with
      | nil => simp at h
      | cons u us =>
        simp only [fillB, putL, h5, if_true, set_mid, get_mid]
        have := fill_lab l (pre ++ [(x.put 0 t).put 1 u]) ss us hs' (by simp at h ⊢; omega)
        simpa using this
    · have el : labS pre.length x s = [⟨pre.length, 0, s, x.lv, x.ln⟩] := by simp [labS, h5]
      simp only [lab, el, List.cons_append, List.nil_append, List.length_cons] at h ⊢
      simp only [fillB, putL, h5, if_false, set_mid, get_mid]
      have := fill_lab l (pre ++ [x.put 0 t]) ss ts hs' (by simp at h ⊢; omega)
      simpa using this

theorem fill_eff : ∀ (l : List Nd) (pre : List Nd) (ss : List Nat) (ts : List Tm), ss.length = l.length → ts.length = (eff pre.length l ss).length → fillB (pre ++ l) (eff pre.length l ss) ts = pre ++ putE l ts
  | [], pre, ss, ts, _, h => by
    have : ts = [] := List.eq_nil_of_length_eq_zero h
    subst this
    simp [eff, fillB, putE]
  | x :: l, pre, [], ts, h, _ => by simp at h
  | x :: l, pre, s :: ss, ts, hs, h => by
    have hs' : ss.length = l.length := by simpa using hs
    by_cases h5 : x.k = 5
    · have el : effS pre.length x s = [⟨pre.length, 2, s, x.ev, x.en⟩] := by simp [effS, h5]
      simp only [eff, el, List.cons_append, List.nil_append, List.length_cons] at h ⊢
      cases ts with
      | nil => simp at h
      | cons u us =>
        simp only [fillB, putE, h5, if_true, set_mid, get_mid]
        have := fill_eff l (pre ++ [x.put 2 u]) ss us hs' (by simp at h ⊢; omega)
        simpa using this
    · have el : effS pre.length x s = [] := by simp [effS, h5]
      simp only [eff, el, List.nil_append] at h ⊢
      simp only [putE, h5, if_false]
      have := fill_eff l (pre ++ [x]) ss ts hs' (by simp at h ⊢; omega)
      simpa using this

/-- What Put makes of a body. -/
def putB (l : List Nd) (ts us : List Tm) : List Nd := putE (putL l ts) us

/-- The same but for terms where they may stand. -/
inductive Alks : List Nd → List Nd → Prop where
  | nil : Alks [] []
  | cons {x y : Nd} {l m : List Nd} : Alk x y → Alks l m → Alks (x :: l) (y :: m)
theorem Alks.refl : ∀ l, Alks l l
  | [] => .nil
  | x :: l => .cons (Alk.refl x) (Alks.refl l)
theorem Alk.trans {x y z : Nd} (h : Alk x y) (k : Alk y z) : Alk x z := ⟨h.k.trans k.k, h.m.trans k.m, h.s.trans k.s, h.n.trans k.n, h.may.trans k.may⟩
theorem Alks.trans : ∀ {a b c : List Nd}, Alks a b → Alks b c → Alks a c
  | _, _, _, .nil, .nil => .nil
  | _, _, _, .cons h t, .cons h' t' => .cons (h.trans h') (t.trans t')
theorem Alks.len : ∀ {a b : List Nd}, Alks a b → a.length = b.length
  | _, _, .nil => rfl
  | _, _, .cons _ t => by simp [t.len]
theorem Alks.get : ∀ {a b : List Nd}, Alks a b → ∀ j (h : j < a.length) (h' : j < b.length), Alk a[j] b[j]
  | _, _, .nil, j, h, _ => by simp at h
  | _, _, .cons h t, 0, _, _ => h
  | _, _, .cons _ t, j + 1, h1, h2 => t.get j (by simpa using h1) (by simpa using h2)
theorem Alks.sds : ∀ {a b : List Nd}, Alks a b → ∀ st, sds a st = sds b st
  | _, _, .nil, _ => rfl
  | _, _, .cons _ _, [] => rfl
  | _, _, .cons (x := x) (y := y) h t, s :: st => by
    have : belowS x s = belowS y s := by simp [belowS, h.k, h.n]
    simp only [_root_.Go.Proofs.YthbonabadelfdaaGreat.sds, this, t.sds]

theorem alk_put0 (x : Nd) (t : Tm) : Alk x (x.put 0 t) := alk_L x t
theorem alk_put1 {x : Nd} (t : Tm) (h : x.k = 5) : Alk x (x.put 1 t) := ⟨rfl, rfl, rfl, rfl, by
  obtain ⟨k, m, s, n, lv, ln, pv, pn, ev, en⟩ := x
  simp only at h
  subst h
  rfl⟩
theorem alk_put2 {x : Nd} (t : Tm) (h : x.k = 5) : Alk x (x.put 2 t) := ⟨rfl, rfl, rfl, rfl, by
  obtain ⟨k, m, s, n, lv, ln, pv, pn, ev, en⟩ := x
  simp only at h
  subst h
  rfl⟩

theorem alks_putL : ∀ (l : List Nd) (ts : List Tm), Alks l (putL l ts)
  | [], _ => .nil
  | x :: l, [] => Alks.refl _
  | x :: l, t :: ts => by
    unfold putL
    split
    · rename_i h5
      split
      · exact .cons (alk_put0 x t) (Alks.refl l)
      · exact .cons ((alk_put0 x t).trans (alk_put1 _ (by rw [put_k]; exact h5))) (alks_putL l _)
    · exact .cons (alk_put0 x t) (alks_putL l ts)
theorem alks_putE : ∀ (l : List Nd) (ts : List Tm), Alks l (putE l ts)
  | [], _ => .nil
  | x :: l, ts => by
    unfold putE
    split
    · rename_i h5
      split
      · exact Alks.refl _
      · exact .cons (alk_put2 _ h5) (alks_putE l _)
    · exact .cons (Alk.refl x) (alks_putE l ts)
theorem alks_putB (l : List Nd) (ts us : List Tm) : Alks l (putB l ts us) := (alks_putL l ts).trans (alks_putE _ us)

/-- A spot with another term. -/
def Sp.re (p : Sp) (t : Tm) : Sp := { p with v := t.1, z := t.2 }
def Sp.t (p : Sp) : Tm := (p.v, p.z)

theorem lab_putL : ∀ (l : List Nd) (k : Nat) (ss : List Nat) (ts : List Tm), ss.length = l.length → ts.length = (lab k l ss).length → lab k (putL l ts) ss = List.zipWith Sp.re (lab k l ss) ts
  | [], k, ss, ts, _, _ => by simp [lab, putL]
  | x :: l, k, [], ts, h, _ => by simp at h
  | x :: l, k, s :: ss, [], _, h => by
    have := (labS_len k x s).1
    simp only [lab, List.length_append, List.length_nil] at h
    omega
  | x :: l, k, s :: ss, t :: ts, hs, h => by
    have hs' : ss.length = l.length := by simpa using hs
    by_cases h5 : x.k = 5
    · have el : labS k x s = [⟨k, 0, s, x.lv, x.ln⟩, ⟨k, 1, turnS s, x.pv, x.pn⟩] := by simp [labS, h5]
      simp only [lab, el, List.cons_append, List.nil_append, List.length_cons] at h ⊢
      cases ts with
      | nil => simp at h
      | cons u us =>
        have := lab_putL l (k + 1) ss us hs' (by simp at h; omega)
        simp only [putL, h5, if_true, lab, List.zipWith_cons_cons, this]
        simp [labS, Nd.put, h5, Sp.re]
    · have el : labS k x s = [⟨k, 0, s, x.lv, x.ln⟩] := by simp [labS, h5]
      simp only [lab, el, List.cons_append, List.nil_append, List.length_cons] at h ⊢
      have := lab_putL l (k + 1) ss ts hs' (by simp at h; omega)
      simp only [putL, h5, if_false, lab, List.zipWith_cons_cons, this]
      simp [labS, Nd.put, h5, Sp.re]

theorem lab_putE : ∀ (l : List Nd) (k : Nat) (ss : List Nat) (ts : List Tm), lab k (putE l ts) ss = lab k l ss
  | [], k, ss, ts => by simp [lab, putE]
  | x :: l, k, [], ts => by
    unfold putE
    split
    · split <;> rfl
    · rfl
  | x :: l, k, s :: ss, ts => by
    unfold putE
    split
    · rename_i h5
      split
      · rfl
      · simp only [lab, lab_putE l]
        simp [labS, Nd.put, h5]
    · simp only [lab, lab_putE l]

theorem eff_putL : ∀ (l : List Nd) (k : Nat) (ss : List Nat) (ts : List Tm), eff k (putL l ts) ss = eff k l ss
  | [], k, ss, ts => by simp [eff, putL]
  | x :: l, k, ss, [] => rfl
  | x :: l, k, [], t :: ts => by
    unfold putL
    split
    · split <;> rfl
    · rfl
  | x :: l, k, s :: ss, t :: ts => by
    unfold putL
    split
    · rename_i h5
      split
      · simp only [eff]
        simp [effS, Nd.put, h5]
      · simp only [eff, eff_putL l]
        simp [effS, Nd.put, h5]
    · simp only [eff, eff_putL l]
      simp [effS, Nd.put]

theorem eff_putE : ∀ (l : List Nd) (k : Nat) (ss : List Nat) (ts : List Tm), ss.length = l.length → ts.length = (eff k l ss).length → eff k (putE l ts) ss = List.zipWith Sp.re (eff k l ss) ts
  | [], k, ss, ts, _, _ => by simp [eff, putE]
  | x :: l, k, [], ts, h, _ => by simp at h
  | x :: l, k, s :: ss, ts, hs, h => by
    have hs' : ss.length = l.length := by simpa using hs
    by_cases h5 : x.k = 5
    · have el : effS k x s = [⟨k, 2, s, x.ev, x.en⟩] := by simp [effS, h5]
      simp only [eff, el, List.cons_append, List.nil_append, List.length_cons] at h ⊢
      cases ts with
      | nil => simp at h
      | cons u us =>
        have := eff_putE l (k + 1) ss us hs' (by simp at h; omega)
        simp only [putE, h5, if_true, eff, List.zipWith_cons_cons, this]
        simp [effS, Nd.put, h5, Sp.re]
    · have el : effS k x s = [] := by simp [effS, h5]
      simp only [eff, el, List.nil_append] at h ⊢
      have := eff_putE l (k + 1) ss ts hs' (by omega)
      simp only [putE, h5, if_false, eff, this, el, List.nil_append]

theorem putL_own : ∀ (l : List Nd) (k : Nat) (ss : List Nat), ss.length = l.length → putL l ((lab k l ss).map Sp.t) = l
  | [], _, _, _ => rfl
  | x :: l, k, [], h => by simp at h
  | x :: l, k, s :: ss, h => by
    have hs' : ss.length = l.length := by simpa using h
    by_cases h5 : x.k = 5
    · simp [lab, labS, h5, putL, putL_own l (k + 1) ss hs', Sp.t, Nd.put]
      rw [← h5]
    · simp [lab, labS, h5, putL, putL_own l (k + 1) ss hs', Sp.t, Nd.put]
theorem putE_own : ∀ (l : List Nd) (k : Nat) (ss : List Nat), ss.length = l.length → putE l ((eff k l ss).map Sp.t) = l
  | [], _, _, _ => rfl
  | x :: l, k, [], h => by simp at h
  | x :: l, k, s :: ss, h => by
    have hs' : ss.length = l.length := by simpa using h
    by_cases h5 : x.k = 5
    · simp [eff, effS, h5, putE, putE_own l (k + 1) ss hs', Sp.t, Nd.put]
      rw [← h5]
    · simp [eff, effS, h5, putE, putE_own l (k + 1) ss hs']

/-- What follows for bodies. -/
theorem putB_check {l : List Nd} (ts us : List Tm) : checkB (putB l ts us) = checkB l := (check_alk (alks_putB l ts us).len (alks_putB l ts us).get).symm
theorem putB_same (l : List Nd) (ts us : List Tm) : sameB l (putB l ts us) = true := same_alk (alks_putB l ts us).len (alks_putB l ts us).get

theorem putB_fill {l : List Nd} (h : checkB l = 0) {ts us : List Tm} (ht : ts.length = (labB l).length) (hu : us.length = (effB l).length) : fillB (fillB l (labB l) ts) (effB l) us = putB l ts us := by
  have hsl := sides_len h
  unfold labB at ht ⊢
  unfold effB at hu ⊢
  rw [if_pos h] at ht hu ⊢
  rw [if_pos h]
  have h1 := fill_lab l [] (sds l [0]) ts hsl (by simpa using ht)
  simp only [List.nil_append, List.length_nil] at h1
  rw [h1]
  have h2 := fill_eff (putL l ts) [] (sds l [0]) us (by rw [← (alks_putL l ts).len]; exact hsl) (by rw [List.length_nil, eff_putL]; exact hu)
  simp only [List.nil_append, List.length_nil, eff_putL] at h2
  exact h2

theorem putB_lab {l : List Nd} (h : checkB l = 0) {ts us : List Tm} (ht : ts.length = (labB l).length) : labB (putB l ts us) = List.zipWith Sp.re (labB l) ts := by
  have hsl := sides_len h
  unfold labB at ht ⊢
  rw [putB_check, if_pos h, ← (alks_putB l ts us).sds]
  rw [if_pos h] at ht
  rw [if_pos h]
  unfold putB
  rw [lab_putE, lab_putL l 0 _ ts hsl ht]
theorem putB_eff {l : List Nd} (h : checkB l = 0) {ts us : List Tm} (hu : us.length = (effB l).length) : effB (putB l ts us) = List.zipWith Sp.re (effB l) us := by
  have hsl := sides_len h
  unfold effB at hu ⊢
  rw [putB_check, if_pos h, ← (alks_putB l ts us).sds]
  rw [if_pos h] at hu
  rw [if_pos h]
  unfold putB
  rw [eff_putE _ 0 _ us (by rw [← (alks_putL l ts).len]; exact hsl) (by rw [eff_putL]; exact hu), eff_putL]
theorem putB_own {l : List Nd} (h : checkB l = 0) : putB l ((labB l).map Sp.t) ((effB l).map Sp.t) = l := by
  have hsl := sides_len h
  unfold labB effB putB
  rw [if_pos h, if_pos h, putL_own l 0 _ hsl, putE_own l 0 _ hsl]
end Go.Proofs.YthbonabadelfdaaGreat
