/- What the laws of types ask of bodies: one more node ahead, a node less, one more; appends of nodes. No condition but sizes. -/
import Derived.Test.YthbonabadelfdaaGreatAlive
namespace Go.Proofs.YthbonabadelfdaaGreat
open Go.RowKit

/-- One forest behind another one. -/
def F.app : F → F → F
  | .nil, g => g
  | .cons x ks r, g => .cons x ks (F.app r g)
theorem F.app_num : ∀ f g : F, (f.app g).num = f.num + g.num
  | .nil, _ => by simp [F.app, F.num]
  | .cons _ _ r, g => by simp only [F.app, F.num, F.app_num r g]; omega
theorem F.app_flat : ∀ f g : F, (f.app g).flat = f.flat ++ g.flat
  | .nil, _ => rfl
  | .cons _ _ r, g => by simp [F.app, F.flat, F.app_flat r g]
theorem F.app_ht : ∀ f g : F, (f.app g).ht = max f.ht g.ht
  | .nil, _ => by simp [F.app, F.ht]
  | .cons _ _ r, g => by simp only [F.app, F.ht, F.app_ht r g]; omega
theorem F.app_wf : ∀ f g : F, f.wf → g.wf → (f.app g).wf
  | .nil, _, _, h => h
  | .cons _ _ r, g, ⟨h1, h2, h3, h4, h5⟩, h => ⟨h1, h2, h3, h4, F.app_wf r g h5 h⟩


def zNd : Value := .agg #[.int .u8 0, .int .i64 0, .string ByteArray.empty, .int .i64 0, .bool false, .int .u64 0, .bool false, .int .u64 0, .bool false, .int .u64 0]
theorem nd_inf : (Tryz.prog.info? 97).map (fun i => (i.zero, i.size, i.bytes)) = some (some zNd, 10, 88) := by kernel_rfl

theorem ndc_one (l : List Nd) : ∀ u ∈ l.flatMap ndc, u.oneCell' = true := by
  intro u hu
  obtain ⟨x, _, hx⟩ := List.mem_flatMap.1 hu
  simp only [ndc, List.mem_cons, List.not_mem_nil, or_false] at hx
  rcases hx with rfl | rfl | rfl | rfl | rfl | rfl | rfl | rfl | rfl | rfl <;> rfl

/-- append(own, xs...) of nodes, as one operation. -/
theorem wpList_append_nd {w : World} {ops : Array Oper} {rest : List Oper} {o : Oper} {a : Act} {Q : Exit → Act → World → Prop} (hgd : o.guard = none) (s x : Operand)
    (ho : o.op = .call { callee := .builtin .append, args := #[s, x], argTypes := #[48, 48] })
    (base : Nat) (v : Value) (n : Nat) (vs : List Nd) (hs : a.eval s = v) (hown : w.ownsRow base 97 10 v n (vs.flatMap ndc)) (B : Nat) (A : Option Addr) (m c : Nat) (ms : List Nd) (hx : a.eval x = .slice A m c) (hr : Ns w B A m c ms)
    (hsm : n + m ≤ 100000) (hbase : base ≤ w.heap.size)
    (h : ∀ A' k c' w', Hid (k = n + m) → Hid (Appended w w' base 97 10 v (.slice A' k c') k ((vs ++ ms).flatMap ndc)) → wpList Tryz.prog ops Q rest (a.put o.dst (.slice A' k c')) w') : wpList Tryz.prog ops Q (o :: rest) a w := by
  obtain ⟨i0, hi0, hz0, hz1, hz2⟩ := info_parts nd_inf
  have key : ∃ v' w', (Builtin.append_ #[48, 48] o.type #[v, .slice A m c]).run Tryz.prog w = .ok v' w' ∧ Appended w w' base 97 10 v v' (n + m) ((vs ++ ms).flatMap ndc) := by
    rcases A with _ | ad
    · have hc0 := hr.none0 rfl
      have hm0 : m = 0 := by have := hr.cap; omega
      subst hc0
      subst hm0
      have hms : ms = [] := List.eq_nil_of_length_eq_zero hr.len
      subst hms
      exact ⟨v, w, run_append_owned_none (P := Tryz.prog) w base 48 o.type 97 i0 10 Tryz.underlying48 hi0 v n _ hown, ⟨by simpa using hown, ⟨rfl, rfl, rfl, Nat.le_refl _, fun _ _ _ => rfl⟩, .inl rfl⟩⟩
    · have hcells : ∀ j y, (ms.flatMap ndc)[j]? = some y → w.cell? (ad.add j) = some y := by
        rcases Nat.eq_zero_or_pos m with h0 | h0
        · have hms : ms = [] := List.eq_nil_of_length_eq_zero (by rw [hr.len, h0])
          subst hms
          intro j u hu
          simp at hu
        · obtain ⟨b, q, hA, _, hc⟩ := hr.spot h0
          injection hA with hA
          subst hA
          exact Rs.cells ndc_len (by decide) hc
      have := run_append_both (P := Tryz.prog) w base 48 48 o.type 97 i0 _ 10 88 Tryz.underlying48 hi0 hz0 hz1 hz2 rfl (by decide) v n _ hown ad m c (ms.flatMap ndc) (by rw [flat_len ndc_len, hr.len]) hcells (ndc_one ms) (by unfold maxLen; omega) (by omega) hbase rfl
      rw [← List.flatMap_append] at this
      exact this
  obtain ⟨v', w', hrun, h2⟩ := key
  obtain ⟨A', c', rfl⟩ := rs_own_form h2.own
  refine wpList_plain hgd fun K hK => ?_
  unfold Oper.wp execOp
  simp only [ho, resolve, invoke, builtin, Sem.run_bind, Sem.run_pure, Result.andThen_ok, List.map_toArray, List.map_cons, List.map_nil, hs, hx, hrun]
  exact hK _ _ (h A' (n + m) c' w' rfl h2)

/-- A block of nodes that the call just made is its own. -/
theorem own_of_blk {w : World} {g base n : Nat} {cs : Array Value} {l : List Nd} (hg : w.heap[g]? = some (.cells cs 97 (0, 0))) (hb : base ≤ g) (hcs : cs.toList = l.flatMap ndc) (hn : l.length = n) (hm : n ≤ maxLen) :
    w.ownsRow base 97 10 (.slice (some ⟨g, 0, none⟩) n n) n (l.flatMap ndc) := by
  have hl : (l.flatMap ndc).length = n * 10 := by rw [flat_len ndc_len, hn]
  refine ⟨hl, .inr ⟨g, n, cs, rfl, hb, hg, Nat.le_refl _, hm, ?_, ?_⟩⟩
  · rw [← Array.length_toList, hcs, hl]
  · rw [hcs, List.take_of_length_le (by rw [hl]; exact Nat.le_refl _)]

abbrev oRef : Obj := .cells #[.int .u8 4, .int .i64 0, .string (str []), .int .i64 1, .bool false, .int .u64 0, .bool false, .int .u64 0, .bool false, .int .u64 0] 97
abbrev oTup : Obj := .cells #[.int .u8 3, .int .i64 0, .string (str []), .int .i64 2, .bool false, .int .u64 0, .bool false, .int .u64 0, .bool false, .int .u64 0, .int .u8 1, .int .i64 0, .string (str [105, 110, 116]), .int .i64 0, .bool false, .int .u64 0, .bool false, .int .u64 0, .bool false, .int .u64 0] 97
abbrev oFi : Obj := .cells #[.int .u8 5, .int .i64 0, .string (str []), .int .i64 2, .bool false, .int .u64 0, .bool false, .int .u64 0, .bool false, .int .u64 0, .int .u8 1, .int .i64 0, .string (str [105, 110, 116]), .int .i64 0, .bool false, .int .u64 0, .bool false, .int .u64 0, .bool false, .int .u64 0] 97
abbrev oF : Obj := .cells #[.int .u8 5, .int .i64 0, .string (str []), .int .i64 2, .bool false, .int .u64 0, .bool false, .int .u64 0, .bool false, .int .u64 0] 97

/-! ### One more node ahead -/

def nRef : Nd := ⟨4, 0, [], 1, false, 0, false, 0, false, 0⟩
def nTup : Nd := ⟨3, 0, [], 2, false, 0, false, 0, false, 0⟩
theorem fits_ref : nRef.Fits := ⟨by decide, by decide, by decide, by decide, by decide, by decide, by decide⟩
theorem fits_tup : nTup.Fits := ⟨by decide, by decide, by decide, by decide, by decide, by decide, by decide⟩
theorem fits_cons {x : Nd} {l : List Nd} (h : x.Fits) (k : ∀ y ∈ l, y.Fits) : ∀ y ∈ x :: l, y.Fits := by
  intro y hy
  rcases List.mem_cons.1 hy with rfl | hy
  · exact h
  · exact k y hy
theorem fits_app {l m : List Nd} (h : ∀ y ∈ l, y.Fits) (k : ∀ y ∈ m, y.Fits) : ∀ y ∈ l ++ m, y.Fits := by
  intro y hy
  rcases List.mem_append.1 hy with hy | hy
  · exact h y hy
  · exact k y hy
theorem fits_nil : ∀ y ∈ ([] : List Nd), y.Fits := by simp

/-- What the check tells of a tree one deeper. -/
theorem put_facts {l L : List Nd} (h : checkB l = 0) (hL : ∀ f : F, l = f.flat → f.num = 1 → f.wf → ∃ g : F, L = g.flat ∧ g.num = 1 ∧ g.wf ∧ g.ht = f.ht + 1) :
    (128 < L.length → checkB L = 3) ∧ (L.length ≤ 128 → 16 ≤ F.top (depB l) → checkB L = 3) ∧ (L.length ≤ 128 → F.top (depB l) < 16 → checkB L = 0 ∧ F.top (depB L) = F.top (depB l) + 1) := by
  obtain ⟨h1, h2, f, rfl, n, wf, ht⟩ := body_of h
  obtain ⟨_, e⟩ := body_is n wf ht h2
  obtain ⟨g, rfl, gn, gw, gh⟩ := hL f rfl n wf
  have hne : f ≠ .nil := by rintro rfl; simp [F.num] at n
  have hng : g ≠ .nil := by rintro rfl; simp [F.num] at gn
  have hnl : g.flat ≠ [] := by cases g <;> simp [F.num, F.flat] at *
  have htop := F.top_deps f 0 hne
  rw [Nat.zero_add, Nat.zero_add] at htop
  rw [e, htop]
  refine ⟨fun h3 => ?_, fun h3 h4 => ?_, fun h3 h4 => ?_⟩
  · unfold checkB
    rw [if_neg hnl, if_pos h3]
  · unfold checkB
    rw [if_neg hnl, if_neg (by omega)]
    have := F.chk_deep g 1 [] [] gw (by omega) (by omega)
    rw [gn] at this
    simpa using this
  · obtain ⟨g1, g2⟩ := body_is gn gw (by omega) h3
    have htg := F.top_deps g 0 hng
    rw [Nat.zero_add, Nat.zero_add] at htg
    exact ⟨g1, by rw [g2, htg, gh]⟩

theorem F.ht_pos {f : F} (h : f.num = 1) : 1 ≤ f.ht := by
  cases f with
  | nil => simp [F.num] at h
  | cons x ks r => simp only [F.ht]; omega

theorem put0 {l : List Nd} : ∀ f : F, l = f.flat → f.num = 1 → f.wf → ∃ g : F, [nRef] ++ l = g.flat ∧ g.num = 1 ∧ g.wf ∧ g.ht = f.ht + 1 := by
  rintro f rfl n w
  exact ⟨.cons nRef f .nil, by simp [F.flat], rfl, ⟨by decide, by rw [n]; rfl, by omega, w, trivial⟩, by simp [F.ht]⟩
theorem put1 {l : List Nd} : ∀ f : F, l = f.flat → f.num = 1 → f.wf → ∃ g : F, [nTup, nInt] ++ l = g.flat ∧ g.num = 1 ∧ g.wf ∧ g.ht = f.ht + 1 := by
  rintro f rfl n w
  have := F.ht_pos n
  exact ⟨.cons nTup (.cons nInt .nil f) .nil, by simp [F.flat], rfl, ⟨by decide, by simp [F.num, n]; rfl, by simp [F.num, n], ⟨by decide, rfl, by decide, trivial, w⟩, trivial⟩, by simp only [F.ht]; omega⟩
theorem put2 {l : List Nd} : ∀ f : F, l = f.flat → f.num = 1 → f.wf → ∃ g : F, [nFun, nInt] ++ l = g.flat ∧ g.num = 1 ∧ g.wf ∧ g.ht = f.ht + 1 := by
  rintro f rfl n w
  have := F.ht_pos n
  exact ⟨.cons nFun (.cons nInt .nil f) .nil, by simp [F.flat], rfl, ⟨by decide, by simp [F.num, n]; rfl, by simp [F.num, n], ⟨by decide, rfl, by decide, trivial, w⟩, trivial⟩, by simp only [F.ht]; omega⟩
theorem put3 {l : List Nd} : ∀ f : F, l = f.flat → f.num = 1 → f.wf → ∃ g : F, [nFun] ++ l ++ [nInt] = g.flat ∧ g.num = 1 ∧ g.wf ∧ g.ht = f.ht + 1 := by
  rintro f rfl n w
  have := F.ht_pos n
  exact ⟨.cons nFun (f.app (.cons nInt .nil .nil)) .nil, by simp [F.flat, F.app_flat], rfl, ⟨by decide, by rw [F.app_num, n]; rfl, by rw [F.app_num, n]; decide, F.app_wf _ _ w ⟨by decide, rfl, by decide, trivial, trivial⟩, trivial⟩, by simp only [F.ht, F.app_ht]; omega⟩

/-! ### A node less, one more, one more below -/

theorem chk_less : ∀ (a b : List Nd) (st : List Nat), b ≠ [] → chk (a ++ b) st = 0 → chk a st = 4
  | [], b, st, hb, h => by
    cases b with
    | nil => exact absurd rfl hb
    | cons x b =>
      cases st with
      | nil => simp [chk] at h
      | cons d st => rfl
  | x :: a, b, [], _, _ => rfl
  | x :: a, b, d :: st, hb, h => by
    rw [List.cons_append, chk_one] at h
    rw [chk_one]
    split at h
    · rename_i h1
      split at h
      · cases h
      · rename_i h2
        rw [if_pos h1, if_neg h2]
        exact chk_less a b _ hb h
    · cases h

theorem chk_more (y : Nd) : ∀ (a : List Nd) (st : List Nat), chk a st = 0 → chk (a ++ [y]) st = 4
  | [], [], _ => rfl
  | [], _ :: _, h => by simp [chk] at h
  | x :: a, [], h => by simp [chk] at h
  | x :: a, d :: st, h => by
    rw [chk_one] at h
    rw [List.cons_append, chk_one]
    split at h
    · rename_i h1
      split at h
      · cases h
      · rename_i h2
        rw [if_pos h1, if_neg h2]
        exact chk_more y a _ h
    · cases h

/-- As many are opened as there are nodes. -/
theorem chk_sum : ∀ (a : List Nd) (st : List Nat), chk a st = 0 → (st.length : Int) + (a.map Nd.n).sum = a.length
  | [], [], _ => rfl
  | [], _ :: _, h => by simp [chk] at h
  | x :: a, [], h => by simp [chk] at h
  | x :: a, d :: st, h => by
    rw [chk_one] at h
    split at h
    · rename_i h1
      split at h
      · cases h
      · have := chk_sum a _ h
        have h0 := Nd.may_kids h1
        unfold opens at this
        rw [List.length_append, List.length_replicate] at this
        simp only [List.map_cons, List.sum_cons, List.length_cons]
        omega
    · cases h

theorem check_chk {l : List Nd} (h : checkB l = 0) : l ≠ [] ∧ l.length ≤ 128 ∧ chk l [1] = 0 := by
  unfold checkB at h
  split at h
  · cases h
  split at h
  · cases h
  exact ⟨by assumption, by omega, h⟩

theorem cut_less {l : List Nd} (h : checkB l = 0) : (l.length = 1 → checkB (l.take (l.length - 1)) = 1) ∧ (1 < l.length → checkB (l.take (l.length - 1)) = 4) := by
  obtain ⟨h1, h2, h3⟩ := check_chk h
  refine ⟨fun e => ?_, fun e => ?_⟩
  · rw [e]; rfl
  · have hl : (l.take (l.length - 1)).length = l.length - 1 := by rw [List.length_take]; omega
    unfold checkB
    rw [if_neg (by intro e'; rw [e'] at hl; simp at hl; omega), if_neg (by omega)]
    refine chk_less _ (l.drop (l.length - 1)) _ (fun e' => ?_) (by rw [List.take_append_drop]; exact h3)
    have := congrArg List.length e'
    rw [List.length_drop] at this
    simp at this
    omega

theorem cut_more {l : List Nd} (y : Nd) (h : checkB l = 0) (hl : l.length ≤ 127) : checkB (l ++ [y]) = 4 := by
  obtain ⟨h1, h2, h3⟩ := check_chk h
  unfold checkB
  rw [if_neg (by simp), if_neg (by simp; omega)]
  exact chk_more y l _ h3

theorem sum_set (y : Nd) : ∀ (l : List Nd) (k : Nat) (h : k < l.length), y.n = l[k].n + 1 → ((l.set k y).map Nd.n).sum = (l.map Nd.n).sum + 1
  | x :: l, 0, _, e => by simp only [List.set_cons_zero, List.map_cons, List.sum_cons, e, List.getElem_cons_zero]; omega
  | x :: l, k + 1, h, e => by
    have := sum_set y l k (by simpa using h) (by simpa using e)
    simp only [List.set_cons_succ, List.map_cons, List.sum_cons, this]
    omega

theorem cut_kids {l : List Nd} (h : checkB l = 0) {k : Nat} (hk : k < l.length) {y : Nd} (e : y.n = l[k].n + 1) : checkB (l.set k y) ≠ 0 := by
  obtain ⟨h1, h2, h3⟩ := check_chk h
  intro h4
  obtain ⟨_, _, h5⟩ := check_chk h4
  have s1 := chk_sum l _ h3
  have s2 := chk_sum _ _ h5
  rw [sum_set y l k hk e, List.length_set] at s2
  omega
end Go.Proofs.YthbonabadelfdaaGreat
