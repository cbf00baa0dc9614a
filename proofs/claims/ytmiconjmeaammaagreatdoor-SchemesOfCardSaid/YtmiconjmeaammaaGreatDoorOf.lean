/- What spots.Of tells. Condition: the nodes can be read. -/
import Derived.Test.YtmiconjmeaammaaGreatDoorSides
import Derived.Test.YtmiconjmeaammaaGreatDoorFinder
namespace Go.Proofs.YtmiconjmeaammaaGreatDoor
open Go.RowKit Go.Shelf

attribute [local go_sem] Oper.semAt_some

def zSp : Value := .agg #[.int .i64 0, .int .u8 0, .int .u8 0, .bool false, .int .u64 0]
theorem sp_inf : (Tryz.prog.info? 106).map (fun i => (i.zero, i.size, i.bytes)) = some (some zSp, 5, 32) := by kernel_rfl
theorem spc_one (l : List Sp) : ∀ u ∈ l.flatMap spc, u.oneCell' = true := by
  intro u hu
  obtain ⟨x, _, hx⟩ := List.mem_flatMap.1 hu
  simp only [spc, List.mem_cons, List.not_mem_nil, or_false] at hx
  rcases hx with rfl | rfl | rfl | rfl | rfl <;> rfl

/-- append(own, q) of spots, as one operation of a region that draws. -/
theorem wp_append_sp {w : World} {o : Oper} {a : Act} {K : Act → World → Prop} {Q : Exit → Act → World → Prop} (s x : Operand) (ho : o.op = .call { callee := .builtin .append, args := #[s, x], argTypes := #[82, 82] })
    (base : Nat) (v : Value) (n : Nat) (vs : List Sp) (hs : a.eval s = v) (hown : w.ownsRow base 106 5 v n (vs.flatMap spc)) (g : Nat) (q : Sp) (hx : a.eval x = .slice (some ⟨g, 0, none⟩) 1 1) (hg : w.heap[g]? = some (.cells (spc q).toArray 106 (0, 0)))
    (hsm : n ≤ 1000) (hbase : base ≤ w.heap.size)
    (h : ∀ A' c' w', Hid (Appended w w' base 106 5 v (.slice A' (n + 1) c') (n + 1) ((vs ++ [q]).flatMap spc)) → K (a.put o.dst (.slice A' (n + 1) c')) w') : o.wp Tryz.prog a w K Q := by
  obtain ⟨i0, hi0, hz0, hz1, hz2⟩ := info_parts sp_inf
  have hcells : ∀ j y, ((spc q))[j]? = some y → w.cell? ((⟨g, 0, none⟩ : Addr).add j) = some y := by
    intro j u hu
    rw [Addr.add_lit, Nat.zero_add, cell_blk hg]
    simpa using hu
  have h1 : ∀ u ∈ spc q, u.oneCell' = true := fun u hu => spc_one [q] u (by simpa using hu)
  obtain ⟨v', w', hrun, h2⟩ := run_append_both (P := Tryz.prog) w base 82 82 o.type 106 i0 _ 5 32 Tryz.underlying82 hi0 hz0 hz1 hz2 rfl (by decide) v n _ hown ⟨g, 0, none⟩ 1 1 (spc q) rfl hcells h1 (by unfold maxLen; omega) (by omega) hbase rfl
  rw [show vs.flatMap spc ++ spc q = (vs ++ [q]).flatMap spc by simp] at h2
  obtain ⟨A', c', rfl⟩ := rs_own_form h2.own
  unfold Oper.wp execOp
  simp only [ho, resolve, invoke, builtin, Sem.run_bind, Sem.run_pure, Result.andThen_ok, List.map_toArray, List.map_cons, List.map_nil, hs, hx, hrun]
  exact h A' c' w' h2

/-- Cells stay but those of rows of sides; old memory stays. -/
structure CK (n₀ : Nat) (A B : World) : Prop where
  bel : Below n₀ A B
  keep : ∀ (b : Nat) (cs : Array Value) (t : TypeId) (z : Nat × Nat), A.heap[b]? = some (.cells cs t z) → t ≠ 104 → B.heap[b]? = some (.cells cs t z)

theorem CK.of_step {n₀ : Nat} {A B : World} (h : StepT n₀ A B) : CK n₀ A B :=
  ⟨h.bel, fun b cs t z hb ht => h.keep b _ hb fun cs' z' e => by injection e with _ e _; exact ht e⟩
theorem CK.of_grown {n₀ B : Nat} {W W' : World} {row : Option Nat} (hg : W.grownBy W' row) (hr : ∀ r, row = some r → B ≤ r ∧ ∃ o : Obj, W.heap[r]? = some o ∧ o.isCells = false) (hB : n₀ ≤ B) (hs : n₀ ≤ W.heap.size) : CK n₀ W W' :=
  ⟨(Below.refl n₀ W).grown hg hs fun j e => Nat.le_trans hB (hr j e).1, fun b cs t z hb _ => (hg.block b (lt_blk hb) fun e => by
    obtain ⟨_, o, ho, hc⟩ := hr b e.symm
    rw [hb] at ho
    cases ho
    cases hc).trans hb⟩

theorem own_ck {n₀ base n sz : Nat} {E : TypeId} {A B : World} {v : Value} {xs : List Value} (hE : E ≠ 104) (h : A.ownsRow base E sz v n xs) (k : CK n₀ A B) : B.ownsRow base E sz v n xs := by
  refine ⟨h.1, ?_⟩
  rcases h.2 with hn | ⟨g, cap, cur, hv, hg, hgg, r⟩
  · exact .inl hn
  · exact .inr ⟨g, cap, cur, hv, hg, k.keep g _ _ _ hgg hE, r⟩

/-- What Of has told so far. -/
structure OfJ (l : List Nd) (A : Option Addr) (m c n₀ b1 b2 b3 bf bs bp : Nat) (w : World) (v u : Value) (ls es : List Sp) (W : World) : Prop where
  x1 : Boxed W b1 22 (.slice A m c)
  x2 : Boxed W b2 82 v
  x3 : Boxed W b3 82 u
  xf : Boxed W bf 22 (.slice A m c)
  xs : Boxed W bs 124 (.func (.func 153) #[] #[.pointer (some ⟨bf, 0, none⟩)])
  xp : Boxed W bp 127 (.func (.func 96) #[] #[.pointer (some ⟨bs, 0, none⟩)])
  o2 : W.ownsRow n₀ 106 5 v ls.length (ls.flatMap spc)
  o3 : W.ownsRow n₀ 106 5 u es.length (es.flatMap spc)
  ap : ∀ q, v.ownBlock = some q → u.ownBlock ≠ some q
  ne : b2 ≠ b3
  lo2 : n₀ ≤ b2
  lo3 : n₀ ≤ b3
  ns : Ns W n₀ A m c l
  bel : Below n₀ w W
  low : n₀ ≤ w.heap.size

section
variable {l : List Nd} {A : Option Addr} {m c n₀ b1 b2 b3 bf bs bp : Nat} {w W W' W1 W2 : World} {v u v' : Value} {ls es : List Sp} {q : Sp}

theorem OfJ.keep (h : OfJ l A m c n₀ b1 b2 b3 bf bs bp w v u ls es W) (k : CK n₀ W W') : OfJ l A m c n₀ b1 b2 b3 bf bs bp w v u ls es W' :=
  ⟨k.keep _ _ _ _ h.x1 (by decide), k.keep _ _ _ _ h.x2 (by decide), k.keep _ _ _ _ h.x3 (by decide), k.keep _ _ _ _ h.xf (by decide), k.keep _ _ _ _ h.xs (by decide), k.keep _ _ _ _ h.xp (by decide),
    own_ck (by decide) h.o2 k, own_ck (by decide) h.o3 k, h.ap, h.ne, h.lo2, h.lo3, h.ns.below k.bel, h.bel.trans k.bel, h.low⟩

theorem OfJ.behind (h : OfJ l A m c n₀ b1 b2 b3 bf bs bp w v u ls es W) (k : Below W.heap.size W W') : OfJ l A m c n₀ b1 b2 b3 bf bs bp w v u ls es W' :=
  h.keep ⟨k.mono (Nat.le_trans h.low h.bel.size), fun b _ _ _ hb _ => (k.block b (lt_blk hb)).trans hb⟩

theorem OfJ.size (h : OfJ l A m c n₀ b1 b2 b3 bf bs bp w v u ls es W) : n₀ ≤ W.heap.size := Nat.le_trans h.low h.bel.size

/-- A box is no row of spots. -/
theorem box_row {W : World} {B n sz base : Nat} {t E : TypeId} {v x : Value} {xs : List Value} (hb : Boxed W B t x) (hte : t ≠ E) (ho : W.ownsRow base E sz v n xs) : v.ownBlock ≠ some B := by
  intro e
  rcases ho.2 with ⟨rfl, _⟩ | ⟨g, cap, cur, rfl, _, hg, _⟩
  · cases e
  · have e' : g = B := by simpa [Value.ownBlock] using e
    subst e'
    rw [show W.heap[g]? = _ from hb] at hg
    injection hg with hg
    injection hg with _ h2 _
    exact hte h2

theorem own_block {W : World} {n sz base q : Nat} {E : TypeId} {v : Value} {xs : List Value} (ho : W.ownsRow base E sz v n xs) (e : v.ownBlock = some q) : base ≤ q ∧ q < W.heap.size ∧ ∃ cur, W.heap[q]? = some (.cells cur E (0, 0)) := by
  rcases ho.2 with ⟨rfl, _⟩ | ⟨g, cap, cur, rfl, hb, hg, _⟩
  · cases e
  · have e' : g = q := by simpa [Value.ownBlock] using e
    subst e'
    exact ⟨hb, lt_blk hg, cur, hg⟩

theorem box_app {W W' : World} {B n sz base : Nat} {t E : TypeId} {v v' x : Value} {xs ys : List Value} (hb : Boxed W B t x) (hte : t ≠ E) (ho : W.ownsRow base E sz v n xs) {n' : Nat} (ha : Appended W W' base E sz v v' n' ys) : Boxed W' B t x :=
  (ha.grown.block B hb.lt fun e => box_row hb hte ho e.symm).trans hb

/-- One more spot of labels. -/
theorem OfJ.addL (h : OfJ l A m c n₀ b1 b2 b3 bf bs bp w v u ls es W) (ha : Appended W W' n₀ 106 5 v v' (ls.length + 1) ((ls ++ [q]).flatMap spc)) :
    OfJ l A m c n₀ b1 b2 b3 bf bs bp w v' u (ls ++ [q]) es (W'.setCell ⟨b2, 0, none⟩ v') ∧ KpT n₀ W (W'.setCell ⟨b2, 0, none⟩ v') ∧ KeepsOthers W (W'.setCell ⟨b2, 0, none⟩ v') := by
  have y2 := box_app h.x2 (by decide) h.o2 ha
  have hother : ∀ {B : Nat} {t : TypeId} {x : Value}, Boxed W B t x → t ≠ 106 → B ≠ b2 → Boxed (W'.setCell ⟨b2, 0, none⟩ v') B t x := fun hb ht hne =>
    (Below.heap_setCell _ _ _ _ hne).trans (box_app hb ht h.o2 ha)
  have hdiff : ∀ {B : Nat} {t : TypeId} {x : Value}, Boxed W B t x → t ≠ 82 → B ≠ b2 := by
    rintro B t x hb ht rfl
    have := h.x2
    unfold Boxed at this hb
    rw [this] at hb
    injection hb with hb
    injection hb with _ hb _
    exact ht hb.symm
  have hn2 : v'.ownBlock ≠ some b2 := box_row y2 (by decide) ha.own
  have hbel : Below n₀ W (W'.setCell ⟨b2, 0, none⟩ v') := ((Below.refl n₀ W).grown ha.grown h.size fun j e => (own_block h.o2 e).1).setCell (p := ⟨b2, 0, none⟩) h.lo2 _
  have hap : ∀ j, v'.ownBlock = some j → u.ownBlock ≠ some j := by
    intro j e1 e2
    rcases ha.place with e | ⟨g, e, hg⟩
    · exact h.ap j (by rw [← e]; exact e1) e2
    · have := (own_block h.o3 e2).2.1
      rw [e] at e1
      injection e1 with e1
      omega
  have hown : ∀ {n' : Nat} {xs : List Value} {y : Value}, W'.ownsRow n₀ 106 5 y n' xs → y.ownBlock ≠ some b2 → (W'.setCell ⟨b2, 0, none⟩ v').ownsRow n₀ 106 5 y n' xs := by
    intro n' xs y ho hne
    refine ⟨ho.1, ?_⟩
    rcases ho.2 with hn | ⟨g, cap, cur, hv, hg, hgg, r⟩
    · exact .inl hn
    · refine .inr ⟨g, cap, cur, hv, hg, (Below.heap_setCell _ _ _ _ ?_).trans hgg, r⟩
      rintro rfl
      exact hne (by rw [hv]; rfl)
  have ho3 : W'.ownsRow n₀ 106 5 u es.length (es.flatMap spc) := by
    refine ⟨h.o3.1, ?_⟩
    rcases h.o3.2 with hn | ⟨g, cap, cur, hv, hg, hgg, r⟩
    · exact .inl hn
    · refine .inr ⟨g, cap, cur, hv, hg, (ha.grown.block g (lt_blk hgg) fun e => ?_).trans hgg, r⟩
      exact h.ap g e.symm (by rw [hv]; rfl)
  refine ⟨⟨hother h.x1 (by decide) (hdiff h.x1 (by decide)), y2.set v', hother h.x3 (by decide) h.ne.symm, hother h.xf (by decide) (hdiff h.xf (by decide)), hother h.xs (by decide) (hdiff h.xs (by decide)), hother h.xp (by decide) (hdiff h.xp (by decide)),
    ?_, hown ho3 (box_row (box_app h.x2 (by decide) h.o2 ha) (by decide) ho3), hap, h.ne, h.lo2, h.lo3, h.ns.below hbel, h.bel.trans hbel, h.low⟩, ⟨hbel, fun b cs t z hb ht1 ht2 => ?_⟩, ?_⟩
  · rw [List.length_append, List.length_singleton]
    exact hown ha.own hn2
  · have hne : b ≠ b2 := by
      rintro rfl
      have := h.x2
      unfold Boxed at this
      rw [this] at hb
      injection hb with hb
      injection hb with _ hb _
      exact ht1 hb.symm
    refine (Below.heap_setCell _ _ _ _ hne).trans ((ha.grown.block b (lt_blk hb) fun e => ?_).trans hb)
    obtain ⟨_, _, cur, hcur⟩ := own_block h.o2 e.symm
    rw [hcur] at hb
    injection hb with hb
    injection hb with _ hb _
    exact ht2 hb.symm
  · refine (KeepsOthers.of_grownBy ha.grown fun j o ej hj => ?_).trans (KeepsOthers.setCell _ _ _)
    obtain ⟨_, _, cur, hcur⟩ := own_block h.o2 ej
    rw [hcur] at hj
    cases hj
    rfl

/-- The same, the other way about. -/
theorem OfJ.swap (h : OfJ l A m c n₀ b1 b2 b3 bf bs bp w v u ls es W) : OfJ l A m c n₀ b1 b3 b2 bf bs bp w u v es ls W :=
  ⟨h.x1, h.x3, h.x2, h.xf, h.xs, h.xp, h.o3, h.o2, fun q e1 e2 => h.ap q e2 e1, h.ne.symm, h.lo3, h.lo2, h.ns, h.bel, h.low⟩

theorem OfJ.addE (h : OfJ l A m c n₀ b1 b2 b3 bf bs bp w u v es ls W) (ha : Appended W W' n₀ 106 5 v v' (ls.length + 1) ((ls ++ [q]).flatMap spc)) :
    OfJ l A m c n₀ b1 b2 b3 bf bs bp w u v' es (ls ++ [q]) (W'.setCell ⟨b3, 0, none⟩ v') ∧ KpT n₀ W (W'.setCell ⟨b3, 0, none⟩ v') ∧ KeepsOthers W (W'.setCell ⟨b3, 0, none⟩ v') := by
  obtain ⟨h1, h2, h3⟩ := h.swap.addL ha
  exact ⟨h1.swap, h2, h3⟩
end

/-- The spots of those that have come. -/
def labP (l : List Nd) (pre : List (Fin l.length)) : List Sp := pre.flatMap fun k => labS k.val l[k.val] (sideAt l k.val)
def effP (l : List Nd) (pre : List (Fin l.length)) : List Sp := pre.flatMap fun k => effS k.val l[k.val] (sideAt l k.val)

theorem kpT_behind {n₀ : Nat} {A B : World} (h : Below A.heap.size A B) (hn : n₀ ≤ A.heap.size) : KpT n₀ A B := ⟨h.mono hn, fun b _ _ _ hb _ _ => (h.block b (lt_blk hb)).trans hb⟩
end Go.Proofs.YtmiconjmeaammaaGreatDoor
