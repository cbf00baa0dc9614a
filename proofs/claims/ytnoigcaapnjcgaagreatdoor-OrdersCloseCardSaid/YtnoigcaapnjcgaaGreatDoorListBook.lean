/- One list of a kind that is held in a book: its block and its marks; appends of one element with the exact two outcomes. Conditions: sizes. -/
import Derived.Test.YtnoigcaapnjcgaaGreatDoorTurned
import Derived.Laws.AppendOwn
import Derived.LoopTactic
namespace Go.Proofs.YtnoigcaapnjcgaaGreatDoor
open Go.RowKit

/-- The book holds one list of a kind: its cell ix, of the held type HT. -/
structure NB (ix HT : Nat) (bk hb cap : Nat) (A : Option Addr) (n c no : Nat) (LA : Option Addr) (LN LC : Nat) (w : World) : Prop where
  cb : w.cell? ⟨bk, ix, none⟩ = some (.slice (some ⟨hb, 0, none⟩) 1 cap)
  hbk : bk < w.heap.size
  hc : ∃ H : Array Value, w.heap[hb]? = some (.cells H HT (0, 0)) ∧ H[0]? = some (.slice A n c) ∧ H[1]? = some (.slice LA LN LC) ∧ H[2]? = some (.int .i64 (no : Int))

theorem NB.keep {ix HT bk hb cap n c no : Nat} {A LA : Option Addr} {LN LC : Nat} {w w' : World} {D : Nat → Prop} (h : NB ix HT bk hb cap A n c no LA LN LC w) (k : Kept D w w') (h1 : ¬ D bk) (h2 : ¬ D hb) : NB ix HT bk hb cap A n c no LA LN LC w' := by
  obtain ⟨H, e, e0, e1, e2⟩ := h.hc
  exact ⟨(k.cell (p := ⟨bk, ix, none⟩) h.hbk h1).trans h.cb, Nat.lt_of_lt_of_le h.hbk k.size, H, (k.block hb (lt_blk e) h2).trans e, e0, e1, e2⟩

/-- The first q elements are the mark. -/
def Mk (sz : Nat) (us : List Value) (q : Nat) (cur : Array Value) : Prop := ∀ j, j < q * sz → cur[j]? = us[j % sz]?

/-- The list: nowhere, or at the head of block g, of which q elements are the mark. -/
inductive NL (E sz : Nat) (us : List Value) (q : Nat) (w : World) : Option Addr → Nat → Nat → Prop where
  | no : NL E sz us q w none 0 0
  | at (g n c : Nat) (cur : Array Value) : w.heap[g]? = some (.cells cur E (0, 0)) → cur.size = c * sz → n ≤ c → c ≤ maxLen → n ≤ 1000000 → Mk sz us q cur → NL E sz us q w (some ⟨g, 0, none⟩) n c

/-- The blocks of a list. -/
def lies (A : Option Addr) (b : Nat) : Prop := ∃ a, A = some a ∧ b = a.block

theorem NL.keep {E sz : Nat} {us : List Value} {q n c : Nat} {w w' : World} {A : Option Addr} {D : Nat → Prop} (h : NL E sz us q w A n c) (k : Kept D w w') (hd : ∀ b, lies A b → ¬ D b) : NL E sz us q w' A n c := by
  cases h with
  | no => exact .no
  | «at» g n c cur e1 e2 e3 e4 e5 e6 => exact .at g n c cur ((k.block g (lt_blk e1) (hd g ⟨_, rfl, rfl⟩)).trans e1) e2 e3 e4 e5 e6

theorem NL.blk {E sz : Nat} {us : List Value} {q n c g : Nat} {w : World} (h : NL E sz us q w (some ⟨g, 0, none⟩) n c) : ∃ cur, w.heap[g]? = some (.cells cur E (0, 0)) ∧ cur.size = c * sz ∧ Mk sz us q cur := by
  cases h with
  | «at» g n c cur e1 e2 e3 e4 e5 e6 => exact ⟨cur, e1, e2, e6⟩

theorem cell_other {w : World} {g q C o : Nat} {u : Value} (h : g < C) : ((w.setCell ⟨g, q, none⟩ u).drew).cell? ⟨C, o, none⟩ = w.cell? ⟨C, o, none⟩ :=
  World.cell?_setCell_other w ⟨g, q, none⟩ ⟨C, o, none⟩ u (fun e => by injection e with e1; omega)

def FRel (E sz : Nat) (us : List Value) (n g c C no : Nat) (w : World) (i4 : Value) (wr : World) : Prop :=
  ∃ q : Nat, i4 = .int .i64 (q : Int) ∧ q ≤ n ∧ Kept (fun b => b = g) w wr ∧ NL E sz us q wr (some ⟨g, 0, none⟩) n c ∧ wr.cell? ⟨C, 0, none⟩ = some (.slice (some ⟨g, 0, none⟩) n c) ∧ wr.cell? ⟨C, 2, none⟩ = some (.int .i64 (no : Int)) ∧ C < wr.heap.size

theorem Mk.next1 {q : Nat} {u : Value} {cur : Array Value} (h : Mk 1 [u] q cur) (hq : q < cur.size) : Mk 1 [u] (q + 1) (cur.setIfInBounds q u) := by
  intro j hj
  rw [Nat.mod_one]
  by_cases e : j = q
  · subst e
    rw [Array.getElem?_setIfInBounds_self_of_lt hq]
    rfl
  · rw [Array.getElem?_setIfInBounds_ne (by omega)]
    have := h j (by omega)
    rwa [Nat.mod_one] at this

theorem fRel_next1 {E n g c C no q : Nat} {u : Value} {w wr : World} {cur : Array Value} (hkept : Kept (fun b => b = g) w wr) (hcur : wr.heap[g]? = some (.cells cur E (0, 0))) (hcs : cur.size = c * 1) (hmq : Mk 1 [u] q cur) (hq : q < n) (e3 : n ≤ c) (e4 : c ≤ maxLen) (e5 : n ≤ 1000000)
    (e0 : wr.cell? ⟨C, 0, none⟩ = some (.slice (some ⟨g, 0, none⟩) n c)) (e2 : wr.cell? ⟨C, 2, none⟩ = some (.int .i64 (no : Int))) (hC : C < wr.heap.size) (hgC : g < C) : FRel E 1 [u] n g c C no w (.int .i64 ((q : Int) + 1)) ((wr.setCell ⟨g, q, none⟩ u).drew) :=
  ⟨q + 1, by simp, by omega, (hkept.setCell (.inl rfl) _).drew, .at g n c _ (set_blk hcur _) (by simpa using hcs) e3 e4 e5 (hmq.next1 (by omega)), (cell_other hgC).trans e0, (cell_other hgC).trans e2, by simpa [World.setCell] using hC⟩

/-- What one more element makes of a list that lies at the head of block L. -/
structure OneMore (E sz : Nat) (us : List Value) (w w' : World) (L a c L' c' : Nat) (cur cur' : Array Value) : Prop where
  blk : w'.heap[L']? = some (.cells cur' E (0, 0))
  size : cur'.size = c' * sz
  room : a + 1 ≤ c'
  top : c' ≤ maxLen
  old : ∀ j, j < a * sz → cur'[j]? = cur[j]?
  new : ∀ j, j < sz → cur'[a * sz + j]? = us[j]?
  kept : Kept (fun b => b = L ∧ L' = L) w w'
  place : (L' = L ∧ c' = c) ∨ L' = w.heap.size

theorem wpList_append_one {P : Program} (w : World) {ops : Array Oper} {rest : List Oper} {o : Oper} {a : Act} {Q : Exit → Act → World → Prop} (hgd : o.guard = none) (s x : Operand) (t E sz : TypeId) (us : List Value)
    (ho : o.op = .call { callee := .builtin .append, args := #[s, x], argTypes := #[t, t] }) (i : TypeInfo) (z : Value) (by1 : Nat) (ht : P.underlying t = some (.slice E)) (hi : P.info? E = some i) (hz : i.zero = some z) (hsize : i.size = sz) (hby : i.bytes = by1) (hzs : z.cells.size = sz)
    (L n c : Nat) (cur : Array Value) (hs : a.eval s = .slice (some ⟨L, 0, none⟩) n c) (hL : w.heap[L]? = some (.cells cur E (0, 0))) (hcs : cur.size = c * sz) (hn : n ≤ c) (hc : c ≤ maxLen) (hb : (n + 1) * by1 ≤ 140737488355328) (hn1 : n ≤ 2000000)
    (X : Nat) (hul : us.length = sz) (hx : a.eval x = .slice (some ⟨X, 0, none⟩) 1 1) (hnews : ∀ j v, us[j]? = some v → w.cell? ((⟨X, 0, none⟩ : Addr).add j) = some v) (h1 : ∀ v ∈ us, v.oneCell' = true)
    (h : ∀ L' c' cur' w', OneMore E sz us w w' L n c L' c' cur cur' → wpList P ops Q rest (a.put o.dst (.slice (some ⟨L', 0, none⟩) (n + 1) c')) w') : wpList P ops Q (o :: rest) a w := by
  have hmul : (n + 1) * sz = n * sz + sz := by rw [Nat.add_mul, Nat.one_mul]
  have key : ∃ L' c' cur' w', (Builtin.append_ #[t, t] o.type #[.slice (some ⟨L, 0, none⟩) n c, .slice (some ⟨X, 0, none⟩) 1 1]).run P w = .ok (.slice (some ⟨L', 0, none⟩) (n + 1) c') w' ∧ OneMore E sz us w w' L n c L' c' cur cur' := by
    by_cases hr : n + 1 ≤ c
    · have hle : (n + 1) * sz ≤ c * sz := Nat.mul_le_mul_right _ hr
      have hrun := run_append_room (P := P) w t o.type E i ht hi L n c cur hL ⟨X, 0, none⟩ 1 1 us (by rw [hsize, hul, Nat.one_mul]) hnews h1 hr (by rw [hsize, hul]; omega)
      rw [hsize] at hrun
      have hl : (List.take (n * sz) cur.toList).length = n * sz := by rw [List.length_take, Array.length_toList]; omega
      refine ⟨L, c, _, _, hrun, ⟨setRow_heap w L cur _ E _ hL, ?_, hr, hc, ?_, ?_, ⟨rfl, rfl, rfl, by simp, fun b _ hn => setRow_other w L b _ (fun e => hn ⟨e.symm ▸ rfl, rfl⟩)⟩, .inl ⟨rfl, rfl⟩⟩⟩
      · simp; omega
      · intro j hj
        simp only [List.getElem?_toArray]
        rw [List.append_assoc, List.getElem?_append_left (by omega), List.getElem?_take_of_lt hj]
        simp
      · intro j hj
        simp only [List.getElem?_toArray]
        rw [List.append_assoc, List.getElem?_append_right (by omega), hl, Nat.add_sub_cancel_left, List.getElem?_append_left (by omega)]
    · obtain rfl : n = c := by omega
      have holds : ∀ j v, cur.toList[j]? = some v → w.cell? ((⟨L, 0, none⟩ : Addr).add j) = some v := by
        intro j v hv
        rw [Addr.add_lit, Nat.zero_add, cell_blk hL]
        simpa using hv
      have hrun := run_append_grow (P := P) w t o.type E i z ht hi hz ⟨L, 0, none⟩ n n cur.toList (by rw [hsize]; simpa using hcs) holds ⟨X, 0, none⟩ 1 1 us (by rw [hsize, hul, Nat.one_mul]) hnews (by omega) (by omega) (by rw [hby]; exact growslice_fits (by omega) (by omega))
      have hge := grownCap_ge w (n + 1) n E
      have hle := grownCap_le_maxLen w (n + 1) n E (by unfold maxLen; omega)
      have hle2 : (n + 1) * sz ≤ (grownCap w (n + 1) n E) * sz := Nat.mul_le_mul_right _ hge
      refine ⟨_, _, _, _, hrun, ⟨heap_alloc_new w.drew _, ?_, hge, hle, ?_, ?_, ?_, .inr rfl⟩⟩
      · simp only [Array.size_append, List.size_toArray, size_zeroCells, hzs, hcs, hul, Nat.sub_mul]
        omega
      · intro j hj
        rw [Array.append_assoc, Array.getElem?_append_left (by simp; omega)]
      · intro j hj
        rw [Array.append_assoc, Array.getElem?_append_right (by simp; omega)]
        have e : n * sz + j - cur.toList.toArray.size = j := by simp [hcs]
        rw [e, Array.getElem?_append_left (by simp; omega)]
        simp
      · have hkk : Kept (fun b => b = L ∧ w.heap.size = L) w w.drew := (Kept.refl _ _).drew
        exact hkk.alloc _
  obtain ⟨L', c', cur', w', hrun, hone⟩ := key
  refine wpList_plain hgd fun K hK => ?_
  unfold Oper.wp execOp
  simp only [ho, resolve, invoke, builtin, Sem.run_bind, Sem.run_pure, Result.andThen_ok, List.map_toArray, List.map_cons, List.map_nil, hs, hx, hrun]
  exact hK _ _ (h L' c' cur' w' hone)

/-! ### Grown -/

/-- The longer list: it lies at the head of block L, and k elements are the mark. -/
def Long (E sz : Nat) (us : List Value) (k L c : Nat) (w : World) : Prop := ∃ cur : Array Value, w.heap[L]? = some (.cells cur E (0, 0)) ∧ cur.size = c * sz ∧ k ≤ c ∧ c ≤ maxLen ∧ Mk sz us k cur

theorem Long.keep {E sz k L c : Nat} {us : List Value} {w w' : World} {D : Nat → Prop} (h : Long E sz us k L c w) (k1 : Kept D w w') (hd : ¬ D L) : Long E sz us k L c w' := by
  obtain ⟨cur, e1, e2⟩ := h
  exact ⟨cur, (k1.block L (lt_blk e1) hd).trans e1, e2⟩

/-- p elements more are put. -/
structure GI (E sz : Nat) (us : List Value) (A : Option Addr) (n c p : Nat) (wo : World) (L c' : Nat) (wr : World) : Prop where
  kept : Kept (lies A) wo wr
  list : NL E sz us n wr A n c
  long : Long E sz us (n + p) L c' wr
  place : (A = some ⟨L, 0, none⟩ ∧ c' = c) ∨ wo.heap.size < L

theorem Mk.more {sz k : Nat} {us : List Value} {cur cur' : Array Value} (h : Mk sz us k cur) (old : ∀ j, j < k * sz → cur'[j]? = cur[j]?) (new : ∀ j, j < sz → cur'[k * sz + j]? = us[j]?) : Mk sz us (k + 1) cur' := by
  intro j hj
  rw [Nat.add_mul, Nat.one_mul] at hj
  by_cases e : j < k * sz
  · rw [old j e]
    exact h j e
  · obtain ⟨r, rfl⟩ : ∃ r, j = k * sz + r := ⟨j - k * sz, by omega⟩
    have hr : r < sz := by omega
    rw [new r hr, Nat.mul_comm, Nat.mul_add_mod, Nat.mod_eq_of_lt hr]

theorem Mk.less {sz k k' : Nat} {us : List Value} {cur : Array Value} (h : Mk sz us k cur) (hk : k' ≤ k) : Mk sz us k' cur := fun j hj => h j (Nat.lt_of_lt_of_le hj (Nat.mul_le_mul_right _ hk))

theorem GI.next {E sz : Nat} {us : List Value} {A : Option Addr} {n c p : Nat} {wo wr w1 w' : World} {L c' L2 c2 : Nat} {cur cur' : Array Value} (hA : ∀ b, lies A b → b < wo.heap.size) (hC : wo.heap.size < wr.heap.size) (h : GI E sz us A n c p wo L c' wr)
    (hcur : wr.heap[L]? = some (.cells cur E (0, 0))) (hm : Mk sz us (n + p) cur) (hk1 : Kept (fun _ => False) wr w1) (h1 : OneMore E sz us w1 w' L (n + p) c' L2 c2 cur cur') : GI E sz us A n c (p + 1) wo L2 c2 w' := by
  have hsz : wr.heap.size ≤ w1.heap.size := hk1.size
  have hk : Kept (fun b => b = L ∧ L2 = L) wr w' := (hk1.mono (fun _ hf => hf.elim)).trans h1.kept
  have hMk : Mk sz us (n + p + 1) cur' := hm.more h1.old h1.new
  have hplace : (A = some ⟨L2, 0, none⟩ ∧ c2 = c) ∨ wo.heap.size < L2 := by
    rcases h1.place with ⟨e, ec⟩ | e
    · rcases h.place with ⟨e', ec'⟩ | e'
      · exact .inl ⟨by rw [e]; exact e', ec.trans ec'⟩
      · exact .inr (by omega)
    · exact .inr (by omega)
  have hdirty : ∀ b, (b = L ∧ L2 = L) → lies A b ∨ wo.heap.size < b := by
    rintro b ⟨rfl, _⟩
    rcases h.place with ⟨e, _⟩ | e
    · exact .inl ⟨_, e, rfl⟩
    · exact .inr e
  refine ⟨⟨hk.os.trans h.kept.os, hk.tape.trans h.kept.tape, hk.output.trans h.kept.output, Nat.le_trans h.kept.size hk.size, fun b hb hn => ?_⟩, ?_, ⟨cur', h1.blk, h1.size, by have := h1.room; omega, h1.top, hMk⟩, hplace⟩
  · refine (hk.block b (Nat.lt_of_lt_of_le hb h.kept.size) fun hd => ?_).trans (h.kept.block b hb hn)
    rcases hdirty b hd with e | e
    · exact hn e
    · omega
  · have hl := h.list
    cases hl with
    | no => exact .no
    | «at» g n c cur0 e1 e2 e3 e4 e5 e6 =>
      by_cases e : L2 = L ∧ g = L
      · obtain ⟨rfl, rfl⟩ := e
        have hcc : c2 = c := by
          rcases h1.place with ⟨_, ec⟩ | en
          · rcases h.place with ⟨_, ec'⟩ | en'
            · exact ec.trans ec'
            · have := hA g ⟨_, rfl, rfl⟩
              omega
          · have := lt_blk e1
            omega
        subst hcc
        exact .at g n c2 cur' h1.blk h1.size e3 e4 e5 (hMk.less (by omega))
      · exact .at g n c cur0 ((hk.block g (lt_blk e1) fun hd => e ⟨hd.2, hd.1⟩).trans e1) e2 e3 e4 e5 e6

/-- The first one, where the list lay nowhere. -/
theorem GI.first {E sz : Nat} {us : List Value} {wo wr w1 w' : World} {A' : Option Addr} {k c' : Nat} (hC : wo.heap.size < wr.heap.size) (hk0 : Kept (lies none) wo wr) (hk1 : Kept (fun _ => False) wr w1) (hk : k = 0 + 1)
    (own : w'.ownsRow wr.heap.size E sz (.slice A' k c') k ([] ++ us)) (hg : w1.grownBy w' (Value.slice none 0 0).ownBlock) : ∃ L, A' = some ⟨L, 0, none⟩ ∧ GI E sz us none 0 0 1 wo L c' w' := by
  subst hk
  have hkk : Kept (lies none) wo w' := hk0.trans ((hk1.mono (fun _ hf => hf.elim)).trans ⟨hg.os, hg.tape, hg.output, hg.size, fun b hb _ => hg.block b hb (by simp [Value.ownBlock])⟩)
  rcases own.2 with ⟨_, e⟩ | ⟨g, cap, cur, hv, hb, hgb, hnc, hcm, hcs, htake⟩
  · cases e
  · injection hv with h1 h2 h3
    subst h1
    subst h3
    refine ⟨g, rfl, hkk, .no, ⟨cur, hgb, hcs, by omega, hcm, fun j hj => ?_⟩, .inr (by omega)⟩
    have hj' : j < sz := by omega
    have e1 : cur[j]? = (cur.toList.take ((0 + 1) * sz))[j]? := by
      rw [List.getElem?_take_of_lt (by omega)]
      simp
    rw [e1, htake, Nat.mod_eq_of_lt hj']
    rfl

/-- What growing leaves. -/
structure GrowE (ix HT E sz : Nat) (us : List Value) (bk hb cap : Nat) (A : Option Addr) (n c no : Nat) (w : World) (L c' : Nat) (w' : World) : Prop where
  book : NB ix HT bk hb cap A n c no (some ⟨L, 0, none⟩) (n + 40) c' w'
  list : NL E sz us n w' A n c
  long : Long E sz us (n + 40) L c' w'
  kept : Kept (fun b => b = hb ∨ lies A b) w w'
  place : lies A L ∨ w.heap.size ≤ L

theorem GrowE.of {ix HT E sz : Nat} {us : List Value} {bk hb cap : Nat} {A LA : Option Addr} {n c no LN LC : Nat} {wo wr : World} {L c' : Nat} (hne : E ≠ HT) (hB : NB ix HT bk hb cap A n c no LA LN LC wo) (hAb : ¬ lies A bk) (hAh : ¬ lies A hb) (hbh : bk ≠ hb) (h : GI E sz us A n c 40 wo L c' wr) :
    GrowE ix HT E sz us bk hb cap A n c no wo L c' (wr.setCell ⟨hb, 1, none⟩ (.slice (some ⟨L, 0, none⟩) (n + 40) c')) := by
  have hB' := hB.keep h.kept hAb hAh
  obtain ⟨H, e, e0, e1, e2⟩ := hB'.hc
  obtain ⟨cur, l1, l2, l3, l4, l5⟩ := h.long
  have hLh : L ≠ hb := by
    rintro rfl
    rw [l1] at e
    injection e with e
    injection e with _ e
    exact hne e
  have hlt : 1 < H.size := by
    rcases Nat.lt_or_ge 1 H.size with hl | hl
    · exact hl
    · rw [Array.getElem?_eq_none hl] at e1; cases e1
  refine ⟨⟨?_, by simpa [World.setCell] using hB'.hbk, H.setIfInBounds 1 (.slice (some ⟨L, 0, none⟩) (n + 40) c'), set_blk e _, ?_, ?_, ?_⟩, ?_, ⟨cur, (Below.heap_setCell wr _ _ L hLh).trans l1, l2, l3, l4, l5⟩, ?_, ?_⟩
  · exact (World.cell?_setCell_other wr ⟨hb, 1, none⟩ ⟨bk, ix, none⟩ _ (fun e => hbh (by injection e with e1; exact e1.symm))).trans hB'.cb
  · rw [Array.getElem?_setIfInBounds_ne (by omega)]; exact e0
  · exact Array.getElem?_setIfInBounds_self_of_lt hlt
  · rw [Array.getElem?_setIfInBounds_ne (by omega)]; exact e2
  · exact h.list.keep ((Kept.refl (fun b => b = hb) wr).setCell (p := ⟨hb, 1, none⟩) (.inl rfl) _) (fun b hl e => hAh (by rw [← e]; exact hl))
  · exact (h.kept.mono fun b hb => .inr hb).setCell (p := ⟨hb, 1, none⟩) (.inl (.inl rfl)) _
  · rcases h.place with ⟨e, _⟩ | e
    · exact .inl ⟨_, e, rfl⟩
    · exact .inr (by omega)

end Go.Proofs.YtnoigcaapnjcgaaGreatDoor
