/- BelowS; Finder: merged. -/
import Derived.Test.YtmejhedegmjboaaGreatRepS
import Derived.Test.YtmejhedegmjboaaGreatSpMath
/- What turned and below tell of sides. No condition but sizes. -/
namespace Go.Proofs.YtmejhedegmjboaaGreat
open Go.RowKit

/-- A side in a cell. -/
def sc (s : Nat) : Value := .int .u8 (s : Int)
/-- A block that was just made. -/
theorem heap_at (w : World) (o : Obj) {g : Nat} (h : g = w.heap.size) : (w.alloc o).heap[g]? = some o := by subst h; exact heap_alloc_new w o
/-- A block that is known whole, as a slice. -/
theorem rd_lit {α : Type} {enc : α → Value} {W : World} {g n : Nat} {cs : Array Value} {E : TypeId} {l : List α} (hg : W.heap[g]? = some (.cells cs E (0, 0))) (hcs : cs.toList = l.map enc) (hn : l.length = n) (hm : n ≤ maxLen) : Rd enc W W.heap.size (some ⟨g, 0, none⟩) n n l := by
  refine ⟨hn, Nat.le_refl _, hm, (fun h => by cases h), fun _ => ⟨g, 0, rfl, lt_blk hg, fun j hj => ?_⟩⟩
  rw [cell_blk hg, ← Array.getElem?_toList, hcs]
  simp [hj]
theorem sc_one (s : Nat) : (sc s).oneCell' = true := rfl

set_option maxRecDepth 100000 in
theorem turned_any (s : Nat) (w : World) : Calls Tryz.prog 77 #[.int .u8 (s : Int)] w fun e w' => e = .returned (.int .u8 (turnS s : Int)) ∧ w = w' := by
  by_cases h0 : s = 0
  · subst h0
    go_enter Tryz.func77, Tryz.ntmps77
    go_wp2
    go_ret
    exact ⟨rfl, rfl⟩
  have h0' : ((s : Int) == 0) = false := by simp; omega
  by_cases h1 : s = 1
  · subst h1
    go_enter Tryz.func77, Tryz.ntmps77
    go_wp2
    go_ret
    exact ⟨rfl, rfl⟩
  have h1' : ((s : Int) == 1) = false := by simp; omega
  have HT : Hid (turnS s = 2) := Lib.hid (by unfold turnS; rw [if_neg h0, if_neg h1])
  go_enter Tryz.func77, Tryz.ntmps77
  go_wp2
  go_ret
  exact ⟨by rw [HT.out]; rfl, rfl⟩

set_option maxRecDepth 100000 in
set_option maxHeartbeats 1000000 in
theorem below_any (x : Nd) (s : Nat) (w : World) (h0 : 0 ≤ x.n) (h8 : x.n ≤ 8) :
    Calls Tryz.prog 124 #[ndv x, .int .u8 (s : Int)] w fun e w' => ∃ A n c, e = .returned (.slice A n c) ∧ Rd sc w' w'.heap.size A n c (belowS x s).reverse ∧ Below w.heap.size w w' := by
  have HB : Hid (belowS x s = if x.k = 4 then [2] else if x.k = 5 then [turnS s, s] else List.replicate x.n.toNat s) := Lib.hid rfl
  unfold ndv
  obtain ⟨xk, xm, xs, xn, xlv, xln, xpv, xpn, xev, xen⟩ := x
  simp only at h0 h8 HB ⊢
  obtain ⟨q, rfl⟩ := Int.eq_ofNat_of_zero_le h0
  have hal : Below w.heap.size w (w.alloc (.cells #[.int .u8 xk, .int .i64 xm, .string (str xs), .int .i64 (q : Int), .bool xlv, .int .u64 xln, .bool xpv, .int .u64 xpn, .bool xev, .int .u64 xen] 116)) := (Below.refl _ _).alloc (Nat.le_refl _) _
  by_cases h4 : xk = 4
  · subst h4
    rw [if_pos rfl] at HB
    go_enter Tryz.func124, Tryz.ntmps124
    go_wp2
    go_ret
    refine ⟨_, _, _, rfl, ?_, hal.alloc hal.size _⟩
    rw [HB.out]
    exact rd_lit (heap_at _ _ (by simp)) rfl rfl (by unfold maxLen; omega)
  have h4' : (xk == 4) = false := by simpa using h4
  rw [if_neg h4] at HB
  by_cases h5 : xk = 5
  · subst h5
    rw [if_pos rfl] at HB
    go_enter Tryz.func124, Tryz.ntmps124
    go_wp2_with fail
    refine (turned_any s _).mono ?_
    rintro e w1 ⟨rfl, rfl⟩
    go_wp2_with fail
    go_ret
    refine ⟨_, _, _, rfl, ?_, hal.alloc hal.size _⟩
    rw [HB.out]
    exact rd_lit (heap_at _ _ (by simp)) rfl rfl (by unfold maxLen; omega)
  have h5' : (xk == 5) = false := by simpa using h5
  rw [if_neg h5, Int.toNat_natCast] at HB
  have HAL := Lib.hid hal
  clear hal
  go_enter Tryz.func124, Tryz.ntmps124
  go_wp2_with fail
  refine (repeat_anyS (w.heap.size + 1) 0 1 (s : Int) q _ (by omega) ?_ ?_).mono ?_
  · simp
  · rw [World.cell?_alloc_at _ _ _ _ (by simp)]
    rfl
  rintro e w6 ⟨g, rfl, hg, hb⟩
  go_wp2_with fail
  go_ret
  refine ⟨_, _, _, rfl, ?_, ?_⟩
  · rw [HB.out, List.reverse_replicate]
    refine ⟨List.length_replicate, Nat.le_refl _, by unfold maxLen; omega, (fun h => by cases h), fun h => ⟨g, 0, rfl, lt_blk hg, fun j hj => ?_⟩⟩
    rw [cell_blk hg]
    simp only [List.length_replicate] at hj
    simp [sc, hj]
  · have h1 := HAL.out.alloc HAL.out.size (.cells #[.int .u8 (s : Int)] 65)
    exact h1.trans (hb.mono h1.size)
end Go.Proofs.YtmejhedegmjboaaGreat

/- What a finder tells: where a term stands; what Of tells of one spot. Condition: the nodes can be read. -/
namespace Go.Proofs.YtmejhedegmjboaaGreat
open Go.RowKit

/-- Where the term of a part stands in a node. -/
def po (p : Nat) : Nat := if p = 0 then 4 else if p = 1 then 6 else 8
/-- The term of a part. -/
def Nd.tm (x : Nd) (p : Nat) : Tm := if p = 0 then (x.lv, x.ln) else if p = 1 then (x.pv, x.pn) else (x.ev, x.en)

theorem finderIn_any (A : Option Addr) (m c : Nat) (w : World) : Calls Tryz.prog 50 #[.slice A m c] w fun e w' => e = .returned (.func (.func 92) #[] #[.pointer (some ⟨w.heap.size, 0, none⟩)]) ∧ w' = w.alloc (.cells #[.slice A m c] 47) := by
  go_enter Tryz.func50, Tryz.ntmps50
  go_wp2
  go_ret
  exact ⟨rfl, rfl⟩

set_option maxRecDepth 100000 in
theorem finder_any (k p Bf B : Nat) (A : Option Addr) (m c : Nat) (l : List Nd) (w : World) (hcell : w.cell? ⟨Bf, 0, none⟩ = some (.slice A m c)) (hr : Ns w B A m c l) (hk : k < l.length) (hp : p ≤ 2) :
    Calls Tryz.prog 92 #[.int .i64 (k : Int), .int .u8 (p : Int), .pointer (some ⟨Bf, 0, none⟩)] w fun e w' => (∃ b o, A = some ⟨b, o, none⟩ ∧ e = .returned (.pointer (some ⟨b, o + k * 10 + po p, none⟩))) ∧ w = w' := by
  have hl := hr.len
  have hcap := hr.cap
  have htop := hr.top
  unfold maxLen at htop
  obtain ⟨b, o, rfl, hbb, -⟩ := hr.node hk
  rw [hl] at hk
  clear hr
  have h : p = 0 ∨ p = 1 ∨ p = 2 := by omega
  clear hp
  rcases h with rfl | rfl | rfl
  all_goals (
    go_enter Tryz.func92, Tryz.ntmps92
    go_wp2
    go_ret
    exact ⟨⟨b, o, rfl, rfl⟩, rfl⟩)

/-- A spot in a variable; its cells. -/
def spv (q : Sp) : Value := .agg #[.int .i64 (q.n : Int), .int .u8 (q.p : Int), .int .u8 (q.s : Int), .bool q.v, .int .u64 q.z]
def spc (q : Sp) : List Value := [.int .i64 (q.n : Int), .int .u8 (q.p : Int), .int .u8 (q.s : Int), .bool q.v, .int .u64 q.z]
theorem spc_len (q : Sp) : (spc q).length = 5 := rfl

theorem node_tm {w : World} {B n c : Nat} {b o : Nat} {l : List Nd} (h : Ns w B (some ⟨b, o, none⟩) n c l) {k : Nat} (hk : k < l.length) (p : Nat) :
    w.cell? ⟨b, o + k * 10 + po p, none⟩ = some (.bool (l[k].tm p).1) ∧ w.cell? ⟨b, o + k * 10 + po p + 1, none⟩ = some (.int .u64 (l[k].tm p).2) := by
  obtain ⟨b', o', e, -, c0, c1, c2, c3, c4, c5, c6, c7, c8, c9⟩ := h.node hk
  injection e with e
  injection e with e1 e2
  subst e1
  subst e2
  unfold po Nd.tm
  split
  · exact ⟨c4, c5⟩
  split
  · exact ⟨c6, c7⟩
  · exact ⟨c8, c9⟩

set_option maxRecDepth 100000 in
set_option maxHeartbeats 1000000 in
theorem spot_any (k p s Bs Bf B : Nat) (A : Option Addr) (m c : Nat) (l : List Nd) (w : World) (hs : w.cell? ⟨Bs, 0, none⟩ = some (.func (.func 92) #[] #[.pointer (some ⟨Bf, 0, none⟩)])) (hcell : w.cell? ⟨Bf, 0, none⟩ = some (.slice A m c)) (hr : Ns w B A m c l) (hB : B ≤ w.heap.size) (hk : k < l.length) (hp : p ≤ 2) :
    Calls Tryz.prog 75 #[.int .i64 (k : Int), .int .u8 (p : Int), .int .u8 (s : Int), .pointer (some ⟨Bs, 0, none⟩)] w fun e w' => e = .returned (spv ⟨k, p, s, (l[k].tm p).1, (l[k].tm p).2⟩) ∧ Below w.heap.size w w' := by
  have hal : ∀ o : Obj, Below w.heap.size w (w.alloc o) := fun o => (Below.refl _ _).alloc (Nat.le_refl _) o
  have hs1 : ∀ o : Obj, (w.alloc o).cell? ⟨Bs, 0, none⟩ = some (.func (.func 92) #[] #[.pointer (some ⟨Bf, 0, none⟩)]) := fun o => ((hal o).cell (p := ⟨Bs, 0, none⟩) (World.block_lt_of_cell? w ⟨Bs, 0, none⟩ hs)).trans hs
  have hf1 : ∀ o : Obj, (w.alloc o).cell? ⟨Bf, 0, none⟩ = some (.slice A m c) := fun o => ((hal o).cell (p := ⟨Bf, 0, none⟩) (World.block_lt_of_cell? w ⟨Bf, 0, none⟩ hcell)).trans hcell
  have hr1 : ∀ o : Obj, Ns (w.alloc o) B A m c l := fun o => hr.below ((hal o).mono hB)
  obtain ⟨b, o, rfl, hbb, -⟩ := hr.node hk
  have ht := fun o' => node_tm (hr1 o') hk p
  have HF := Lib.hid (fun o' => finder_any k p Bf B _ m c l (w.alloc o') (hf1 o') (hr1 o') hk hp)
  have ht0 := fun o' => (ht o').1
  have ht1 := fun o' => (ht o').2
  clear ht hr1 hf1 hr hcell hs
  generalize (l[k].tm p).1 = tv at *
  generalize (l[k].tm p).2 = tn at *
  go_enter Tryz.func75, Tryz.ntmps75
  go_wp2_with fail
  refine (HF.out _).mono ?_
  rintro e w1 ⟨⟨b', o', heq, rfl⟩, rfl⟩
  injection heq with heq
  injection heq with e1 e2
  subst e1
  subst e2
  generalize haa : o + k * 10 + po p = a at *
  clear haa
  go_wp2_with fail
  exact bodyPost_ret (results_cell_row (P := Tryz.prog) rfl _ _ w.heap.size 67 _ (0, 0) _ rfl (heap_alloc_new w _) Tryz.underlying67 rfl rfl) rfl ⟨rfl, hal _⟩

theorem spot_lab (k s Bs Bf B : Nat) (A : Option Addr) (m c : Nat) (l : List Nd) (w : World) (hs : w.cell? ⟨Bs, 0, none⟩ = some (.func (.func 92) #[] #[.pointer (some ⟨Bf, 0, none⟩)])) (hcell : w.cell? ⟨Bf, 0, none⟩ = some (.slice A m c)) (hr : Ns w B A m c l) (hB : B ≤ w.heap.size) (hk : k < l.length) :
    Calls Tryz.prog 75 #[.int .i64 (k : Int), .int .u8 0, .int .u8 (s : Int), .pointer (some ⟨Bs, 0, none⟩)] w fun e w' => e = .returned (.agg #[.int .i64 (k : Int), .int .u8 0, .int .u8 (s : Int), .bool l[k].lv, .int .u64 l[k].ln]) ∧ Below w.heap.size w w' :=
  spot_any k 0 s Bs Bf B A m c l w hs hcell hr hB hk (by omega)

theorem spot_pc (k s Bs Bf B : Nat) (A : Option Addr) (m c : Nat) (l : List Nd) (w : World) (hs : w.cell? ⟨Bs, 0, none⟩ = some (.func (.func 92) #[] #[.pointer (some ⟨Bf, 0, none⟩)])) (hcell : w.cell? ⟨Bf, 0, none⟩ = some (.slice A m c)) (hr : Ns w B A m c l) (hB : B ≤ w.heap.size) (hk : k < l.length) :
    Calls Tryz.prog 75 #[.int .i64 (k : Int), .int .u8 1, .int .u8 (s : Int), .pointer (some ⟨Bs, 0, none⟩)] w fun e w' => e = .returned (.agg #[.int .i64 (k : Int), .int .u8 1, .int .u8 (s : Int), .bool l[k].pv, .int .u64 l[k].pn]) ∧ Below w.heap.size w w' :=
  spot_any k 1 s Bs Bf B A m c l w hs hcell hr hB hk (by omega)

theorem spot_eff (k s Bs Bf B : Nat) (A : Option Addr) (m c : Nat) (l : List Nd) (w : World) (hs : w.cell? ⟨Bs, 0, none⟩ = some (.func (.func 92) #[] #[.pointer (some ⟨Bf, 0, none⟩)])) (hcell : w.cell? ⟨Bf, 0, none⟩ = some (.slice A m c)) (hr : Ns w B A m c l) (hB : B ≤ w.heap.size) (hk : k < l.length) :
    Calls Tryz.prog 75 #[.int .i64 (k : Int), .int .u8 2, .int .u8 (s : Int), .pointer (some ⟨Bs, 0, none⟩)] w fun e w' => e = .returned (.agg #[.int .i64 (k : Int), .int .u8 2, .int .u8 (s : Int), .bool l[k].ev, .int .u64 l[k].en]) ∧ Below w.heap.size w w' :=
  spot_any k 2 s Bs Bf B A m c l w hs hcell hr hB hk (by omega)
end Go.Proofs.YtmejhedegmjboaaGreat
