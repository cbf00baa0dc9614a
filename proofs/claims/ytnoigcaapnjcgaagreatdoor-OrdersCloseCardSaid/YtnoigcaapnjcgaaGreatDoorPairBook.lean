/- The book's one list of pairs: it is filled, grown and looked at. Condition: it lies in a block of its own. -/
import Derived.Test.YtnoigcaapnjcgaaGreatDoorNumBook
import Derived.Test.YtnoigcaapnjcgaaGreatDoorPairOwn
import Derived.ChangeKeysEq
namespace Go.Proofs.YtnoigcaapnjcgaaGreatDoor
open Go.RowKit

/-- The mark of pairs. -/
def pm (no : Nat) : List Value := [.int .i64 (-(no : Int)), .int .i64 (no : Int)]
def pagg (no : Nat) : Value := .agg #[.int .i64 (-(no : Int)), .int .i64 (no : Int)]

theorem markPair_any (k : Nat) (w : World) (h : k ≤ 100) : Calls Tryz.prog 72 #[.int .i64 (k : Int)] w fun e w' => e = .returned (pagg k) ∧ Below w.heap.size w w' := by
  have h0 : -(k : Int) ≤ 0 := by omega
  have h1 : -100 ≤ -(k : Int) := by omega
  go_enter Tryz.func72, Tryz.ntmps72
  go_wp2
  exact bodyPost_ret (v := pagg k) (by simp [results, Tryz.results72, go_sem, pagg]) rfl ⟨rfl, ((Below.refl _ _).alloc (Nat.le_refl _) _)⟩

theorem eq_pair (a b c d : Int) (W : World) : (Op.equalIn 10000 51 (.agg #[.int .i64 a, .int .i64 b]) (.agg #[.int .i64 c, .int .i64 d])).run Tryz.prog W = .ok ((a == c) && (b == d)) W := by
  obtain ⟨i, hi⟩ : ∃ i, Tryz.prog.info? 3 = some i := Option.isSome_iff_exists.1 (by kernel_rfl)
  have hc : Tryz.prog.cellsOf 3 = 1 := by kernel_rfl
  have hp : Tryz.prog.plainKey 3 = true := by kernel_rfl
  rw [show 10000 = 9999 + 1 from rfl, run_equalIn_array W 9999 _ _ Tryz.underlying51 hi, hc]
  have r2 : List.range 2 = [0, 1] := rfl
  have p1 : ∀ (x y : Int), (part 3 #[.int .i64 x, .int .i64 y] 0).run Tryz.prog W = .ok (.int .i64 x) W := fun x y => run_part_plain W hp rfl
  have p2 : ∀ (x y : Int), (part 3 #[.int .i64 x, .int .i64 y] 1).run Tryz.prog W = .ok (.int .i64 y) W := fun x y => run_part_plain W hp rfl
  have q1 : ∀ (x y : Int), (Op.equalIn 9999 3 (.int .i64 x) (.int .i64 y)).run Tryz.prog W = .ok (x == y) W := fun x y => run_equalIn_int W 9998 3 .i64 .i64 x y Tryz.underlying3
  rw [r2]
  simp only [Op.eqItems, Sem.run_bind, Nat.zero_mul, Nat.one_mul, p1, q1, Result.andThen_ok]
  cases h1 : (a == c) <;> cases h2 : (b == d) <;> simp [p2, q1, h2]

set_option maxRecDepth 100000 in
set_option maxHeartbeats 400000 in
theorem isPair_any (k : Nat) (w : World) (h : k ≤ 100) : Calls Tryz.prog 87 #[pagg k, .int .i64 (k : Int)] w fun e w' => e = .returned (.bool true) ∧ Below w.heap.size w w' := by
  have h0 : -(k : Int) ≤ 0 := by omega
  have h1 : -100 ≤ -(k : Int) := by omega
  have heq : ∀ W, (Op.equalIn 10000 51 (.agg #[.int .i64 (-(k : Int)), .int .i64 (k : Int)]) (.agg #[.int .i64 (-(k : Int)), .int .i64 (k : Int)])).run Tryz.prog W = .ok true W := fun W => by rw [eq_pair]; simp
  unfold pagg
  go_enter Tryz.func87, Tryz.ntmps87
  go_wp2
  go_ret
  exact ⟨rfl, (Below.refl _ _).alloc (Nat.le_refl _) _⟩
theorem Mk.next2 {q : Nat} {u0 u1 : Value} {cur : Array Value} (h : Mk 2 [u0, u1] q cur) (hq : q * 2 + 1 < cur.size) : Mk 2 [u0, u1] (q + 1) ((cur.setIfInBounds (q * 2) u0).setIfInBounds (q * 2 + 1) u1) := by
  intro j hj
  by_cases e1 : j = q * 2 + 1
  · subst e1
    rw [Array.getElem?_setIfInBounds_self_of_lt (by simpa using hq), show (q * 2 + 1) % 2 = 1 by omega]
    rfl
  · rw [Array.getElem?_setIfInBounds_ne (by omega)]
    by_cases e0 : j = q * 2
    · subst e0
      rw [Array.getElem?_setIfInBounds_self_of_lt (by omega), show (q * 2) % 2 = 0 by omega]
      rfl
    · rw [Array.getElem?_setIfInBounds_ne (by omega)]
      exact h j (by omega)

theorem cell_far {w : World} {g q C o : Nat} {u : Value} (h : g < C) : (w.setCell ⟨g, q, none⟩ u).cell? ⟨C, o, none⟩ = w.cell? ⟨C, o, none⟩ :=
  World.cell?_setCell_other w ⟨g, q, none⟩ ⟨C, o, none⟩ u (fun e => by injection e with e1; omega)

theorem fRel_next2 {E n g c C no q : Nat} {u0 u1 : Value} {w wr : World} {cur : Array Value} (hkept : Kept (fun b => b = g) w wr) (hcur : wr.heap[g]? = some (.cells cur E (0, 0))) (hcs : cur.size = c * 2) (hmq : Mk 2 [u0, u1] q cur) (hq : q < n) (e3 : n ≤ c) (e4 : c ≤ maxLen) (e5 : n ≤ 1000000)
    (e0 : wr.cell? ⟨C, 0, none⟩ = some (.slice (some ⟨g, 0, none⟩) n c)) (e2 : wr.cell? ⟨C, 2, none⟩ = some (.int .i64 (no : Int))) (hC : C < wr.heap.size) (hgC : g < C) : FRel E 2 [u0, u1] n g c C no w (.int .i64 ((q : Int) + 1)) ((wr.setCell ⟨g, q * 2, none⟩ u0).setCell ⟨g, q * 2 + 1, none⟩ u1) := by
  refine ⟨q + 1, by simp, by omega, (hkept.setCell (.inl rfl) _).setCell (.inl rfl) _, .at g n c _ (set_blk (set_blk hcur _) _) (by simpa using hcs) e3 e4 e5 (hmq.next2 (by omega)), ?_, ?_, by simpa [World.setCell] using hC⟩
  · exact (cell_far hgC).trans ((cell_far hgC).trans e0)
  · exact (cell_far hgC).trans ((cell_far hgC).trans e2)

set_option maxRecDepth 100000 in
set_option maxHeartbeats 1000000 in
theorem fillPair_any (bk hb cap g n c no : Nat) (LA : Option Addr) (LN LC : Nat) (w : World) (hB : NB 7 61 bk hb cap (some ⟨g, 0, none⟩) n c no LA LN LC w) (hL : NL 51 2 (pm no) 0 w (some ⟨g, 0, none⟩) n c) (hno : no ≤ 100) (hgb : g ≠ bk) :
    Calls Tryz.prog 25 #[.pointer (some ⟨bk, 0, none⟩)] w fun e w' => e = .returned (.tuple #[]) ∧ Kept (fun b => b = g) w w' ∧ NL 51 2 (pm no) n w' (some ⟨g, 0, none⟩) n c := by
  obtain ⟨H, hH, h0, h1, h2⟩ := hB.hc
  have cb := hB.cb
  have hbk := hB.hbk
  have l0 : w.cell? ⟨hb, 0, none⟩ = some (.slice (some ⟨g, 0, none⟩) n c) := by rw [cell_blk hH, h0]
  have l1 : w.cell? ⟨hb, 1, none⟩ = some (.slice LA LN LC) := by rw [cell_blk hH, h1]
  have l2 : w.cell? ⟨hb, 2, none⟩ = some (.int .i64 (no : Int)) := by rw [cell_blk hH, h2]
  clear hH h0 h1 h2
  have HL : Hid (NL 51 2 (pm no) 0 w (some ⟨g, 0, none⟩) n c) := Lib.hid hL
  obtain ⟨e3, e4, e5⟩ : n ≤ c ∧ c ≤ maxLen ∧ n ≤ 1000000 := by cases hL; exact ⟨by assumption, by assumption, by assumption⟩
  obtain ⟨cur0, k0, _⟩ := hL.blk
  have hg := lt_blk k0
  have CB := Lib.hid cb
  clear k0 hL hB
  go_enter Tryz.func25, Tryz.ntmps25
  go_wp2
  refine wp_loop_rounds 2 ?_
  rw [rounds_succ]
  go_wp2
  go_loopw [4] (fun i4 wr => FRel 51 2 (pm no) n g c w.heap.size no w i4 wr) (fun i4 _ => n - (intOf i4).toNat)
  case atStart =>
    have hb := heap_alloc_new w (.cells #[.slice (some ⟨g, 0, none⟩) n c, .slice LA LN LC, .int .i64 (no : Int)] 61)
    exact ⟨0, rfl, by omega, (Kept.refl _ _).alloc _, HL.out.keep ((Kept.refl (fun _ => False) w).alloc _) (fun _ _ h => h), by rw [cell_blk hb]; rfl, by rw [cell_blk hb]; rfl, by simp⟩
  case round =>
    obtain ⟨q, rfl, hq, hkept, hnl, e0, e2, hC⟩ := hrel
    clear l0 l1 l2 cb
    have HNL := Lib.hid hnl
    have HK := Lib.hid hkept
    clear hnl hkept
    by_cases hlt : q < n
    · obtain ⟨cur, k1, k2, k3⟩ := HNL.out.blk
      have K1 := Lib.hid k1
      have K2 := Lib.hid k2
      have K3 := Lib.hid k3
      have hgC : g < w.heap.size := hg
      clear k1 k2 k3
      go_wp2
      refine wp_region_ord [0, 1, 2, 3, 4, 5, 6, 7] [5, 7] 8 (fun w' => w'.cell? ⟨w.heap.size, 0, none⟩ = some (.slice (some ⟨g, 0, none⟩) n c) ∧ w'.cell? ⟨w.heap.size, 2, none⟩ = some (.int .i64 (no : Int))) (by kernel_rfl) (by kernel_rfl) (by kernel_rfl) (by kernel_rfl) (fun _ _ _ _ _ h => h) ⟨e0, e2⟩ ?_
      simp only [steps, List.getElem?_cons_zero, List.getElem?_cons_succ]
      repeat (first
        | (refine ord_no rfl ?_; simp only [Act.put, List.setIfInBounds_toArray, List.set_cons_zero, List.set_cons_succ])
        | (refine ord_yes (v := ?_) rfl rfl ?_ ?_; rotate_left; (focus (rintro w' ⟨hS0, hS2⟩; go_simp; try with_reducible rfl)); simp only [Act.put, List.setIfInBounds_toArray, List.set_cons_zero, List.set_cons_succ]))
      refine ord_hard rfl rfl (fun K hK => ?_)
      go_simp
      refine (markPair_any no wr.drew hno).mono ?_
      rintro e w2 ⟨rfl, bm⟩
      have bm' : Kept (fun _ => False) wr w2 := (Kept.refl (fun _ => False) wr).drew.trans (Kept.of_below bm)
      have hC2 : w.heap.size < w2.heap.size := Nat.lt_of_lt_of_le hC bm'.size
      have e0' := (bm'.cell (p := ⟨w.heap.size, 0, none⟩) hC (fun h => h)).trans e0
      have e2' := (bm'.cell (p := ⟨w.heap.size, 2, none⟩) hC (fun h => h)).trans e2
      have K1' := Lib.hid ((bm'.block g (lt_blk K1.out) (fun h => h)).trans K1.out)
      have HK' := Lib.hid (HK.out.trans (bm'.mono (fun _ h => h.elim)))
      have hqc : q * 2 + 1 < cur.size := by have := K2.out; omega
      have hce0 : w2.cell? ⟨g, q * 2, none⟩ = some (cur[q * 2]'(by omega)) := by rw [cell_blk K1'.out]; exact Array.getElem?_eq_getElem (by omega)
      have hce1 : w2.cell? ⟨g, q * 2 + 1, none⟩ = some cur[q * 2 + 1] := by rw [cell_blk K1'.out]; exact Array.getElem?_eq_getElem hqc
      have hf0 : w2.frozen? ⟨g, q * 2, none⟩ = false := frozen_blk K1'.out
      have hf1 : w2.frozen? ⟨g, q * 2 + 1, none⟩ = false := frozen_blk K1'.out
      generalize cur[q * 2]'(by omega) = old0 at hce0
      generalize cur[q * 2 + 1] = old1 at hce1
      refine hK.out _ _ (fun _ => ⟨e0', e2'⟩) ?_
      clear hK K bm bm' e0 e2 hC
      repeat (first
        | (refine ord_no rfl ?_; simp only [Act.put, List.setIfInBounds_toArray, List.set_cons_zero, List.set_cons_succ])
        | (refine ord_yes (v := ?_) rfl rfl ?_ ?_; rotate_left; (focus (rintro w' ⟨hS0, hS2⟩; go_simp; try with_reducible rfl)); simp only [Act.put, List.setIfInBounds_toArray, List.set_cons_zero, List.set_cons_succ]))
      refine ord_hard rfl rfl (fun K hK => ?_)
      unfold pagg
      go_simp
      refine hK.out _ _ (fun _ => ⟨(cell_far (by omega)).trans ((cell_far (by omega)).trans e0'), (cell_far (by omega)).trans ((cell_far (by omega)).trans e2')⟩) ?_
      clear hK K
      refine ord_end ?_
      go_wp2
      go_roundw
      case rel => exact fRel_next2 HK'.out K1'.out K2.out K3.out hlt e3 e4 e5 e0' e2' hC2 hgC
      case measure => simp [intOf]; omega
    · obtain rfl : q = n := by omega
      have cb2 : wr.cell? ⟨bk, 7, none⟩ = some (.slice (some ⟨hb, 0, none⟩) 1 cap) := (HK.out.cell (p := ⟨bk, 7, none⟩) hbk (fun e => hgb e.symm)).trans CB.out
      go_wp2
      rw [rounds_succ]
      go_wp2
      go_end0
      exact ⟨rfl, HK.out, HNL.out⟩
theorem pair_inf : (Tryz.prog.info? 51).map (fun i => (i.zero, i.size, i.bytes)) = some (some (.agg #[.int .i64 0, .int .i64 0]), 2, 16) := by kernel_rfl

theorem pair_src (w : World) (u0 u1 : Value) (e : TypeId) : ∀ j x, [u0, u1][j]? = some x → (w.alloc (.cells #[u0, u1] e)).cell? ((⟨w.heap.size, 0, none⟩ : Addr).add j) = some x := by
  intro j x hx
  rw [Addr.add_lit, Nat.zero_add, cell_blk (heap_alloc_new w _), ← hx]
  simp

theorem pm_one (no : Nat) : ∀ v ∈ pm no, v.oneCell' = true := by
  intro v hv
  simp only [pm, List.mem_cons, List.not_mem_nil, or_false] at hv
  rcases hv with rfl | rfl <;> rfl

set_option maxRecDepth 100000 in
set_option maxHeartbeats 1000000 in
theorem growPair_any (bk hb cap g n c no : Nat) (LA : Option Addr) (LN LC : Nat) (w : World) (hB : NB 7 61 bk hb cap (some ⟨g, 0, none⟩) n c no LA LN LC w) (hL : NL 51 2 (pm no) n w (some ⟨g, 0, none⟩) n c) (hno : no ≤ 100) (hAb : ¬ lies (some ⟨g, 0, none⟩) bk) (hAh : ¬ lies (some ⟨g, 0, none⟩) hb) (hbh : bk ≠ hb) :
    Calls Tryz.prog 40 #[.pointer (some ⟨bk, 0, none⟩)] w fun e w' => e = .returned (.tuple #[]) ∧ ∃ L c', GrowE 7 61 51 2 (pm no) bk hb cap (some ⟨g, 0, none⟩) n c no w L c' w' := by
  obtain ⟨i0, hi0, hz0, hz1, hz2⟩ := info_parts pair_inf
  obtain ⟨H, hH, h0, h1, h2⟩ := hB.hc
  have cb := hB.cb
  have hbk := hB.hbk
  have l0 : w.cell? ⟨hb, 0, none⟩ = some (.slice (some ⟨g, 0, none⟩) n c) := by rw [cell_blk hH, h0]
  have l1 : w.cell? ⟨hb, 1, none⟩ = some (.slice LA LN LC) := by rw [cell_blk hH, h1]
  have l2 : w.cell? ⟨hb, 2, none⟩ = some (.int .i64 (no : Int)) := by rw [cell_blk hH, h2]
  obtain ⟨e3, e4, e5⟩ : n ≤ c ∧ c ≤ maxLen ∧ n ≤ 1000000 := by cases hL; exact ⟨by assumption, by assumption, by assumption⟩
  obtain ⟨cur0, k0, k1, k2⟩ := hL.blk
  have hg := lt_blk k0
  have HAlt : Hid (∀ b, lies (some ⟨g, 0, none⟩) b → b < w.heap.size) := Lib.hid (by
    rintro b ⟨a, e, rfl⟩
    injection e with e
    subst e
    exact hg)
  have hhb := lt_blk hH
  have K0 := Lib.hid k0
  have K1 := Lib.hid k1
  have K2 := Lib.hid k2
  clear hH h0 h1 h2 k0 k1 k2
  go_enter Tryz.func40, Tryz.ntmps40
  go_wp2
  refine wp_loop_rounds 2 ?_
  rw [rounds_succ]
  go_wp2
  go_loopw [4, 5] (fun v4 i5 wr => GRel 51 2 (pm no) (some ⟨g, 0, none⟩) n c w.heap.size no w v4 i5 wr) (fun _ i5 _ => 40 - (intOf i5).toNat)
  case atStart =>
    have hb := heap_alloc_new w (.cells #[.slice (some ⟨g, 0, none⟩) n c, .slice LA LN LC, .int .i64 (no : Int)] 61)
    have hk : Kept (fun _ => False) w (w.alloc (.cells #[.slice (some ⟨g, 0, none⟩) n c, .slice LA LN LC, .int .i64 (no : Int)] 61)) := (Kept.refl _ _).alloc _
    exact ⟨0, rfl, by omega, by rw [cell_blk hb]; rfl, by simp, .inr ⟨g, c, rfl, (hk.mono fun _ h => h.elim), hL.keep hk (fun _ _ h => h), ⟨cur0, (hk.block g hg (fun h => h)).trans K0.out, K1.out, e3, e4, K2.out⟩, .inl ⟨rfl, rfl⟩⟩⟩
  case round =>
    obtain ⟨p, rfl, hp, e2, hC, hor⟩ := hrel
    rcases hor with ⟨h, _⟩ | ⟨L, c', rfl, hGI⟩
    · cases h
    have CB := Lib.hid cb
    have L0 := Lib.hid l0
    clear l0 l1 l2 cb
    have hmt := markPair_any no wr hno
    by_cases hlt : p < 40
    · have hd : decide ((p : Int) < 40) = true := by simp; omega
      obtain ⟨cur, q1, q2, q3, q4, q5⟩ := hGI.long
      have Q1 := Lib.hid q1
      have Q2 := Lib.hid q2
      have Q5 := Lib.hid q5
      have HGI := Lib.hid hGI
      have hLC : L ≠ w.heap.size := by
        rcases hGI.place with ⟨e, _⟩ | e
        · have := HAlt.out L ⟨_, e, rfl⟩
          omega
        · omega
      clear q1 q2 q5 hGI
      go_wp2_with fail
      refine hmt.mono ?_
      rintro e w2 ⟨rfl, bm⟩
      have bk2 : Kept (fun _ => False) wr w2 := Kept.of_below bm
      have hX : (w2.alloc (.cells #[.int .i64 (-(no : Int)), .int .i64 (no : Int)] 51)).heap[L]? = some (.cells cur 51 (0, 0)) := (Below.heap_alloc w2 _ L (Nat.lt_of_lt_of_le (lt_blk Q1.out) bk2.size)).trans ((bk2.block L (lt_blk Q1.out) (fun h => h)).trans Q1.out)
      have HX := Lib.hid hX
      have HK2 := Lib.hid bk2
      clear hX bm bk2
      unfold pagg
      go_wp2_with (at_builtin; refine wpList_append_one _ rfl (.tmp 28) (.tmp 32) 22 51 2 (pm no) rfl i0 _ 16 Tryz.underlying22 hi0 hz0 hz1 hz2 rfl L (n + p) c' cur rfl HX.out Q2.out q3 q4 (by omega) (by omega) w2.heap.size rfl rfl (pair_src _ _ _ _) (pm_one no) ?_; intro L' c2 cur' w' hone)
      have hk3 := HK2.out.alloc (.cells #[.int .i64 (-(no : Int)), .int .i64 (no : Int)] 51)
      go_roundw
      case rel => exact ⟨p + 1, by go_num, by omega, copy_stays e2 hC hLC hk3 hone, by have h1 := hone.kept.size; have h2 := hk3.size; omega, .inr ⟨L', c2, by rw [Nat.add_assoc], HGI.out.next HAlt.out hC Q1.out Q5.out hk3 hone⟩⟩
      case measure => simp [intOf]; omega
    · obtain rfl : p = 40 := by omega
      have HGI := Lib.hid hGI
      have hB' := hB.keep hGI.kept hAb hAh
      have cb2 := hB'.cb
      obtain ⟨H, hH, h0, h1, h2⟩ := hB'.hc
      have l1 : wr.cell? ⟨hb, 1, none⟩ = some (.slice LA LN LC) := by rw [cell_blk hH, h1]
      have hfz : wr.frozen? ⟨hb, 1, none⟩ = false := frozen_blk hH
      have hfin := GrowE.of (HT := 61) (by decide) hB hAb hAh hbh hGI
      have HF := Lib.hid hfin
      have cb3 := hfin.book.cb
      clear hH h0 h1 h2 hGI hB' hfin
      go_wp2
      rw [rounds_succ]
      go_wp2
      go_end0
      exact ⟨rfl, L, c', HF.out⟩
set_option maxRecDepth 100000 in
set_option maxHeartbeats 2000000 in
theorem lookPair_any (bk hb cap g n c no L c' : Nat) (w : World) (hB : NB 7 61 bk hb cap (some ⟨g, 0, none⟩) n c no (some ⟨L, 0, none⟩) (n + 40) c' w) (hL : NL 51 2 (pm no) n w (some ⟨g, 0, none⟩) n c) (hG : Long 51 2 (pm no) (n + 40) L c' w) (hno : no ≤ 100) :
    Calls Tryz.prog 55 #[.pointer (some ⟨bk, 0, none⟩)] w fun e w' => e = .returned (.bool true) ∧ Kept (fun _ => False) w w' := by
  obtain ⟨H, hH, h0, h1, h2⟩ := hB.hc
  have cb := hB.cb
  have hbk := hB.hbk
  have l0 : w.cell? ⟨hb, 0, none⟩ = some (.slice (some ⟨g, 0, none⟩) n c) := by rw [cell_blk hH, h0]
  have l1 : w.cell? ⟨hb, 1, none⟩ = some (.slice (some ⟨L, 0, none⟩) (n + 40) c') := by rw [cell_blk hH, h1]
  have l2 : w.cell? ⟨hb, 2, none⟩ = some (.int .i64 (no : Int)) := by rw [cell_blk hH, h2]
  have hnsm : n ≤ 1000000 := by cases hL; assumption
  have hw40 : ((n : Int) + 40 != (n : Int) + 40) = false := by simp
  obtain ⟨curL, g1, g2, g3, g4, g5⟩ := hG
  obtain ⟨curg, k1, k2, k3⟩ := hL.blk
  have G1 := Lib.hid g1
  have G5 := Lib.hid g5
  have K1 := Lib.hid k1
  have K3 := Lib.hid k3
  have CB := Lib.hid cb
  clear hH h0 h1 h2 g1 g2 g3 g4 g5 k1 k2 k3 hL hB
  go_enter Tryz.func55, Tryz.ntmps55
  go_wp2
  refine wp_loop_rounds 2 ?_
  rw [rounds_succ]
  go_wp2
  go_loopw [5] (fun i5 wr => LkRel n w w.heap.size (.slice (some ⟨g, 0, none⟩) n c) (.slice (some ⟨L, 0, none⟩) (n + 40) c') (.int .i64 (no : Int)) i5 wr) (fun i5 _ => n + 40 - (intOf i5).toNat)
  case atStart =>
    have hb := heap_alloc_new w (.cells #[.slice (some ⟨g, 0, none⟩) n c, .slice (some ⟨L, 0, none⟩) (n + 40) c', .int .i64 (no : Int)] 61)
    exact ⟨0, rfl, by omega, (Kept.refl _ _).alloc _, by rw [cell_blk hb]; rfl, by rw [cell_blk hb]; rfl, by rw [cell_blk hb]; rfl, by simp⟩
  case round =>
    obtain ⟨q, rfl, hq, hk, e0, e1, e2, hC⟩ := hrel
    have HK := Lib.hid hk
    clear hk l0 l1 l2 cb
    by_cases hlt : q < n + 40
    · have hLr : L < wr.heap.size := Nat.lt_of_lt_of_le (lt_blk G1.out) HK.out.size
      have f1 : wr.cell? ⟨L, q * 2, none⟩ = some (.int .i64 (-(no : Int))) := by
        rw [HK.out.cell (p := ⟨L, q * 2, none⟩) (lt_blk G1.out) (fun h => h), cell_blk G1.out]
        have := G5.out (q * 2) (by omega)
        rwa [show (q * 2) % 2 = 0 by omega] at this
      have f2 : wr.cell? ⟨L, q * 2 + 1, none⟩ = some (.int .i64 (no : Int)) := by
        rw [HK.out.cell (p := ⟨L, q * 2 + 1, none⟩) (lt_blk G1.out) (fun h => h), cell_blk G1.out]
        have := G5.out (q * 2 + 1) (by omega)
        rwa [show (q * 2 + 1) % 2 = 1 by omega] at this
      by_cases hlt3 : q < n
      · have hgr : g < wr.heap.size := Nat.lt_of_lt_of_le (lt_blk K1.out) HK.out.size
        have f3 : wr.cell? ⟨g, q * 2, none⟩ = some (.int .i64 (-(no : Int))) := by
          rw [HK.out.cell (p := ⟨g, q * 2, none⟩) (lt_blk K1.out) (fun h => h), cell_blk K1.out]
          have := K3.out (q * 2) (by omega)
          rwa [show (q * 2) % 2 = 0 by omega] at this
        have f4 : wr.cell? ⟨g, q * 2 + 1, none⟩ = some (.int .i64 (no : Int)) := by
          rw [HK.out.cell (p := ⟨g, q * 2 + 1, none⟩) (lt_blk K1.out) (fun h => h), cell_blk K1.out]
          have := K3.out (q * 2 + 1) (by omega)
          rwa [show (q * 2 + 1) % 2 = 1 by omega] at this
        have hd3 : decide (q < n) = true := by simpa using hlt3
        · skip
          go_wp2
          refine wp_region_ord [0, 1, 2, 3, 4, 5, 6, 7, 8, 9, 10, 11, 12, 13, 14, 15, 16, 17, 18, 19, 20, 21, 22, 23, 24, 25, 26] [7, 23] 27 (fun w' => Kept (fun _ => False) wr w') (by kernel_rfl) (by kernel_rfl) (by kernel_rfl) (by kernel_rfl) (fun _ _ _ _ _ h => h) (Kept.refl _ _).drew ?_
          simp only [steps, List.getElem?_cons_zero, List.getElem?_cons_succ]
          repeat (first
            | (refine ord_no rfl ?_; simp only [Act.put, List.setIfInBounds_toArray, List.set_cons_zero, List.set_cons_succ])
            | (refine ord_yes (v := ?_) rfl rfl ?_ ?_; rotate_left; (focus (rintro w' hS; have s0 := (hS.cell (p := ⟨w.heap.size, 0, none⟩) hC (fun h => h)).trans e0; have s1 := (hS.cell (p := ⟨w.heap.size, 1, none⟩) hC (fun h => h)).trans e1; have s2 := (hS.cell (p := ⟨w.heap.size, 2, none⟩) hC (fun h => h)).trans e2; have s3 := (hS.cell (p := ⟨L, q * 2, none⟩) hLr (fun h => h)).trans f1; have s4 := (hS.cell (p := ⟨L, q * 2 + 1, none⟩) hLr (fun h => h)).trans f2; have s5 := (hS.cell (p := ⟨g, q * 2, none⟩) hgr (fun h => h)).trans f3; have s6 := (hS.cell (p := ⟨g, q * 2 + 1, none⟩) hgr (fun h => h)).trans f4; clear hS; go_simp; try with_reducible rfl)); simp only [Act.put, List.setIfInBounds_toArray, List.set_cons_zero, List.set_cons_succ]))
          refine ord_hard rfl rfl (fun K hK => ?_)
          go_simp
          rw [show (Value.agg #[Value.int IntKind.i64 (-(no : Int)), Value.int IntKind.i64 (no : Int)]) = pagg no from rfl]
          refine (isPair_any no _ hno).mono ?_
          rintro e w2 ⟨rfl, b2⟩
          have k2 : Kept (fun _ => False) wr w2 := (Kept.refl (fun _ => False) wr).drew.trans (Kept.of_below b2)
          refine hK.out _ _ (fun _ => k2) ?_
          clear hK K
          repeat (first
            | (refine ord_no rfl ?_; simp only [Act.put, List.setIfInBounds_toArray, List.set_cons_zero, List.set_cons_succ])
            | (refine ord_yes (v := ?_) rfl rfl ?_ ?_; rotate_left; (focus (rintro w' hS; have s0 := (hS.cell (p := ⟨w.heap.size, 0, none⟩) hC (fun h => h)).trans e0; have s1 := (hS.cell (p := ⟨w.heap.size, 1, none⟩) hC (fun h => h)).trans e1; have s2 := (hS.cell (p := ⟨w.heap.size, 2, none⟩) hC (fun h => h)).trans e2; have s3 := (hS.cell (p := ⟨L, q * 2, none⟩) hLr (fun h => h)).trans f1; have s4 := (hS.cell (p := ⟨L, q * 2 + 1, none⟩) hLr (fun h => h)).trans f2; have s5 := (hS.cell (p := ⟨g, q * 2, none⟩) hgr (fun h => h)).trans f3; have s6 := (hS.cell (p := ⟨g, q * 2 + 1, none⟩) hgr (fun h => h)).trans f4; clear hS; go_simp; try with_reducible rfl)); simp only [Act.put, List.setIfInBounds_toArray, List.set_cons_zero, List.set_cons_succ]))
          refine ord_hard rfl rfl (fun K hK => ?_)
          go_simp
          rw [show (Value.agg #[Value.int IntKind.i64 (-(no : Int)), Value.int IntKind.i64 (no : Int)]) = pagg no from rfl]
          refine (isPair_any no _ hno).mono ?_
          rintro e w3 ⟨rfl, b3⟩
          have k3 : Kept (fun _ => False) wr w3 := k2.trans (Kept.of_below b3)
          refine hK.out _ _ (fun _ => k3) ?_
          clear hK K
          repeat (first
            | (refine ord_no rfl ?_; simp only [Act.put, List.setIfInBounds_toArray, List.set_cons_zero, List.set_cons_succ])
            | (refine ord_yes (v := ?_) rfl rfl ?_ ?_; rotate_left; (focus (rintro w' hS; have s0 := (hS.cell (p := ⟨w.heap.size, 0, none⟩) hC (fun h => h)).trans e0; have s1 := (hS.cell (p := ⟨w.heap.size, 1, none⟩) hC (fun h => h)).trans e1; have s2 := (hS.cell (p := ⟨w.heap.size, 2, none⟩) hC (fun h => h)).trans e2; have s3 := (hS.cell (p := ⟨L, q * 2, none⟩) hLr (fun h => h)).trans f1; have s4 := (hS.cell (p := ⟨L, q * 2 + 1, none⟩) hLr (fun h => h)).trans f2; have s5 := (hS.cell (p := ⟨g, q * 2, none⟩) hgr (fun h => h)).trans f3; have s6 := (hS.cell (p := ⟨g, q * 2 + 1, none⟩) hgr (fun h => h)).trans f4; clear hS; go_simp; try with_reducible rfl)); simp only [Act.put, List.setIfInBounds_toArray, List.set_cons_zero, List.set_cons_succ]))
          refine ord_end ?_
          go_wp2
          go_roundw
          case rel => exact ⟨q + 1, by go_num, by omega, HK.out.trans k3, (k3.cell (p := ⟨w.heap.size, 0, none⟩) hC (fun h => h)).trans e0, (k3.cell (p := ⟨w.heap.size, 1, none⟩) hC (fun h => h)).trans e1, (k3.cell (p := ⟨w.heap.size, 2, none⟩) hC (fun h => h)).trans e2, Nat.lt_of_lt_of_le hC k3.size⟩
          case measure => simp [intOf]; omega
      · have hd3 : decide (q < n) = false := by simpa using hlt3
        · skip
          go_wp2
          refine wp_region_ord [0, 1, 2, 3, 4, 5, 6, 7, 8, 9, 10, 11, 12, 13, 14, 15, 16, 17, 18, 19, 20, 21, 22, 23, 24, 25, 26] [7, 23] 27 (fun w' => Kept (fun _ => False) wr w') (by kernel_rfl) (by kernel_rfl) (by kernel_rfl) (by kernel_rfl) (fun _ _ _ _ _ h => h) (Kept.refl _ _).drew ?_
          simp only [steps, List.getElem?_cons_zero, List.getElem?_cons_succ]
          repeat (first
            | (refine ord_no rfl ?_; simp only [Act.put, List.setIfInBounds_toArray, List.set_cons_zero, List.set_cons_succ])
            | (refine ord_yes (v := ?_) rfl rfl ?_ ?_; rotate_left; (focus (rintro w' hS; have s0 := (hS.cell (p := ⟨w.heap.size, 0, none⟩) hC (fun h => h)).trans e0; have s1 := (hS.cell (p := ⟨w.heap.size, 1, none⟩) hC (fun h => h)).trans e1; have s2 := (hS.cell (p := ⟨w.heap.size, 2, none⟩) hC (fun h => h)).trans e2; have s3 := (hS.cell (p := ⟨L, q * 2, none⟩) hLr (fun h => h)).trans f1; have s4 := (hS.cell (p := ⟨L, q * 2 + 1, none⟩) hLr (fun h => h)).trans f2; clear hS; go_simp; try with_reducible rfl)); simp only [Act.put, List.setIfInBounds_toArray, List.set_cons_zero, List.set_cons_succ]))
          refine ord_hard rfl rfl (fun K hK => ?_)
          go_simp
          rw [show (Value.agg #[Value.int IntKind.i64 (-(no : Int)), Value.int IntKind.i64 (no : Int)]) = pagg no from rfl]
          refine (isPair_any no _ hno).mono ?_
          rintro e w2 ⟨rfl, b2⟩
          have k2 : Kept (fun _ => False) wr w2 := (Kept.refl (fun _ => False) wr).drew.trans (Kept.of_below b2)
          refine hK.out _ _ (fun _ => k2) ?_
          clear hK K
          repeat (first
            | (refine ord_no rfl ?_; simp only [Act.put, List.setIfInBounds_toArray, List.set_cons_zero, List.set_cons_succ])
            | (refine ord_yes (v := ?_) rfl rfl ?_ ?_; rotate_left; (focus (rintro w' hS; have s0 := (hS.cell (p := ⟨w.heap.size, 0, none⟩) hC (fun h => h)).trans e0; have s1 := (hS.cell (p := ⟨w.heap.size, 1, none⟩) hC (fun h => h)).trans e1; have s2 := (hS.cell (p := ⟨w.heap.size, 2, none⟩) hC (fun h => h)).trans e2; have s3 := (hS.cell (p := ⟨L, q * 2, none⟩) hLr (fun h => h)).trans f1; have s4 := (hS.cell (p := ⟨L, q * 2 + 1, none⟩) hLr (fun h => h)).trans f2; clear hS; go_simp; try with_reducible rfl)); simp only [Act.put, List.setIfInBounds_toArray, List.set_cons_zero, List.set_cons_succ]))
          refine ord_end ?_
          go_wp2
          go_roundw
          case rel => exact ⟨q + 1, by go_num, by omega, HK.out.trans k2, (k2.cell (p := ⟨w.heap.size, 0, none⟩) hC (fun h => h)).trans e0, (k2.cell (p := ⟨w.heap.size, 1, none⟩) hC (fun h => h)).trans e1, (k2.cell (p := ⟨w.heap.size, 2, none⟩) hC (fun h => h)).trans e2, Nat.lt_of_lt_of_le hC k2.size⟩
          case measure => simp [intOf]; omega
    · have cb2 : wr.cell? ⟨bk, 7, none⟩ = some (.slice (some ⟨hb, 0, none⟩) 1 cap) := (HK.out.cell (p := ⟨bk, 7, none⟩) hbk (fun h => h)).trans CB.out
      go_wp2
      rw [rounds_succ]
      go_wp2
      go_ret
      exact ⟨rfl, HK.out⟩
end Go.Proofs.YtnoigcaapnjcgaaGreatDoor
