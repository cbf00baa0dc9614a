/- Lists that are held in a book: they are filled, grown and looked at. -/
import Derived.Test.YtkjeejaecagbaaaGreatDoorWord
import Derived.LoopTactic
import Derived.Outline
import Derived.Test.YtkjeejaecagbaaaGreatDoorOrder
import Derived.Test.YtkjeejaecagbaaaGreatDoorKept
namespace Go.Proofs.YtkjeejaecagbaaaGreatDoor
open Go.RowKit

/-- Where the held lists lie: their blocks, lengths, room; the longer ones. -/
structure Held where
  bk : Nat
  hb : Nat
  cap : Nat
  m : Nat
  g : Nat → Nat
  n : Nat → Nat
  c : Nat → Nat
  nl : Nat → Bool

/-- Where list i lies: nowhere, if it is nil. -/
def Held.a (h : Held) (i : Nat) : Option Addr := if h.nl i then none else some ⟨h.g i, 0, none⟩

def mark (k : Nat) : Value := .string (wd (k + 1))

/-- The book, of which the bytes alone are held. -/
structure BookAt (h : Held) (w : World) : Prop where
  many : h.m ≤ 8
  cell1 : w.cell? ⟨h.bk, 3, none⟩ = some (.slice (some ⟨h.hb, 0, none⟩) h.m h.cap)
  l : ∀ i, i < h.m → w.cell? ⟨h.hb, i * 3, none⟩ = some (.slice (h.a i) (h.n i) (h.c i))
  lo : ∀ i, i < h.m → ∃ A n c, w.cell? ⟨h.hb, i * 3 + 1, none⟩ = some (.slice A n c)
  no : ∀ i, i < h.m → w.cell? ⟨h.hb, i * 3 + 2, none⟩ = some (.int .i64 ((i : Int) + 1))
  lt : h.bk < w.heap.size ∧ h.hb < w.heap.size
  hblk : ∃ H, w.heap[h.hb]? = some (.cells H 64 (0, 0))
  ne : h.bk ≠ h.hb
  small : ∀ i, i < h.m → h.n i ≤ 1000000
  nils : ∀ i, i < h.m → h.nl i = true → h.n i = 0 ∧ h.c i = 0
  blk : ∀ i, i < h.m → h.nl i = false → ∃ cur, w.heap[h.g i]? = some (.cells cur 9 (0, 0)) ∧ cur.size = h.c i ∧ h.n i ≤ h.c i ∧ h.c i ≤ maxLen
  apart : ∀ i j, i < h.m → j < h.m → i ≠ j → h.g i ≠ h.g j
  off : ∀ i, i < h.m → h.g i ≠ h.bk ∧ h.g i ≠ h.hb

/-- The first q bytes of list k are its mark. -/
def Marked (h : Held) (w : World) (k q : Nat) : Prop := h.nl k = false → ∃ cur, w.heap[h.g k]? = some (.cells cur 9 (0, 0)) ∧ cur.size = h.c k ∧ ∀ j, j < q → cur[j]? = some (mark k)

/-- The book stands where its own blocks stand and each list has its room. -/
theorem BookAt.stay {h : Held} {w w' : World} {D : Nat → Prop} (hB : BookAt h w) (hk : Kept D w w') (h1 : ¬ D h.bk) (h2 : ¬ D h.hb) (hb : ∀ i, i < h.m → h.nl i = false → ∃ cur, w'.heap[h.g i]? = some (.cells cur 9 (0, 0)) ∧ cur.size = h.c i) : BookAt h w' := by
  have hc : ∀ o, w'.cell? ⟨h.hb, o, none⟩ = w.cell? ⟨h.hb, o, none⟩ := fun o => hk.cell (p := ⟨h.hb, o, none⟩) hB.lt.2 h2
  refine ⟨hB.many, (hk.cell (p := ⟨h.bk, 3, none⟩) hB.lt.1 h1).trans hB.cell1, fun i hi => (hc _).trans (hB.l i hi), fun i hi => ?_, fun i hi => (hc _).trans (hB.no i hi),
    ⟨Nat.lt_of_lt_of_le hB.lt.1 hk.size, Nat.lt_of_lt_of_le hB.lt.2 hk.size⟩, ?_, hB.ne, hB.small, hB.nils, fun i hi hnl => ?_, hB.apart, hB.off⟩
  · obtain ⟨A, n, c, e⟩ := hB.lo i hi
    exact ⟨A, n, c, (hc _).trans e⟩
  · obtain ⟨H, e⟩ := hB.hblk
    exact ⟨H, (hk.block h.hb hB.lt.2 h2).trans e⟩
  · obtain ⟨cur, e1, e2⟩ := hb i hi hnl
    obtain ⟨_, _, _, e3, e4⟩ := hB.blk i hi hnl
    exact ⟨cur, e1, e2, e3, e4⟩

/-- k lists are filled. -/
def FillRel (h : Held) (w : World) (i2 : Value) (wr : World) : Prop :=
  ∃ k : Nat, i2 = .int .i64 (k : Int) ∧ k ≤ h.m ∧ Kept (fun b => ∃ j, j < k ∧ b = h.g j) w wr ∧ ∀ j, j < k → Marked h wr j (h.n j)

/-- Of list k q bytes are filled; C is the copy's block. -/
def FillIn (h : Held) (w : World) (k C : Nat) (i4 : Value) (wr : World) : Prop :=
  ∃ q : Nat, i4 = .int .i64 (q : Int) ∧ q ≤ h.n k ∧ Kept (fun b => ∃ j, j < k + 1 ∧ b = h.g j) w wr ∧ (∀ j, j < k → Marked h wr j (h.n j)) ∧ Marked h wr k q ∧
    wr.cell? ⟨C, 0, none⟩ = some (.slice (h.a k) (h.n k) (h.c k)) ∧ wr.cell? ⟨C, 2, none⟩ = some (.int .i64 ((k : Int) + 1)) ∧ C < wr.heap.size

theorem cell_other {w : World} {g q C o : Nat} {u : Value} (h : g < C) : ((w.setCell ⟨g, q, none⟩ u).drew).cell? ⟨C, o, none⟩ = w.cell? ⟨C, o, none⟩ :=
  World.cell?_setCell_other w ⟨g, q, none⟩ ⟨C, o, none⟩ u (fun e => by injection e with e1; omega)

theorem fillIn_next {h : Held} {w wr : World} {k C q : Nat} {cur : Array Value} (hkept : Kept (fun b => ∃ j, j < k + 1 ∧ b = h.g j) w wr) (hdone : ∀ j, j < k → Marked h wr j (h.n j)) (hcur : wr.heap[h.g k]? = some (.cells cur 9 (0, 0))) (hcs : cur.size = h.c k)
    (hmq : ∀ j, j < q → cur[j]? = some (mark k)) (hq : q < h.n k) (hnc : h.n k ≤ h.c k) (e0 : wr.cell? ⟨C, 0, none⟩ = some (.slice (h.a k) (h.n k) (h.c k))) (e2 : wr.cell? ⟨C, 2, none⟩ = some (.int .i64 ((k : Int) + 1))) (hC : C < wr.heap.size)
    (hgC : h.g k < C) (hap : ∀ j, k < h.m → j < h.m → k ≠ j → h.g k ≠ h.g j) (hkm : k < h.m) : FillIn h w k C (.int .i64 ((q : Int) + 1)) ((wr.setCell ⟨h.g k, q, none⟩ (.string (wd (k + 1)))).drew) := by
  refine ⟨q + 1, by simp, by omega, (hkept.setCell (.inl ⟨k, by omega, rfl⟩) _).drew, fun j hj => ?_, fun _ => ⟨_, set_blk hcur _, by simpa using hcs, fun j hj => ?_⟩, (cell_other hgC).trans e0, (cell_other hgC).trans e2, by simpa [World.setCell] using hC⟩
  · intro hnj
    obtain ⟨c2, h1, h2, h3⟩ := hdone j hj hnj
    exact ⟨c2, (Below.heap_setCell wr _ _ (h.g j) (fun e => hap j hkm (by omega) (by omega) e.symm)).trans h1, h2, h3⟩
  · by_cases e : j = q
    · subst e
      rw [Array.getElem?_setIfInBounds_self_of_lt (by omega)]
      rfl
    · rw [Array.getElem?_setIfInBounds_ne (by omega)]
      exact hmq j (by omega)

set_option maxRecDepth 100000 in
set_option maxHeartbeats 1000000 in
theorem fill_any (h : Held) (w : World) (hB : BookAt h w) :
    Calls Tryz.prog 30 #[.pointer (some ⟨h.bk, 0, none⟩)] w fun e w' => e = .returned (.tuple #[]) ∧ Kept (fun b => ∃ j, j < h.m ∧ b = h.g j) w w' ∧ ∀ j, j < h.m → Marked h w' j (h.n j) := by
  have hm := hB.many
  go_enter Tryz.func30, Tryz.ntmps30
  go_wp2
  go_loopw [2] (fun i2 wr => FillRel h w i2 wr) (fun i2 _ => h.m - (intOf i2).toNat)
  case atStart => exact ⟨0, rfl, by omega, Kept.refl _ _, fun j hj => absurd hj (by omega)⟩
  case round =>
    obtain ⟨k, rfl, hk, hkept, hdone⟩ := hrel
    have hnbk : ¬ ∃ j, j < k ∧ h.bk = h.g j := by rintro ⟨j, hj, e⟩; exact (hB.off j (by omega)).1 e.symm
    have hnhb : ¬ ∃ j, j < k ∧ h.hb = h.g j := by rintro ⟨j, hj, e⟩; exact (hB.off j (by omega)).2 e.symm
    have c1 : wr.cell? ⟨h.bk, 3, none⟩ = some (.slice (some ⟨h.hb, 0, none⟩) h.m h.cap) := (hkept.cell (p := ⟨h.bk, 3, none⟩) hB.lt.1 hnbk).trans hB.cell1
    by_cases hlt : k < h.m
    · have l0 : wr.cell? ⟨h.hb, k * 3, none⟩ = _ := (hkept.cell (p := ⟨h.hb, k * 3, none⟩) hB.lt.2 hnhb).trans (hB.l k hlt)
      obtain ⟨LA, LN, LC, hlo⟩ := hB.lo k hlt
      have l1 : wr.cell? ⟨h.hb, k * 3 + 1, none⟩ = _ := (hkept.cell (p := ⟨h.hb, k * 3 + 1, none⟩) hB.lt.2 hnhb).trans hlo
      have l2 : wr.cell? ⟨h.hb, k * 3 + 2, none⟩ = _ := (hkept.cell (p := ⟨h.hb, k * 3 + 2, none⟩) hB.lt.2 hnhb).trans (hB.no k hlt)
      clear hnbk hnhb hlo
      have HD := Lib.hid hdone
      clear hdone
      cases hnl : h.nl k with
      | true =>
        obtain ⟨hn0, hc0⟩ := hB.nils k hlt hnl
        have ha : h.a k = none := by simp [Held.a, hnl]
        have HNL := Lib.hid hnl
        rw [ha, hn0, hc0] at l0
        clear hnl
        go_wp2
        refine wp_loop_rounds 1 ?_
        rw [rounds_succ]
        go_wp2
        go_roundw
        case rel => exact ⟨k + 1, by go_num, by omega, (hkept.mono fun b ⟨j, hj, e⟩ => ⟨j, by omega, e⟩).alloc _, fun j hj => by
          by_cases e : j = k
          · subst e; exact fun h' => absurd h' (by rw [HNL.out]; simp)
          · exact fun hnj => by
              obtain ⟨cur, h1, h2, h3⟩ := HD.out j (by omega) hnj
              exact ⟨cur, (Below.heap_alloc wr _ _ (lt_blk h1)).trans h1, h2, h3⟩⟩
        case measure => simp [intOf]; omega
      | false =>
      have ha : h.a k = some ⟨h.g k, 0, none⟩ := by simp [Held.a, hnl]
      have HNL := Lib.hid hnl
      rw [ha] at l0
      clear hnl
      obtain ⟨cur0, hcur, hcs, hnc, hcm⟩ := hB.blk k hlt HNL.out
      have hcur' : wr.heap[h.g k]? = some (.cells cur0 9 (0, 0)) := (hkept.block (h.g k) (lt_blk hcur) (by rintro ⟨j, hj, e⟩; exact hB.apart k j hlt (by omega) (by omega) e)).trans hcur
      have HC := Lib.hid hcur'
      have HS := Lib.hid hcs
      unfold maxLen at hcm
      have hcz : h.n k ≤ 9223372036854775807 := by omega
      clear hcur hcur' hcs
      obtain ⟨wo, rfl⟩ : ∃ wo : World, wo = wr := ⟨_, rfl⟩
      go_wp2
      go_loopw [4] (fun i4 wr => FillIn h w k wo.heap.size i4 wr) (fun i4 _ => h.n k - (intOf i4).toNat)
      case atStart =>
        have hb := heap_alloc_new wo (.cells #[.slice (some ⟨h.g k, 0, none⟩) (h.n k) (h.c k), .slice LA LN LC, .int .i64 ((k : Int) + 1)] 64)
        refine ⟨0, rfl, by omega, (hkept.mono fun b ⟨j, hj, e⟩ => ⟨j, by omega, e⟩).alloc _, fun j hj => ?_, ?_, ?_, ?_, by simp⟩
        · intro hnj
          obtain ⟨cur, h1, h2, h3⟩ := HD.out j hj hnj
          exact ⟨cur, (Below.heap_alloc wo _ _ (lt_blk h1)).trans h1, h2, h3⟩
        · exact fun _ => ⟨cur0, (Below.heap_alloc wo _ _ (lt_blk HC.out)).trans HC.out, HS.out, fun j hj => absurd hj (by omega)⟩
        · rw [cell_blk hb, ha]; rfl
        · rw [cell_blk hb]; rfl
      case round =>
        obtain ⟨q, rfl, hq, hkept2, hdone2, hmk, e0, e2, hC⟩ := hrel
        have HD2 := Lib.hid hdone2
        have HK := Lib.hid hmk
        clear hdone2 hmk c1 l0 l1 l2
        have E0 := Lib.hid e0
        rw [ha] at e0
        by_cases hlt2 : q < h.n k
        · obtain ⟨cur, hcur, hcs, hmq⟩ := HK.out HNL.out
          have hcs' : h.c k ≤ cur.size := by omega
          have hce : wr.cell? ⟨h.g k, q, none⟩ = some cur[q] := by rw [cell_blk hcur]; exact Array.getElem?_eq_getElem (by omega)
          have hfz : wr.frozen? ⟨h.g k, q, none⟩ = false := frozen_blk hcur
          have HCUR := Lib.hid hcur
          have HMQ := Lib.hid hmq
          have hqi : (0 : Int) ≤ (q : Int) := by omega
          have hqn : (q : Int) < (h.n k : Int) := by omega
          have HCS := Lib.hid hcs
          have hgk : h.g k < wo.heap.size := lt_blk HC.out
          generalize cur[q] = old at hce
          clear hcur hmq hcs
          go_wp2
          refine wp_region_ord [0, 1, 2, 3, 4, 5, 6, 7] [5, 7] 8 (fun w' => w'.cell? ⟨wo.heap.size, 0, none⟩ = some (.slice (some ⟨h.g k, 0, none⟩) (h.n k) (h.c k)) ∧ w'.cell? ⟨wo.heap.size, 2, none⟩ = some (.int .i64 ((k : Int) + 1))) (by kernel_rfl) (by kernel_rfl) (by kernel_rfl) (by kernel_rfl) (fun _ _ _ _ _ h => h) ⟨e0, e2⟩ ?_
          simp only [steps, List.getElem?_cons_zero, List.getElem?_cons_succ]
          repeat (first
            | (refine ord_no rfl ?_; simp only [Act.put, List.setIfInBounds_toArray, List.set_cons_zero, List.set_cons_succ])
            | (refine ord_yes (v := ?_) rfl rfl ?_ ?_; rotate_left; (focus (rintro w' ⟨hS0, hS2⟩; go_simp; try with_reducible rfl)); simp only [Act.put, List.setIfInBounds_toArray, List.set_cons_zero, List.set_cons_succ]))
          refine ord_hard rfl rfl (fun K hK => ?_)
          go_simp
          have hmt := markText_any (k + 1) (by omega) wr.drew
          rw [Int.natCast_add] at hmt
          refine hmt.mono ?_
          rintro e w2 ⟨rfl, rfl⟩
          refine hK.out _ _ (fun _ => ⟨e0, e2⟩) ?_
          clear hK K
          repeat (first
            | (refine ord_no rfl ?_; simp only [Act.put, List.setIfInBounds_toArray, List.set_cons_zero, List.set_cons_succ])
            | (refine ord_yes (v := ?_) rfl rfl ?_ ?_; rotate_left; (focus (rintro w' ⟨hS0, hS2⟩; go_simp; try with_reducible rfl)); simp only [Act.put, List.setIfInBounds_toArray, List.set_cons_zero, List.set_cons_succ]))
          refine ord_hard rfl rfl (fun K hK => ?_)
          go_simp
          refine hK.out _ _ (fun _ => ⟨(cell_other (by omega)).trans e0, (cell_other (by omega)).trans e2⟩) ?_
          clear hK K
          refine ord_end ?_
          go_wp2
          go_roundw
          case rel => exact fillIn_next hkept2 HD2.out HCUR.out HCS.out HMQ.out hlt2 hnc E0.out e2 hC (by omega) (hB.apart k) (by omega)
          case measure => simp [intOf]; omega
        · obtain rfl : q = h.n k := by omega
          go_wp2
          go_roundw
          case rel => exact ⟨k + 1, by go_num, by omega, hkept2, fun j hj => by
            by_cases e : j = k
            · subst e; exact HK.out
            · exact HD2.out j (by omega)⟩
          case measure => simp [intOf]; omega
    · obtain rfl : k = h.m := by omega
      have HD := Lib.hid hdone
      clear hdone
      go_wp2
      go_end0
      exact ⟨rfl, hkept, HD.out⟩

end Go.Proofs.YtkjeejaecagbaaaGreatDoor
