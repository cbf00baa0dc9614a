/- What TwinBounds and LeftBounds do. Conditions: sizes alone. -/
import Derived.Test.YtmiconjmeaammaaGreatDoorBoRefS
import Derived.OwnWalk
import Derived.Handy
import Derived.WalkMore
namespace Go.Proofs.YtmiconjmeaammaaGreatDoor.Bo
open Go.RowKit

/-- The mark behind a twin. -/
def bMark : Bd := ⟨false, 77, false, 0⟩
abbrev oMarkT : Obj := .cells #[.bool false, .int .u64 77, .bool false, .int .u64 0] 91
def oBd (x : Bd) : Obj := .cells #[.bool x.av, .int .u64 x.an, .bool x.bv, .int .u64 x.bn] 91
theorem bd_size4 (w : World) : (Go.sizeOf 91).run Tryz.prog w = .ok 4 w := by kernel_rfl

/-- A twin: a block of its own, the nodes and the mark behind them. -/
structure TwinB (w w' : World) (g n : Nat) (l : List Bd) : Prop where
  len : l.length = n
  top : n ≤ 100000
  old : w.heap.size ≤ g
  blk : w'.heap[g]? = some (.cells ((l ++ [bMark]).flatMap bdc).toArray 91 (0, 0))

theorem TwinB.keep {w w' w2 : World} {g n : Nat} {l : List Bd} (h : TwinB w w' g n l) (hb : Below w'.heap.size w' w2) : TwinB w w2 g n l :=
  ⟨h.len, h.top, h.old, (hb.block g (lt_blk h.blk)).trans h.blk⟩

theorem TwinB.rs {w w' : World} {g n : Nat} {l : List Bd} (h : TwinB w w' g n l) : Rs bdc 4 w' w'.heap.size (some ⟨g, 0, none⟩) n (n + 1) l :=
  Rs.of_blk bdc_len h.blk ⟨bdc bMark, by simp⟩ h.len (by omega) (by have := h.top; unfold maxLen; omega)

theorem TwinB.full {w w' : World} {g n : Nat} {l : List Bd} (h : TwinB w w' g n l) : Rs bdc 4 w' w'.heap.size (some ⟨g, 0, none⟩) (n + 1) (n + 1) (l ++ [bMark]) :=
  Rs.of_blk bdc_len h.blk ⟨[], by simp⟩ (by simp [h.len]) (by omega) (by have := h.top; unfold maxLen; omega)

theorem own_allB {w : World} {base g n : Nat} {xs : List Value} (h : w.ownsRow base 91 4 (.slice (some ⟨g, 0, none⟩) n n) n xs) : w.heap[g]? = some (.cells xs.toArray 91 (0, 0)) ∧ base ≤ g := by
  rcases h.2 with ⟨hv, _⟩ | ⟨g', cap, cur, hv, hb, hg, hnc, hcm, hcs, htake⟩
  · cases hv
  · injection hv with h1 h2 h3
    injection h1 with h1
    injection h1 with h1
    subst h1
    subst h3
    refine ⟨?_, hb⟩
    rw [hg]
    have : cur = xs.toArray := by
      apply Array.toList_inj.1
      rw [← htake, List.take_of_length_le (by rw [Array.length_toList, hcs]; exact Nat.le_refl _)]
    rw [this]

def TwRelB (l : List Bd) (w : World) (g n : Nat) (v3 i4 : Value) (wr : World) : Prop :=
  ∃ k : Nat, i4 = .int .i64 (k : Int) ∧ k ≤ l.length ∧ v3 = .slice (some ⟨g, 0, none⟩) k (n + 1) ∧ wr.ownsRow w.heap.size 91 4 (.slice (some ⟨g, 0, none⟩) k (n + 1)) k ((l.take k).flatMap bdc) ∧ Below w.heap.size w wr

set_option maxRecDepth 100000 in
set_option maxHeartbeats 2000000 in
theorem twinB_any (A : Option Addr) (n c : Nat) (l : List Bd) (w : World) (h : Rs bdc 4 w w.heap.size A n c l) (hb : n ≤ 1000) :
    Calls Tryz.prog 24 #[.slice A n c] w fun e w' => ∃ g, e = .returned (.slice (some ⟨g, 0, none⟩) n (n + 1)) ∧ TwinB w w' g n l ∧ Below w.heap.size w w' := by
  obtain ⟨i0, hi0, hz0, hz1, hz2⟩ := info_parts bnd_inf
  have HL := Lib.hid h.len
  go_enter Tryz.func24, Tryz.ntmps24
  go_wp2_with (at_make; refine wpList_make_own _ rfl _ _ 23 rfl w.heap.size 91 i0 (.agg #[.bool false, .int .u64 0, .bool false, .int .u64 0]) 4 Tryz.underlying23 hi0 hz0 hz1 .i64 .i64 _ (n + 1) rfl rfl (by omega) (by rw [hz2]; omega) (by unfold maxLen; omega) (Nat.le_refl _) ?_; intro w1 hown1 hg1; have hb1 : Below w.heap.size w w1 := (Below.refl _ _).grown hg1 (Nat.le_refl _) (by simp))
  have hsl : ∀ W, (Instr.slice 23 (.slice (some ⟨w.heap.size, 0, none⟩) (n + 1) (n + 1)) none (some (.int .i64 (n : Int))) none).run Tryz.prog W = .ok (.slice (some ⟨w.heap.size, 0, none⟩) n (n + 1)) W := by
    intro W
    rw [run_slice_h W 23 _ _ _ (by rw [show Tryz.prog.elem 23 = 91 by simp [Program.elem, Tryz.underlying23]]; exact Tryz.underlying23) .i64 _ (by omega) (by omega), show Tryz.prog.elem 23 = 91 by simp [Program.elem, Tryz.underlying23], bd_size4]
    simp [Result.andThen, sliced, Addr.add]
  go_loopw [3, 4] (fun v3 i4 wr => TwRelB l w w.heap.size n v3 i4 wr) (fun _ i4 _ => n - (intOf i4).toNat)
  case atStart => exact ⟨0, rfl, by omega, rfl, hown1, hb1⟩
  case round =>
    obtain ⟨k, rfl, hk, rfl, hown, hbr⟩ := hrel
    clear hown1 hb1 hg1
    by_cases hlt : k < n
    · have hk' : k < l.length := by rw [HL.out]; exact hlt
      obtain ⟨b, o, rfl, hbb, c0, c1, c2, c3⟩ := bd_at (h.below hbr) hk'
      have HS : Hid ((l.take k).flatMap bdc ++ bdc l[k] = (l.take (k + 1)).flatMap bdc) := Lib.hid (by rw [List.take_succ_eq_append_getElem hk', List.flatMap_append]; simp)
      generalize l[k] = x at *
      have hnews : ∀ j u, (bdc x)[j]? = some u → (wr.alloc (oBd x)).cell? ((⟨wr.heap.size, 0, none⟩ : Addr).add j) = some u := by
        intro j u hu
        rw [Addr.add_lit, Nat.zero_add, cell_blk (heap_alloc_new wr (oBd x))]
        rw [← hu, ← Array.getElem?_toList]
        rfl
      have HNEW := Lib.hid hnews
      have hone : ∀ u ∈ bdc x, u.oneCell' = true := fun u hu => bdc_one [x] u (by simpa using hu)
      have HONE := Lib.hid hone
      obtain ⟨xc, hxc⟩ : ∃ xc, xc = bdc x := ⟨_, rfl⟩
      have HXL : Hid (xc.length = 1 * 4) := Lib.hid (by rw [hxc]; rfl)
      rw [← hxc] at HNEW HONE HS
      obtain ⟨xa, xn, xb, xm⟩ := x
      unfold oBd at HNEW
      simp only at c0 c1 c2 c3 HNEW
      clear hnews hone hxc
      go_wp2_with (at_builtin; refine wpList_append_fits _ rfl (.tmp 15) (.tmp 20) 23 rfl w.heap.size 91 i0 4 Tryz.underlying23 hi0 hz1 w.heap.size k (n + 1) _ rfl (hown.alloc _) ⟨wr.heap.size, 0, none⟩ 1 1 xc rfl HXL.out HNEW.out HONE.out (by omega) ?_; intro w2 hown2 hg2)
      go_roundw
      case rel => exact ⟨k + 1, by go_num, by omega, rfl, by rw [← HS.out]; exact hown2, (hbr.alloc hbr.size _).grown hg2 (Nat.le_trans hbr.size (by simp)) (by intro j hj; injection hj with hj; omega)⟩
      case measure => simp [intOf]; omega
    · obtain rfl : k = n := by have := HL.out; omega
      have hnews : ∀ j u, (bdc bMark)[j]? = some u → (wr.alloc oMarkT).cell? ((⟨wr.heap.size, 0, none⟩ : Addr).add j) = some u := by
        intro j u hu
        rw [Addr.add_lit, Nat.zero_add, cell_blk (heap_alloc_new wr oMarkT)]
        rw [← hu, ← Array.getElem?_toList]
        rfl
      have HNEW := Lib.hid hnews
      have HONE : Hid (∀ u ∈ bdc bMark, u.oneCell' = true) := Lib.hid fun u hu => bdc_one [bMark] u (by simpa using hu)
      obtain ⟨xc, hxc⟩ : ∃ xc, xc = bdc bMark := ⟨_, rfl⟩
      have HXC := Lib.hid hxc
      have HXL : Hid (xc.length = 1 * 4) := Lib.hid (by rw [hxc]; rfl)
      rw [← hxc] at HNEW HONE
      clear hnews hxc
      go_wp2_with (at_builtin; refine wpList_append_fits _ rfl (.tmp 22) (.tmp 25) 23 rfl w.heap.size 91 i0 4 Tryz.underlying23 hi0 hz1 w.heap.size k (k + 1) _ rfl (hown.alloc _) ⟨wr.heap.size, 0, none⟩ 1 1 xc rfl HXL.out HNEW.out HONE.out (by omega) ?_; intro w2 hown2 hg2)
      go_ret
      have hl2 : (l.take k).flatMap bdc ++ xc = (l ++ [bMark]).flatMap bdc := by
        rw [List.take_of_length_le (by rw [HL.out]; exact Nat.le_refl _), List.flatMap_append, HXC.out]
        simp
      rw [hl2] at hown2
      obtain ⟨hblk, hold⟩ := own_allB hown2
      exact ⟨w.heap.size, rfl, ⟨HL.out, by omega, Nat.le_refl _, hblk⟩, (hbr.alloc hbr.size _).grown hg2 (Nat.le_trans hbr.size (by simp)) (by intro j hj; injection hj with hj; omega)⟩

/-- Nodes are read, and are the same. -/
def LfRelB (n : Nat) (w : World) (i5 : Value) (wr : World) : Prop := ∃ k q : Nat, i5 = .int .i64 (k : Int) ∧ k ≤ n ∧ wr = w.drewN q

set_option maxRecDepth 100000 in
set_option maxHeartbeats 2000000 in
theorem leftB_any (w0 : World) (B : Nat) (A : Option Addr) (g n c : Nat) (l : List Bd) (w : World) (ht : TwinB w0 w g n l) (h : Rs bdc 4 w B A n c l) :
    Calls Tryz.prog 43 #[.slice (some ⟨g, 0, none⟩) n (n + 1), .slice A n c] w fun e w' => e = .returned (.bool true) ∧ Below w.heap.size w w' := by
  have HL := Lib.hid h.len
  have htop := ht.top
  have HT := Lib.hid ht
  have HR := Lib.hid h
  have hsl : ∀ W, (Instr.slice 23 (.slice (some ⟨g, 0, none⟩) n (n + 1)) none (some (.int .i64 ((n : Int) + 1))) none).run Tryz.prog W = .ok (.slice (some ⟨g, 0, none⟩) (n + 1) (n + 1)) W := by
    intro W
    rw [run_slice_h W 23 _ _ _ (by rw [show Tryz.prog.elem 23 = 91 by simp [Program.elem, Tryz.underlying23]]; exact Tryz.underlying23) .i64 _ (by omega) (by omega), show Tryz.prog.elem 23 = 91 by simp [Program.elem, Tryz.underlying23], bd_size4]
    simp [Result.andThen, sliced, Addr.add]
  clear ht h
  go_enter Tryz.func43, Tryz.ntmps43
  have hn1 : ¬ n + 1 ≤ n := by omega
  have hn2 : ((n : Int) != (n : Int)) = false := by simp
  go_wp2
  go_loopw [5] (fun i5 wr => LfRelB n w i5 wr) (fun i5 _ => n - (intOf i5).toNat)
  case atStart => exact ⟨0, 0, rfl, by omega, rfl⟩
  case round =>
    obtain ⟨k, q, rfl, hk, rfl⟩ := hrel
    by_cases hlt : k < n
    · have hk' : k < l.length := by rw [HL.out]; exact hlt
      obtain ⟨b, o, rfl, -, c0, c1, c2, c3⟩ := bd_at HR.out hk'
      obtain ⟨b2, o2, heq, -, d0, d1, d2, d3⟩ := bd_at HT.out.rs hk'
      injection heq with heq
      injection heq with e1 e2
      subst e1
      subst e2
      rw [Nat.zero_add] at d0 d1 d2 d3
      generalize l[k] = x at *
      obtain ⟨xa, xn, xb, xm⟩ := x
      simp only at c0 c1 c2 c3 d0 d1 d2 d3
      clear hsl
      go_wp2
      go_quiet (fail)
      go_wp2
      go_roundw
      case rel => exact ⟨k + 1, _, by go_num, by omega, rfl⟩
      case measure => simp [intOf]; omega
    · obtain rfl : k = n := by omega
      have ht2 := HT.out.keep (La.below_drewN w q)
      have hbW : Below w.heap.size w (w.drewN q) := La.below_drewN w q
      generalize w.drewN q = W at *
      obtain ⟨b2, o2, heq, -, d0, d1, d2, d3⟩ := bd_at ht2.full (k := k) (by simp [HL.out])
      injection heq with heq
      injection heq with e1 e2
      subst e1
      subst e2
      have hmk : (l ++ [bMark])[k]'(by simp [HL.out]) = bMark := by
        rw [List.getElem_append_right (by rw [HL.out]; exact Nat.le_refl _)]
        simp
      rw [hmk] at d0 d1 d2 d3
      rw [Nat.zero_add] at d0 d1 d2 d3
      unfold bMark at d0 d1 d2 d3
      simp only at d0 d1 d2 d3
      clear hmk ht2
      have hb : ∀ o : Obj, Below w.heap.size w (W.alloc o) := fun o => hbW.alloc hbW.size o
      go_wp2_with fail
      go_ret
      exact ⟨rfl, hb _⟩
end Go.Proofs.YtmiconjmeaammaaGreatDoor.Bo
