/- What the document's Close answers: the least rows that lead on and have the pairs, or an error. No condition but sizes. -/
import Derived.Test.YtnoigcaapnjcgaaGreatDoorClose
import Derived.Test.YtnoigcaapnjcgaaGreatDoorBelow
import Derived.Test.YtnoigcaapnjcgaaGreatDoorPairOwn
import Derived.StillTailTactics
namespace Go.Proofs.YtnoigcaapnjcgaaGreatDoor
open Go.RowKit

/-- Rows at the head of a block that may have room. -/
structure RowsAt (g m cap : Nat) (L : List Nat) (w : World) : Prop where
  len : L.length = m
  fit : m ≤ cap
  top : cap ≤ maxLen
  blk : ∃ cur : Array Value, w.heap[g]? = some (.cells cur 53 (0, 0)) ∧ cur.size = cap ∧ ∀ j (h : j < L.length), cur[j]? = some (.int .u64 (L[j] : Int))

theorem RowsAt.cell {g m cap : Nat} {L : List Nat} {w : World} (h : RowsAt g m cap L w) (j : Nat) (hj : j < L.length) : w.cell? ⟨g, j, none⟩ = some (.int .u64 (L[j] : Int)) := by
  obtain ⟨cur, e1, _, e3⟩ := h.blk
  rw [cell_blk e1]
  exact e3 j hj
theorem RowsAt.frozen {g m cap : Nat} {L : List Nat} {w : World} (h : RowsAt g m cap L w) (j : Nat) : w.frozen? ⟨g, j, none⟩ = false := by
  obtain ⟨cur, e1, _⟩ := h.blk
  exact frozen_blk e1
theorem RowsAt.lt {g m cap : Nat} {L : List Nat} {w : World} (h : RowsAt g m cap L w) : g < w.heap.size := by
  obtain ⟨cur, e1, _⟩ := h.blk
  exact lt_blk e1
theorem RowsAt.heap {g m cap : Nat} {L : List Nat} {w w' : World} (h : RowsAt g m cap L w) (e : w'.heap = w.heap) : RowsAt g m cap L w' := ⟨h.len, h.fit, h.top, by rw [e]; exact h.blk⟩
theorem RowsAt.set {g m cap : Nat} {L : List Nat} {w : World} (h : RowsAt g m cap L w) (i v : Nat) (hi : i < L.length) : RowsAt g m cap (L.set i v) (w.setCell ⟨g, i, none⟩ (.int .u64 (v : Int))) := by
  obtain ⟨cur, e1, e2, e3⟩ := h.blk
  refine ⟨by rw [List.length_set]; exact h.len, h.fit, h.top, _, set_blk e1 _, by simpa using e2, fun j hj => ?_⟩
  have hl := h.len
  have hf := h.fit
  rw [List.length_set] at hj
  by_cases e : j = i
  · subst e
    rw [Array.getElem?_setIfInBounds_self_of_lt (by omega), List.getElem_set_self]
  · rw [Array.getElem?_setIfInBounds_ne (by omega), List.getElem_set_ne (by omega)]
    exact e3 j hj
theorem RowsAt.rd {g m cap : Nat} {L : List Nat} {w : World} (h : RowsAt g m cap L w) : Rd nm w w.heap.size (some ⟨g, 0, none⟩) m cap L :=
  ⟨h.len, h.fit, h.top, (fun h => by cases h), fun _ => ⟨g, 0, rfl, h.lt, fun j hj => by rw [Nat.zero_add]; exact h.cell j hj⟩⟩
theorem RowsAt.of_own {w : World} {base m cap : Nat} {A : Option Addr} {L : List Nat} (h : w.ownsRow base 53 1 (.slice A m cap) m (L.map nm)) (hm : 1 ≤ m) : ∃ g, A = some ⟨g, 0, none⟩ ∧ base ≤ g ∧ RowsAt g m cap L w := by
  have hl := own_len h
  rcases h.2 with ⟨_, e⟩ | ⟨g, cap', cur, hv, hb, hg, hnc, hcm, hcs, htake⟩
  · omega
  · injection hv with h1 h2 h3
    subst h3
    refine ⟨g, h1, hb, hl, hnc, hcm, cur, hg, by omega, fun j hj => ?_⟩
    have e1 : cur[j]? = (cur.toList.take (m * 1))[j]? := by
      rw [List.getElem?_take_of_lt (by omega)]
      simp
    rw [e1, htake, List.getElem?_map, List.getElem?_eq_getElem hj]
    rfl

def an2 (l : List Nat) (a j : Nat) : Bool := (List.range j).all fun b => !((a != b) && belowB l a b && belowB l b a)
def an1 (l : List Nat) (i : Nat) : Bool := (List.range i).all fun a => an2 l a l.length
theorem an2_succ (l : List Nat) (a j : Nat) : an2 l a (j + 1) = (an2 l a j && !((a != j) && belowB l a j && belowB l j a)) := by simp [an2, List.range_succ]
theorem an1_succ (l : List Nat) (i : Nat) : an1 l (i + 1) = (an1 l i && an2 l i l.length) := by simp [an1, List.range_succ]

theorem bt_both {n : Nat} {R : Nat → Nat → Bool} {l : List Nat} (hw : Way n R l) {i j : Nat} (h : bt l i j = true) : i < l.length ∧ j < l.length := by
  refine ⟨bt_lt h, ?_⟩
  rcases Nat.lt_or_ge j l.length with h' | h'
  · exact h'
  · rw [hw.small i j h'] at h
    cases h

theorem belowB_bt {l : List Nat} (hn : l.length ≤ 64) {a b : Nat} (ha : a < l.length) (hb : b < l.length) : belowB l a b = bt l a b := by
  rw [belowB, decide_eq_true ⟨by omega, by omega, ha, hb⟩, Bool.true_and]

theorem an1_iff {n : Nat} {R : Nat → Nat → Bool} {l : List Nat} (hw : Way n R l) (hn : l.length ≤ 64) : an1 l l.length = true ↔ Anti (bt l) := by
  simp only [an1, an2, List.all_eq_true, List.mem_range, Bool.not_eq_true', Bool.and_eq_false_iff, bne_eq_false_iff_eq]
  constructor
  · intro h i j h1 h2
    obtain ⟨hi, hj⟩ := bt_both hw h1
    rcases h i hi j hj with (e | e) | e
    · exact e
    · rw [belowB_bt hn hi hj, h1] at e; cases e
    · rw [belowB_bt hn hj hi, h2] at e; cases e
  · intro h i hi j hj
    rw [belowB_bt hn hi hj, belowB_bt hn hj hi]
    cases h1 : bt l i j with
    | false => exact .inl (.inr rfl)
    | true =>
      cases h2 : bt l j i with
      | false => exact .inr rfl
      | true => exact .inl (.inl (h i j h1 h2))

theorem an_no {n : Nat} {R : Nat → Nat → Bool} {l : List Nat} (hw : Way n R l) (hn : l.length ≤ 64) {i j : Nat} (hi : i < l.length) (hj : j < l.length) (h : (!((i != j) && belowB l i j && belowB l j i)) = false) : ¬ Anti (bt l) := by
  intro ha
  have h1 : an2 l i l.length = false := all_false hj h
  have h2 : an1 l l.length = false := all_false hi h1
  rw [(an1_iff hw hn).2 ha] at h2
  cases h2

theorem idN_succ (k : Nat) : (idN k).map nm ++ [.int .u64 ((2 ^ k : Nat) : Int)] = (idN (k + 1)).map nm := by
  simp [idN, List.range_succ, nm]

def CloseR (N : Int) (ps : List (Int × Int)) (w : World) (e : Ending) (w' : World) : Prop :=
  ∃ (rows : List Nat) (x : Int) (A : Option Addr) (n c : Nat), e = .returned (.tuple #[.slice A n c, .int .i64 x]) ∧ CloseIs N ps rows x ∧ Below w.heap.size w w' ∧ Rd nm w' w'.heap.size A n c rows

def Q1 (m : Nat) (w : World) (v6 v7 : Value) (wr : World) : Prop :=
  ∃ (k : Nat) (A : Option Addr) (n c : Nat), v7 = .int .i64 (k : Int) ∧ k ≤ m ∧ v6 = .slice A n c ∧ wr.ownsRow w.heap.size 53 1 (.slice A n c) n ((idN k).map nm) ∧ Below w.heap.size w wr
def Q2 (m cap g : Nat) (ps : List (Int × Int)) (w : World) (v8 : Value) (wr : World) : Prop :=
  ∃ k : Nat, v8 = .int .i64 (k : Int) ∧ k ≤ ps.length ∧ Within m (ps.take k) ∧ RowsAt g m cap ((ps.take k).foldl put1 (idN m)) wr ∧ Below w.heap.size w wr
def Q3 (m cap g : Nat) (R : Nat → Nat → Bool) (w : World) (v11 : Value) (wr : World) : Prop :=
  ∃ (k : Nat) (L : List Nat), v11 = .int .i64 (k : Int) ∧ k ≤ m ∧ Way m R L ∧ OnTo L k ∧ RowsAt g m cap L wr ∧ Below w.heap.size w wr
def Q4 (m cap g k : Nat) (L : List Nat) (w : World) (v12 : Value) (wr : World) : Prop :=
  ∃ i : Nat, v12 = .int .i64 (i : Int) ∧ i ≤ m ∧ RowsAt g m cap (stepW L k i) wr ∧ Below w.heap.size w wr
def Q5 (S : List Nat) (w : World) (v13 : Value) (wr : World) : Prop := ∃ i : Nat, v13 = .int .u64 (i : Int) ∧ i ≤ S.length ∧ an1 S i = true ∧ wr = w
def Q6 (S : List Nat) (i : Nat) (w : World) (v14 : Value) (wr : World) : Prop := ∃ j : Nat, v14 = .int .u64 (j : Int) ∧ j ≤ S.length ∧ an2 S i j = true ∧ wr = w

theorem within_next {m : Nat} {ps : List (Int × Int)} {k : Nat} (h : Within m (ps.take k)) (hk : k < ps.length) (h1 : (0 ≤ ps[k].1 ∧ ps[k].1 < m) ∧ (0 ≤ ps[k].2 ∧ ps[k].2 < m)) : Within m (ps.take (k + 1)) := by
  rw [List.take_succ_eq_append_getElem hk]
  intro p hp
  rcases List.mem_append.1 hp with hp | hp
  · exact h p hp
  · obtain rfl : p = _ := by simpa using hp
    exact h1

set_option maxRecDepth 100000 in
set_option maxHeartbeats 2000000 in
theorem refClose_any (N : Int) (A : Option Addr) (n c : Nat) (ps : List (Int × Int)) (w : World) (h : Rp w w.heap.size A n c ps) :
    Calls Tryz.prog 6 #[.int .i64 N, .slice A n c] w (CloseR N ps w) := by
  have HL := Lib.hid h.len
  have hcap := h.cap
  have htop := h.top
  unfold maxLen at htop
  obtain ⟨i0, hi0, hz0, hz1, hz2⟩ := info_parts nm_inf
  have HE1 : Hid (¬ ((1 ≤ N ∧ N ≤ 64) ∧ Within N.toNat ps) → CloseIs N ps [] 1) := Lib.hid fun hh => .inl ⟨hh, rfl, rfl⟩
  go_enter Tryz.func6, Tryz.ntmps6
  by_cases h1 : N < 1
  · have d1 : decide (N < 1) = true := by simpa using h1
    go_wp2
    go_ret2
    exact ⟨[], 1, none, 0, 0, rfl, HE1.out (fun hh => by omega), Below.refl _ _, Rd.nil _ _⟩
  have d1 : decide (N < 1) = false := by simpa using h1
  by_cases h2 : 64 < N
  · have d2 : decide (64 < N) = true := by simpa using h2
    go_wp2
    go_ret2
    exact ⟨[], 1, none, 0, 0, rfl, HE1.out (fun hh => by omega), Below.refl _ _, Rd.nil _ _⟩
  have d2 : decide (64 < N) = false := by simp; omega
  obtain ⟨m, rfl⟩ : ∃ m : Nat, N = m := ⟨N.toNat, by omega⟩
  have HE1 : Hid (¬ Within m ps → CloseIs (m : Int) ps [] 1) := Lib.hid fun hh => HE1.out fun h => hh (by have := h.2; rwa [Int.toNat_natCast] at this)
  go_wp2
  go_loopw [6, 7] (fun v6 v7 wr => Q1 m w v6 v7 wr) (fun _ v7 _ => m - (intOf v7).toNat)
  case atStart => exact ⟨0, none, 0, 0, rfl, by omega, rfl, World.ownsRow_nil _ _ _ _, Below.refl _ _⟩
  case round =>
    obtain ⟨k, A1, n1, c1, rfl, hk, rfl, hown, hb⟩ := hrel
    have hn1 := own_len hown
    have hlen : (idN k).length = k := by simp [idN]
    obtain rfl : n1 = k := by omega
    clear hn1 hlen
    by_cases hlt : n1 < m
    · have hp := two_pow (k := n1) (by omega)
      have HS := Lib.hid (idN_succ n1)
      generalize 2 ^ n1 = p at *
      go_wp2_with (at_builtin; refine wpList_append_own _ rfl (.tmp 26) (.tmp 30) 24 rfl w.heap.size 53 i0 _ 1 8 Tryz.underlying24 hi0 hz0 hz1 hz2 rfl (by decide) (.slice A1 n1 c1) n1 _ rfl (hown.alloc _) ⟨wr.heap.size, 0, none⟩ 1 1 [.int .u64 (p : Int)] rfl rfl (one_src _ _ _) (one_one rfl) (by unfold maxLen; omega) (by omega) (by have := hb.size; simp; omega) ?_; intro v2 w2 own2 hg2 _)
      obtain ⟨A2, c2, rfl⟩ : ∃ A c, v2 = .slice A (n1 + 1) c := by
        rcases own2.2 with ⟨_, e⟩ | ⟨g, cap, cur, rfl, _⟩
        · omega
        · exact ⟨_, _, rfl⟩
      go_roundw
      case rel => exact ⟨n1 + 1, A2, n1 + 1, c2, by go_num, by omega, rfl, by rw [← HS.out]; exact own2, (hb.alloc hb.size _).grown hg2 (Nat.le_trans hb.size (by simp)) (fun j hj => (hown.lt j hj).1)⟩
      case measure => simp [intOf]; omega
    · obtain rfl : n1 = m := by omega
      obtain ⟨g, rfl, hg, hR⟩ := RowsAt.of_own hown (by omega)
      have HRR := Lib.hid hR
      clear hown hR
      go_wp2
      go_loopw [8] (fun v8 wr => Q2 n1 c1 g ps w v8 wr) (fun v8 _ => n - (intOf v8).toNat)
      case atStart => exact ⟨0, rfl, by omega, (fun p hp => by simp at hp), HRR.out, hb⟩
      case round =>
        clear hb HRR
        obtain ⟨k, rfl, hk, hwi, hR, hb⟩ := hrel
        have HWI := Lib.hid hwi
        clear hwi
        by_cases hlt2 : k < n
        · obtain ⟨b, o, rfl, hbb, hc⟩ := (h.below hb).spot (by omega)
          have hk' : k < ps.length := by rw [HL.out]; exact hlt2
          obtain ⟨hc1, hc2⟩ := hc k hk'
          have HF := Lib.hid (fold_snoc n1 ps k hk')
          have HNX := Lib.hid (within_next HWI.out hk')
          have HBAD : Hid (¬ ((0 ≤ ps[k].1 ∧ ps[k].1 < n1) ∧ (0 ≤ ps[k].2 ∧ ps[k].2 < n1)) → CloseIs (n1 : Int) ps [] 1) := Lib.hid fun hh => HE1.out fun hw => hh (hw _ (List.getElem_mem hk'))
          have hlen := (fold_bt n1 (ps.take k) (idN n1) (by simp [idN]) HWI.out).1
          have hft := fold_lt n1 (ps.take k) (idN n1) (by simp [idN]) (idN_lt n1) HWI.out
          clear hc
          generalize ps[k] = q at *
          generalize (ps.take k).foldl put1 (idN n1) = L at *
          obtain ⟨x, y⟩ := q
          have hc1 : wr.cell? ⟨b, o + k * 2, none⟩ = some (.int .i64 x) := hc1
          have hc2 : wr.cell? ⟨b, o + k * 2 + 1, none⟩ = some (.int .i64 y) := hc2
          have HBAD : Hid (¬ ((0 ≤ x ∧ x < n1) ∧ (0 ≤ y ∧ y < n1)) → CloseIs (n1 : Int) ps [] 1) := HBAD
          have HNX : Hid ((0 ≤ x ∧ x < n1) ∧ (0 ≤ y ∧ y < n1) → Within n1 (ps.take (k + 1))) := HNX
          by_cases hx0 : x < 0
          · have d3 : decide (x < 0) = true := by simpa using hx0
            go_wp2
            go_ret2
            exact ⟨[], 1, none, 0, 0, rfl, HBAD.out (fun hh => by omega), hb, Rd.nil _ _⟩
          have d3 : decide (x < 0) = false := by simpa using hx0
          by_cases hxN : (n1 : Int) ≤ x
          · have d4 : decide ((n1 : Int) ≤ x) = true := by simpa using hxN
            go_wp2
            go_ret2
            exact ⟨[], 1, none, 0, 0, rfl, HBAD.out (fun hh => by omega), hb, Rd.nil _ _⟩
          have d4 : decide ((n1 : Int) ≤ x) = false := by simp; omega
          by_cases hy0 : y < 0
          · have d5 : decide (y < 0) = true := by simpa using hy0
            go_wp2
            go_ret2
            exact ⟨[], 1, none, 0, 0, rfl, HBAD.out (fun hh => by omega), hb, Rd.nil _ _⟩
          have d5 : decide (y < 0) = false := by simpa using hy0
          by_cases hyN : (n1 : Int) ≤ y
          · have d6 : decide ((n1 : Int) ≤ y) = true := by simpa using hyN
            go_wp2
            go_ret2
            exact ⟨[], 1, none, 0, 0, rfl, HBAD.out (fun hh => by omega), hb, Rd.nil _ _⟩
          have d6 : decide ((n1 : Int) ≤ y) = false := by simp; omega
          have HW2 := Lib.hid (HNX.out ⟨⟨by omega, by omega⟩, by omega, by omega⟩)
          obtain ⟨x, rfl⟩ : ∃ x' : Nat, x = x' := ⟨x.toNat, by omega⟩
          obtain ⟨y, rfl⟩ : ∃ y' : Nat, y = y' := ⟨y.toNat, by omega⟩
          have hxl : x < L.length := by omega
          have hy64 : y < 64 := by omega
          have HP : Hid (put1 L ((x : Int), (y : Int)) = L.set x (L[x] ||| 2 ^ y)) := Lib.hid (by
            rw [put1]
            simp only [Int.toNat_natCast]
            rw [getD_at hxl])
          have hcell := hR.cell x hxl
          have hfz := hR.frozen x
          have hLx : L[x] < 18446744073709551616 := Nat.lt_of_lt_of_le (hft _ (List.getElem_mem hxl)) (show 2 ^ n1 ≤ 2 ^ 64 from Nat.pow_le_pow_right (by decide) (by omega))
          have hor := u64_or_nat L[x] (2 ^ y) hLx (Nat.pow_lt_pow_right (n := 64) (by decide) (by omega))
          have hp := two_pow (k := y) (by omega)
          have HSET := Lib.hid (hR.set x (L[x] ||| 2 ^ y) hxl)
          clear hR hft HNX HBAD
          generalize 2 ^ y = p at *
          generalize L[x] = z at *
          go_wp2
          go_roundw
          case rel => exact ⟨k + 1, by go_num, by have := HL.out; omega, HW2.out, by rw [HF.out, HP.out]; exact HSET.out, hb.setCell (p := ⟨g, x, none⟩) hg _⟩
          case measure => simp [intOf]; omega
        · obtain rfl : k = n := by have := HL.out; omega
          have hW : Within n1 ps := by have := HWI.out; rwa [← HL.out, List.take_length] at this
          have HW := Lib.hid hW
          have hR2 : RowsAt g n1 c1 (startN n1 ps) wr := by
            have := hR
            rw [← HL.out, List.take_length] at this
            exact this
          have HST := Lib.hid (start_way hW)
          have HR2 := Lib.hid hR2
          clear hR hR2 hW HWI
          go_wp2
          go_loopw [11] (fun v11 wr => Q3 n1 c1 g (bt (startN n1 ps)) w v11 wr) (fun v11 _ => n1 - (intOf v11).toNat)
          case atStart => exact ⟨0, _, rfl, by omega, HST.out, fun m hm => absurd hm (by omega), HR2.out, hb⟩
          case round =>
            clear hb HR2
            obtain ⟨kk, L, rfl, hkk, hway, hon, hR, hb⟩ := hrel
            have HON := Lib.hid hon
            clear hon
            have HWAY := Lib.hid hway
            have hLl := hway.len
            have HLL := Lib.hid hLl
            clear hLl
            by_cases hlt3 : kk < n1
            · have HRR := Lib.hid hR
              clear hR
              go_wp2
              go_loopw [12] (fun v12 wr => Q4 n1 c1 g kk L w v12 wr) (fun v12 _ => n1 - (intOf v12).toNat)
              case atStart => exact ⟨0, rfl, by omega, by rw [stepW_zero]; exact HRR.out, hb⟩
              case round =>
                clear hb HRR
                obtain ⟨i, rfl, hi, hR, hb⟩ := hrel
                by_cases hlt4 : i < n1
                · have HNX := Lib.hid (stepW_next L kk i (by rw [HLL.out]; exact hlt4))
                  have hfitS : Fit (stepW L kk i) := by
                    intro z hz
                    obtain ⟨y, hy, rfl⟩ := List.mem_map.1 hz
                    have hy := List.mem_range.1 hy
                    have hlt := HWAY.out.lt
                    have h64 : 2 ^ n1 ≤ 2 ^ 64 := Nat.pow_le_pow_right (by decide) (by omega)
                    have g1 : L.getD y 0 < 2 ^ n1 := hlt _ (getD_mem hy)
                    have g2 : L.getD kk 0 < 2 ^ n1 := hlt _ (getD_mem (by rw [HLL.out]; exact hlt3))
                    show _ < 2 ^ 64
                    split
                    · exact Nat.lt_of_lt_of_le (Nat.or_lt_two_pow g1 g2) h64
                    · omega
                  have hSl := stepW_len L kk i
                  rw [HLL.out] at hSl
                  have HSL := Lib.hid hSl
                  clear hSl
                  generalize stepW L kk i = S at *
                  have hil : i < S.length := by rw [HSL.out]; exact hlt4
                  have hkl : kk < S.length := by rw [HSL.out]; exact hlt3
                  have HGI := Lib.hid (getD_at hil)
                  have HGK := Lib.hid (getD_at hkl)
                  have hci := hR.cell i hil
                  have hck := hR.cell kk hkl
                  have hfz := hR.frozen i
                  have hx := hfitS.get i hil
                  have hy := hfitS.get kk hkl
                  have hsh := shr_one (k := kk) hx
                  rw [Nat.min_eq_left (by omega)] at hsh
                  have hor := u64_or_nat S[i] S[kk] hx hy
                  have HSET := Lib.hid (hR.set i (S[i] ||| S[kk]) hil)
                  have HR := Lib.hid hR
                  clear hR hfitS
                  generalize S[i] = x at *
                  generalize S[kk] = y at *
                  cases hbit : x.testBit kk with
                  | false =>
                    rw [hbit] at hsh
                    have hsh : bits .and .u64 ((x : Int) / 2 ^ kk) 1 = 0 := hsh
                    have HBIT := Lib.hid hbit
                    clear hbit
                    go_wp2
                    go_roundw
                    case rel => exact ⟨i + 1, by go_num, by omega, by rw [HNX.out, HGI.out, HBIT.out]; exact HR.out, hb⟩
                    case measure => simp [intOf]; omega
                  | true =>
                    rw [hbit] at hsh
                    have hsh : bits .and .u64 ((x : Int) / 2 ^ kk) 1 = 1 := hsh
                    have HBIT := Lib.hid hbit
                    clear hbit
                    go_wp2
                    go_still_tail 11, (by kernel_rfl)
                    change wpList _ _ _ _ _ wr.drew
                    have gi : wr.drew.cell? ⟨g, i, none⟩ = some (.int .u64 (x : Int)) := hci
                    have gf : wr.drew.frozen? ⟨g, i, none⟩ = false := hfz
                    have hb3 : Below w.heap.size w wr.drew := hb.trans (below_drew _)
                    have HSET2 : Hid (RowsAt g n1 c1 (S.set i (x ||| y)) (wr.drew.setCell ⟨g, i, none⟩ (.int .u64 ((x ||| y : Nat) : Int)))) := Lib.hid (HSET.out.heap rfl)
                    clear hci hck hfz hb HR HSET
                    generalize wr.drew = w3 at *
                    go_wp2
                    go_roundw
                    case rel => exact ⟨i + 1, by go_num, by omega, by rw [HNX.out, HGI.out, HGK.out, HBIT.out]; exact HSET2.out, hb3.setCell (p := ⟨g, i, none⟩) hg _⟩
                    case measure => simp [intOf]; omega
                · obtain rfl : i = n1 := by omega
                  have HRR := Lib.hid hR
                  have HW2 := Lib.hid (HWAY.out.step kk)
                  have HO2 := Lib.hid (onTo_step HON.out)
                  clear hR
                  go_wp2
                  go_roundw
                  case rel => exact ⟨kk + 1, stepW L kk i, by go_num, by omega, HW2.out, by have := HO2.out; rwa [HLL.out] at this, HRR.out, hb⟩
                  case measure => simp [intOf]; omega
            · obtain rfl : kk = n1 := by omega
              have HCL := Lib.hid (HWAY.out.wdone HON.out)
              have hfit := HWAY.out.fit (by omega)
              have hl64 : L.length ≤ 64 := by rw [HLL.out]; omega
              have HAN := Lib.hid (an1_iff HWAY.out hl64)
              have hrd := hR.rd
              have HRD := Lib.hid hrd
              have HCALL : Hid (∀ (a b : Nat), a < 64 → b < 64 → Calls Tryz.prog 16 #[.slice (some ⟨g, 0, none⟩) kk c1, .int .u64 (a : Int), .int .u64 (b : Int)] wr fun e w' => e = .returned (.bool (belowB L a b)) ∧ wr = w') := Lib.hid fun a b ha hb => refBelow_any _ kk c1 _ L a b wr hrd hfit (by omega) (by omega)
              clear hR hrd
              obtain ⟨wo, rfl⟩ : ∃ wo : World, wo = wr := ⟨_, rfl⟩
              go_wp2
              go_loopw [13] (fun v13 wr => Q5 L wo v13 wr) (fun v13 _ => kk - (intOf v13).toNat)
              case atStart => exact ⟨0, rfl, by omega, rfl, rfl⟩
              case round =>
                obtain ⟨i, rfl, hi, ha1, rfl⟩ := hrel
                have HA1 := Lib.hid ha1
                clear ha1
                have hil' := HLL.out
                by_cases hlt4 : i < kk
                · have hil : i < L.length := by omega
                  have HA1S := Lib.hid (an1_succ L i)
                  clear hil'
                  obtain ⟨wo, rfl⟩ : ∃ wo : World, wo = wr := ⟨_, rfl⟩
                  go_wp2
                  go_loopw [14] (fun v14 wr => Q6 L i wo v14 wr) (fun v14 _ => kk - (intOf v14).toNat)
                  case atStart => exact ⟨0, rfl, by omega, rfl, rfl⟩
                  case round =>
                    obtain ⟨j, rfl, hj, ha2, rfl⟩ := hrel
                    have HA2 := Lib.hid ha2
                    clear ha2
                    by_cases hlt5 : j < kk
                    · have hjl : j < L.length := by rw [HLL.out]; exact hlt5
                      have HA2S := Lib.hid (an2_succ L i j)
                      have HNO := Lib.hid (an_no HWAY.out hl64 hil hjl)
                      have hc1 := HCALL.out i j (by omega) (by omega)
                      have hc2 := HCALL.out j i (by omega) (by omega)
                      generalize belowB L i j = r1 at *
                      generalize belowB L j i = r2 at *
                      by_cases e : i = j
                      · have d4 : ((i : Int) != (j : Int)) = false := by simp [e]
                        have HEQ : Hid ((i != j) = false) := Lib.hid (by simp [e])
                        clear e
                        go_wp2
                        go_roundw
                        case rel => exact ⟨j + 1, by go_num, by omega, by rw [HA2S.out, HA2.out, HEQ.out]; rfl, rfl⟩
                        case measure => simp [intOf]; omega
                      · have d4 : ((i : Int) != (j : Int)) = true := by simp; omega
                        have HEQ : Hid ((i != j) = true) := Lib.hid (by simpa using e)
                        cases r1 with
                        | false =>
                          go_wp2_with (go_at_call 16; (with_reducible refine hc1.mono ?_); rintro e w' ⟨rfl, rfl⟩)
                          go_roundw
                          case rel => exact ⟨j + 1, by go_num, by omega, by rw [HA2S.out, HA2.out, HEQ.out]; rfl, rfl⟩
                          case measure => simp [intOf]; omega
                        | true =>
                          cases r2 with
                          | false =>
                            go_wp2_with (go_at_call 16; (first | (with_reducible refine hc1.mono ?_) | (with_reducible refine hc2.mono ?_)); rintro e w' ⟨rfl, rfl⟩)
                            go_roundw
                            case rel => exact ⟨j + 1, by go_num, by omega, by rw [HA2S.out, HA2.out, HEQ.out]; rfl, rfl⟩
                            case measure => simp [intOf]; omega
                          | true =>
                            have HBADC : Hid (CloseIs (kk : Int) ps [] 9) := Lib.hid (.inr ⟨by omega, by rw [Int.toNat_natCast]; exact HW.out, L, by rw [Int.toNat_natCast]; exact HWAY.out, by rw [Int.toNat_natCast]; exact HCL.out, .inr ⟨HNO.out (by rw [HEQ.out]; rfl), rfl, rfl⟩⟩)
                            go_wp2_with (go_at_call 16; (first | (with_reducible refine hc1.mono ?_) | (with_reducible refine hc2.mono ?_)); rintro e w' ⟨rfl, rfl⟩)
                            go_ret2
                            exact ⟨[], 9, none, 0, 0, rfl, HBADC.out, hb, Rd.nil _ _⟩
                    · obtain rfl : j = kk := by have := HLL.out; omega
                      go_wp2
                      go_roundw
                      case rel => exact ⟨i + 1, by go_num, by omega, by rw [HA1S.out, HA1.out, HLL.out, HA2.out]; rfl, rfl⟩
                      case measure => simp [intOf]; omega
                · obtain rfl : i = kk := by omega
                  have HOK : Hid (CloseIs (i : Int) ps L 0) := Lib.hid (.inr ⟨by omega, by rw [Int.toNat_natCast]; exact HW.out, L, by rw [Int.toNat_natCast]; exact HWAY.out, by rw [Int.toNat_natCast]; exact HCL.out, .inl ⟨HAN.out.1 (by rw [HLL.out]; exact HA1.out), rfl, rfl⟩⟩)
                  go_wp2
                  go_ret2
                  exact ⟨L, 0, _, i, c1, rfl, HOK.out, hb, HRD.out⟩
end Go.Proofs.YtnoigcaapnjcgaaGreatDoor
