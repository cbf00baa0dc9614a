/- What Close answers: the least rows that lead on and have the pairs, or an error; in memory of its own. No condition but sizes. -/
import Derived.Test.YtnoigcaapnjcgaaGreatDoorLead
import Derived.Test.YtnoigcaapnjcgaaGreatDoorPairs
namespace Go.Proofs.YtnoigcaapnjcgaaGreatDoor
open Go.RowKit

/-- What came of Close, and where it lies. -/
def CloseE (N : Int) (ps : List (Int × Int)) (w : World) (e : Ending) (w' : World) : Prop :=
  ∃ (rows : List Nat) (x : Int) (A : Option Addr) (n c : Nat), e = .returned (.tuple #[.slice A n c, .int .i64 x]) ∧ CloseIs N ps rows x ∧ Below w.heap.size w w' ∧
    ((A = none ∧ n = 0 ∧ c = 0 ∧ rows = []) ∨ (∃ g, w.heap.size ≤ g ∧ A = some ⟨g, 0, none⟩ ∧ n = c ∧ n ≤ 64 ∧ rows.length = n ∧ Fit rows ∧ w'.heap[g]? = some (.cells (cl rows) 53 (0, 0))))

def idK (m k : Nat) : List Nat := (List.range m).map fun i => if i < k then 2 ^ i else 0
theorem idK_zero (m : Nat) : idK m 0 = List.replicate m 0 := by
  apply List.ext_getElem (by simp [idK])
  intro x h1 h2
  simp [idK]
theorem idK_all (m : Nat) : idK m m = idN m := by
  apply List.ext_getElem (by simp [idK, idN])
  intro x h1 h2
  have : x < m := by simpa [idK] using h1
  simp [idK, idN, this]
theorem idK_len (m k : Nat) : (idK m k).length = m := by simp [idK]
theorem idK_set (m k : Nat) : (idK m k).set k (2 ^ k) = idK m (k + 1) := by
  apply List.ext_getElem (by simp [idK])
  intro x h1 h2
  by_cases e : x = k
  · subst e
    rw [List.getElem_set_self]
    simp [idK]
  · have : (x < k + 1) = (x < k) := propext ⟨fun h => by omega, fun h => by omega⟩
    rw [List.getElem_set_ne (by omega)]
    simp [idK, this]

def ClRel1 (m : Nat) (w : World) (g : Nat) (v22 : Value) (wr : World) : Prop :=
  ∃ k : Nat, v22 = .int .i64 (k : Int) ∧ k ≤ m ∧ wr.heap[g]? = some (.cells (cl (idK m k)) 53 (0, 0)) ∧ Below w.heap.size w wr
def ClRel2 (m : Nat) (ps : List (Int × Int)) (w : World) (g : Nat) (v33 : Value) (wr : World) : Prop :=
  ∃ k : Nat, v33 = .int .i64 (k : Int) ∧ k ≤ ps.length ∧ wr.heap[g]? = some (.cells (cl ((ps.take k).foldl put1 (idN m))) 53 (0, 0)) ∧ Below w.heap.size w wr

theorem fold_snoc (m : Nat) (ps : List (Int × Int)) (k : Nat) (h : k < ps.length) : (ps.take (k + 1)).foldl put1 (idN m) = put1 ((ps.take k).foldl put1 (idN m)) ps[k] := by
  rw [List.take_succ_eq_append_getElem h, List.foldl_append]
  rfl

theorem within_take {n : Nat} {ps : List (Int × Int)} (h : Within n ps) (k : Nat) : Within n (ps.take k) := fun p hp => h p (List.mem_of_mem_take hp)

theorem Kept.lift {g : Nat} {w w1 w2 : World} (h : Below w.heap.size w w1) (k : Kept (fun b => b = g) w1 w2) (hg : w.heap.size ≤ g) : Below w.heap.size w w2 :=
  h.trans (k.below h.size fun b hb => by rw [hb]; exact hg)

set_option maxRecDepth 100000 in
set_option maxHeartbeats 1000000 in
theorem close_any (N : Int) (A : Option Addr) (n c : Nat) (ps : List (Int × Int)) (w : World) (h : Rp w w.heap.size A n c ps) :
    Calls Tryz.prog 5 #[.int .i64 N, .slice A n c] w (CloseE N ps w) := by
  have HL := Lib.hid h.len
  have hcap := h.cap
  have htop := h.top
  unfold maxLen at htop
  have hlab := labels_any N w
  by_cases hN : 1 ≤ N ∧ N ≤ 64
  case neg =>
    rw [decide_eq_false hN] at hlab
    have HE : Hid (CloseIs N ps [] 1) := Lib.hid (.inl ⟨fun hh => hN hh.1, rfl, rfl⟩)
    go_enter Tryz.func5, Tryz.ntmps5
    go_wp2_with (go_at_call 12; refine hlab.mono ?_; rintro e w' ⟨rfl, rfl⟩)
    go_ret2
    exact ⟨[], 1, none, 0, 0, rfl, HE.out, Below.refl _ _, .inl ⟨rfl, rfl, rfl, rfl⟩⟩
  rw [decide_eq_true hN] at hlab
  obtain ⟨m, rfl⟩ : ∃ m : Nat, N = m := ⟨N.toNat, by omega⟩
  have hm : 1 ≤ m ∧ m ≤ 64 := by omega
  have hwi := within_any (m : Int) A n c ps w h
  cases hw : ps.all (inB (m : Int)) with
  | false =>
    have HE : Hid (CloseIs m ps [] 1) := Lib.hid (.inl ⟨(fun hh => by
      have := (within_iff (n := (m : Int)) (m := m) rfl).2 (by have := hh.2; rwa [Int.toNat_natCast] at this)
      rw [hw] at this
      cases this), rfl, rfl⟩)
    rw [hw] at hwi
    clear hw
    go_enter Tryz.func5, Tryz.ntmps5
    go_wp2_with (first | (go_at_call 12; refine hlab.mono ?_; rintro e w' ⟨rfl, rfl⟩) | (go_at_call 13; refine hwi.mono ?_; rintro e w1 ⟨rfl, b1⟩))
    go_ret2
    exact ⟨[], 1, none, 0, 0, rfl, HE.out, b1, .inl ⟨rfl, rfl, rfl, rfl⟩⟩
  | true =>
    have hW : Within m ps := (within_iff rfl).1 hw
    rw [hw] at hwi
    clear hw
    have HW := Lib.hid hW
    clear hW
    have hmk := make_nm m (by omega)
    go_enter Tryz.func5, Tryz.ntmps5
    go_wp2_with (first | (go_at_call 12; refine hlab.mono ?_; rintro e w' ⟨rfl, rfl⟩) | (go_at_call 13; refine hwi.mono ?_; rintro e w1 ⟨rfl, b1⟩))
    go_loopw [22] (fun v22 wr => ClRel1 m w w1.heap.size v22 wr) (fun v22 _ => m - (intOf v22).toNat)
    case atStart => exact ⟨0, rfl, by omega, by rw [idK_zero]; exact heap_alloc_new _ _, b1.alloc b1.size _⟩
    case round =>
      obtain ⟨k, rfl, hk, hblk, hb⟩ := hrel
      have hg1 := b1.size
      clear hmk
      by_cases hlt : k < m
      · have hfz : wr.frozen? ⟨w1.heap.size, k, none⟩ = false := frozen_blk hblk
        have hkl : k < (idK m k).length := by rw [idK_len]; exact hlt
        have hce := (cell_blk (i := k) hblk).trans (cl_at hkl)
        have hp := two_pow (k := k) (by omega)
        have HB := Lib.hid hblk
        have HS := Lib.hid (idK_set m k)
        clear hblk
        generalize hpp : 2 ^ k = p at *
        generalize (idK m k)[k] = z at *
        clear hpp
        go_wp2
        go_roundw
        case rel => exact ⟨k + 1, by go_num, by omega, by rw [set_blk HB.out, cl_set, HS.out], hb.setCell (p := ⟨w1.heap.size, k, none⟩) hg1 _⟩
        case measure => simp [intOf]; omega
      · obtain rfl : k = m := by omega
        rw [idK_all] at hblk
        have HB := Lib.hid hblk
        clear hblk hlab hwi
        go_wp2
        go_loopw [33] (fun v33 wr => ClRel2 k ps w w1.heap.size v33 wr) (fun v33 _ => n - (intOf v33).toNat)
        case atStart => exact ⟨0, rfl, by omega, HB.out, hb⟩
        case round =>
          clear hb HB
          obtain ⟨j, rfl, hj, hblk, hb⟩ := hrel
          by_cases hlt2 : j < n
          · obtain ⟨b, o, rfl, hbb, hc⟩ := (h.below hb).spot (by omega)
            have hj' : j < ps.length := by rw [HL.out]; exact hlt2
            obtain ⟨hc1, hc2⟩ := hc j hj'
            have HF := Lib.hid (fold_snoc k ps j hj')
            have hin := HW.out ps[j] (List.getElem_mem hj')
            have hfo := fold_bt k (ps.take j) (idN k) (by simp [idN]) (within_take HW.out j)
            have hft := fold_lt k (ps.take j) (idN k) (by simp [idN]) (idN_lt k) (within_take HW.out j)
            have hlen := hfo.1
            clear hc hfo
            generalize hq : ps[j] = q at *
            clear hq
            generalize (ps.take j).foldl put1 (idN k) = L at *
            obtain ⟨x, y⟩ := q
            obtain ⟨⟨hx0, hx1⟩, hy0, hy1⟩ := hin
            have hx0 : (0 : Int) ≤ x := hx0
            have hx1 : x < (k : Int) := hx1
            have hy0 : (0 : Int) ≤ y := hy0
            have hy1 : y < (k : Int) := hy1
            obtain ⟨x, rfl⟩ : ∃ x' : Nat, x = x' := ⟨x.toNat, by omega⟩
            obtain ⟨y, rfl⟩ : ∃ y' : Nat, y = y' := ⟨y.toNat, by omega⟩
            have hxk : x < k := by omega
            have hyk : y < k := by omega
            have hc1 : wr.cell? ⟨b, o + j * 2, none⟩ = some (.int .i64 (x : Int)) := hc1
            have hc2 : wr.cell? ⟨b, o + j * 2 + 1, none⟩ = some (.int .i64 (y : Int)) := hc2
            have hxl : x < L.length := by omega
            have HP : Hid (put1 L ((x : Int), (y : Int)) = L.set x (L[x] ||| 2 ^ y)) := Lib.hid (by
              rw [put1]
              simp only [Int.toNat_natCast]
              rw [getD_at hxl])
            have hcell := (cell_blk (i := x) hblk).trans (cl_at hxl)
            have hfz : wr.frozen? ⟨w1.heap.size, x, none⟩ = false := frozen_blk hblk
            have hLx : L[x] < 18446744073709551616 := Nat.lt_of_lt_of_le (hft _ (List.getElem_mem hxl)) (show 2 ^ k ≤ 2 ^ 64 from Nat.pow_le_pow_right (by decide) (by omega))
            have hor := u64_or_nat L[x] (2 ^ y) hLx (Nat.pow_lt_pow_right (n := 64) (by decide) (by omega))
            have hp := two_pow (k := y) (by omega)
            have HB := Lib.hid hblk
            have hlt3 := lt_blk hblk
            clear hblk hft
            generalize 2 ^ y = p at *
            generalize L[x] = z at *
            go_wp2
            have e1 : (wr.alloc (.cells #[.int .i64 (x : Int), .int .i64 (y : Int)] 51)).cell? ⟨wr.heap.size, 0, none⟩ = some (.int .i64 (x : Int)) := by
              rw [cell_blk (heap_alloc_new wr _)]; rfl
            have e2 : (wr.alloc (.cells #[.int .i64 (x : Int), .int .i64 (y : Int)] 51)).cell? ⟨wr.heap.size, 1, none⟩ = some (.int .i64 (y : Int)) := by
              rw [cell_blk (heap_alloc_new wr _)]; rfl
            have HB2 : Hid ((wr.alloc (.cells #[.int .i64 (x : Int), .int .i64 (y : Int)] 51)).heap[w1.heap.size]? = some (.cells (cl L) 53 (0, 0))) := Lib.hid ((Below.heap_alloc wr _ _ hlt3).trans HB.out)
            have e3 : (wr.alloc (.cells #[.int .i64 (x : Int), .int .i64 (y : Int)] 51)).cell? ⟨w1.heap.size, x, none⟩ = some (.int .u64 (z : Int)) := by
              rw [World.cell?_of_block (w := wr) (a := ⟨w1.heap.size, x, none⟩) (Below.heap_alloc wr _ _ hlt3)]; exact hcell
            have e4 : (wr.alloc (.cells #[.int .i64 (x : Int), .int .i64 (y : Int)] 51)).frozen? ⟨w1.heap.size, x, none⟩ = false := frozen_blk HB2.out
            have hb2 := hb.alloc hb.size (.cells #[.int .i64 (x : Int), .int .i64 (y : Int)] 51)
            clear hcell hfz HB hb hc1 hc2 hlt3
            generalize wr.alloc (.cells #[.int .i64 (x : Int), .int .i64 (y : Int)] 51) = w2 at *
            generalize wr.heap.size = bx at *
            go_still_tail 9, (by kernel_rfl)
            change wpList _ _ _ _ _ w2.drew
            have HB3 : Hid (w2.drew.heap[w1.heap.size]? = some (.cells (cl L) 53 (0, 0))) := HB2
            have f3 : w2.drew.cell? ⟨w1.heap.size, x, none⟩ = some (.int .u64 (z : Int)) := e3
            have f4 : w2.drew.frozen? ⟨w1.heap.size, x, none⟩ = false := e4
            have hb3 : Below w.heap.size w w2.drew := hb2.trans (below_drew _)
            clear e1 e2 e3 e4 hb2 HB2
            generalize w2.drew = w3 at *
            go_wp2
            go_roundw
            case rel => exact ⟨j + 1, by go_num, by have := HL.out; omega, by rw [set_blk HB3.out, cl_set, HF.out, HP.out], hb3.setCell (p := ⟨w1.heap.size, x, none⟩) hg1 _⟩
            case measure => simp [intOf]; omega
          · obtain rfl : j = n := by have := HL.out; omega
            rw [← HL.out, List.take_length] at hblk
            have HW1 := Lib.hid (start_way HW.out)
            have HRF := Lib.hid (start_refl HW.out)
            have HB := Lib.hid hblk
            clear hblk
            go_wp2_with fail
            refine (leadOn_any w1.heap.size k (bt (startN k ps)) (startN k ps) wr (by omega) ⟨HW1.out, HB.out, Kept.refl _ _⟩).mono ?_
            rintro e w3 ⟨rfl, S, hS, hClos⟩
            have hrd := rd_blk hS.blk hS.way.len (by omega)
            have hfit := hS.way.fit (by omega)
            have hb3 := Kept.lift hb hS.kept hg1
            have HSB := Lib.hid hS.blk
            have HSW := Lib.hid hS.way
            have HCl := Lib.hid hClos
            clear hS hClos
            go_wp2_with fail
            refine (ordered_any _ k k S w3 hrd hfit (by omega)).mono ?_
            rintro e w4 ⟨he, b4⟩
            have hor := ord_anti HSW.out HCl.out HRF.out
            rw [HSW.out.len] at hor
            have hb4 := hb3.trans (b4.mono hb3.size)
            have HB4 : Hid (w4.heap[w1.heap.size]? = some (.cells (cl S) 53 (0, 0))) := Lib.hid ((b4.block _ (lt_blk HSB.out)).trans HSB.out)
            cases ho : orderedK S k with
            | true =>
              rw [ho] at he hor
              subst he
              have HE : Hid (CloseIs k ps S 0) := Lib.hid (.inr ⟨hN, by rw [Int.toNat_natCast]; exact HW.out, S, by rw [Int.toNat_natCast]; exact HSW.out, by rw [Int.toNat_natCast]; exact HCl.out, .inl ⟨hor.1 rfl, rfl, rfl⟩⟩)
              clear hor ho
              go_wp2_with fail
              go_ret2
              exact ⟨S, 0, _, k, k, rfl, HE.out, hb4, .inr ⟨_, hg1, rfl, rfl, by omega, HSW.out.len, hfit, HB4.out⟩⟩
            | false =>
              rw [ho] at he hor
              subst he
              have HE : Hid (CloseIs k ps [] 9) := Lib.hid (.inr ⟨hN, by rw [Int.toNat_natCast]; exact HW.out, S, by rw [Int.toNat_natCast]; exact HSW.out, by rw [Int.toNat_natCast]; exact HCl.out, .inr ⟨(fun h => by have := hor.2 h; cases this), rfl, rfl⟩⟩)
              clear hor ho
              go_wp2_with fail
              go_ret2
              exact ⟨[], 9, none, 0, 0, rfl, HE.out, hb4, .inl ⟨rfl, rfl, rfl, rfl⟩⟩
end Go.Proofs.YtnoigcaapnjcgaaGreatDoor
