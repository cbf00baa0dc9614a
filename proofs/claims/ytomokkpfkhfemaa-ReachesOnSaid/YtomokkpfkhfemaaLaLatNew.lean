/- What New makes: a lattice in memory of its own. No condition but sizes. -/
import Derived.Test.YtomokkpfkhfemaaLaLatB
import Derived.Test.YtomokkpfkhfemaaLaJoin
import Derived.Test.YtomokkpfkhfemaaLaRefMath
import Derived.Laws.CopyOwn
import Derived.StillTailTactics
namespace Go.Proofs.Ytomokkpfkhfemaa.La
open Go.RowKit

/-- Noughts. -/
def z64 : List Nat := List.replicate 64 0

set_option maxRecDepth 100000 in
theorem zero41 (W : World) : (zeroValue 57).run Try.prog W = .ok (.agg (lc 0 z64 z64)) W := by kernel_rfl

theorem lc_count (n : Nat) (us ds : List Nat) : (lc 0 us ds).setIfInBounds 0 (.int .i64 (n : Int)) = lc n us ds := by simp [lc]
theorem lc_some (n : Nat) (us ds : List Nat) : ¬ (lc n us ds = #[]) := by simp [lc]
theorem lc_down {n : Nat} {us ds : List Nat} (hu : us.length = 64) (j v : Nat) : (lc n us ds).setIfInBounds (65 + j) (.int .u64 (v : Int)) = lc n us (ds.set j v) := by
  have e : 65 + j = (64 + j) + 1 := by omega
  have e2 : 64 + j - us.length = j := by omega
  rw [lc, lc, e]
  simp only [List.setIfInBounds_toArray, List.set_cons_succ, List.map_append]
  rw [List.set_append_right _ _ (by rw [List.length_map]; omega), List.length_map, e2, List.map_set]
  rfl

/-- Filled up to 64 numbers. -/
def pad (l : List Nat) : List Nat := l ++ List.replicate (64 - l.length) 0
theorem pad_len {l : List Nat} (h : l.length ≤ 64) : (pad l).length = 64 := by
  rw [pad, List.length_append, List.length_replicate]
  omega
theorem pad_get {l : List Nat} {j : Nat} (h : j < l.length) (h' : j < (pad l).length) : (pad l)[j] = l[j] := by
  simp only [pad]
  exact List.getElem_append_left h
theorem pad_getD {l : List Nat} {j : Nat} (h : j < l.length) : (pad l).getD j 0 = l.getD j 0 := by
  have h' : j < (pad l).length := by rw [pad, List.length_append]; omega
  rw [getD_at h', getD_at h, pad_get h]
theorem pad_set {l : List Nat} {j v : Nat} (h : j < l.length) : (pad l).set j v = pad (l.set j v) := by
  rw [pad, pad, List.set_append_left _ _ h, List.length_set]
theorem pad_take (l : List Nat) : (pad l).take l.length = l := by
  rw [pad, List.take_left']
  rfl
theorem pad_fit {l : List Nat} (h : Fit l) : Fit (pad l) := by
  intro x hx
  rcases List.mem_append.1 hx with hx | hx
  · exact h x hx
  · obtain ⟨_, rfl⟩ := List.mem_replicate.1 hx
    decide
theorem pad_zero {n : Nat} (h : n ≤ 64) : pad (List.replicate n 0) = z64 := by
  rw [pad, List.length_replicate, List.replicate_append_replicate, z64]
  congr 1
  omega

/-- What copy lays into a new lattice. -/
theorem splice_up {l : List Nat} (h : l.length ≤ 64) : (splice (Value.int .i64 (l.length : Int) :: (z64 ++ z64).map nm) 1 (l.map nm)).toArray = lc l.length (pad l) z64 := by
  have e : 1 + (l.map nm).length = l.length + 1 := by rw [List.length_map]; omega
  rw [splice, e, lc, List.drop_succ_cons, List.take_succ_cons, List.take_zero, List.singleton_append]
  congr 2
  rw [← List.map_drop, ← List.map_append, pad, List.append_assoc, List.drop_append_of_le_length (by rw [z64, List.length_replicate]; exact h)]
  congr 3
  rw [z64, List.drop_replicate]

def NRel (n : Nat) (l : List Nat) (w : World) (g : Nat) (v26 : Value) (wr : World) : Prop :=
  ∃ i : Nat, v26 = .int .u64 (i : Int) ∧ i ≤ n ∧ wr.heap[g]? = some (.cells (lc n (pad l) (pad (turnI l i 0))) 57 (0, 0)) ∧ Below w.heap.size w wr
def NIn (n : Nat) (l : List Nat) (w : World) (g i : Nat) (v32 : Value) (wr : World) : Prop :=
  ∃ j : Nat, v32 = .int .u64 (j : Int) ∧ j ≤ n ∧ wr.heap[g]? = some (.cells (lc n (pad l) (pad (turnI l i j))) 57 (0, 0)) ∧ Below w.heap.size w wr

theorem copy_size : (Try.prog.info? 29).map (·.size) = some 1 := by kernel_rfl

set_option maxRecDepth 100000 in
set_option maxHeartbeats 400000 in
theorem new_no (A : Option Addr) (n c : Nat) (l : List Nat) (w : World) (h : Rd nm w w.heap.size A n c l) (hf : Fit l) (x : Int) (hx : checkN l = x) (h0 : x ≠ 0) :
    Calls Try.prog 11 #[.slice A n c] w fun e w' => e = .returned (.tuple #[.pointer none, .int .i64 x]) ∧ Below w.heap.size w w' := by
  have hch := check_any A n c l w h hf
  rw [hx] at hch
  have hne : (x != 0) = true := by simpa using h0
  go_enter Try.func11, Try.ntmps11
  go_wp2_with fail
  refine hch.mono ?_
  rintro e w1 ⟨rfl, hb1⟩
  go_wp2_with fail
  exact bodyPost_ret (v := .tuple #[.pointer none, .int .i64 x]) (by simp [results, Try.results11, go_sem]) rfl ⟨rfl, hb1⟩

set_option maxRecDepth 100000 in
set_option maxHeartbeats 1000000 in
theorem new_yes (A : Option Addr) (n c : Nat) (l : List Nat) (w : World) (h : Rd nm w w.heap.size A n c l) (hf : Fit l) (hx : checkN l = 0) :
    Calls Try.prog 11 #[.slice A n c] w fun e w' => ∃ g, e = .returned (.tuple #[.pointer (some ⟨g, 0, none⟩), .int .i64 0]) ∧ w.heap.size ≤ g ∧ LatAt w' g n (pad l) (pad (turnedN l)) ∧ Below w.heap.size w w' := by
  have hok := latOK_of hx
  have h64 : l.length ≤ 64 := hok.known.1.2
  have HL := Lib.hid h.len
  have hn64 : n ≤ 64 := by rw [← HL.out]; exact h64
  have hch := check_any A n c l w h hf
  rw [hx] at hch
  have HFIN : Hid (∀ g wr, wr.heap[g]? = some (.cells (lc n (pad l) (pad (turnedN l))) 57 (0, 0)) → LatAt wr g n (pad l) (pad (turnedN l))) :=
    Lib.hid fun g wr hb => ⟨hb, pad_len h64, pad_len (by rw [turnedN_len]; exact h64), hn64, pad_fit hf, pad_fit (turned_fit h64)⟩
  have HOK := Lib.hid hok
  clear hok hx
  have hz := zero41
  have hset := lc_count n z64 z64
  have hsm := lc_some 0 z64 z64
  go_enter Try.func11, Try.ntmps11
  go_wp2_with fail
  refine hch.mono ?_
  rintro e w1 ⟨rfl, hb1⟩
  have r1 := h.at_size (Nat.le_refl _) hb1
  have hpos : 0 < (l.map nm).length → ∃ ad, A = some ad ∧ ∀ j v, (l.map nm)[j]? = some v → (w1.alloc (.cells (lc n z64 z64) 57)).cell? (ad.add j) = some v := by
    intro h0
    rw [List.length_map, HL.out] at h0
    obtain ⟨b, o, hA, hbb, hcc⟩ := (r1.keep (w' := w1.alloc (.cells (lc n z64 z64) 57)) (fun k hk => ((Below.refl w1.heap.size w1).alloc (Nat.le_refl _) _).block k hk)).spot h0
    exact ⟨_, hA, Rd.cells hcc⟩
  have hb2 : Below w.heap.size w (w1.alloc (.cells (lc n z64 z64) 57)) := hb1.alloc hb1.size _
  have HSP : Hid ((splice (Value.int .i64 (n : Int) :: (z64 ++ z64).map nm) 1 (l.map nm)).toArray = lc n (pad l) z64) := Lib.hid (by rw [← HL.out]; exact splice_up h64)
  have hfit : 1 + (l.map nm).length ≤ (Value.int .i64 (n : Int) :: (z64 ++ z64).map nm).length := by
    simp [z64]
    omega
  have hmin : (l.map nm).length = Nat.min n 64 := by rw [List.length_map, HL.out]; exact (Nat.min_eq_left hn64).symm
  have hone : ∀ v ∈ l.map nm, v.oneCell' = true := map_one nm_one l
  have hnew : (w1.alloc (.cells (lc n z64 z64) 57)).heap[w1.heap.size]? = some (.cells (Value.int .i64 (n : Int) :: (z64 ++ z64).map nm).toArray 57 (0, 0)) := heap_alloc_new w1 _
  obtain ⟨cur, hcur⟩ : ∃ cur, cur = (Value.int .i64 (n : Int) :: (z64 ++ z64).map nm) := ⟨_, rfl⟩
  rw [← hcur] at hnew hfit HSP
  obtain ⟨cs, hcs⟩ : ∃ cs, cs = l.map nm := ⟨_, rfl⟩
  rw [← hcs] at hfit hmin hone hpos HSP
  have HCUR := Lib.hid hcur
  have HCS := Lib.hid hcs
  clear hcur hcs
  have HH1 := Lib.hid hnew
  have HH2 := Lib.hid hpos
  have HH3 := Lib.hid hone
  have HH4 := Lib.hid hmin
  clear hnew hpos hone hmin
  go_wp2_with (with_reducible refine wpList_copy_splice rfl (.tmp 20) (.tmp 21) 37 37 rfl 29 Try.underlying37 copy_size (some ⟨w1.heap.size, 1, none⟩) A 64 64 n c rfl rfl w1.heap.size 1 cur 57 HH1.out cs HH4.out (fun h0 => ⟨rfl, HH2.out h0⟩) hfit HH3.out w.heap.size w hb2 hb1.size ?_; intro w2 HG2 hb3)
  have HBLK : Hid (w2.heap[w1.heap.size]? = some (.cells (lc n (pad l) (pad (turnI l 0 0))) 57 (0, 0))) := by
    have := HG2.out
    rw [HSP.out] at this
    refine Lib.hid ?_
    rw [turnI_zero, pad_zero h64]
    exact this
  have hold : w.heap.size ≤ w1.heap.size := hb1.size
  clear HG2 HSP HCUR HCS HH1 HH2 HH3 HH4 hfit hz hset hsm hb2 hb1 r1 hch
  generalize w1.heap.size = g at *
  go_loopw [26] (fun v26 wr => NRel n l w g v26 wr) (fun v26 _ => n - (intOf v26).toNat)
  case atStart => exact ⟨0, rfl, by omega, HBLK.out, hb3⟩
  case round =>
    clear HBLK hb3
    obtain ⟨i, rfl, hi, hblk, hb⟩ := hrel
    have HB := Lib.hid hblk
    clear hblk
    by_cases hlt : i < n
    · go_wp2
      go_loopw [32] (fun v32 wr => NIn n l w g i v32 wr) (fun v32 _ => n - (intOf v32).toNat)
      case atStart => exact ⟨0, rfl, by omega, HB.out, hb⟩
      case round =>
        clear HB hb
        obtain ⟨j, rfl, hj, hblk, hb2⟩ := hrel
        by_cases hlt2 : j < n
        · have hcall := below_any A n c w.heap.size l i j wr (h.below hb2) hf (by omega) (by omega)
          rw [belowB_bt h64 (by rw [HL.out]; exact hlt) (by rw [HL.out]; exact hlt2)] at hcall
          have hp := two_pow (k := i) (by omega)
          have hlen : j < (turnI l i j).length := by rw [turnI_len, HL.out]; exact hlt2
          have hlat : LatAt wr g n (pad l) (pad (turnI l i j)) := ⟨hblk, pad_len h64, pad_len (by rw [turnI_len]; exact h64), hn64, pad_fit hf, pad_fit (turnI_fit l i j (by omega))⟩
          have hlp : j < (pad (turnI l i j)).length := by rw [hlat.dl]; omega
          have hcj := hlat.down j hlp
          have hfz : wr.frozen? ⟨g, 65 + j, none⟩ = false := frozen_blk hblk
          have hyes := turnI_yes l i j hlen
          have hfit := (turnI_fit l i j (by omega)).get j hlen
          rw [pad_get hlen hlp] at hcj
          have HYES : Hid (bt l i j = true → (lc n (pad l) (pad (turnI l i j))).setIfInBounds (65 + j) (.int .u64 (((turnI l i j)[j] ||| 2 ^ i : Nat) : Int)) = lc n (pad l) (pad (turnI l i (j + 1)))) := Lib.hid fun hb => by
            rw [lc_down hlat.ul, pad_set hlen, hyes hb]
          have hor := u64_or_nat (turnI l i j)[j] (2 ^ i) hfit (by exact Nat.pow_lt_pow_right (n := 64) (by decide) (by omega))
          generalize (turnI l i j)[j] ||| 2 ^ i = q at *
          generalize (turnI l i j)[j] = y at *
          have HBK := Lib.hid hblk
          clear hblk hyes hlat hlp hlen
          generalize 2 ^ i = p at *
          cases hbit : bt l i j with
          | true =>
            rw [hbit] at hcall
            have HBIT := Lib.hid hbit
            clear hbit
            go_wp2_with (go_at_call 21; refine hcall.mono ?_; rintro e w' ⟨rfl, rfl⟩)
            have hj64 : (j : Int) < 64 := by omega
            go_still_tail 12, (by kernel_rfl)
            change wpList _ _ _ _ _ wr.drew
            have hcj' : wr.drew.cell? ⟨g, 65 + j, none⟩ = some (.int .u64 (y : Int)) := hcj
            have hfz' : wr.drew.frozen? ⟨g, 65 + j, none⟩ = false := hfz
            have hb3 : Below w.heap.size w wr.drew := hb2.trans (below_drew wr)
            have HBK' : Hid (wr.drew.heap[g]? = some (.cells (lc n (pad l) (pad (turnI l i j))) 57 (0, 0))) := HBK
            clear hcj hfz HBK hb2 hcall
            generalize wr.drew = w3 at *
            go_wp2
            go_roundw
            case rel => exact ⟨j + 1, by go_num, by omega, by rw [set_blk HBK'.out, HYES.out HBIT.out], hb3.setCell (p := ⟨g, 65 + j, none⟩) hold _⟩
            case measure => simp [intOf]; omega
          | false =>
            rw [hbit] at hcall
            have HBIT := Lib.hid hbit
            clear hbit
            go_wp2_with (go_at_call 21; refine hcall.mono ?_; rintro e w' ⟨rfl, rfl⟩)
            go_roundw
            case rel => exact ⟨j + 1, by go_num, by omega, by rw [turnI_no l i j HBIT.out]; exact HBK.out, hb2⟩
            case measure => simp [intOf]; omega
        · obtain rfl : j = n := by omega
          have HB2 := Lib.hid hblk
          clear hblk
          go_wp2
          go_roundw
          case rel => exact ⟨i + 1, by go_num, by omega, by rw [← turnI_row, HL.out]; exact HB2.out, hb2⟩
          case measure => simp [intOf]; omega
    · obtain rfl : i = n := by omega
      go_wp2
      exact bodyPost_ret (v := .tuple #[.pointer (some ⟨g, 0, none⟩), .int .i64 0]) (by simp [results, Try.results11, go_sem]) rfl ⟨g, rfl, hold, HFIN.out g _ (by have := HB.out; rwa [← HL.out, turnI_all, HL.out] at this), hb⟩
end Go.Proofs.Ytomokkpfkhfemaa.La
