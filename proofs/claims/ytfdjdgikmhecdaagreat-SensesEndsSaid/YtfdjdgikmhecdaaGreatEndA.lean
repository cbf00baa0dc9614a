/- What ends tells of a sense, and of what is ground by its least and greatest values. Condition: it can be read. -/
import Derived.Test.YtfdjdgikmhecdaaGreatLiv
import Derived.Test.YtfdjdgikmhecdaaGreatFct
namespace Go.Proofs.YtfdjdgikmhecdaaGreat
open Go.RowKit

/-- What is read of a sense and two rows at one place. -/
structure EnAt (w : World) (g i n c2 c3 a o b p p1 q1 p2 q2 s1 s2 : Nat) (v1 v2 : Int) (lo hi : Nat) : Prop where
  z1 : w.cell? ⟨g, 1, none⟩ = some (.slice (some ⟨a, o, none⟩) n c2)
  z2 : w.cell? ⟨g, 2, none⟩ = some (.slice (some ⟨b, p, none⟩) n c3)
  k1 : w.cell? ⟨a, o + i, none⟩ = some (.int .u64 (lo : Int))
  k2 : w.cell? ⟨b, p + i, none⟩ = some (.int .u64 (hi : Int))
  f1 : w.cell? ⟨p1, q1 + i * 5 + 2, none⟩ = some (.int .u8 (s1 : Int))
  f2 : w.cell? ⟨p2, q2 + i * 5 + 2, none⟩ = some (.int .u8 (s2 : Int))
  t1 : w.cell? ⟨p1, q1 + i * 5 + 4, none⟩ = some (.int .u64 v1)
  t2 : w.cell? ⟨p2, q2 + i * 5 + 4, none⟩ = some (.int .u64 v2)
theorem EnAt.keep {w W : World} {g i n c2 c3 a o b p p1 q1 p2 q2 s1 s2 : Nat} {v1 v2 : Int} {lo hi : Nat} (h : EnAt w g i n c2 c3 a o b p p1 q1 p2 q2 s1 s2 v1 v2 lo hi) (hb : Below w.heap.size w W) : EnAt W g i n c2 c3 a o b p p1 q1 p2 q2 s1 s2 v1 v2 lo hi :=
  ⟨cell_old h.z1 hb, cell_old h.z2 hb, cell_old h.k1 hb, cell_old h.k2 hb, cell_old h.f1 hb, cell_old h.f2 hb, cell_old h.t1 hb, cell_old h.t2 hb⟩

/-- Both rows have a sense's ends. -/
structure EndsIs (z : Sen) (l1 l2 : List Sp) : Prop where
  lo : z.lo.length = z.p.length
  hi : z.hi.length = z.p.length
  e1 : l1.length = z.p.length
  e2 : l2.length = z.p.length
  low : ∀ i (h : i < l1.length) (h' : i < z.lo.length), l1[i].s ≠ 1 → l1[i].z = (z.lo[i] : Int)
  high : ∀ i (h : i < l2.length) (h' : i < z.hi.length), l2[i].s ≠ 0 → l2[i].z = (z.hi[i] : Int)

theorem tm_z {u : List Nat} {p : Sp} (hz : U64 p.z) : (p.re (grT u p)).z = (tmL u p : Int) := by
  unfold tmL Bo.vl Sp.re grT
  have := hz.lo
  cases p.v with
  | true => rfl
  | false =>
    show p.z = ((p.z.toNat : Nat) : Int)
    omega
/-- Of its least and greatest values it has. -/
theorem ends_of {S : Bo.Sr} {lo hi : List Nat} {rc : Nat → Nat → Bool} {l : List Sp} (hz : ∀ p ∈ l, U64 p.z) : EndsIs (senS S lo hi rc l) (l.map fun p => p.re (grT lo p)) (l.map fun p => p.re (grT hi p)) := by
  refine ⟨by simp [senS], by simp [senS], by simp [senS], by simp [senS], fun i h h' hs => ?_, fun i h h' hs => ?_⟩
  · simp only [List.getElem_map, senS] at hs ⊢
    have hm := hz _ (List.getElem_mem (by simpa using h : i < l.length))
    rw [tm_z hm]
    have hs' : (l[i]'(by simpa using h)).s ≠ 1 := hs
    unfold lowS
    rw [if_neg hs']
  · simp only [List.getElem_map, senS] at hs ⊢
    have hm := hz _ (List.getElem_mem (by simpa using h : i < l.length))
    rw [tm_z hm]
    have hs' : (l[i]'(by simpa using h)).s ≠ 0 := hs
    unfold highS
    rw [if_neg hs']

set_option maxRecDepth 100000 in
set_option maxHeartbeats 8000000 in
theorem ends_any (A1 : Option Addr) (n1 c1 : Nat) (A2 : Option Addr) (n2 c2 : Nat) (A3 : Option Addr) (n3 c3 : Nat) (A4 : Option Addr) (n4 c4 : Nat) (z : Sen) (E1 : Option Addr) (m1 d1 : Nat) (l1 : List Sp) (E2 : Option Addr) (n d2 : Nat) (l2 : List Sp) (w : World) (h : SenAt w z A1 n1 c1 A2 n2 c2 A3 n3 c3 A4 n4 c4) (r1 : Rs spc 5 w w.heap.size E1 m1 d1 l1) (r2 : Rs spc 5 w w.heap.size E2 n d2 l2) (hs : EndsIs z l1 l2) (hn : n ≤ 100000) :
    Calls Tryz.prog 32 #[senV A1 n1 c1 A2 n2 c2 A3 n3 c3 A4 n4 c4, .slice E1 m1 d1, .slice E2 n d2] w fun e w' => e = .returned (.bool true) ∧ Below w.heap.size w w' := by
  unfold senV
  obtain rfl : n2 = n1 := by rw [← h.rl.len, hs.lo, h.rp.len]
  obtain rfl : n3 = n2 := by rw [← h.rh.len, hs.hi, h.rp.len]
  obtain rfl : m1 = n3 := by rw [← r1.len, hs.e1, h.rp.len]
  obtain rfl : n = m1 := by rw [← r2.len, hs.e2, h.rp.len]
  have hk := heap_alloc_new w (.cells #[.slice A1 n c1, .slice A2 n c2, .slice A3 n c3, .slice A4 n4 c4] 28)
  have hal : Below w.heap.size w (w.alloc (.cells #[.slice A1 n c1, .slice A2 n c2, .slice A3 n c3, .slice A4 n4 c4] 28)) := (Below.refl _ _).alloc (Nat.le_refl _) _
  have z0 := (cell_blk (i := 0) hk).trans rfl
  have z1 := (cell_blk (i := 1) hk).trans rfl
  have z2 := (cell_blk (i := 2) hk).trans rfl
  have hne : ((n : Int) != (n : Int)) = false := by rw [int_ne]; simp
  obtain ⟨u, hu⟩ : ∃ u, w.alloc (.cells #[.slice A1 n c1, .slice A2 n c2, .slice A3 n c3, .slice A4 n4 c4] 28) = u := ⟨_, rfl⟩
  rw [hu] at hk hal z0 z1 z2
  have HA : Hid (∀ i, i < n → ∃ (a o b p p1 q1 p2 q2 s1 s2 : Nat) (v1 v2 : Int) (lo hi : Nat), E1 = some ⟨p1, q1, none⟩ ∧ E2 = some ⟨p2, q2, none⟩ ∧ (s1 ≠ 1 → v1 = (lo : Int)) ∧ (s2 ≠ 0 → v2 = (hi : Int)) ∧ EnAt u w.heap.size i n c2 c3 a o b p p1 q1 p2 q2 s1 s2 v1 v2 lo hi) := Lib.hid fun i hi => by
    have hu' := h.keep hal
    have g1 := r1.at_size (Nat.le_refl _) hal
    have g2 := r2.at_size (Nat.le_refl _) hal
    have i0 : i < z.p.length := by rw [h.rp.len]; exact hi
    have i1 : i < l1.length := by rw [hs.e1]; exact i0
    have i2 : i < l2.length := by rw [hs.e2]; exact i0
    have i3 : i < z.lo.length := by rw [hs.lo]; exact i0
    have i4 : i < z.hi.length := by rw [hs.hi]; exact i0
    obtain ⟨p1, q1, e1, -, -, -, f1, -, t1⟩ := spot_at g1 i1
    obtain ⟨p2, q2, e2, -, -, -, f2, -, t2⟩ := spot_at g2 i2
    obtain ⟨a, o, e3, -, hl⟩ := hu'.rl.spot (by omega)
    obtain ⟨b, p, e4, -, hh⟩ := hu'.rh.spot (by omega)
    exact ⟨a, o, b, p, p1, q1, p2, q2, l1[i].s, l2[i].s, l1[i].z, l2[i].z, z.lo[i], z.hi[i], e1, e2, hs.low i i1 i3, hs.high i i2 i4, ⟨e3 ▸ z1, e4 ▸ z2, hl i i3, hh i i4, f1, f2, t1, t2⟩⟩
  have HB := Lib.hid hal
  have HNN := Lib.hid hn
  clear hk hal h r1 r2 hs hn
  go_enter Tryz.func32, Tryz.ntmps32
  go_wp2_with fail
  clear hu hne z1 z2 z0
  go_loopw [7] (fun v7 wr => ∃ i : Nat, v7 = .int .i64 (i : Int) ∧ i ≤ n ∧ Below u.heap.size u wr) (fun v7 _ => n - (intOf v7).toNat)
  case atStart => exact ⟨0, rfl, by omega, Below.refl _ _⟩
  case round =>
    obtain ⟨i, rfl, hi, hb⟩ := hrel
    by_cases hlt : i < n
    · obtain ⟨a, o, b, p, p1, q1, p2, q2, s1, s2, v1, v2, lo, hi', rfl, rfl, hv1, hv2, hea⟩ := HA.out i hlt
      have hin : (i : Int) < (n : Int) := by omega
      have hbd := hb.trans ((Below.refl wr.heap.size wr).drew.mono hb.size)
      have hea := hea.keep hbd
      have HBD := Lib.hid hbd
      obtain ⟨ii, hii⟩ : ∃ ii, n = i + 1 + ii := ⟨n - (i + 1), by omega⟩
      have HLT := Lib.hid hii
      clear hii hb hbd hlt HA
      have m1 : ((lo : Int) != (lo : Int)) = false := by rw [int_ne]; simp
      have m2 : ((hi' : Int) != (hi' : Int)) = false := by rw [int_ne]; simp
      by_cases g1 : s1 = 1
      · by_cases g2 : s2 = 0
        · have q1' : ((s1 : Int) != 1) = false := by rw [show ((s1 : Int) != 1) = !decide (s1 = 1) from int_ne s1 1]; simp [g1]
          have q2' : ((s2 : Int) != 0) = false := by rw [show ((s2 : Int) != 0) = !decide (s2 = 0) from int_ne s2 0]; simp [g2]
          clear g1 g2 hv1 hv2
          go_wp2_with fail
          refine wp_region_ord [0, 1, 2, 3, 4, 5, 6, 7, 8, 9, 10, 11, 12, 13, 14, 15, 16, 17, 18, 19, 20, 21, 22, 23, 24, 25, 26, 27, 28, 29, 30, 31, 32, 33, 34, 35, 36, 37, 38, 39, 40, 41] [] 42 (fun W => EnAt W w.heap.size i n c2 c3 a o b p p1 q1 p2 q2 s1 s2 v1 v2 lo hi') (by kernel_rfl) (by kernel_rfl) (by kernel_rfl) (by kernel_rfl) (fun _ _ _ _ _ h => h) hea ?_
          simp only [steps, List.getElem?_cons_zero, List.getElem?_cons_succ]
          repeat (first
            | (refine ord_no rfl ?_; simp only [Act.put, List.setIfInBounds_toArray, List.set_cons_zero, List.set_cons_succ])
            | (refine ord_yes (v := ?_) rfl rfl ?_ ?_; rotate_left; (focus (rintro w' ⟨x0, x1, x2, x3, x4, x5, x6, x7⟩; go_simp; try with_reducible rfl)); simp only [Act.put, List.setIfInBounds_toArray, List.set_cons_zero, List.set_cons_succ]))
          refine ord_end ?_
          clear hea hin m1 m2 q1' q2'
          have hib : i ≤ 100000 := by have := HLT.out; have := HNN.out; omega
          go_wp2_with fail
          go_roundw
          case rel => exact ⟨i + 1, by have := HLT.out; go_num, by have := HLT.out; omega, HBD.out⟩
          case measure =>
            have := HLT.out
            simp [intOf]
            omega
        · have q1' : ((s1 : Int) != 1) = false := by rw [show ((s1 : Int) != 1) = !decide (s1 = 1) from int_ne s1 1]; simp [g1]
          have q2' : ((s2 : Int) != 0) = true := by rw [show ((s2 : Int) != 0) = !decide (s2 = 0) from int_ne s2 0]; simp [g2]
          obtain rfl := hv2 g2
          clear g1 g2 hv1
          go_wp2_with fail
          refine wp_region_ord [0, 1, 2, 3, 4, 5, 6, 7, 8, 9, 10, 11, 12, 13, 14, 15, 16, 17, 18, 19, 20, 21, 22, 23, 24, 25, 26, 27, 28, 29, 30, 31, 32, 33, 34, 35, 36, 37, 38, 39, 40, 41] [] 42 (fun W => EnAt W w.heap.size i n c2 c3 a o b p p1 q1 p2 q2 s1 s2 v1 (hi' : Int) lo hi') (by kernel_rfl) (by kernel_rfl) (by kernel_rfl) (by kernel_rfl) (fun _ _ _ _ _ h => h) hea ?_
          simp only [steps, List.getElem?_cons_zero, List.getElem?_cons_succ]
          repeat (first
            | (refine ord_no rfl ?_; simp only [Act.put, List.setIfInBounds_toArray, List.set_cons_zero, List.set_cons_succ])
            | (refine ord_yes (v := ?_) rfl rfl ?_ ?_; rotate_left; (focus (rintro w' ⟨x0, x1, x2, x3, x4, x5, x6, x7⟩; go_simp; try with_reducible rfl)); simp only [Act.put, List.setIfInBounds_toArray, List.set_cons_zero, List.set_cons_succ]))
          refine ord_end ?_
          clear hea hin m1 m2 q1' q2'
          have hib : i ≤ 100000 := by have := HLT.out; have := HNN.out; omega
          go_wp2_with fail
          go_roundw
          case rel => exact ⟨i + 1, by have := HLT.out; go_num, by have := HLT.out; omega, HBD.out⟩
          case measure =>
            have := HLT.out
            simp [intOf]
            omega
      · by_cases g2 : s2 = 0
        · have q1' : ((s1 : Int) != 1) = true := by rw [show ((s1 : Int) != 1) = !decide (s1 = 1) from int_ne s1 1]; simp [g1]
          have q2' : ((s2 : Int) != 0) = false := by rw [show ((s2 : Int) != 0) = !decide (s2 = 0) from int_ne s2 0]; simp [g2]
          obtain rfl := hv1 g1
          clear g1 g2 hv2
          go_wp2_with fail
          refine wp_region_ord [0, 1, 2, 3, 4, 5, 6, 7, 8, 9, 10, 11, 12, 13, 14, 15, 16, 17, 18, 19, 20, 21, 22, 23, 24, 25, 26, 27, 28, 29, 30, 31, 32, 33, 34, 35, 36, 37, 38, 39, 40, 41] [] 42 (fun W => EnAt W w.heap.size i n c2 c3 a o b p p1 q1 p2 q2 s1 s2 (lo : Int) v2 lo hi') (by kernel_rfl) (by kernel_rfl) (by kernel_rfl) (by kernel_rfl) (fun _ _ _ _ _ h => h) hea ?_
          simp only [steps, List.getElem?_cons_zero, List.getElem?_cons_succ]
          repeat (first
            | (refine ord_no rfl ?_; simp only [Act.put, List.setIfInBounds_toArray, List.set_cons_zero, List.set_cons_succ])
            | (refine ord_yes (v := ?_) rfl rfl ?_ ?_; rotate_left; (focus (rintro w' ⟨x0, x1, x2, x3, x4, x5, x6, x7⟩; go_simp; try with_reducible rfl)); simp only [Act.put, List.setIfInBounds_toArray, List.set_cons_zero, List.set_cons_succ]))
          refine ord_end ?_
          clear hea hin m1 m2 q1' q2'
          have hib : i ≤ 100000 := by have := HLT.out; have := HNN.out; omega
          go_wp2_with fail
          go_roundw
          case rel => exact ⟨i + 1, by have := HLT.out; go_num, by have := HLT.out; omega, HBD.out⟩
          case measure =>
            have := HLT.out
            simp [intOf]
            omega
        · have q1' : ((s1 : Int) != 1) = true := by rw [show ((s1 : Int) != 1) = !decide (s1 = 1) from int_ne s1 1]; simp [g1]
          have q2' : ((s2 : Int) != 0) = true := by rw [show ((s2 : Int) != 0) = !decide (s2 = 0) from int_ne s2 0]; simp [g2]
          obtain rfl := hv1 g1
          obtain rfl := hv2 g2
          clear g1 g2
          go_wp2_with fail
          refine wp_region_ord [0, 1, 2, 3, 4, 5, 6, 7, 8, 9, 10, 11, 12, 13, 14, 15, 16, 17, 18, 19, 20, 21, 22, 23, 24, 25, 26, 27, 28, 29, 30, 31, 32, 33, 34, 35, 36, 37, 38, 39, 40, 41] [] 42 (fun W => EnAt W w.heap.size i n c2 c3 a o b p p1 q1 p2 q2 s1 s2 (lo : Int) (hi' : Int) lo hi') (by kernel_rfl) (by kernel_rfl) (by kernel_rfl) (by kernel_rfl) (fun _ _ _ _ _ h => h) hea ?_
          simp only [steps, List.getElem?_cons_zero, List.getElem?_cons_succ]
          repeat (first
            | (refine ord_no rfl ?_; simp only [Act.put, List.setIfInBounds_toArray, List.set_cons_zero, List.set_cons_succ])
            | (refine ord_yes (v := ?_) rfl rfl ?_ ?_; rotate_left; (focus (rintro w' ⟨x0, x1, x2, x3, x4, x5, x6, x7⟩; go_simp; try with_reducible rfl)); simp only [Act.put, List.setIfInBounds_toArray, List.set_cons_zero, List.set_cons_succ]))
          refine ord_end ?_
          clear hea hin m1 m2 q1' q2'
          have hib : i ≤ 100000 := by have := HLT.out; have := HNN.out; omega
          go_wp2_with fail
          go_roundw
          case rel => exact ⟨i + 1, by have := HLT.out; go_num, by have := HLT.out; omega, HBD.out⟩
          case measure =>
            have := HLT.out
            simp [intOf]
            omega
    · obtain rfl : i = n := by omega
      clear hlt
      have HBZ := Lib.hid (HB.out.trans (hb.mono HB.out.size))
      clear hb
      go_wp2
      go_ret
      exact ⟨rfl, HBZ.out⟩
end Go.Proofs.YtfdjdgikmhecdaaGreat
