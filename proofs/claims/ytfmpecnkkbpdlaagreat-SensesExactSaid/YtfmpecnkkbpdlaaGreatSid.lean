/- What sided tells of a sense. Condition: it can be read. -/
import Derived.Test.YtfmpecnkkbpdlaaGreatLiv
namespace Go.Proofs.YtfmpecnkkbpdlaaGreat
open Go.RowKit

/-- What is read of a sense and its spots at two places. -/
structure Sd (w : World) (g b o i k n c4 b' o' c' p q : Nat) (B1 : Option Addr) (m1 d1 : Nat) (x : Bool) (xs ys : Nat) : Prop where
  z0 : w.cell? ⟨g, 0, none⟩ = some (.slice B1 m1 d1)
  z3 : w.cell? ⟨g, 3, none⟩ = some (.slice (some ⟨b, o, none⟩) n c4)
  row : w.cell? ⟨b, o + i, none⟩ = some (.slice (some ⟨b', o', none⟩) n c')
  bit : w.cell? ⟨b', o' + k, none⟩ = some (.bool x)
  si : w.cell? ⟨p, q + i * 5 + 2, none⟩ = some (.int .u8 (xs : Int))
  sk : w.cell? ⟨p, q + k * 5 + 2, none⟩ = some (.int .u8 (ys : Int))
theorem Sd.keep {w W : World} {g b o i k n c4 b' o' c' p q : Nat} {B1 : Option Addr} {m1 d1 : Nat} {x : Bool} {xs ys : Nat} (h : Sd w g b o i k n c4 b' o' c' p q B1 m1 d1 x xs ys) (hb : Below w.heap.size w W) : Sd W g b o i k n c4 b' o' c' p q B1 m1 d1 x xs ys :=
  ⟨cell_old h.z0 hb, cell_old h.z3 hb, cell_old h.row hb, cell_old h.bit hb, cell_old h.si hb, cell_old h.sk hb⟩

/-- What a sense says by its spots' sides. -/
structure SidedIs (z : Sen) (l : List Sp) : Prop where
  p : z.p = l
  lo : z.lo.length = l.length
  hi : z.hi.length = l.length
  be : z.be.length = l.length
  row : ∀ r ∈ z.be, r.length = l.length
  side : ∀ i (h : i < l.length) k (g : k < l.length) (h' : i < z.be.length) (g' : k < z.be[i].length), z.be[i][k] = true → l[i].s ≠ 0 ∧ l[k].s ≠ 1
  diag : ∀ i (h : i < l.length) (h' : i < z.be.length) (g' : i < z.be[i].length), z.be[i][i] = decide (l[i].s = 2)

set_option maxRecDepth 100000 in
set_option maxHeartbeats 8000000 in
theorem sided_any (A1 : Option Addr) (n1 c1 : Nat) (A2 : Option Addr) (n2 c2 : Nat) (A3 : Option Addr) (n3 c3 : Nat) (A4 : Option Addr) (n4 c4 : Nat) (z : Sen) (A : Option Addr) (n c : Nat) (l : List Sp) (w : World) (h : SenAt w z A1 n1 c1 A2 n2 c2 A3 n3 c3 A4 n4 c4) (hl : Rs spc 5 w w.heap.size A n c l) (hs : SidedIs z l) (hn : n ≤ 100000) :
    Calls Tryz.prog 33 #[senV A1 n1 c1 A2 n2 c2 A3 n3 c3 A4 n4 c4, .slice A n c] w fun e w' => e = .returned (.bool true) ∧ Below w.heap.size w w' := by
  unfold senV
  have hlen := hl.len
  obtain rfl : n = n1 := by rw [← h.rp.len, hs.p, hlen]
  obtain rfl : n2 = n := by rw [← h.rl.len, hs.lo, hlen]
  obtain rfl : n3 = n2 := by rw [← h.rh.len, hs.hi, hlen]
  obtain rfl : n4 = n3 := by rw [← h.rb.len, hs.be, hlen]
  have hk := heap_alloc_new w (.cells #[.slice A1 n4 c1, .slice A2 n4 c2, .slice A3 n4 c3, .slice A4 n4 c4] 28)
  have hal : Below w.heap.size w (w.alloc (.cells #[.slice A1 n4 c1, .slice A2 n4 c2, .slice A3 n4 c3, .slice A4 n4 c4] 28)) := (Below.refl _ _).alloc (Nat.le_refl _) _
  have z0 := (cell_blk (i := 0) hk).trans rfl
  have z1 := (cell_blk (i := 1) hk).trans rfl
  have z2 := (cell_blk (i := 2) hk).trans rfl
  have z3 := (cell_blk (i := 3) hk).trans rfl
  have hne : ((n4 : Int) != (n4 : Int)) = false := by rw [int_ne]; simp
  obtain ⟨u, hu⟩ : ∃ u, w.alloc (.cells #[.slice A1 n4 c1, .slice A2 n4 c2, .slice A3 n4 c3, .slice A4 n4 c4] 28) = u := ⟨_, rfl⟩
  rw [hu] at hk hal z0 z1 z2 z3
  have HA : Hid (∀ i, i < n4 → ∀ k, k < n4 → ∃ (b o b' o' c' p q p' q' : Nat) (x : Bool) (xn xp xs : Nat) (xv : Bool) (xz : Int) (ys : Nat), A4 = some ⟨b, o, none⟩ ∧ A = some ⟨p, q, none⟩ ∧ A1 = some ⟨p', q', none⟩ ∧ Sd u w.heap.size b o i k n4 c4 b' o' c' p q A1 n4 c1 x xs ys ∧
      (x = true → xs ≠ 0 ∧ ys ≠ 1) ∧ (i = k → x = decide (xs = 2) ∧ xs = ys) ∧
      u.cell? ⟨p, q + i * 5, none⟩ = some (.int .i64 (xn : Int)) ∧ u.cell? ⟨p, q + i * 5 + 1, none⟩ = some (.int .u8 (xp : Int)) ∧ u.cell? ⟨p, q + i * 5 + 2, none⟩ = some (.int .u8 (xs : Int)) ∧ u.cell? ⟨p, q + i * 5 + 3, none⟩ = some (.bool xv) ∧ u.cell? ⟨p, q + i * 5 + 4, none⟩ = some (.int .u64 xz) ∧
      u.cell? ⟨p', q' + i * 5, none⟩ = some (.int .i64 (xn : Int)) ∧ u.cell? ⟨p', q' + i * 5 + 1, none⟩ = some (.int .u8 (xp : Int)) ∧ u.cell? ⟨p', q' + i * 5 + 2, none⟩ = some (.int .u8 (xs : Int)) ∧ u.cell? ⟨p', q' + i * 5 + 3, none⟩ = some (.bool xv) ∧ u.cell? ⟨p', q' + i * 5 + 4, none⟩ = some (.int .u64 xz)) := Lib.hid fun i hi k hk' => by
    have hu' := h.keep hal
    have hlu := hl.at_size (Nat.le_refl _) hal
    have hib : i < z.be.length := by rw [hs.be, hlen]; exact hi
    have hkb : k < z.be[i].length := by rw [hs.row _ (List.getElem_mem hib), hlen]; exact hk'
    obtain ⟨b, o, b', o', c', e1, -, k1, -, k2⟩ := hu'.rb.at' hib hkb
    rw [hs.row _ (List.getElem_mem hib), hlen] at k1
    have hil : i < l.length := by rw [hlen]; exact hi
    have hkl : k < l.length := by rw [hlen]; exact hk'
    obtain ⟨p, q, e2, -, f0, f1, f2, f3, f4⟩ := spot_at hlu hil
    obtain ⟨p2, q2, e3, -, -, -, g2, -, -⟩ := spot_at hlu hkl
    have hpz := hu'.rp
    rw [hs.p] at hpz
    obtain ⟨p', q', e4, -, y0, y1, y2, y3, y4⟩ := spot_at hpz hil
    rw [e2] at e3
    injection e3 with e3
    injection e3 with e5 e6
    subst e5 e6
    have hsd := hs.side i hil k hkl hib hkb
    refine ⟨b, o, b', o', c', p, q, p', q', z.be[i][k], l[i].n, l[i].p, l[i].s, l[i].v, l[i].z, l[k].s, e1, e2, e4, ⟨z0, e1 ▸ z3, k1, k2, f2, g2⟩, hsd, fun e => ?_, f0, f1, f2, f3, f4, y0, y1, y2, y3, y4⟩
    subst e
    exact ⟨hs.diag i hil hib hkb, rfl⟩
  have HB := Lib.hid hal
  have HNN := Lib.hid hn
  clear hk hal h hl hs hlen hn
  go_enter Tryz.func33, Tryz.ntmps33
  go_wp2_with fail
  clear hu hne z1 z2 z0 z3
  go_loopw [5] (fun v5 wr => ∃ i : Nat, v5 = .int .i64 (i : Int) ∧ i ≤ n4 ∧ Below u.heap.size u wr) (fun v5 _ => n4 - (intOf v5).toNat)
  case atStart => exact ⟨0, rfl, by omega, Below.refl _ _⟩
  case round =>
    obtain ⟨i, rfl, hi, hb⟩ := hrel
    by_cases hlt : i < n4
    · obtain ⟨b, o, b', o', c', p, q, p', q', x, xn, xp, xs, xv, xz, ys, rfl, rfl, rfl, hsd, -, -, f0, f1, f2, f3, f4, y0, y1, y2, y3, y4⟩ := HA.out i hlt i hlt
      have HI := Lib.hid (HA.out i hlt)
      clear HA
      have hin : (i : Int) < (n4 : Int) := by omega
      have hbd := hb.trans ((Below.refl wr.heap.size wr).drew.mono hb.size)
      have HS : Hid (∀ W, Below u.heap.size u W → W.cell? ⟨w.heap.size, 0, none⟩ = some (.slice (some ⟨p', q', none⟩) n4 c1) ∧ W.cell? ⟨w.heap.size, 3, none⟩ = some (.slice (some ⟨b, o, none⟩) n4 c4) ∧ W.cell? ⟨b, o + i, none⟩ = some (.slice (some ⟨b', o', none⟩) n4 c') ∧
        W.cell? ⟨p, q + i * 5, none⟩ = some (.int .i64 (xn : Int)) ∧ W.cell? ⟨p, q + i * 5 + 1, none⟩ = some (.int .u8 (xp : Int)) ∧ W.cell? ⟨p, q + i * 5 + 2, none⟩ = some (.int .u8 (xs : Int)) ∧ W.cell? ⟨p, q + i * 5 + 3, none⟩ = some (.bool xv) ∧ W.cell? ⟨p, q + i * 5 + 4, none⟩ = some (.int .u64 xz) ∧
        W.cell? ⟨p', q' + i * 5, none⟩ = some (.int .i64 (xn : Int)) ∧ W.cell? ⟨p', q' + i * 5 + 1, none⟩ = some (.int .u8 (xp : Int)) ∧ W.cell? ⟨p', q' + i * 5 + 2, none⟩ = some (.int .u8 (xs : Int)) ∧ W.cell? ⟨p', q' + i * 5 + 3, none⟩ = some (.bool xv) ∧ W.cell? ⟨p', q' + i * 5 + 4, none⟩ = some (.int .u64 xz)) := Lib.hid fun W hW =>
        ⟨cell_old hsd.z0 hW, cell_old hsd.z3 hW, cell_old hsd.row hW, cell_old f0 hW, cell_old f1 hW, cell_old f2 hW, cell_old f3 hW, cell_old f4 hW, cell_old y0 hW, cell_old y1 hW, cell_old y2 hW, cell_old y3 hW, cell_old y4 hW⟩
      clear hsd f0 f1 f2 f3 f4 y0 y1 y2 y3 y4
      have hne : ((n4 : Int) != (n4 : Int)) = false := by rw [int_ne]; simp
      have HBD := Lib.hid hbd
      obtain ⟨ii, hii⟩ : ∃ ii, n4 = i + 1 + ii := ⟨n4 - (i + 1), by omega⟩
      have HLT := Lib.hid hii
      clear hii
      clear hb hbd hlt
      go_wp2_with fail
      refine wp_region_ord [0, 1, 2, 3, 4, 5, 6, 7, 8, 9, 10, 11, 12, 13, 14, 15, 16, 17, 18, 19, 20] [] 21 (fun W => W.cell? ⟨w.heap.size, 0, none⟩ = some (.slice (some ⟨p', q', none⟩) n4 c1) ∧ W.cell? ⟨w.heap.size, 3, none⟩ = some (.slice (some ⟨b, o, none⟩) n4 c4) ∧ W.cell? ⟨b, o + i, none⟩ = some (.slice (some ⟨b', o', none⟩) n4 c') ∧
        W.cell? ⟨p, q + i * 5, none⟩ = some (.int .i64 (xn : Int)) ∧ W.cell? ⟨p, q + i * 5 + 1, none⟩ = some (.int .u8 (xp : Int)) ∧ W.cell? ⟨p, q + i * 5 + 2, none⟩ = some (.int .u8 (xs : Int)) ∧ W.cell? ⟨p, q + i * 5 + 3, none⟩ = some (.bool xv) ∧ W.cell? ⟨p, q + i * 5 + 4, none⟩ = some (.int .u64 xz) ∧
        W.cell? ⟨p', q' + i * 5, none⟩ = some (.int .i64 (xn : Int)) ∧ W.cell? ⟨p', q' + i * 5 + 1, none⟩ = some (.int .u8 (xp : Int)) ∧ W.cell? ⟨p', q' + i * 5 + 2, none⟩ = some (.int .u8 (xs : Int)) ∧ W.cell? ⟨p', q' + i * 5 + 3, none⟩ = some (.bool xv) ∧ W.cell? ⟨p', q' + i * 5 + 4, none⟩ = some (.int .u64 xz)) (by kernel_rfl) (by kernel_rfl) (by kernel_rfl) (by kernel_rfl) (fun _ _ _ _ _ h => h) (HS.out _ HBD.out) ?_
      simp only [steps, List.getElem?_cons_zero, List.getElem?_cons_succ]
      repeat (first
        | (refine ord_no rfl ?_; simp only [Act.put, List.setIfInBounds_toArray, List.set_cons_zero, List.set_cons_succ])
        | (refine ord_yes (v := ?_) rfl rfl ?_ ?_; rotate_left; (focus (rintro w' ⟨x0, x1, x2, x3, x4, x5, x6, x7, x8, x9, x10, x11, x12⟩; go_simp; try with_reducible rfl)); simp only [Act.put, List.setIfInBounds_toArray, List.set_cons_zero, List.set_cons_succ]))
      refine ord_end ?_
      clear hne hin HS
      have HWD := Lib.hid HBD.out
      clear HBD
      generalize wr.drew = wd at *
      go_wp2_with fail
      obtain ⟨wo, rfl⟩ : ∃ wo, wo = wd := ⟨_, rfl⟩
      go_loopw [6] (fun v6 wq => ∃ k : Nat, v6 = .int .i64 (k : Int) ∧ k ≤ n4 ∧ Below u.heap.size u wq) (fun v6 _ => n4 - (intOf v6).toNat)
      case atStart => exact ⟨0, rfl, by omega, HWD.out⟩
      case round =>
        clear HWD
        obtain ⟨k, rfl, hk, hbq⟩ := hrel
        by_cases hltk : k < n4
        · obtain ⟨b9, o9, b2, o2, c2', p9, q9, p8, q8, x2, xn2, xp2, xs2, xv2, xz2, ys2, e1, e2, e3, hsd, hside, hdiag, -⟩ := HI.out k hltk
          injection e1 with e1
          injection e1 with e4 e5
          injection e2 with e2
          injection e2 with e6 e7
          injection e3 with e3
          injection e3 with e8 e9
          subst e4 e5 e6 e7 e8 e9
          have hin : (i : Int) < (n4 : Int) := by have := HLT.out; omega
          have hkn : (k : Int) < (n4 : Int) := by omega
          have hbd := hbq.trans ((Below.refl wr.heap.size wr).drew.mono hbq.size)
          have hsd2 := hsd.keep hbd
          have HBD := Lib.hid hbd
          obtain ⟨kk, hkk⟩ : ∃ kk, n4 = k + 1 + kk := ⟨n4 - (k + 1), by omega⟩
          have HLK := Lib.hid hkk
          clear hkk
          have HDI := Lib.hid hdiag
          have q0 : ((xs2 : Int) == 0) = decide (xs2 = 0) := int_eq xs2 0
          have q1 : ((ys2 : Int) == 1) = decide (ys2 = 1) := int_eq ys2 1
          have q2 : ((xs2 : Int) == 2) = decide (xs2 = 2) := int_eq xs2 2
          have qk : ((i : Int) == (k : Int)) = decide (i = k) := int_eq i k
          clear hbq hbd hsd hltk
          cases x2 with
          | true =>
            obtain ⟨s1, s2⟩ := hside rfl
            rw [decide_eq_false s1] at q0
            rw [decide_eq_false s2] at q1
            by_cases hik : i = k
            · have hd := (hdiag hik).1
              rw [← hd] at q2
              rw [decide_eq_true hik] at qk
              clear s1 s2 hd hdiag hside hik
              go_wp2_with fail
              refine wp_region_ord [0, 1, 2, 3, 4, 5, 6, 7, 8, 9, 10, 11, 12, 13, 14, 15, 16, 17, 18, 19, 20, 21, 22, 23, 24, 25, 26, 27, 28, 29, 30, 31, 32, 33, 34, 35, 36, 37, 38, 39, 40, 41, 42, 43, 44, 45] [] 46 (fun W => Sd W w.heap.size b o i k n4 c4 b2 o2 c2' p q (some ⟨p', q', none⟩) n4 c1 true xs2 ys2) (by kernel_rfl) (by kernel_rfl) (by kernel_rfl) (by kernel_rfl) (fun _ _ _ _ _ h => h) hsd2 ?_
              simp only [steps, List.getElem?_cons_zero, List.getElem?_cons_succ]
              repeat (first
                | (refine ord_no rfl ?_; simp only [Act.put, List.setIfInBounds_toArray, List.set_cons_zero, List.set_cons_succ])
                | (refine ord_yes (v := ?_) rfl rfl ?_ ?_; rotate_left; (focus (rintro w' ⟨x0, x1, x2, x3, x4, x5⟩; go_simp; try with_reducible rfl)); simp only [Act.put, List.setIfInBounds_toArray, List.set_cons_zero, List.set_cons_succ]))
              refine ord_end ?_
              clear q0 q1 q2 qk hin hkn
              clear hsd2
              generalize wr.drew = we at *
              have hkb : k ≤ 100000 := by have := HLK.out; have := HNN.out; omega
              go_wp2_with fail
              go_roundw
              case rel => exact ⟨k + 1, by have := HLK.out; go_num, by have := HLK.out; omega, HBD.out⟩
              case measure =>
                have := HLK.out
                simp [intOf]
                omega
            · rw [decide_eq_false hik] at qk
              clear s1 s2 q2 hdiag hside hik
              go_wp2_with fail
              refine wp_region_ord [0, 1, 2, 3, 4, 5, 6, 7, 8, 9, 10, 11, 12, 13, 14, 15, 16, 17, 18, 19, 20, 21, 22, 23, 24, 25, 26, 27, 28, 29, 30, 31, 32, 33, 34, 35, 36, 37, 38, 39, 40, 41, 42, 43, 44, 45] [] 46 (fun W => Sd W w.heap.size b o i k n4 c4 b2 o2 c2' p q (some ⟨p', q', none⟩) n4 c1 true xs2 ys2) (by kernel_rfl) (by kernel_rfl) (by kernel_rfl) (by kernel_rfl) (fun _ _ _ _ _ h => h) hsd2 ?_
              simp only [steps, List.getElem?_cons_zero, List.getElem?_cons_succ]
              repeat (first
                | (refine ord_no rfl ?_; simp only [Act.put, List.setIfInBounds_toArray, List.set_cons_zero, List.set_cons_succ])
                | (refine ord_yes (v := ?_) rfl rfl ?_ ?_; rotate_left; (focus (rintro w' ⟨x0, x1, x2, x3, x4, x5⟩; go_simp; try with_reducible rfl)); simp only [Act.put, List.setIfInBounds_toArray, List.set_cons_zero, List.set_cons_succ]))
              refine ord_end ?_
              clear q0 q1 qk hin hkn
              clear hsd2
              generalize wr.drew = we at *
              have hkb : k ≤ 100000 := by have := HLK.out; have := HNN.out; omega
              go_wp2_with fail
              go_roundw
              case rel => exact ⟨k + 1, by have := HLK.out; go_num, by have := HLK.out; omega, HBD.out⟩
              case measure =>
                have := HLK.out
                simp [intOf]
                omega
          | false =>
            clear q0 q1 hside
            by_cases hik : i = k
            · have hd := (hdiag hik).1
              rw [← hd] at q2
              rw [decide_eq_true hik] at qk
              clear hd hdiag hik
              go_wp2_with fail
              refine wp_region_ord [0, 1, 2, 3, 4, 5, 6, 7, 8, 9, 10, 11, 12, 13, 14, 15, 16, 17, 18, 19, 20, 21, 22, 23, 24, 25, 26, 27, 28, 29, 30, 31, 32, 33, 34, 35, 36, 37, 38, 39, 40, 41, 42, 43, 44, 45] [] 46 (fun W => Sd W w.heap.size b o i k n4 c4 b2 o2 c2' p q (some ⟨p', q', none⟩) n4 c1 false xs2 ys2) (by kernel_rfl) (by kernel_rfl) (by kernel_rfl) (by kernel_rfl) (fun _ _ _ _ _ h => h) hsd2 ?_
              simp only [steps, List.getElem?_cons_zero, List.getElem?_cons_succ]
              repeat (first
                | (refine ord_no rfl ?_; simp only [Act.put, List.setIfInBounds_toArray, List.set_cons_zero, List.set_cons_succ])
                | (refine ord_yes (v := ?_) rfl rfl ?_ ?_; rotate_left; (focus (rintro w' ⟨x0, x1, x2, x3, x4, x5⟩; go_simp; try with_reducible rfl)); simp only [Act.put, List.setIfInBounds_toArray, List.set_cons_zero, List.set_cons_succ]))
              refine ord_end ?_
              clear q2 qk hin hkn
              clear hsd2
              generalize wr.drew = we at *
              have hkb : k ≤ 100000 := by have := HLK.out; have := HNN.out; omega
              go_wp2_with fail
              go_roundw
              case rel => exact ⟨k + 1, by have := HLK.out; go_num, by have := HLK.out; omega, HBD.out⟩
              case measure =>
                have := HLK.out
                simp [intOf]
                omega
            · rw [decide_eq_false hik] at qk
              clear q2 hdiag hik
              go_wp2_with fail
              refine wp_region_ord [0, 1, 2, 3, 4, 5, 6, 7, 8, 9, 10, 11, 12, 13, 14, 15, 16, 17, 18, 19, 20, 21, 22, 23, 24, 25, 26, 27, 28, 29, 30, 31, 32, 33, 34, 35, 36, 37, 38, 39, 40, 41, 42, 43, 44, 45] [] 46 (fun W => Sd W w.heap.size b o i k n4 c4 b2 o2 c2' p q (some ⟨p', q', none⟩) n4 c1 false xs2 ys2) (by kernel_rfl) (by kernel_rfl) (by kernel_rfl) (by kernel_rfl) (fun _ _ _ _ _ h => h) hsd2 ?_
              simp only [steps, List.getElem?_cons_zero, List.getElem?_cons_succ]
              repeat (first
                | (refine ord_no rfl ?_; simp only [Act.put, List.setIfInBounds_toArray, List.set_cons_zero, List.set_cons_succ])
                | (refine ord_yes (v := ?_) rfl rfl ?_ ?_; rotate_left; (focus (rintro w' ⟨x0, x1, x2, x3, x4, x5⟩; go_simp; try with_reducible rfl)); simp only [Act.put, List.setIfInBounds_toArray, List.set_cons_zero, List.set_cons_succ]))
              refine ord_end ?_
              clear qk hin hkn
              clear hsd2
              generalize wr.drew = we at *
              have hkb : k ≤ 100000 := by have := HLK.out; have := HNN.out; omega
              go_wp2_with fail
              go_roundw
              case rel => exact ⟨k + 1, by have := HLK.out; go_num, by have := HLK.out; omega, HBD.out⟩
              case measure =>
                have := HLK.out
                simp [intOf]
                omega
        · obtain rfl : k = n4 := by omega
          have HBQ := Lib.hid hbq
          have hib : i ≤ 100000 := by have := HLT.out; have := HNN.out; omega
          clear hltk hbq
          go_wp2_with fail
          go_roundw
          case rel => exact ⟨i + 1, by have := HLT.out; go_num, by have := HLT.out; omega, HBQ.out⟩
          case measure =>
            have := HLT.out
            simp [intOf]
            omega
    · obtain rfl : i = n4 := by omega
      clear hlt
      go_wp2
      go_ret
      exact ⟨rfl, HB.out.trans (hb.mono HB.out.size)⟩
end Go.Proofs.YtfmpecnkkbpdlaaGreat
