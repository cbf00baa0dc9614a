/- What the closure of sense tells of two spots. Condition: they can be read. -/
import Derived.Test.YtmejhedegmjboaaGreatBel
import Derived.Test.YtmejhedegmjboaaGreatSides
namespace Go.Proofs.YtmejhedegmjboaaGreat
open Go.RowKit

/-- What the closure reads. -/
structure Ix (w : World) (bl bv : Nat) (A : Option Addr) (n c : Nat) (v : Value) (A1 : Option Addr) (n1 c1 : Nat) (A2 : Option Addr) (n2 c2 : Nat) (A3 : Option Addr) (n3 c3 : Nat) : Prop where
  c0 : w.cell? ⟨bl, 0, none⟩ = some (.slice A n c)
  s0 : w.cell? ⟨bv, 0, none⟩ = some v
  s1 : w.cell? ⟨bv, 1, none⟩ = some (.slice A1 n1 c1)
  s2 : w.cell? ⟨bv, 2, none⟩ = some (.slice A2 n2 c2)
  s3 : w.cell? ⟨bv, 3, none⟩ = some (.slice A3 n3 c3)
theorem Ix.keep {w W : World} {bl bv : Nat} {A : Option Addr} {n c : Nat} {v : Value} {A1 : Option Addr} {n1 c1 : Nat} {A2 : Option Addr} {n2 c2 : Nat} {A3 : Option Addr} {n3 c3 : Nat} (h : Ix w bl bv A n c v A1 n1 c1 A2 n2 c2 A3 n3 c3) (hb : Below w.heap.size w W) : Ix W bl bv A n c v A1 n1 c1 A2 n2 c2 A3 n3 c3 :=
  ⟨cell_old h.c0 hb, cell_old h.s0 hb, cell_old h.s1 hb, cell_old h.s2 hb, cell_old h.s3 hb⟩

/-- Two spots' cells. -/
structure Iy (w : World) (b o i j : Nat) (si sj : Nat) (av : Bool) (an : Nat) (bv' : Bool) (bn : Nat) : Prop where
  i2 : w.cell? ⟨b, o + i * 5 + 2, none⟩ = some (.int .u8 (si : Int))
  i3 : w.cell? ⟨b, o + i * 5 + 3, none⟩ = some (.bool av)
  i4 : w.cell? ⟨b, o + i * 5 + 4, none⟩ = some (.int .u64 (an : Int))
  j2 : w.cell? ⟨b, o + j * 5 + 2, none⟩ = some (.int .u8 (sj : Int))
  j3 : w.cell? ⟨b, o + j * 5 + 3, none⟩ = some (.bool bv')
  j4 : w.cell? ⟨b, o + j * 5 + 4, none⟩ = some (.int .u64 (bn : Int))
theorem Iy.keep {w W : World} {b o i j si sj : Nat} {av : Bool} {an : Nat} {bv' : Bool} {bn : Nat} (h : Iy w b o i j si sj av an bv' bn) (hb : Below w.heap.size w W) : Iy W b o i j si sj av an bv' bn :=
  ⟨cell_old h.i2 hb, cell_old h.i3 hb, cell_old h.i4 hb, cell_old h.j2 hb, cell_old h.j3 hb, cell_old h.j4 hb⟩

theorem z_nat {z : Int} (h : U64 z) : ((z.toNat : Nat) : Int) = z ∧ z.toNat < 18446744073709551616 := by
  obtain ⟨h0, h1⟩ := h
  omega

set_option maxRecDepth 100000 in
set_option maxHeartbeats 4000000 in
theorem is_any (i j bl bv : Nat) (l : List Sp) (A : Option Addr) (n c : Nat) (S : Bo.Sr) (q : Nat) (lo hi : List Nat) (rc : Nat → Nat → Bool) (v : Value) (A1 : Option Addr) (n1 c1 : Nat) (A2 : Option Addr) (n2 c2 : Nat) (A3 : Option Addr) (n3 c3 : Nat) (w : World) (hx : Ix w bl bv A n c v A1 n1 c1 A2 n2 c2 A3 n3 c3) (h : SlvAt w S q lo hi rc v A1 n1 c1 A2 n2 c2 A3 n3 c3) (hr : Rs spc 5 w w.heap.size A n c l) (hz : ∀ p ∈ l, U64 p.z) (hm : ∀ p ∈ l, okT q p.v p.z.toNat) (hil : i < l.length) (hjl : j < l.length) (x : Bool) (he : belS S lo hi rc l[i] l[j] = x) :
    Calls Tryz.prog 78 #[.int .i64 (i : Int), .int .i64 (j : Int), .pointer (some ⟨bl, 0, none⟩), .pointer (some ⟨bv, 0, none⟩)] w fun e w' => e = .returned (.bool x) ∧ Below w.heap.size w w' := by
  have hlen := hr.len
  have hin : (i : Int) < (n : Int) := by omega
  have hjn : (j : Int) < (n : Int) := by omega
  obtain ⟨b, o, rfl, hbb, -, -, e2, e3, e4⟩ := spot_at hr hil
  obtain ⟨b', o', hA, -, -, -, f2, f3, f4⟩ := spot_at hr hjl
  injection hA with hA
  injection hA with hb' ho'
  subst hb' ho'
  obtain ⟨za, fa⟩ := z_nat (hz _ (List.getElem_mem hil))
  obtain ⟨zb, fb⟩ := z_nat (hz _ (List.getElem_mem hjl))
  rw [← za] at e4
  rw [← zb] at f4
  have ha := hm _ (List.getElem_mem hil)
  have hb := hm _ (List.getElem_mem hjl)
  obtain ⟨y, hy⟩ : ∃ y, alwT S lo hi rc l[i].v l[i].z.toNat l[j].v l[j].z.toNat = y := ⟨_, rfl⟩
  have HC : Hid (∀ W, Below w.heap.size w W → Calls Tryz.prog 79 #[slvV v A1 n1 c1 A2 n2 c2 A3 n3 c3, Bo.tmv l[i].v l[i].z.toNat, Bo.tmv l[j].v l[j].z.toNat] W fun e w' => e = .returned (.bool y) ∧ Below W.heap.size W w') :=
    Lib.hid fun W hW => slvBelow_any l[i].v l[i].z.toNat l[j].v l[j].z.toNat S q lo hi rc v A1 n1 c1 A2 n2 c2 A3 n3 c3 W (h.keep hW) ha hb fa fb y hy
  have he' : (!decide (l[i].s = 0) && (!decide (l[j].s = 1) && y)) = x := by rw [← hy]; exact he
  have hs := h.s
  clear he hy ha hb za zb fa fb hm hz hlen hbb h hr
  generalize l[i].s = si at *
  generalize l[j].s = sj at *
  generalize l[i].v = av at *
  generalize l[j].v = bv' at *
  generalize l[i].z.toNat = an at *
  generalize l[j].z.toNat = bn at *
  have hc : Iy w b o i j si sj av an bv' bn := ⟨e2, e3, e4, f2, f3, f4⟩
  clear e2 e3 e4 f2 f3 f4
  unfold slvV Bo.tmv at HC
  have HE := Lib.hid he'
  clear he' hil hjl
  have q0 : ((si : Int) != 0) = !decide (si = 0) := by by_cases g : si = 0 <;> simp [g]
  have q1 : ((sj : Int) != 1) = !decide (sj = 1) := by
    by_cases g : sj = 1
    · subst g; rfl
    · have : ¬ (sj : Int) = 1 := by omega
      simp [g, this]
  rcases hs with ⟨p, rfl, -⟩ | ⟨p, rfl, -⟩
  all_goals (
    go_enter Tryz.func78, Tryz.ntmps78
    go_wp2_with fail
    rw [← q0, ← q1] at HE
    by_cases g0 : si = 0
    · have q2 : ((si : Int) != 0) = false := by rw [q0]; simp [g0]
      rw [q2] at HE
      clear q0 q1 g0 HC
      refine wp_region_ord [0, 1, 2, 3, 4, 5, 6, 7, 8, 9, 10, 11, 12, 13, 14, 15, 16, 17, 18, 19, 20, 21, 22, 23, 24, 25, 26, 27, 28] [26] 29 (fun w' => Ix w' bl bv (some ⟨b, o, none⟩) n c _ A1 n1 c1 A2 n2 c2 A3 n3 c3 ∧ Iy w' b o i j si sj av an bv' bn) (by kernel_rfl) (by kernel_rfl) (by kernel_rfl) (by kernel_rfl) (fun _ _ _ _ _ h => h) ⟨hx.keep (Below.refl _ w).drew, hc.keep (Below.refl _ w).drew⟩ ?_
      simp only [steps, List.getElem?_cons_zero, List.getElem?_cons_succ]
      repeat (first
        | (refine ord_no rfl ?_; simp only [Act.put, List.setIfInBounds_toArray, List.set_cons_zero, List.set_cons_succ])
        | (refine ord_yes (v := ?_) rfl rfl ?_ ?_; rotate_left; (focus (rintro w' ⟨⟨x0, x1, x2, x3, x4⟩, x5, x6, x7, x8, x9, x10⟩; go_simp; try with_reducible rfl)); simp only [Act.put, List.setIfInBounds_toArray, List.set_cons_zero, List.set_cons_succ]))
      refine ord_end ?_
      go_wp2_with fail
      go_ret
      exact ⟨by rw [← HE.out]; rfl, (Below.refl _ w).drew⟩
    · have q2 : ((si : Int) != 0) = true := by rw [q0]; simp [g0]
      rw [q2] at HE
      by_cases g1 : sj = 1
      · have q3 : ((sj : Int) != 1) = false := by rw [q1]; simp [g1]
        rw [q3] at HE
        clear q0 q1 g0 g1 HC
        refine wp_region_ord [0, 1, 2, 3, 4, 5, 6, 7, 8, 9, 10, 11, 12, 13, 14, 15, 16, 17, 18, 19, 20, 21, 22, 23, 24, 25, 26, 27, 28] [26] 29 (fun w' => Ix w' bl bv (some ⟨b, o, none⟩) n c _ A1 n1 c1 A2 n2 c2 A3 n3 c3 ∧ Iy w' b o i j si sj av an bv' bn) (by kernel_rfl) (by kernel_rfl) (by kernel_rfl) (by kernel_rfl) (fun _ _ _ _ _ h => h) ⟨hx.keep (Below.refl _ w).drew, hc.keep (Below.refl _ w).drew⟩ ?_
        simp only [steps, List.getElem?_cons_zero, List.getElem?_cons_succ]
        repeat (first
          | (refine ord_no rfl ?_; simp only [Act.put, List.setIfInBounds_toArray, List.set_cons_zero, List.set_cons_succ])
          | (refine ord_yes (v := ?_) rfl rfl ?_ ?_; rotate_left; (focus (rintro w' ⟨⟨x0, x1, x2, x3, x4⟩, x5, x6, x7, x8, x9, x10⟩; go_simp; try with_reducible rfl)); simp only [Act.put, List.setIfInBounds_toArray, List.set_cons_zero, List.set_cons_succ]))
        refine ord_end ?_
        go_wp2_with fail
        go_ret
        exact ⟨by rw [← HE.out]; rfl, (Below.refl _ w).drew⟩
      · have q3 : ((sj : Int) != 1) = true := by rw [q1]; simp [g1]
        rw [q3] at HE
        clear q0 q1 g0 g1
        refine wp_region_ord [0, 1, 2, 3, 4, 5, 6, 7, 8, 9, 10, 11, 12, 13, 14, 15, 16, 17, 18, 19, 20, 21, 22, 23, 24, 25, 26, 27, 28] [26] 29 (fun w' => Ix w' bl bv (some ⟨b, o, none⟩) n c _ A1 n1 c1 A2 n2 c2 A3 n3 c3 ∧ Iy w' b o i j si sj av an bv' bn) (by kernel_rfl) (by kernel_rfl) (by kernel_rfl) (by kernel_rfl) (fun _ _ _ _ _ h => h) ⟨hx.keep (Below.refl _ w).drew, hc.keep (Below.refl _ w).drew⟩ ?_
        simp only [steps, List.getElem?_cons_zero, List.getElem?_cons_succ]
        repeat (first
          | (refine ord_no rfl ?_; simp only [Act.put, List.setIfInBounds_toArray, List.set_cons_zero, List.set_cons_succ])
          | (refine ord_yes (v := ?_) rfl rfl ?_ ?_; rotate_left; (focus (rintro w' ⟨⟨x0, x1, x2, x3, x4⟩, x5, x6, x7, x8, x9, x10⟩; go_simp; try with_reducible rfl)); simp only [Act.put, List.setIfInBounds_toArray, List.set_cons_zero, List.set_cons_succ]))
        refine ord_hard rfl rfl (fun K hK => ?_)
        go_simp
        refine (HC.out _ (Below.refl _ w).drew).mono ?_
        rintro e w1 ⟨rfl, hv⟩
        have hv2 := (Below.refl w.heap.size w).drew.trans (hv.mono (Below.refl w.heap.size w).drew.size)
        replace hx := hx.keep hv2
        replace hc := hc.keep hv2
        refine hK.out _ _ (fun _ => ⟨hx, hc⟩) ?_
        clear hK K
        try simp only [Act.put, List.setIfInBounds_toArray, List.set_cons_zero, List.set_cons_succ]
        repeat (first
          | (refine ord_no rfl ?_; simp only [Act.put, List.setIfInBounds_toArray, List.set_cons_zero, List.set_cons_succ])
          | (refine ord_yes (v := ?_) rfl rfl ?_ ?_; rotate_left; (focus (rintro w' ⟨⟨x0, x1, x2, x3, x4⟩, x5, x6, x7, x8, x9, x10⟩; go_simp; try with_reducible rfl)); simp only [Act.put, List.setIfInBounds_toArray, List.set_cons_zero, List.set_cons_succ]))
        refine ord_end ?_
        go_wp2_with fail
        go_ret
        exact ⟨by rw [← HE.out]; rfl, hv2⟩)
end Go.Proofs.YtmejhedegmjboaaGreat
