/- What on tells of a sense. Condition: it can be read. -/
import Derived.Test.YtfdjdgikmhecdaaGreatFct
namespace Go.Proofs.YtfdjdgikmhecdaaGreat
open Go.RowKit

/-- What is read of a sense at three places. -/
structure On3 (w : World) (g b o i k m n c4 : Nat) (bi oi ci bk ok ck : Nat) (x y z : Bool) : Prop where
  z3 : w.cell? ⟨g, 3, none⟩ = some (.slice (some ⟨b, o, none⟩) n c4)
  ri : w.cell? ⟨b, o + i, none⟩ = some (.slice (some ⟨bi, oi, none⟩) n ci)
  rk : w.cell? ⟨b, o + k, none⟩ = some (.slice (some ⟨bk, ok, none⟩) n ck)
  ik : w.cell? ⟨bi, oi + k, none⟩ = some (.bool x)
  km : w.cell? ⟨bk, ok + m, none⟩ = some (.bool y)
  im : w.cell? ⟨bi, oi + m, none⟩ = some (.bool z)
/-- What is read of it at two places. -/
structure On2 (w : World) (g i k n c1 c2 c3 p q bl ol bh oh xs ys a1 a2 b1 b2 : Nat) : Prop where
  z0 : w.cell? ⟨g, 0, none⟩ = some (.slice (some ⟨p, q, none⟩) n c1)
  z1 : w.cell? ⟨g, 1, none⟩ = some (.slice (some ⟨bl, ol, none⟩) n c2)
  z2 : w.cell? ⟨g, 2, none⟩ = some (.slice (some ⟨bh, oh, none⟩) n c3)
  si : w.cell? ⟨p, q + i * 5 + 2, none⟩ = some (.int .u8 (xs : Int))
  sk : w.cell? ⟨p, q + k * 5 + 2, none⟩ = some (.int .u8 (ys : Int))
  li : w.cell? ⟨bl, ol + i, none⟩ = some (.int .u64 (a1 : Int))
  lk : w.cell? ⟨bl, ol + k, none⟩ = some (.int .u64 (a2 : Int))
  hi : w.cell? ⟨bh, oh + i, none⟩ = some (.int .u64 (b1 : Int))
  hk : w.cell? ⟨bh, oh + k, none⟩ = some (.int .u64 (b2 : Int))
theorem On2.keep {w W : World} {g i k n c1 c2 c3 p q bl ol bh oh xs ys a1 a2 b1 b2 : Nat} (h : On2 w g i k n c1 c2 c3 p q bl ol bh oh xs ys a1 a2 b1 b2) (hb : Below w.heap.size w W) : On2 W g i k n c1 c2 c3 p q bl ol bh oh xs ys a1 a2 b1 b2 :=
  ⟨cell_old h.z0 hb, cell_old h.z1 hb, cell_old h.z2 hb, cell_old h.si hb, cell_old h.sk hb, cell_old h.li hb, cell_old h.lk hb, cell_old h.hi hb, cell_old h.hk hb⟩

set_option maxRecDepth 100000 in
set_option maxHeartbeats 8000000 in
theorem on_any (v : Value) (S : Bo.Sr) (A1 : Option Addr) (n1 c1 : Nat) (A2 : Option Addr) (n2 c2 : Nat) (A3 : Option Addr) (n3 c3 : Nat) (A4 : Option Addr) (n4 c4 : Nat) (z : Sen) (w : World) (hv : Srt3 w v S) (h : SenAt w z A1 n1 c1 A2 n2 c2 A3 n3 c3 A4 n4 c4) (hs : OnIs S z) (hn : n1 ≤ 100000) :
    Calls Tryz.prog 34 #[v, senV A1 n1 c1 A2 n2 c2 A3 n3 c3 A4 n4 c4] w fun e w' => e = .returned (.bool true) ∧ Below w.heap.size w w' := by
  unfold senV
  obtain rfl : n2 = n1 := by rw [← h.rl.len, hs.lo, h.rp.len]
  obtain rfl : n3 = n2 := by rw [← h.rh.len, hs.hi, h.rp.len]
  obtain rfl : n4 = n3 := by rw [← h.rb.len, hs.be, h.rp.len]
  have hk := heap_alloc_new w (.cells #[.slice A1 n4 c1, .slice A2 n4 c2, .slice A3 n4 c3, .slice A4 n4 c4] 28)
  have hal : Below w.heap.size w (w.alloc (.cells #[.slice A1 n4 c1, .slice A2 n4 c2, .slice A3 n4 c3, .slice A4 n4 c4] 28)) := (Below.refl _ _).alloc (Nat.le_refl _) _
  have z0 := (cell_blk (i := 0) hk).trans rfl
  have z1 := (cell_blk (i := 1) hk).trans rfl
  have z2 := (cell_blk (i := 2) hk).trans rfl
  have z3 := (cell_blk (i := 3) hk).trans rfl
  obtain ⟨u, hu⟩ : ∃ u, w.alloc (.cells #[.slice A1 n4 c1, .slice A2 n4 c2, .slice A3 n4 c3, .slice A4 n4 c4] 28) = u := ⟨_, rfl⟩
  rw [hu] at hk hal z0 z1 z2 z3
  have hu' := h.keep hal
  have hbl : z.be.length = n4 := hu'.rb.len
  have hrl : ∀ i (g : i < z.be.length), z.be[i].length = n4 := fun i g => by rw [hs.row _ (List.getElem_mem g), hu'.rp.len]
  have HZ3 : Hid (∀ W, Below u.heap.size u W → W.cell? ⟨w.heap.size, 3, none⟩ = some (.slice A4 n4 c4)) := Lib.hid fun W hW => cell_old z3 hW
  have HA : Hid (∀ i, i < n4 → ∀ k, k < n4 → ∃ (b o bi oi ci : Nat) (x : Bool), A4 = some ⟨b, o, none⟩ ∧ (∀ W, Below u.heap.size u W → W.cell? ⟨b, o + i, none⟩ = some (.slice (some ⟨bi, oi, none⟩) n4 ci) ∧ W.cell? ⟨bi, oi + k, none⟩ = some (.bool x)) ∧
      (∀ m, m < n4 → ∃ (bk ok ck : Nat) (y z' : Bool), (x = true → y = true → z' = true) ∧ ∀ W, Below u.heap.size u W → On3 W w.heap.size b o i k m n4 c4 bi oi ci bk ok ck x y z') ∧
      ∃ (p q bl ol bh oh xs ys a1 a2 b1 b2 : Nat), A1 = some ⟨p, q, none⟩ ∧ A2 = some ⟨bl, ol, none⟩ ∧ A3 = some ⟨bh, oh, none⟩ ∧ (x = true → xs = 2 → S.below a1 a2 = true) ∧ (x = true → ys = 2 → S.below b1 b2 = true) ∧ (a1 < 18446744073709551616 ∧ a2 < 18446744073709551616 ∧ b1 < 18446744073709551616 ∧ b2 < 18446744073709551616) ∧ ∀ W, Below u.heap.size u W → On2 W w.heap.size i k n4 c1 c2 c3 p q bl ol bh oh xs ys a1 a2 b1 b2) := Lib.hid fun i hi k hk' => by
    have hib : i < z.be.length := by rw [hbl]; exact hi
    have hkb : k < z.be.length := by rw [hbl]; exact hk'
    have hik : k < z.be[i].length := by rw [hrl]; exact hk'
    obtain ⟨b, o, bi, oi, ci, rfl, -, k1, -, k2⟩ := hu'.rb.at' hib hik
    rw [hrl] at k1
    refine ⟨b, o, bi, oi, ci, z.be[i][k], rfl, fun W hW => ⟨cell_old k1 hW, cell_old k2 hW⟩, fun m hm => ?_, ?_⟩
    · have hmb : m < z.be.length := by rw [hbl]; exact hm
      have hkm : m < z.be[k].length := by rw [hrl]; exact hm
      have him : m < z.be[i].length := by rw [hrl]; exact hm
      obtain ⟨b', o', bk, ok, ck, e, -, k3, -, k4⟩ := hu'.rb.at' hkb hkm
      injection e with e
      injection e with e1 e2
      subst e1 e2
      rw [hrl] at k3
      obtain ⟨b', o', bi', oi', ci', e, -, k5, -, k6⟩ := hu'.rb.at' hib him
      injection e with e
      injection e with e1 e2
      subst e1 e2
      rw [hrl] at k5
      have e3 := k1.symm.trans k5
      injection e3 with e3
      injection e3 with e3 e4 e5
      injection e3 with e3
      injection e3 with e6 e7
      subst e6 e7
      exact ⟨bk, ok, ck, z.be[k][m], z.be[i][m], hs.on i hib k hkb m hmb hik hkm him, fun W hW => ⟨HZ3.out W hW, cell_old k1 hW, cell_old k3 hW, cell_old k2 hW, cell_old k4 hW, cell_old k6 hW⟩⟩
    · have hip : i < z.p.length := by rw [h.rp.len]; exact hi
      have hkp : k < z.p.length := by rw [h.rp.len]; exact hk'
      have hil : i < z.lo.length := by rw [hs.lo]; exact hip
      have hkl : k < z.lo.length := by rw [hs.lo]; exact hkp
      have hih : i < z.hi.length := by rw [hs.hi]; exact hip
      have hkh : k < z.hi.length := by rw [hs.hi]; exact hkp
      obtain ⟨p, q, rfl, -, -, -, f2, -, -⟩ := spot_at hu'.rp hip
      obtain ⟨p2, q2, e3, -, -, -, g2, -, -⟩ := spot_at hu'.rp hkp
      injection e3 with e3
      injection e3 with e5 e6
      subst e5 e6
      obtain ⟨bl, ol, rfl, -, hl⟩ := hu'.rl.spot (by omega)
      obtain ⟨bh, oh, rfl, -, hh⟩ := hu'.rh.spot (by omega)
      exact ⟨p, q, bl, ol, bh, oh, z.p[i].s, z.p[k].s, z.lo[i], z.lo[k], z.hi[i], z.hi[k], rfl, rfl, rfl, hs.low i hib k hkb hik hip hil hkl, hs.high i hib k hkb hik hkp hih hkh, ⟨h.fl _ (List.getElem_mem hil), h.fl _ (List.getElem_mem hkl), h.fh _ (List.getElem_mem hih), h.fh _ (List.getElem_mem hkh)⟩,
        fun W hW => ⟨cell_old z0 hW, cell_old z1 hW, cell_old z2 hW, cell_old f2 hW, cell_old g2 hW, cell_old (hl i hil) hW, cell_old (hl k hkl) hW, cell_old (hh i hih) hW, cell_old (hh k hkh) hW⟩⟩
  have HB := Lib.hid hal
  have HNN := Lib.hid hn
  have HSV := Lib.hid hv
  have HW0 := Lib.hid hal
  clear hk hal h hs hn hu' hbl hrl z0 z1 z2 hv
  have hsv := HSV.out
  rcases hsv with ⟨pa, rfl, hans⟩ | ⟨pa, rfl, hans⟩
  all_goals (
    have HANS := Lib.hid hans
    clear hans
    go_enter Tryz.func34, Tryz.ntmps34
    go_wp2_with fail
    clear hu z3
    go_loopw [5] (fun v5 wr => ∃ i : Nat, v5 = .int .i64 (i : Int) ∧ i ≤ n4 ∧ Below u.heap.size u wr) (fun v5 _ => n4 - (intOf v5).toNat)
    case atStart => exact ⟨0, rfl, by omega, Below.refl _ _⟩
    case round =>
      obtain ⟨i, rfl, hi, hb⟩ := hrel
      have z3 := HZ3.out _ hb
      have HBR := Lib.hid hb
      clear hb
      by_cases hlt : i < n4
      · obtain ⟨ii, hii⟩ : ∃ ii, n4 = i + 1 + ii := ⟨n4 - (i + 1), by omega⟩
        have HLT := Lib.hid hii
        clear hii
        have hin : (i : Int) < (n4 : Int) := by omega
        have HI := Lib.hid (HA.out i hlt)
        clear hlt
        go_wp2_with fail
        clear hin z3
        obtain ⟨wo, rfl⟩ : ∃ wo, wo = wr := ⟨_, rfl⟩
        go_loopw [6] (fun v6 wq => ∃ k : Nat, v6 = .int .i64 (k : Int) ∧ k ≤ n4 ∧ Below u.heap.size u wq) (fun v6 _ => n4 - (intOf v6).toNat)
        case atStart => exact ⟨0, rfl, by omega, HBR.out⟩
        case round =>
          clear HBR
          obtain ⟨k, rfl, hk, hbq⟩ := hrel
          have z3 := HZ3.out _ hbq
          have HBQ := Lib.hid hbq
          clear hbq
          by_cases hltk : k < n4
          · obtain ⟨kk, hkk⟩ : ∃ kk, n4 = k + 1 + kk := ⟨n4 - (k + 1), by omega⟩
            have HLK := Lib.hid hkk
            clear hkk
            have hin : (i : Int) < (n4 : Int) := by have := HLT.out; omega
            have hkn : (k : Int) < (n4 : Int) := by omega
            obtain ⟨b, o, bi, oi, ci, x, e4, hc, h3, p, q, bl, ol, bh, oh, xs, ys, a1, a2, b1, b2, e1, e2, e3, hlow, hhigh, hfit, h2⟩ := HI.out k hltk
            obtain ⟨t1, t2⟩ := hc _ HBQ.out
            have H3 := Lib.hid h3
            have H2 := Lib.hid h2
            have HLOW := Lib.hid hlow
            have HHIGH := Lib.hid hhigh
            have HFIT := Lib.hid hfit
            have HE := Lib.hid (And.intro e4 (And.intro e1 (And.intro e2 e3)))
            rw [e4] at z3
            clear hc h3 h2 hltk e1 e2 e3 e4 hlow hhigh hfit
            cases x with
            | false =>
              have hkb : k ≤ 100000 := by have := HLK.out; have := HNN.out; omega
              go_wp2_with fail
              go_roundw
              case rel => exact ⟨k + 1, by have := HLK.out; go_num, by have := HLK.out; omega, HBQ.out⟩
              case measure =>
                have := HLK.out
                simp [intOf]
                omega
            | true =>
              have HLOW2 := Lib.hid (HLOW.out rfl)
              have HHIGH2 := Lib.hid (HHIGH.out rfl)
              have H33 : Hid (∀ m, m < n4 → ∃ (bk ok ck : Nat) (y z' : Bool), (y = true → z' = true) ∧ ∀ W, Below u.heap.size u W → On3 W w.heap.size b o i k m n4 c4 bi oi ci bk ok ck true y z') := Lib.hid fun m hm => by
                obtain ⟨bk, ok, ck, y, z', h1, h2⟩ := H3.out m hm
                exact ⟨bk, ok, ck, y, z', h1 rfl, h2⟩
              clear HLOW HHIGH H3
              go_wp2_with fail
              clear t1 t2 z3 hin hkn
              obtain ⟨wp, rfl⟩ : ∃ wp, wp = wr := ⟨_, rfl⟩
              go_loopw [7] (fun v7 wm => ∃ m : Nat, v7 = .int .i64 (m : Int) ∧ m ≤ n4 ∧ Below u.heap.size u wm) (fun v7 _ => n4 - (intOf v7).toNat)
              case atStart => exact ⟨0, rfl, by omega, HBQ.out⟩
              case round =>
                clear HBQ
                obtain ⟨m, rfl, hm, hbm⟩ := hrel
                have z3 := HZ3.out _ hbm
                rw [HE.out.1] at z3
                have HBM := Lib.hid hbm
                clear hbm
                have hin : (i : Int) < (n4 : Int) := by have := HLT.out; omega
                have hkn : (k : Int) < (n4 : Int) := by have := HLK.out; omega
                by_cases hltm : m < n4
                · obtain ⟨mm, hmm⟩ : ∃ mm, n4 = m + 1 + mm := ⟨n4 - (m + 1), by omega⟩
                  have HLM := Lib.hid hmm
                  clear hmm
                  have hmn : (m : Int) < (n4 : Int) := by omega
                  obtain ⟨bk, ok, ck, y, z', hyz, hcells⟩ := H33.out m hltm
                  obtain ⟨u1, u2, u3, u4, u5, u6⟩ := hcells _ HBM.out
                  clear hcells hltm z3
                  have hmb : m ≤ 100000 := by have := HLM.out; have := HNN.out; omega
                  cases y with
                  | true =>
                    obtain rfl := hyz rfl
                    clear hyz
                    go_wp2_with fail
                    clear u1 u2 u3 u4 u5 u6 hin hkn hmn
                    go_roundw
                    case rel => exact ⟨m + 1, by have := HLM.out; go_num, by have := HLM.out; omega, HBM.out⟩
                    case measure =>
                      have := HLM.out
                      simp [intOf]
                      omega
                  | false =>
                    clear hyz
                    go_wp2_with fail
                    clear u1 u2 u3 u4 u5 u6 hin hkn hmn
                    go_roundw
                    case rel => exact ⟨m + 1, by have := HLM.out; go_num, by have := HLM.out; omega, HBM.out⟩
                    case measure =>
                      have := HLM.out
                      simp [intOf]
                      omega
                · obtain rfl : m = n4 := by omega
                  clear hltm
                  have hbd := HBM.out.trans ((Below.refl wr.heap.size wr).drew.mono HBM.out.size)
                  have h2 := H2.out _ hbd
                  have HBD := Lib.hid hbd
                  obtain ⟨-, rfl, rfl, rfl⟩ := HE.out
                  have q1 : ((xs : Int) == 2) = decide (xs = 2) := int_eq xs 2
                  have q2 : ((ys : Int) == 2) = decide (ys = 2) := int_eq ys 2
                  clear hbd HE
                  go_wp2_with fail
                  clear z3
                  by_cases g1 : xs = 2
                  · by_cases g2 : ys = 2
                    · rw [decide_eq_true g1] at q1
                      rw [decide_eq_true g2] at q2
                      have hl1 := HLOW2.out g1
                      have HL1 := Lib.hid hl1
                      clear hl1
                      have hl2 := HHIGH2.out g2
                      have HL2 := Lib.hid hl2
                      clear hl2
                      clear g1 g2 HLOW2 HHIGH2
                      have hn1 := Bo.nil_la_Below pa
                      have hn2 := Bo.nil_ef_Below pa
                      refine wp_region_ord [0, 1, 2, 3, 4, 5, 6, 7, 8, 9, 10, 11, 12, 13, 14, 15, 16, 17, 18, 19, 20, 21, 22, 23, 24, 25, 26, 27, 28, 29, 30, 31, 32, 33, 34, 35, 36, 37, 38, 39, 40, 41, 42, 43, 44, 45, 46, 47, 48, 49, 50, 51] [22, 48] 52 (fun W => On2 W w.heap.size i k m c1 c2 c3 p q bl ol bh oh xs ys a1 a2 b1 b2) (by kernel_rfl) (by kernel_rfl) (by kernel_rfl) (by kernel_rfl) (fun _ _ _ _ _ h => h) h2 ?_
                      simp only [steps, List.getElem?_cons_zero, List.getElem?_cons_succ]
                      repeat (first
                        | (refine ord_no rfl ?_; simp only [Act.put, List.setIfInBounds_toArray, List.set_cons_zero, List.set_cons_succ])
                        | (refine ord_yes (v := ?_) rfl rfl ?_ ?_; rotate_left; (focus (rintro w' ⟨x0, x1, x2, x3, x4, x5, x6, x7, x8⟩; go_simp; try with_reducible rfl)); simp only [Act.put, List.setIfInBounds_toArray, List.set_cons_zero, List.set_cons_succ]))
                      clear h2
                      generalize wr.drew = we at *
                      refine ord_hard rfl rfl (fun K hK => ?_)
                      go_simp
                      go_invoke
                      go_simp
                      have hcal := HANS.out.below _ (HW0.out.trans (HBD.out.mono HW0.out.size)) a1 a2 HFIT.out.1 HFIT.out.2.1
                      rw [HL1.out] at hcal
                      refine hcal.mono ?_
                      rintro e w11 ⟨rfl, hv⟩
                      clear hcal
                      have hbd := HBD.out.trans (hv.mono HBD.out.size)
                      have HBD1 := Lib.hid hbd
                      clear hv HBD
                      refine hK.out _ _ (fun _ => H2.out _ hbd) ?_
                      clear hK K hbd
                      try simp only [Act.put, List.setIfInBounds_toArray, List.set_cons_zero, List.set_cons_succ]
                      repeat (first
                        | (refine ord_no rfl ?_; simp only [Act.put, List.setIfInBounds_toArray, List.set_cons_zero, List.set_cons_succ])
                        | (refine ord_yes (v := ?_) rfl rfl ?_ ?_; rotate_left; (focus (rintro w' ⟨x0, x1, x2, x3, x4, x5, x6, x7, x8⟩; go_simp; try with_reducible rfl)); simp only [Act.put, List.setIfInBounds_toArray, List.set_cons_zero, List.set_cons_succ]))
                      refine ord_hard rfl rfl (fun K hK => ?_)
                      go_simp
                      go_invoke
                      go_simp
                      have hcal := HANS.out.below _ (HW0.out.trans (HBD1.out.mono HW0.out.size)) b1 b2 HFIT.out.2.2.1 HFIT.out.2.2.2
                      rw [HL2.out] at hcal
                      refine hcal.mono ?_
                      rintro e w12 ⟨rfl, hv⟩
                      clear hcal
                      have hbd := HBD1.out.trans (hv.mono HBD1.out.size)
                      have HBD2 := Lib.hid hbd
                      clear hv HBD1
                      refine hK.out _ _ (fun _ => H2.out _ hbd) ?_
                      clear hK K hbd
                      try simp only [Act.put, List.setIfInBounds_toArray, List.set_cons_zero, List.set_cons_succ]
                      repeat (first
                        | (refine ord_no rfl ?_; simp only [Act.put, List.setIfInBounds_toArray, List.set_cons_zero, List.set_cons_succ])
                        | (refine ord_yes (v := ?_) rfl rfl ?_ ?_; rotate_left; (focus (rintro w' ⟨x0, x1, x2, x3, x4, x5, x6, x7, x8⟩; go_simp; try with_reducible rfl)); simp only [Act.put, List.setIfInBounds_toArray, List.set_cons_zero, List.set_cons_succ]))
                      refine ord_end ?_
                      clear hn1 hn2
                      clear q1 q2 hin hkn
                      have hkb : k ≤ 100000 := by have := HLK.out; have := HNN.out; omega
                      go_wp2_with fail
                      go_roundw
                      case rel => exact ⟨k + 1, by have := HLK.out; go_num, by have := HLK.out; omega, HBD2.out⟩
                      case measure =>
                        have := HLK.out
                        simp [intOf]
                        omega
                    · rw [decide_eq_true g1] at q1
                      rw [decide_eq_false g2] at q2
                      have hl1 := HLOW2.out g1
                      have HL1 := Lib.hid hl1
                      clear hl1
                      clear g1 g2 HLOW2 HHIGH2
                      have hn1 := Bo.nil_la_Below pa
                      have hn2 := Bo.nil_ef_Below pa
                      refine wp_region_ord [0, 1, 2, 3, 4, 5, 6, 7, 8, 9, 10, 11, 12, 13, 14, 15, 16, 17, 18, 19, 20, 21, 22, 23, 24, 25, 26, 27, 28, 29, 30, 31, 32, 33, 34, 35, 36, 37, 38, 39, 40, 41, 42, 43, 44, 45, 46, 47, 48, 49, 50, 51] [22, 48] 52 (fun W => On2 W w.heap.size i k m c1 c2 c3 p q bl ol bh oh xs ys a1 a2 b1 b2) (by kernel_rfl) (by kernel_rfl) (by kernel_rfl) (by kernel_rfl) (fun _ _ _ _ _ h => h) h2 ?_
                      simp only [steps, List.getElem?_cons_zero, List.getElem?_cons_succ]
                      repeat (first
                        | (refine ord_no rfl ?_; simp only [Act.put, List.setIfInBounds_toArray, List.set_cons_zero, List.set_cons_succ])
                        | (refine ord_yes (v := ?_) rfl rfl ?_ ?_; rotate_left; (focus (rintro w' ⟨x0, x1, x2, x3, x4, x5, x6, x7, x8⟩; go_simp; try with_reducible rfl)); simp only [Act.put, List.setIfInBounds_toArray, List.set_cons_zero, List.set_cons_succ]))
                      clear h2
                      generalize wr.drew = we at *
                      refine ord_hard rfl rfl (fun K hK => ?_)
                      go_simp
                      go_invoke
                      go_simp
                      have hcal := HANS.out.below _ (HW0.out.trans (HBD.out.mono HW0.out.size)) a1 a2 HFIT.out.1 HFIT.out.2.1
                      rw [HL1.out] at hcal
                      refine hcal.mono ?_
                      rintro e w11 ⟨rfl, hv⟩
                      clear hcal
                      have hbd := HBD.out.trans (hv.mono HBD.out.size)
                      have HBD1 := Lib.hid hbd
                      clear hv HBD
                      refine hK.out _ _ (fun _ => H2.out _ hbd) ?_
                      clear hK K hbd
                      try simp only [Act.put, List.setIfInBounds_toArray, List.set_cons_zero, List.set_cons_succ]
                      repeat (first
                        | (refine ord_no rfl ?_; simp only [Act.put, List.setIfInBounds_toArray, List.set_cons_zero, List.set_cons_succ])
                        | (refine ord_yes (v := ?_) rfl rfl ?_ ?_; rotate_left; (focus (rintro w' ⟨x0, x1, x2, x3, x4, x5, x6, x7, x8⟩; go_simp; try with_reducible rfl)); simp only [Act.put, List.setIfInBounds_toArray, List.set_cons_zero, List.set_cons_succ]))
                      refine ord_end ?_
                      clear hn1 hn2
                      clear q1 q2 hin hkn
                      have hkb : k ≤ 100000 := by have := HLK.out; have := HNN.out; omega
                      go_wp2_with fail
                      go_roundw
                      case rel => exact ⟨k + 1, by have := HLK.out; go_num, by have := HLK.out; omega, HBD1.out⟩
                      case measure =>
                        have := HLK.out
                        simp [intOf]
                        omega
                  · by_cases g2 : ys = 2
                    · rw [decide_eq_false g1] at q1
                      rw [decide_eq_true g2] at q2
                      have hl2 := HHIGH2.out g2
                      have HL2 := Lib.hid hl2
                      clear hl2
                      clear g1 g2 HLOW2 HHIGH2
                      have hn1 := Bo.nil_la_Below pa
                      have hn2 := Bo.nil_ef_Below pa
                      refine wp_region_ord [0, 1, 2, 3, 4, 5, 6, 7, 8, 9, 10, 11, 12, 13, 14, 15, 16, 17, 18, 19, 20, 21, 22, 23, 24, 25, 26, 27, 28, 29, 30, 31, 32, 33, 34, 35, 36, 37, 38, 39, 40, 41, 42, 43, 44, 45, 46, 47, 48, 49, 50, 51] [22, 48] 52 (fun W => On2 W w.heap.size i k m c1 c2 c3 p q bl ol bh oh xs ys a1 a2 b1 b2) (by kernel_rfl) (by kernel_rfl) (by kernel_rfl) (by kernel_rfl) (fun _ _ _ _ _ h => h) h2 ?_
                      simp only [steps, List.getElem?_cons_zero, List.getElem?_cons_succ]
                      repeat (first
                        | (refine ord_no rfl ?_; simp only [Act.put, List.setIfInBounds_toArray, List.set_cons_zero, List.set_cons_succ])
                        | (refine ord_yes (v := ?_) rfl rfl ?_ ?_; rotate_left; (focus (rintro w' ⟨x0, x1, x2, x3, x4, x5, x6, x7, x8⟩; go_simp; try with_reducible rfl)); simp only [Act.put, List.setIfInBounds_toArray, List.set_cons_zero, List.set_cons_succ]))
                      clear h2
                      generalize wr.drew = we at *
                      refine ord_hard rfl rfl (fun K hK => ?_)
                      go_simp
                      go_invoke
                      go_simp
                      have hcal := HANS.out.below _ (HW0.out.trans (HBD.out.mono HW0.out.size)) b1 b2 HFIT.out.2.2.1 HFIT.out.2.2.2
                      rw [HL2.out] at hcal
                      refine hcal.mono ?_
                      rintro e w11 ⟨rfl, hv⟩
                      clear hcal
                      have hbd := HBD.out.trans (hv.mono HBD.out.size)
                      have HBD1 := Lib.hid hbd
                      clear hv HBD
                      refine hK.out _ _ (fun _ => H2.out _ hbd) ?_
                      clear hK K hbd
                      try simp only [Act.put, List.setIfInBounds_toArray, List.set_cons_zero, List.set_cons_succ]
                      repeat (first
                        | (refine ord_no rfl ?_; simp only [Act.put, List.setIfInBounds_toArray, List.set_cons_zero, List.set_cons_succ])
                        | (refine ord_yes (v := ?_) rfl rfl ?_ ?_; rotate_left; (focus (rintro w' ⟨x0, x1, x2, x3, x4, x5, x6, x7, x8⟩; go_simp; try with_reducible rfl)); simp only [Act.put, List.setIfInBounds_toArray, List.set_cons_zero, List.set_cons_succ]))
                      refine ord_end ?_
                      clear hn1 hn2
                      clear q1 q2 hin hkn
                      have hkb : k ≤ 100000 := by have := HLK.out; have := HNN.out; omega
                      go_wp2_with fail
                      go_roundw
                      case rel => exact ⟨k + 1, by have := HLK.out; go_num, by have := HLK.out; omega, HBD1.out⟩
                      case measure =>
                        have := HLK.out
                        simp [intOf]
                        omega
                    · rw [decide_eq_false g1] at q1
                      rw [decide_eq_false g2] at q2
                      clear g1 g2 HLOW2 HHIGH2
                      have hn1 := Bo.nil_la_Below pa
                      have hn2 := Bo.nil_ef_Below pa
                      refine wp_region_ord [0, 1, 2, 3, 4, 5, 6, 7, 8, 9, 10, 11, 12, 13, 14, 15, 16, 17, 18, 19, 20, 21, 22, 23, 24, 25, 26, 27, 28, 29, 30, 31, 32, 33, 34, 35, 36, 37, 38, 39, 40, 41, 42, 43, 44, 45, 46, 47, 48, 49, 50, 51] [22, 48] 52 (fun W => On2 W w.heap.size i k m c1 c2 c3 p q bl ol bh oh xs ys a1 a2 b1 b2) (by kernel_rfl) (by kernel_rfl) (by kernel_rfl) (by kernel_rfl) (fun _ _ _ _ _ h => h) h2 ?_
                      simp only [steps, List.getElem?_cons_zero, List.getElem?_cons_succ]
                      repeat (first
                        | (refine ord_no rfl ?_; simp only [Act.put, List.setIfInBounds_toArray, List.set_cons_zero, List.set_cons_succ])
                        | (refine ord_yes (v := ?_) rfl rfl ?_ ?_; rotate_left; (focus (rintro w' ⟨x0, x1, x2, x3, x4, x5, x6, x7, x8⟩; go_simp; try with_reducible rfl)); simp only [Act.put, List.setIfInBounds_toArray, List.set_cons_zero, List.set_cons_succ]))
                      clear h2
                      generalize wr.drew = we at *
                      refine ord_end ?_
                      clear hn1 hn2
                      clear q1 q2 hin hkn
                      have hkb : k ≤ 100000 := by have := HLK.out; have := HNN.out; omega
                      go_wp2_with fail
                      go_roundw
                      case rel => exact ⟨k + 1, by have := HLK.out; go_num, by have := HLK.out; omega, HBD.out⟩
                      case measure =>
                        have := HLK.out
                        simp [intOf]
                        omega
          · obtain rfl : k = n4 := by omega
            have hib : i ≤ 100000 := by have := HLT.out; have := HNN.out; omega
            clear hltk
            go_wp2_with fail
            go_roundw
            case rel => exact ⟨i + 1, by have := HLT.out; go_num, by have := HLT.out; omega, HBQ.out⟩
            case measure =>
              have := HLT.out
              simp [intOf]
              omega
      · obtain rfl : i = n4 := by omega
        clear hlt
        go_wp2
        go_ret
        exact ⟨rfl, HB.out.trans (HBR.out.mono HB.out.size)⟩)
end Go.Proofs.YtfdjdgikmhecdaaGreat
