/- Proved: whatever the number, the text and the bytes ahead and behind, NumsBack answers true: what is put is got, whatever stands behind it, and cut it is too short. No condition. -/
import Derived.Test.YtakkmmnpocbakaaBackPlain
import Derived.Test.YtakkmmnpocbakaaOpen
import Derived.Test.YtakkmmnpocbakaaRows
import Derived.Test.YtakkmmnpocbakaaOrder
import Derived.Lib.SmallJoins
namespace Go.Proofs.Ytakkmmnpocbakaa.numsBack
open Go.ChangeShapes Go.WideShapes Go.ChangeAt Go.RowKit
open Go.ChangeMaps (open_string shut_string)

theorem own : ownKnob Try.prog.godebug = none := by kernel_rfl
theorem laidOut : laidOutB Try.prog = true := by kernel_rfl

set_option maxRecDepth 100000 in
set_option maxHeartbeats 8000000 in
theorem walk_small (x : Nat) (s : ByteArray) (A1 A2 : Option Addr) (n1 c1 n2 c2 : Nat) (l1 l2 : List UInt8) (w : World) (hx : x < 18446744073709551616) (hs : s.size ≤ 20000) (h1 : Rd w w.heap.size A1 n1 c1 l1) (h2 : Rd w w.heap.size A2 n2 c2 l2) (hn1 : n1 ≤ 20000) (hn2 : n2 ≤ 20000) :
    Calls Try.prog 4 #[.int .u64 (x : Int), .string s, .agg #[.slice A1 n1 c1, .slice A2 n2 c2]] w fun e w' => e = .returned (.bool true) ∧ Below w.heap.size w w' := by
  have HX := Lib.hid hx
  clear hx
  have t1 : decide (20000 < (s.size : Int)) = false := by simp; omega
  have t2 : decide (20000 < (n1 : Int)) = false := by simp; omega
  have t3 : decide (20000 < (n2 : Int)) = false := by simp; omega
  have b0 : Below w.heap.size w (w.alloc (.cells #[.slice A1 n1 c1, .slice A2 n2 c2] 36)) := (Below.refl _ _).alloc (Nat.le_refl _) _
  have z0 := Boxed.new w (.slice A1 n1 c1) (.slice A2 n2 c2) 36
  go_enter Try.func4, Try.ntmps4
  go_wp2_with fail
  refine (alive_any _).mono ?_
  rintro e w1 ⟨rfl, ba⟩
  have z1 := z0.keep ba
  have b1 := Below.then b0 ba
  have zc0 := z1.c0
  have zc1 := z1.c1
  have r1 := h1.at_size (Nat.le_refl _) b1
  clear z0 b0 ba
  go_wp2_with fail
  refine (put_any A1 n1 c1 l1 (x : Int) _ r1 (by omega) (by have := HX.out; omega) (by omega)).mono ?_
  rintro e w2 ⟨Aa, na, ca, rfl, fa⟩
  have z2 := z1.keep fa.bel
  have b2 := Below.then b1 fa.bel
  have ra := fa.rd
  have r2 := h1.at_size (Nat.le_refl _) b2
  have zd0 := z2.c0
  clear z1 b1 zc0 zc1 r1 fa
  go_wp2_with fail
  refine (putFour_any A1 n1 c1 l1 ((x : Int) % 4294967296) _ r2 (by omega) (by omega) (by omega)).mono ?_
  rintro e w3 ⟨Ab, nb, cb, rfl, fb⟩
  have z3 := z2.keep fb.bel
  have b3 := Below.then b2 fb.bel
  have rb := fb.rd
  have ra3 := ra.at_size (Nat.le_refl _) fb.bel
  have r3 := h1.at_size (Nat.le_refl _) b3
  have ze0 := z3.c0
  clear z2 b2 zd0 r2 ra fb
  go_wp2_with fail
  refine (putText_any A1 n1 c1 l1 s _ r3 (by omega) (by omega)).mono ?_
  rintro e w4 ⟨Ac, nc, cc, rfl, fc⟩
  have z4 := z3.keep fc.bel
  have b4 := Below.then b3 fc.bel
  have rc := fc.rd
  have ra4 := ra3.at_size (Nat.le_refl _) fc.bel
  have rb4 := rb.at_size (Nat.le_refl _) fc.bel
  have r4 := h1.at_size (Nat.le_refl _) b4
  have q4 := h2.at_size (Nat.le_refl _) b4
  have zf0 := z4.c0
  have zf1 := z4.c1
  clear z3 b3 ze0 r3 ra3 rb fc
  rw [Int.toNat_natCast] at ra4
  have hy : ((x : Int) % 4294967296).toNat = x % 4294967296 := by omega
  rw [hy] at rb4
  clear hy r4
  have hl1 := h1.len
  have lna := ra4.len
  have lnb := rb4.len
  have lnc := rc.len
  rw [List.length_append, hl1] at lna lnb lnc
  have pa := Lib.uvarint_pos x
  have pa2 := Lib.uvarint_length64 HX.out
  have pc := Lib.uvarint_pos s.size
  have pc2 := Lib.uvarint_length64 (x := s.size) (by omega)
  have lc2 : (Lib.uvarint s.size ++ s.data.toList).length = (Lib.uvarint s.size).length + s.size := by rw [List.length_append]; rfl
  have hna : n1 < na := by omega
  have hna2 : na ≤ 20010 := by omega
  have hnb : nb = n1 + 4 := by rw [← lnb]; rfl
  have hnbt : ((nb : Int) != (n1 : Int) + 4) = false := by rw [hnb]; simp
  have hnb1 : n1 ≤ nb := by omega
  have hnb2 : nb ≤ 20010 := by omega
  have hnc : n1 < nc := by omega
  have hnc2 : nc ≤ 40010 := by omega
  have t4 : decide (na ≤ n1) = false := by simp; omega
  have t5 : decide (nc ≤ n1) = false := by simp; omega
  have hqa : (((Lib.uvarint x).length : Int) == (na : Int) - (n1 : Int)) = true := by simp; omega
  have hqc : (((Lib.uvarint s.size ++ s.data.toList).length : Int) == (nc : Int) - (n1 : Int)) = true := by rw [beq_iff_eq]; omega
  have hLa := Lib.hid lna
  have hLb := Lib.hid lnb
  have hLc := Lib.hid lnc
  have hL1 := Lib.hid hl1
  have HNB := Lib.hid hnb
  clear lna lnb lnc hl1 pa pa2 pc pc2 lc2 hnb
  have gx := Lib.hid (getL_put x l2 HX.out)
  have gxc := Lib.hid (getL_cut x ((Lib.uvarint x).length - 1) HX.out (by have := Lib.uvarint_pos x; omega))
  have g4 := Lib.hid (gotFour_four (x % 4294967296) (by omega) l2)
  have hsl : s.data.toList.length = s.size := rfl
  have gt := textL_put s.data.toList l2 (by rw [hsl]; exact hs)
  have gtc := textL_cut s.data.toList (by rw [hsl]; exact hs)
  rw [hsl] at gt gtc
  have GT := Lib.hid gt
  have GTC := Lib.hid gtc
  clear gt gtc hsl
  obtain ⟨Ah, nah, cah, sAh, rAh⟩ := rd_slice_h (P := Try.prog) 22 5 Try.underlying22 byte_size ra4 (n1 : Int) (by omega) (by omega)
  obtain ⟨Bh, nbh, cbh, sBh, rBh⟩ := rd_slice_h (P := Try.prog) 22 5 Try.underlying22 byte_size rb4 (n1 : Int) (by omega) (by omega)
  obtain ⟨Ch, nch, cch, sCh, rCh⟩ := rd_slice_h (P := Try.prog) 22 5 Try.underlying22 byte_size rc (n1 : Int) (by omega) (by omega)
  rw [Int.toNat_natCast, take_ahead _ _ _ hL1.out] at rAh rBh rCh
  obtain ⟨At, nat, cat, sAt, rAt⟩ := rd_slice_l (P := Try.prog) 22 5 Try.underlying22 byte_size ra4 (n1 : Int) (by omega) (by omega)
  obtain ⟨Bt, nbt, cbt, sBt, rBt⟩ := rd_slice_l (P := Try.prog) 22 5 Try.underlying22 byte_size rb4 (n1 : Int) (by omega) (by omega)
  obtain ⟨Ct, nct, cct, sCt, rCt⟩ := rd_slice_l (P := Try.prog) 22 5 Try.underlying22 byte_size rc (n1 : Int) (by omega) (by omega)
  rw [Int.toNat_natCast, drop_ahead _ _ _ hL1.out] at rAt rBt rCt
  obtain ⟨Ae, nae, cae, sAe, rAe⟩ := rd_slice_lh (P := Try.prog) 22 5 Try.underlying22 byte_size ra4 (n1 : Int) ((na : Int) - 1) (by omega) (by omega) (by omega)
  obtain ⟨Ce, nce, cce, sCe, rCe⟩ := rd_slice_lh (P := Try.prog) 22 5 Try.underlying22 byte_size rc (n1 : Int) ((nc : Int) - 1) (by omega) (by omega) (by omega)
  rw [Int.toNat_natCast, drop_ahead _ _ _ hL1.out] at rAe rCe
  rw [show ((na : Int) - 1).toNat - n1 = (Lib.uvarint x).length - 1 by have := hLa.out; omega] at rAe
  rw [show ((nc : Int) - 1).toNat - n1 = (Lib.uvarint s.size ++ s.data.toList).length - 1 by have := hLc.out; omega] at rCe
  have lAt : nat ≤ 20010 := by have h1 := rAt.len; have h2 := hLa.out; omega
  have lBt : nbt ≤ 20010 := by have h1 := rBt.len; have h2 := hLb.out; omega
  have lCt : nct ≤ 40010 := by have h1 := rCt.len; have h2 := hLc.out; omega
  clear hLa hLb hLc ra4 rb4 rc
  generalize hqn : (Lib.uvarint x).length = qa at *
  generalize hqm : (Lib.uvarint s.size ++ s.data.toList).length = qc at *
  have HQN := Lib.hid hqn
  have HQM := Lib.hid hqm
  clear hqn hqm
  have hw4 : IntKind.i64.wrap ((n1 : Int) + 4) = (n1 : Int) + 4 := IntWalk.i64_in _ (by omega)
  go_wp2_with fail
  refine wp_region_ord [0, 1, 2, 3, 4, 5, 6, 7, 8, 9, 10, 11, 12, 13, 14, 15, 16, 17, 18, 19, 20, 21, 22, 23, 24, 25, 26, 27, 28, 29, 30, 31, 32, 33, 34, 35, 36, 37, 38, 39, 40, 41, 42, 43] [23, 32, 41] (fun w' => w'.cell? ⟨w.heap.size, 0, none⟩ = some (.slice A1 n1 c1) ∧ w'.cell? ⟨w.heap.size, 1, none⟩ = some (.slice A2 n2 c2)) (by kernel_rfl) (by kernel_rfl) (by kernel_rfl) (by kernel_rfl) (fun _ _ _ _ _ h => h) ⟨z4.c0, z4.c1⟩ ?_
  simp only [steps, List.getElem?_cons_zero, List.getElem?_cons_succ]
  repeat (first
    | (refine ord_no rfl ?_; simp only [Act.put, List.setIfInBounds_toArray, List.set_cons_zero, List.set_cons_succ])
    | (refine ord_yes (v := ?_) rfl rfl ?_ ?_; rotate_left; (focus (rintro w' ⟨hS0, hS1⟩; go_simp; try with_reducible rfl)); simp only [Act.put, List.setIfInBounds_toArray, List.set_cons_zero, List.set_cons_succ]))
  refine ord_hard rfl rfl (fun K hK => ?_)
  go_simp
  refine (same_now _ _ _ _ _ _ _ _ l1 _ rAh.drew (h1.at_size (Nat.le_refl _) b4).drew).mono ?_
  rintro e w5 ⟨rfl, c5⟩
  have d5 := Below.undrew c5
  clear c5
  refine hK.out _ _ ⟨(z4.keep d5).c0, (z4.keep d5).c1⟩ ?_
  clear hK K
  repeat (first
    | (refine ord_no rfl ?_; simp only [Act.put, List.setIfInBounds_toArray, List.set_cons_zero, List.set_cons_succ])
    | (refine ord_yes (v := ?_) rfl rfl ?_ ?_; rotate_left; (focus (rintro w' ⟨hS0, hS1⟩; go_simp; try with_reducible rfl)); simp only [Act.put, List.setIfInBounds_toArray, List.set_cons_zero, List.set_cons_succ]))
  refine ord_hard rfl rfl (fun K hK => ?_)
  go_simp
  refine (same_now _ _ _ _ _ _ _ _ l1 _ (rBh.at_size (Nat.le_refl _) d5) (h1.at_size (Nat.le_refl _) (Below.then b4 d5))).mono ?_
  rintro e w6 ⟨rfl, c6⟩
  have d6 := Below.then d5 c6
  clear c6 d5
  refine hK.out _ _ ⟨(z4.keep d6).c0, (z4.keep d6).c1⟩ ?_
  clear hK K
  repeat (first
    | (refine ord_no rfl ?_; simp only [Act.put, List.setIfInBounds_toArray, List.set_cons_zero, List.set_cons_succ])
    | (refine ord_yes (v := ?_) rfl rfl ?_ ?_; rotate_left; (focus (rintro w' ⟨hS0, hS1⟩; go_simp; try with_reducible rfl)); simp only [Act.put, List.setIfInBounds_toArray, List.set_cons_zero, List.set_cons_succ]))
  refine ord_hard rfl rfl (fun K hK => ?_)
  go_simp
  refine (same_now _ _ _ _ _ _ _ _ l1 _ (rCh.at_size (Nat.le_refl _) d6) (h1.at_size (Nat.le_refl _) (Below.then b4 d6))).mono ?_
  rintro e w7 ⟨rfl, c7⟩
  have d7 := Below.then d6 c7
  clear c7 d6
  refine hK.out _ _ ⟨(z4.keep d7).c0, (z4.keep d7).c1⟩ ?_
  clear hK K
  repeat (first
    | (refine ord_no rfl ?_; simp only [Act.put, List.setIfInBounds_toArray, List.set_cons_zero, List.set_cons_succ])
    | (refine ord_yes (v := ?_) rfl rfl ?_ ?_; rotate_left; (focus (rintro w' ⟨hS0, hS1⟩; go_simp; try with_reducible rfl)); simp only [Act.put, List.setIfInBounds_toArray, List.set_cons_zero, List.set_cons_succ]))
  refine ord_end ?_
  clear rAh rBh rCh sAh sBh sCh hw4
  go_wp2_with fail
  obtain ⟨i0, hi0, hz0, hz1, hz2⟩ := info_parts byte_info
  refine wp_region_ord [0, 1, 2, 4, 5, 3, 6, 7, 8, 9, 10, 11, 12, 13, 14] [3, 6, 7] (fun w' => w'.cell? ⟨w.heap.size, 0, none⟩ = some (.slice A1 n1 c1) ∧ w'.cell? ⟨w.heap.size, 1, none⟩ = some (.slice A2 n2 c2)) (by kernel_rfl) (by kernel_rfl) (by kernel_rfl) (by kernel_rfl) (fun _ _ _ _ _ h => h) ⟨(z4.keep d7).c0, (z4.keep d7).c1⟩ ?_
  simp only [steps, List.getElem?_cons_zero, List.getElem?_cons_succ]
  repeat (first
    | (refine ord_no rfl ?_; simp only [Act.put, List.setIfInBounds_toArray, List.set_cons_zero, List.set_cons_succ])
    | (refine ord_yes (v := ?_) rfl rfl ?_ ?_; rotate_left; (focus (rintro w' ⟨hS0, hS1⟩; go_simp; try with_reducible rfl)); simp only [Act.put, List.setIfInBounds_toArray, List.set_cons_zero, List.set_cons_succ]))
  refine ord_hard rfl rfl (fun K hK => ?_)
  refine wp_append_rd _ (.const (.slice none 0 0)) (.tmp 108) 22 rfl w7.heap.size 5 i0 Try.underlying22 hi0 hz0 hz1 hz2 (.slice none 0 0) 0 [] rfl (World.ownsRow_nil _ _ _ _) _ At nat cat _ rfl (rAt.at_size (Nat.le_refl _) d7).drew (by omega) (Nat.le_refl _) ?_
  intro P8 m8 q8 w8 hm8 own8 hg8 ha8
  have e8 : Below w7.heap.size w7 w8 := (Below.refl _ _).drew.grown hg8 (Nat.le_refl _) (by simp [Value.ownBlock])
  refine hK.out _ _ ⟨(z4.keep (Below.then d7 e8)).c0, (z4.keep (Below.then d7 e8)).c1⟩ ?_
  clear hK K
  simp only [Act.put, List.setIfInBounds_toArray, List.set_cons_zero, List.set_cons_succ]
  repeat (first
    | (refine ord_no rfl ?_; simp only [Act.put, List.setIfInBounds_toArray, List.set_cons_zero, List.set_cons_succ])
    | (refine ord_yes (v := ?_) rfl rfl ?_ ?_; rotate_left; (focus (rintro w' ⟨hS0, hS1⟩; go_simp; try with_reducible rfl)); simp only [Act.put, List.setIfInBounds_toArray, List.set_cons_zero, List.set_cons_succ]))
  refine ord_hard rfl rfl (fun K hK => ?_)
  refine wp_append_rd _ (.tmp 109) (.tmp 111) 22 rfl w7.heap.size 5 i0 Try.underlying22 hi0 hz0 hz1 hz2 (.slice P8 m8 q8) m8 _ rfl own8 _ A2 n2 c2 l2 rfl (h2.at_size (Nat.le_refl _) (Below.then b4 (Below.then d7 e8))) (by have := hm8.out; omega) e8.size ?_
  intro P9 m9 q9 w9 hm9 own9 hg9 ha9
  have e9 : Below w7.heap.size w7 w9 := e8.grown hg9 e8.size ha8
  refine hK.out _ _ ⟨(z4.keep (Below.then d7 e9)).c0, (z4.keep (Below.then d7 e9)).c1⟩ ?_
  clear hK K
  simp only [Act.put, List.setIfInBounds_toArray, List.set_cons_zero, List.set_cons_succ]
  repeat (first
    | (refine ord_no rfl ?_; simp only [Act.put, List.setIfInBounds_toArray, List.set_cons_zero, List.set_cons_succ])
    | (refine ord_yes (v := ?_) rfl rfl ?_ ?_; rotate_left; (focus (rintro w' ⟨hS0, hS1⟩; go_simp; try with_reducible rfl)); simp only [Act.put, List.setIfInBounds_toArray, List.set_cons_zero, List.set_cons_succ]))
  refine ord_hard rfl rfl (fun K hK => ?_)
  go_simp
  refine (get_now (m := x) (k := qa) (z := 0) _ (Rd.of_own own9) (by exact gx.out)).mono ?_
  rintro e w10 ⟨rfl, c10⟩
  have d10 := Below.then d7 (Below.then e9 c10)
  refine hK.out _ _ ⟨(z4.keep d10).c0, (z4.keep d10).c1⟩ ?_
  clear hK K e8 e9 own8 own9 hg8 hg9 ha8 ha9 hm8 hm9 c10 d7
  repeat (first
    | (refine ord_no rfl ?_; simp only [Act.put, List.setIfInBounds_toArray, List.set_cons_zero, List.set_cons_succ])
    | (refine ord_yes (v := ?_) rfl rfl ?_ ?_; rotate_left; (focus (rintro w' ⟨hS0, hS1⟩; go_simp; try with_reducible rfl)); simp only [Act.put, List.setIfInBounds_toArray, List.set_cons_zero, List.set_cons_succ]))
  refine ord_end ?_
  go_wp2_with fail
  refine wp_region_ord [0, 1, 2, 4, 5, 3, 6, 7, 8, 9, 10, 11, 12] [3, 6, 7] (fun w' => w'.cell? ⟨w.heap.size, 0, none⟩ = some (.slice A1 n1 c1) ∧ w'.cell? ⟨w.heap.size, 1, none⟩ = some (.slice A2 n2 c2)) (by kernel_rfl) (by kernel_rfl) (by kernel_rfl) (by kernel_rfl) (fun _ _ _ _ _ h => h) ⟨(z4.keep d10).c0, (z4.keep d10).c1⟩ ?_
  simp only [steps, List.getElem?_cons_zero, List.getElem?_cons_succ]
  repeat (first
    | (refine ord_no rfl ?_; simp only [Act.put, List.setIfInBounds_toArray, List.set_cons_zero, List.set_cons_succ])
    | (refine ord_yes (v := ?_) rfl rfl ?_ ?_; rotate_left; (focus (rintro w' ⟨hS0, hS1⟩; go_simp; try with_reducible rfl)); simp only [Act.put, List.setIfInBounds_toArray, List.set_cons_zero, List.set_cons_succ]))
  refine ord_hard rfl rfl (fun K hK => ?_)
  refine wp_append_rd _ (.const (.slice none 0 0)) (.tmp 120) 22 rfl w10.heap.size 5 i0 Try.underlying22 hi0 hz0 hz1 hz2 (.slice none 0 0) 0 [] rfl (World.ownsRow_nil _ _ _ _) _ Bt nbt cbt _ rfl (rBt.at_size (Nat.le_refl _) d10).drew (by omega) (Nat.le_refl _) ?_
  intro P11 m11 q11 w11 hm11 own11 hg11 ha11
  have e11 : Below w10.heap.size w10 w11 := (Below.refl _ _).drew.grown hg11 (Nat.le_refl _) (by simp [Value.ownBlock])
  refine hK.out _ _ ⟨(z4.keep (Below.then d10 e11)).c0, (z4.keep (Below.then d10 e11)).c1⟩ ?_
  clear hK K
  simp only [Act.put, List.setIfInBounds_toArray, List.set_cons_zero, List.set_cons_succ]
  repeat (first
    | (refine ord_no rfl ?_; simp only [Act.put, List.setIfInBounds_toArray, List.set_cons_zero, List.set_cons_succ])
    | (refine ord_yes (v := ?_) rfl rfl ?_ ?_; rotate_left; (focus (rintro w' ⟨hS0, hS1⟩; go_simp; try with_reducible rfl)); simp only [Act.put, List.setIfInBounds_toArray, List.set_cons_zero, List.set_cons_succ]))
  refine ord_hard rfl rfl (fun K hK => ?_)
  refine wp_append_rd _ (.tmp 121) (.tmp 123) 22 rfl w10.heap.size 5 i0 Try.underlying22 hi0 hz0 hz1 hz2 (.slice P11 m11 q11) m11 _ rfl own11 _ A2 n2 c2 l2 rfl (h2.at_size (Nat.le_refl _) (Below.then b4 (Below.then d10 e11))) (by have := hm11.out; omega) e11.size ?_
  intro P12 m12 q12 w12 hm12 own12 hg12 ha12
  have e12 : Below w10.heap.size w10 w12 := e11.grown hg12 e11.size ha11
  refine hK.out _ _ ⟨(z4.keep (Below.then d10 e12)).c0, (z4.keep (Below.then d10 e12)).c1⟩ ?_
  clear hK K
  simp only [Act.put, List.setIfInBounds_toArray, List.set_cons_zero, List.set_cons_succ]
  repeat (first
    | (refine ord_no rfl ?_; simp only [Act.put, List.setIfInBounds_toArray, List.set_cons_zero, List.set_cons_succ])
    | (refine ord_yes (v := ?_) rfl rfl ?_ ?_; rotate_left; (focus (rintro w' ⟨hS0, hS1⟩; go_simp; try with_reducible rfl)); simp only [Act.put, List.setIfInBounds_toArray, List.set_cons_zero, List.set_cons_succ]))
  refine ord_hard rfl rfl (fun K hK => ?_)
  go_simp
  refine (four_now (v := .tuple #[.int .u32 ((x : Int) % 4294967296), .int .i64 0]) _ (Rd.of_own own12) (by have := g4.out; rw [Int.natCast_emod] at this; exact this)).mono ?_
  rintro e w13 ⟨rfl, c13⟩
  have d13 := Below.then d10 (Below.then e12 c13)
  refine hK.out _ _ ⟨(z4.keep d13).c0, (z4.keep d13).c1⟩ ?_
  clear hK K e11 e12 own11 own12 hg11 hg12 ha11 ha12 hm11 hm12 c13 d10
  repeat (first
    | (refine ord_no rfl ?_; simp only [Act.put, List.setIfInBounds_toArray, List.set_cons_zero, List.set_cons_succ])
    | (refine ord_yes (v := ?_) rfl rfl ?_ ?_; rotate_left; (focus (rintro w' ⟨hS0, hS1⟩; go_simp; try with_reducible rfl)); simp only [Act.put, List.setIfInBounds_toArray, List.set_cons_zero, List.set_cons_succ]))
  refine ord_end ?_
  go_wp2_with fail
  refine wp_region_ord [0, 1, 2, 4, 5, 3, 6, 7, 8, 9, 10, 11, 12, 13, 14] [3, 6, 7] (fun w' => w'.cell? ⟨w.heap.size, 0, none⟩ = some (.slice A1 n1 c1) ∧ w'.cell? ⟨w.heap.size, 1, none⟩ = some (.slice A2 n2 c2)) (by kernel_rfl) (by kernel_rfl) (by kernel_rfl) (by kernel_rfl) (fun _ _ _ _ _ h => h) ⟨(z4.keep d13).c0, (z4.keep d13).c1⟩ ?_
  simp only [steps, List.getElem?_cons_zero, List.getElem?_cons_succ]
  repeat (first
    | (refine ord_no rfl ?_; simp only [Act.put, List.setIfInBounds_toArray, List.set_cons_zero, List.set_cons_succ])
    | (refine ord_yes (v := ?_) rfl rfl ?_ ?_; rotate_left; (focus (rintro w' ⟨hS0, hS1⟩; go_simp; try with_reducible rfl)); simp only [Act.put, List.setIfInBounds_toArray, List.set_cons_zero, List.set_cons_succ]))
  refine ord_hard rfl rfl (fun K hK => ?_)
  refine wp_append_rd _ (.const (.slice none 0 0)) (.tmp 131) 22 rfl w13.heap.size 5 i0 Try.underlying22 hi0 hz0 hz1 hz2 (.slice none 0 0) 0 [] rfl (World.ownsRow_nil _ _ _ _) _ Ct nct cct _ rfl (rCt.at_size (Nat.le_refl _) d13).drew (by omega) (Nat.le_refl _) ?_
  intro P14 m14 q14 w14 hm14 own14 hg14 ha14
  have e14 : Below w13.heap.size w13 w14 := (Below.refl _ _).drew.grown hg14 (Nat.le_refl _) (by simp [Value.ownBlock])
  refine hK.out _ _ ⟨(z4.keep (Below.then d13 e14)).c0, (z4.keep (Below.then d13 e14)).c1⟩ ?_
  clear hK K
  simp only [Act.put, List.setIfInBounds_toArray, List.set_cons_zero, List.set_cons_succ]
  repeat (first
    | (refine ord_no rfl ?_; simp only [Act.put, List.setIfInBounds_toArray, List.set_cons_zero, List.set_cons_succ])
    | (refine ord_yes (v := ?_) rfl rfl ?_ ?_; rotate_left; (focus (rintro w' ⟨hS0, hS1⟩; go_simp; try with_reducible rfl)); simp only [Act.put, List.setIfInBounds_toArray, List.set_cons_zero, List.set_cons_succ]))
  refine ord_hard rfl rfl (fun K hK => ?_)
  refine wp_append_rd _ (.tmp 132) (.tmp 134) 22 rfl w13.heap.size 5 i0 Try.underlying22 hi0 hz0 hz1 hz2 (.slice P14 m14 q14) m14 _ rfl own14 _ A2 n2 c2 l2 rfl (h2.at_size (Nat.le_refl _) (Below.then b4 (Below.then d13 e14))) (by have := hm14.out; omega) e14.size ?_
  intro P15 m15 q15 w15 hm15 own15 hg15 ha15
  have e15 : Below w13.heap.size w13 w15 := e14.grown hg15 e14.size ha14
  refine hK.out _ _ ⟨(z4.keep (Below.then d13 e15)).c0, (z4.keep (Below.then d13 e15)).c1⟩ ?_
  clear hK K
  simp only [Act.put, List.setIfInBounds_toArray, List.set_cons_zero, List.set_cons_succ]
  repeat (first
    | (refine ord_no rfl ?_; simp only [Act.put, List.setIfInBounds_toArray, List.set_cons_zero, List.set_cons_succ])
    | (refine ord_yes (v := ?_) rfl rfl ?_ ?_; rotate_left; (focus (rintro w' ⟨hS0, hS1⟩; go_simp; try with_reducible rfl)); simp only [Act.put, List.setIfInBounds_toArray, List.set_cons_zero, List.set_cons_succ]))
  refine ord_hard rfl rfl (fun K hK => ?_)
  go_simp
  refine (text_now (a := s.data.toList) (b := qc) (z := 0) (s := s) _ (Rd.of_own own15) (by exact GT.out) (str_back s)).mono ?_
  rintro e w16 ⟨rfl, c16⟩
  have d16 := Below.then d13 (Below.then e15 c16)
  refine hK.out _ _ ⟨(z4.keep d16).c0, (z4.keep d16).c1⟩ ?_
  clear hK K e14 e15 own14 own15 hg14 hg15 ha14 ha15 hm14 hm15 c16 d13
  repeat (first
    | (refine ord_no rfl ?_; simp only [Act.put, List.setIfInBounds_toArray, List.set_cons_zero, List.set_cons_succ])
    | (refine ord_yes (v := ?_) rfl rfl ?_ ?_; rotate_left; (focus (rintro w' ⟨hS0, hS1⟩; go_simp; try with_reducible rfl)); simp only [Act.put, List.setIfInBounds_toArray, List.set_cons_zero, List.set_cons_succ]))
  refine ord_end ?_
  go_wp2_with fail
  refine (get_now (m := 0) (k := 0) (z := 5) _ (rAe.at_size (Nat.le_refl _) d16) (by exact gxc.out)).mono ?_
  rintro e w20 ⟨rfl, c20⟩
  have d20 := Below.then d16 c20
  go_wp2_with fail
  refine (text_now (a := []) (b := 0) (z := 5) (s := ⟨#[]⟩) _ (rCe.at_size (Nat.le_refl _) d20) (by exact GTC.out) rfl).mono ?_
  rintro e w21 ⟨rfl, c21⟩
  have d21 := Below.then d20 c21
  go_wp2_with fail
  go_ret
  exact ⟨rfl, Below.then b4 d21⟩

set_option maxRecDepth 100000 in
set_option maxHeartbeats 1000000 in
theorem walk_out (x : Nat) (s : ByteArray) (A1 A2 : Option Addr) (n1 c1 n2 c2 : Nat) (w : World) (hs : s.size ≤ 9223372036854775807) (m1 : n1 ≤ 9223372036854775807) (m2 : n2 ≤ 9223372036854775807) (hout : ¬ (s.size ≤ 20000 ∧ n1 ≤ 20000 ∧ n2 ≤ 20000)) :
    Calls Try.prog 4 #[.int .u64 (x : Int), .string s, .agg #[.slice A1 n1 c1, .slice A2 n2 c2]] w fun e w' => e = .returned (.bool true) ∧ Below w.heap.size w w' := by
  have b0 : Below w.heap.size w (w.alloc (.cells #[.slice A1 n1 c1, .slice A2 n2 c2] 36)) := (Below.refl _ _).alloc (Nat.le_refl _) _
  have z0 := Boxed.new w (.slice A1 n1 c1) (.slice A2 n2 c2) 36
  have hcase : (decide (20000 < (s.size : Int)) = true) ∨ (decide (20000 < (s.size : Int)) = false ∧ decide (20000 < (n1 : Int)) = true) ∨ (decide (20000 < (s.size : Int)) = false ∧ decide (20000 < (n1 : Int)) = false ∧ decide (20000 < (n2 : Int)) = true) := by
    by_cases h1 : s.size ≤ 20000
    · by_cases h2 : n1 ≤ 20000
      · have h3 : ¬ n2 ≤ 20000 := fun h => hout ⟨h1, h2, h⟩
        exact .inr (.inr ⟨by simp; omega, by simp; omega, by simp; omega⟩)
      · exact .inr (.inl ⟨by simp; omega, by simp; omega⟩)
    · exact .inl (by simp; omega)
  clear hout
  rcases hcase with t1 | ⟨t1, t2⟩ | ⟨t1, t2, t3⟩
  all_goals
    go_enter Try.func4, Try.ntmps4
    go_wp2_with fail
    refine (alive_any _).mono ?_
    rintro e w1 ⟨rfl, ba⟩
    have z1 := z0.keep ba
    have zc0 := z1.c0
    have zc1 := z1.c1
    go_wp2_with fail
    refine (alive_any _).mono ?_
    rintro e w2 ⟨rfl, bb⟩
    go_wp2_with fail
    go_ret
    exact ⟨rfl, Below.then (Below.then b0 ba) bb⟩

set_option maxRecDepth 100000 in
theorem lifted (os : Os) (started : os.Started) (H : Type) (enc : TypeId × Value → H) :
    ReturnsInHanded {} Try.checked os 4 .any (Rows.numsBackSpec.pre6 enc Try.prog Try.f4 Rows.numsBackRow.domain false) (Rows.numsBackSpec.post enc Try.prog Try.f4 false true false false) := by
  refine returnsInHanded_of_change (C := Try.checked) own started (by kernel_rfl) Try.func4
    (ChangeSpec.witness6 (enc := enc) (C := Try.checked) false ⟨#[], #[.int .u64 0, .string ⟨#[]⟩, .agg #[.slice none 0 0, .slice none 0 0]], []⟩ 8 (by kernel_rfl) (by kernel_rfl) (by kernel_rfl) (by kernel_rfl)) ?_
  intro W base args ds gs before hval0 hW hcnd _
  have hval : ∀ (j : Nat) t v, Try.f4.params[j]? = some t → args[j]? = some v → Value.okWide Try.prog W .any base t v := hval0
  have hW' := hW
  obtain ⟨p, q, hA0, hV, rfl, hfz, hnd⟩ := hW
  have hA : DataW.TrodAll enc Try.prog W 0 (fun _ => true) true Try.f4.params.toList args.toList ds p := hA0
  rw [Try.params4] at hA hval
  obtain ⟨v0, vs0, d0, ds0, p0, q0, hargs, rfl, rfl, h0, r0⟩ := trodAll_cons hA
  obtain ⟨v1, vs1, d1, ds1, p1, q1, rfl, rfl, rfl, h1, r1⟩ := trodAll_cons r0
  obtain ⟨v2, vs2, d2, ds2, p2, q2, rfl, rfl, rfl, h2, r2⟩ := trodAll_cons r1
  obtain ⟨rfl, rfl, rfl⟩ := trodAll_nil r2
  obtain rfl : args = #[v0, v1, v2] := by cases args; simp_all
  obtain ⟨rfl, rfl⟩ := trodVars_none hV
  obtain ⟨a0, rfl, rfl, rfl, w0⟩ := open_int Try.underlying24 (hval 0 24 v0 rfl rfl) h0
  obtain ⟨s, rfl, rfl, rfl, ws⟩ := open_string Try.underlying9 (hval 1 9 v1 rfl rfl) h1
  have lt2 : ∀ x ∈ p2, x.block < W.heap.size := by obtain ⟨m, hm⟩ := h2; exact DataW.trod_lt m _ _ _ hm
  obtain ⟨u0, u1, y0, y1, fuel, rfl, hd2, hp2, hu0, hu1⟩ := Joins.open_agg2 Try.underlying36 (by kernel_rfl) (by kernel_rfl) (hval 2 36 v2 rfl rfl) h2
  obtain ⟨A1, n1, c1, l1, rfl, hr1⟩ := opened_trod Try.underlying22 Try.underlying5 (by kernel_rfl) hu0
  obtain ⟨A2, n2, c2, l2, rfl, hr2⟩ := opened_trod Try.underlying22 Try.underlying5 (by kernel_rfl) hu1
  clear hA0 hval0
  obtain ⟨x, hx, lx⟩ := u64_nat w0
  subst hx
  have bel : Calls Try.prog 4 #[.int .u64 (x : Int), .string s, .agg #[.slice A1 n1 c1, .slice A2 n2 c2]] W fun e w' => e = .returned (.bool true) ∧ Below W.heap.size W w' := by
    by_cases hin : s.size ≤ 20000 ∧ n1 ≤ 20000 ∧ n2 ≤ 20000
    · exact walk_small x s A1 A2 n1 c1 n2 c2 l1 l2 W lx hin.1 hr1 hr2 hin.2.1 hin.2.2
    · have t1 := hr1.top
      have t2 := hr2.top
      have k1 := hr1.cap
      have k2 := hr2.cap
      unfold maxLen at t1 t2 ws
      exact walk_out x s A1 A2 n1 c1 n2 c2 W (by omega) (by omega) (by omega) hin
  refine bel.mono fun e W' ⟨he, bel⟩ => ?_
  subst he
  exact ⟨_, rfl, _, _, _, [], _, [], hW', trodAll_mk1 (shut_bool Try.underlying4 _), (trodAll_cons_mk (shut_int Try.underlying24 w0) (trodAll_cons_mk (shut_string Try.underlying9 ws) (trodAll_cons_mk (Below.trod laidOut (by kernel_rfl) (of_decide_eq_true (by kernel_rfl)) h2 bel lt2) trodAll_mk0))), rfl, bel.frame _, fun h => by cases h⟩

theorem over : Rows.numsBackRow.holds Try.pinned (OpenSpec.ofChange Rows.numsBackSpec) :=
  OpenClaim.holds_of_wide 4 Try.f4 rfl rfl rfl rfl rfl rfl rfl ⟨rfl, rfl, rfl, rfl, rfl⟩ rfl rfl rfl rfl rfl (by kernel_rfl) Try.func4 (by kernel_rfl)
    (of_decide_eq_true (by kernel_rfl)) (by unfold Func.isWrapper; first | (rw [if_pos (by decide +kernel)]; kernel_rfl) | (rw [if_neg (by decide +kernel)]; exact ⟨rfl, rfl⟩))
    (fun os started H enc _ => lifted os started H enc)

theorem proved : Rows.NumsBackSaid := over
#print axioms proved

end Go.Proofs.Ytakkmmnpocbakaa.numsBack
