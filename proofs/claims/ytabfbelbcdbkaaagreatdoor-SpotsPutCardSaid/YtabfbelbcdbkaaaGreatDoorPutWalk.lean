/- SpotsPut answers true: the walk. Condition: the nodes and the terms can be read. -/
import Derived.Test.YtabfbelbcdbkaaaGreatDoorApartT
import Derived.Test.YtabfbelbcdbkaaaGreatDoorOfWalk
import Derived.Test.YtabfbelbcdbkaaaGreatDoorTwinTm
namespace Go.Proofs.YtabfbelbcdbkaaaGreatDoor
open Go.RowKit

theorem twinT_lone {w w' : World} {g n no : Nat} {l : List Tm} (h : TwinT w w' g n l) : Lone 61 2 w' ⟨some ⟨g, 0, none⟩, n, n + 1, no⟩ := by
  refine .inr ⟨g, _, rfl, h.blk, ?_, by show n ≤ n + 1; omega, by show n + 1 ≤ maxLen; have := h.top; unfold maxLen; omega, by show n ≤ 1000000; have := h.top; omega⟩
  have hl := flat_len tmc_len (l ++ [tMark])
  show ((l ++ [tMark]).flatMap tmc).toArray.size = (n + 1) * 2
  rw [List.size_toArray, hl, List.length_append, h.len]
  rfl

theorem put_told (A A1 A2 : Option Addr) (n c n1 c1 n2 c2 : Nat) (l : List Nd) (ts us : List Tm) (m : List Nd) (r km : Nat) (w : World) (hr : Ns w w.heap.size A n c l) (hf : ∀ x ∈ l, x.Fits) (h1 : Rs tmc 2 w w.heap.size A1 n1 c1 ts) (h2 : Rs tmc 2 w w.heap.size A2 n2 c2 us) (e1 : putV l ts us = m) (e2 : putR l ts us = r) (e3 : m.length = km) :
    Calls Tryz.prog 14 #[.slice A n c, .slice A1 n1 c1, .slice A2 n2 c2] w fun e w' => ∃ A' c', e = .returned (.tuple #[.slice A' km c', .int .i64 (r : Int)]) ∧ w'.ownsRow w.heap.size 63 10 (.slice A' km c') km (m.flatMap ndc) ∧ Below w.heap.size w w' := by
  have := put_any A A1 A2 n c n1 c1 n2 c2 l ts us w hr hf h1 h2
  rw [e1, e2] at this
  refine this.mono ?_
  rintro e w' ⟨A', k, c', rfl, ho, hb⟩
  have hk := rs_own_len ndc_len (by decide) ho
  rw [e3] at hk
  subst hk
  exact ⟨A', c', rfl, ho, hb⟩
theorem refPut_told (A A1 A2 : Option Addr) (n c n1 c1 n2 c2 : Nat) (l : List Nd) (ts us : List Tm) (m : List Nd) (r km : Nat) (w : World) (hr : Ns w w.heap.size A n c l) (hf : ∀ x ∈ l, x.Fits) (h1 : Rs tmc 2 w w.heap.size A1 n1 c1 ts) (h2 : Rs tmc 2 w w.heap.size A2 n2 c2 us) (e1 : putV l ts us = m) (e2 : putR l ts us = r) (e3 : m.length = km) :
    Calls Tryz.prog 15 #[.slice A n c, .slice A1 n1 c1, .slice A2 n2 c2] w fun e w' => ∃ A' c', e = .returned (.tuple #[.slice A' km c', .int .i64 (r : Int)]) ∧ w'.ownsRow w.heap.size 63 10 (.slice A' km c') km (m.flatMap ndc) ∧ Below w.heap.size w w' := by
  have := refPut_any A A1 A2 n c n1 c1 n2 c2 l ts us w hr hf h1 h2
  rw [e1, e2] at this
  refine this.mono ?_
  rintro e w' ⟨A', k, c', rfl, ho, hb⟩
  have hk := rs_own_len ndc_len (by decide) ho
  rw [e3] at hk
  subst hk
  exact ⟨A', c', rfl, ho, hb⟩

theorem putV_len (l : List Nd) (ts us : List Tm) : (putV l ts us).length ≤ l.length := by
  unfold putV
  split
  · rw [← (alks_putB l ts us).len]; exact Nat.le_refl _
  · simp

set_option maxRecDepth 100000 in
set_option maxHeartbeats 4000000 in
theorem walkPut (A : Option Addr) (n c : Nat) (l : List Nd) (A1 : Option Addr) (n1 c1 : Nat) (ts : List Tm) (A2 : Option Addr) (n2 c2 : Nat) (us : List Tm) (w : World) (h : Ns w w.heap.size A n c l) (hf : ∀ x ∈ l, x.Fits) (h1 : Rs tmc 2 w w.heap.size A1 n1 c1 ts) (h2 : Rs tmc 2 w w.heap.size A2 n2 c2 us) :
    Calls Tryz.prog 4 #[.slice A n c, .slice A1 n1 c1, .slice A2 n2 c2] w fun e w' => e = .returned (.bool true) ∧ Below w.heap.size w w' := by
  by_cases a0 : 300 < n
  · have a0' : (300 : Int) < (n : Int) := by omega
    clear h hf h1 h2
    go_enter Tryz.func4, Tryz.ntmps4
    go_wp2
    go_ret
    exact ⟨rfl, Below.refl _ _⟩
  have a0' : ¬ (300 : Int) < (n : Int) := by omega
  by_cases a1 : 600 < n1
  · have a1' : (600 : Int) < (n1 : Int) := by omega
    clear h hf h1 h2
    go_enter Tryz.func4, Tryz.ntmps4
    go_wp2
    go_ret
    exact ⟨rfl, Below.refl _ _⟩
  have a1' : ¬ (600 : Int) < (n1 : Int) := by omega
  by_cases a2 : 600 < n2
  · have a2' : (600 : Int) < (n2 : Int) := by omega
    clear h hf h1 h2
    go_enter Tryz.func4, Tryz.ntmps4
    go_wp2
    go_ret
    exact ⟨rfl, Below.refl _ _⟩
  have a2' : ¬ (600 : Int) < (n2 : Int) := by omega
  have HF := Lib.hid hf
  have HH := Lib.hid h
  have H1 := Lib.hid h1
  have H2 := Lib.hid h2
  obtain ⟨m, hm⟩ : ∃ x, putV l ts us = x := ⟨_, rfl⟩
  obtain ⟨r, hr⟩ : ∃ x, putR l ts us = x := ⟨_, rfl⟩
  obtain ⟨km, hkm⟩ : ∃ x, m.length = x := ⟨_, rfl⟩
  have hkm300 : km ≤ 300 := by have := putV_len l ts us; rw [hm, hkm, h.len] at this; omega
  have HM := Lib.hid hm
  have HR := Lib.hid hr
  have HKM := Lib.hid hkm
  have hrr : ((r : Int) != (r : Int)) = false := by simp
  have htw := twin_any A n c l w h (by omega)
  clear hm hr hkm hf h h1 h2
  go_enter Tryz.func4, Tryz.ntmps4
  go_wp2_with fail
  refine htw.mono ?_
  rintro e w1 ⟨g, rfl, ht, hb⟩
  clear htw
  have hold := ht.old
  have hgl : g < w1.heap.size := lt_blk ht.blk
  go_wp2_with fail
  refine (twinT_any A1 n1 c1 ts w1 ((H1.out.below hb).mono hb.size) (by omega)).mono ?_
  rintro e w2 ⟨g1, rfl, ht1, hv⟩
  have hg1 := ht1.old
  have hgl1 : g1 < w2.heap.size := lt_blk ht1.blk
  have hb1 := hb.size
  replace ht := ht.keep hv
  replace hb := hb.trans (hv.mono hb.size)
  clear hv
  go_wp2_with fail
  refine (twinT_any A2 n2 c2 us w2 ((H2.out.below hb).mono hb.size) (by omega)).mono ?_
  rintro e w3 ⟨g2, rfl, ht2, hv⟩
  have hg2 := ht2.old
  have hgl2 : g2 < w3.heap.size := lt_blk ht2.blk
  have hb2 := hb.size
  replace ht := ht.keep hv
  replace ht1 := ht1.keep hv
  replace hb := hb.trans (hv.mono hb.size)
  clear hv
  go_wp2_with fail
  refine (put_told _ _ _ n (n + 1) n1 (n1 + 1) n2 (n2 + 1) l ts us m r km w3 ht.rs HF.out ht1.rs ht2.rs HM.out HR.out HKM.out).mono ?_
  rintro e w4 ⟨A4, c4, rfl, o4, hv⟩
  have hb3 := hb.size
  replace ht := ht.keep hv
  replace ht1 := ht1.keep hv
  replace ht2 := ht2.keep hv
  replace hb := hb.trans (hv.mono hb.size)
  clear hv
  go_wp2_with fail
  refine (refPut_told A A1 A2 n c n1 c1 n2 c2 l ts us m r km w4 ((HH.out.below hb).mono hb.size) HF.out ((H1.out.below hb).mono hb.size) ((H2.out.below hb).mono hb.size) HM.out HR.out HKM.out).mono ?_
  rintro e w5 ⟨A5, c5, rfl, o5, hv⟩
  replace ht := ht.keep hv
  replace ht1 := ht1.keep hv
  replace ht2 := ht2.keep hv
  replace o4 := own_behind o4 hv
  replace hb := hb.trans (hv.mono hb.size)
  clear hv
  go_wp2_with fail
  refine (sameNodes_any _ _ _ _ _ _ _ m _ (Rs.of_own ndc_len (by decide) o4) (Rs.of_own ndc_len (by decide) o5)).mono ?_
  rintro e w6 ⟨rfl, hv⟩
  replace ht := ht.keep hv
  replace ht1 := ht1.keep hv
  replace ht2 := ht2.keep hv
  replace o4 := own_behind o4 hv
  replace hb := hb.trans (hv.mono hb.size)
  clear hv o5
  go_wp2_with fail
  refine (left_any w w6.heap.size A g n c l w6 ht ((HH.out.below hb).mono hb.size)).mono ?_
  rintro e w7 ⟨rfl, hv⟩
  replace ht := ht.keep hv
  replace ht1 := ht1.keep hv
  replace ht2 := ht2.keep hv
  replace o4 := own_behind o4 hv
  replace hb := hb.trans (hv.mono hb.size)
  clear hv
  go_wp2_with fail
  refine (leftT_any w1 w7.heap.size A1 g1 n1 c1 ts w7 ht1 ((H1.out.below hb).mono hb.size)).mono ?_
  rintro e w8 ⟨rfl, hv⟩
  replace ht := ht.keep hv
  replace ht1 := ht1.keep hv
  replace ht2 := ht2.keep hv
  replace o4 := own_behind o4 hv
  replace hb := hb.trans (hv.mono hb.size)
  clear hv
  go_wp2_with fail
  refine (leftT_any w2 w8.heap.size A2 g2 n2 c2 us w8 ht2 ((H2.out.below hb).mono hb.size)).mono ?_
  rintro e w9 ⟨rfl, hv⟩
  replace ht := ht.keep hv
  replace ht1 := ht1.keep hv
  replace ht2 := ht2.keep hv
  replace o4 := own_behind o4 hv
  replace hb := hb.trans (hv.mono hb.size)
  clear hv
  have K0 : Kept (fun b => w9.heap.size ≤ b) w9 (w9.alloc oBook) := (Kept.refl _ _).alloc _
  go_wp2_with fail
  refine (putN_any w9.heap.size 0 _ 0 [] _ 0 [] _ 0 [] _ n (n + 1) _ (book0 w9) (by omega) (by omega)).mono ?_
  rintro e w10 ⟨rfl, vn1, B1, K1⟩
  have K01 := K0.trans K1
  clear K0 K1
  go_wp2_with fail
  refine (putT_any w9.heap.size _ _ _ _ _ _ _ _ _ _ _ n1 (n1 + 1) _ B1 (by omega) (by omega)).mono ?_
  rintro e w11 ⟨rfl, vt1, B2, K2⟩
  have K02 := K01.trans K2
  clear B1 K01 K2
  go_wp2_with fail
  refine (putT_any w9.heap.size _ _ _ _ _ _ _ _ _ _ _ n2 (n2 + 1) _ B2 (by omega) (by omega)).mono ?_
  rintro e w12 ⟨rfl, vt2, B3, K3⟩
  have K03 := K02.trans K3
  clear B2 K02 K3
  go_wp2_with fail
  refine (putN_any w9.heap.size _ _ _ _ _ _ _ _ _ _ A4 km c4 _ B3 (by omega) (by omega)).mono ?_
  rintro e w13 ⟨rfl, vn2, B4, K4⟩
  have K04 := K03.trans K4
  clear B3 K03 K4
  have hfar : ∀ b, b < w9.heap.size → ¬ w9.heap.size ≤ b := fun b h => by omega
  have l0 : Lone 63 10 w13 ⟨some ⟨g, 0, none⟩, n, n + 1, 1⟩ := (twin_lone ht).keep K04 hfar
  have l1 : Lone 61 2 w13 ⟨some ⟨g1, 0, none⟩, n1, n1 + 1, 2⟩ := (twinT_lone ht1).keep K04 hfar
  have l2 : Lone 61 2 w13 ⟨some ⟨g2, 0, none⟩, n2, n2 + 1, 3⟩ := (twinT_lone ht2).keep K04 hfar
  have l3 : Lone 63 10 w13 ⟨A4, km, c4, 4⟩ := (Lone.of_own (no := 4) o4 (by omega)).keep K04 hfar
  have hge4 : ∀ a, A4 = some a → w3.heap.size ≤ a.block := fun a e => by subst e; exact (own_block o4 slice_own).1
  have hbb : ∃ B, w13.heap[w9.heap.size]? = some (.cells B 45 (0, 0)) := ⟨_, B4.blk⟩
  have hallN : ∀ e ∈ ([⟨some ⟨g, 0, none⟩, n, n + 1, 1⟩, ⟨A4, km, c4, 4⟩] : List Ent), Lone 63 10 w13 e := by
    intro e he
    simp only [List.mem_cons, List.not_mem_nil, or_false] at he
    rcases he with rfl | rfl
    · exact l0
    · exact l3
  have hallT : ∀ e ∈ ([⟨some ⟨g1, 0, none⟩, n1, n1 + 1, 2⟩, ⟨some ⟨g2, 0, none⟩, n2, n2 + 1, 3⟩] : List Ent), Lone 61 2 w13 e := by
    intro e he
    simp only [List.mem_cons, List.not_mem_nil, or_false] at he
    rcases he with rfl | rfl
    · exact l1
    · exact l2
  obtain ⟨hbN, capN, gN, eN, bN⟩ := book_of (K := 8) (HT := 91) (E := 63) (sz := 10) (es := [⟨some ⟨g, 0, none⟩, n, n + 1, 1⟩, ⟨A4, km, c4, 4⟩]) (by rw [cell_blk B4.blk]; rfl) hbb B4.on (by simp) (by simp) hallN
    (by
      refine List.pairwise_cons.2 ⟨fun b hbm x y hx hy e => ?_, by simp⟩
      simp only [List.mem_singleton] at hbm
      subst hbm
      injection hx with hx
      subst hx
      have h4 := hge4 y hy
      have e : g = y.block := e
      omega) (by intro e he; simp only [List.mem_cons, List.not_mem_nil, or_false] at he; rcases he with rfl | rfl <;> simp)
  obtain ⟨hbT, capT, gT, eT, bT⟩ := book_of (K := 10) (HT := 130) (E := 61) (sz := 2) (es := [⟨some ⟨g1, 0, none⟩, n1, n1 + 1, 2⟩, ⟨some ⟨g2, 0, none⟩, n2, n2 + 1, 3⟩]) (by rw [cell_blk B4.blk]; rfl) hbb B4.ot (by simp) (by simp) hallT
    (by
      refine List.pairwise_cons.2 ⟨fun b hbm x y hx hy e => ?_, by simp⟩
      simp only [List.mem_singleton] at hbm
      subst hbm
      injection hx with hx
      subst hx
      injection hy with hy
      subst hy
      have e : g1 = g2 := e
      omega) (by intro e he; simp only [List.mem_cons, List.not_mem_nil, or_false] at he; rcases he with rfl | rfl <;> simp)
  have HN := Lib.hid bN
  have HT := Lib.hid bT
  have HB4 := Lib.hid B4.blk
  have hsz9 := hb.size
  clear bN bT B4 l0 l1 l2 l3 o4 ht ht1 ht2 hbb hallN hallT
  go_wp2_with fail
  refine (apartNT_any _ _ w9.heap.size _ _ _ _ HN.out HT.out rfl rfl HB4.out).mono ?_
  rintro e w14 ⟨rfl, K16⟩
  go_wp2_with fail
  go_ret
  refine ⟨rfl, hb.trans ((K04.below hsz9 (fun b h => by omega)).trans (K16.below (Nat.le_trans hsz9 K04.size) ?_))⟩
  rintro b (e | e | e | e)
  · have e : b = hbN := e
    omega
  · obtain ⟨x, hx, a, ha, rfl⟩ := heldD e
    simp only [List.mem_cons, List.not_mem_nil, or_false] at hx
    rcases hx with rfl | rfl
    · injection ha with ha
      subst ha
      exact hold
    · have := hge4 a ha
      omega
  · have e : b = hbT := e
    omega
  · obtain ⟨x, hx, a, ha, rfl⟩ := heldD e
    simp only [List.mem_cons, List.not_mem_nil, or_false] at hx
    rcases hx with rfl | rfl
    · injection ha with ha
      subst ha
      show w.heap.size ≤ g1
      omega
    · injection ha with ha
      subst ha
      show w.heap.size ≤ g2
      omega
end Go.Proofs.YtabfbelbcdbkaaaGreatDoor
