/- The document's From: all that a term leads to. No condition but sizes. -/
import Derived.Test.YtnlgfiffhahpfaaGreatDoorRefC
namespace Go.Proofs.YtnlgfiffhahpfaaGreatDoor
open Go.RowKit

def FrRel (l : List Bd) (t : Tm) (w : World) (v5 v6 : Value) (wr : World) : Prop :=
  ∃ (a : Nat) (A : Option Addr) (k c : Nat) (out : List Tm), v6 = .int .i64 (a : Int) ∧ a ≤ out.length ∧ v5 = .slice A k c ∧ wr.ownsRow w.heap.size 75 2 (.slice A k c) k (out.flatMap tmc) ∧ FromTo l t a 0 out ∧ Below w.heap.size w wr
def FiRel (l : List Bd) (t : Tm) (w : World) (a : Nat) (v5 v7 : Value) (wr : World) : Prop :=
  ∃ (i : Nat) (A : Option Addr) (k c : Nat) (out : List Tm), v7 = .int .i64 (i : Int) ∧ i ≤ l.length ∧ v5 = .slice A k c ∧ a < out.length ∧ wr.ownsRow w.heap.size 75 2 (.slice A k c) k (out.flatMap tmc) ∧ FromTo l t a i out ∧ Below w.heap.size w wr

set_option maxRecDepth 100000 in
set_option maxHeartbeats 8000000 in
theorem from_any (A : Option Addr) (n c : Nat) (l : List Bd) (v : Bool) (z : Nat) (w : World) (h : Rs bdc 4 w w.heap.size A n c l) (hf : ∀ b ∈ l, b.Fit) (hn : l.length ≤ 256) :
    Calls Tryz.prog 32 #[.slice A n c, tmv v z] w fun e w' => ∃ A' k' c' out, e = .returned (.slice A' k' c') ∧ w'.ownsRow w.heap.size 75 2 (.slice A' k' c') k' (out.flatMap tmc) ∧ IsFrom l (v, z) out ∧ Below w.heap.size w w' := by
  have HL := Lib.hid h.len
  have htop := h.top
  have hcap := h.cap
  unfold maxLen at htop
  have HR := Lib.hid h
  have HF := Lib.hid hf
  have HN := Lib.hid hn
  have hal1 : Below w.heap.size w (w.alloc (.cells #[.bool v, .int .u64 (z : Int)] 75)) := (Below.refl _ _).alloc (Nat.le_refl _) _
  have hal : Below w.heap.size w ((w.alloc (.cells #[.bool v, .int .u64 (z : Int)] 75)).alloc (.cells #[.bool v, .int .u64 (z : Int)] 75)) := hal1.alloc (by simp) _
  have hsz : (w.alloc (.cells #[.bool v, .int .u64 (z : Int)] 75)).heap.size = w.heap.size + 1 := by simp
  have hnew := heap_alloc_new (w.alloc (.cells #[.bool v, .int .u64 (z : Int)] 75)) (.cells #[.bool v, .int .u64 (z : Int)] 75)
  rw [hsz] at hnew
  have HOW := Lib.hid (own_nw (enc := tmc) (l := [(v, z)]) (base := w.heap.size) (n := 1) tmc_len hnew (by omega) rfl rfl (by unfold maxLen; omega))
  have HAL := Lib.hid hal
  clear h hf hn hal1 hal hsz hnew
  unfold tmv
  go_enter Tryz.func32, Tryz.ntmps32
  go_wp2_with fail
  obtain ⟨w0, hw0⟩ : ∃ w0, w0 = (w.alloc (.cells #[.bool v, .int .u64 (z : Int)] 75)).alloc (.cells #[.bool v, .int .u64 (z : Int)] 75) := ⟨_, rfl⟩
  rw [← hw0] at HOW HAL ⊢
  clear hw0
  go_loopw [5, 6] (fun v5 v6 wr => FrRel l (v, z) w v5 v6 wr) (fun _ v6 _ => n + 2 - (intOf v6).toNat)
  case atStart => exact ⟨0, _, _, _, [(v, z)], rfl, by simp, rfl, HOW.out, FromTo.start l (v, z), HAL.out⟩
  case round =>
    clear HOW HAL
    obtain ⟨a, A3, k3, c3, out, rfl, ha, rfl, hown, hft, hb⟩ := hrel
    have HKL : Hid (out.length = k3) := Lib.hid (rs_own_len tmc_len (by decide) hown)
    have HFL := Lib.hid hft.len
    by_cases hlt : a < k3
    · have hlt0 : a < out.length := by rw [HKL.out]; exact hlt
      have HOW := Lib.hid hown
      have HFT := Lib.hid hft
      have HB := Lib.hid hb
      have HA0 := Lib.hid hlt0
      have han : a < 300 := by have := HN.out; have := HFL.out; omega
      obtain ⟨wo, rfl⟩ : ∃ wo, wo = wr := ⟨_, rfl⟩
      clear hown hft hb hlt0 ha
      go_wp2_with fail
      go_loopw [5, 7] (fun v5 v7 wr => FiRel l (v, z) w a v5 v7 wr) (fun _ v7 _ => n - (intOf v7).toNat)
      case atStart => exact ⟨0, A3, k3, c3, out, rfl, by omega, rfl, HA0.out, HOW.out, HFT.out, HB.out⟩
      case round =>
        clear HOW HFT HB HA0 HKL HFL
        obtain ⟨i, A3, k3, c3, out, rfl, hi, rfl, hao, hown, hft, hb⟩ := hrel
        have HKL : Hid (out.length = k3) := Lib.hid (rs_own_len tmc_len (by decide) hown)
        have HFL := Lib.hid hft.len
        by_cases hlt : i < n
        · have hi' : i < l.length := by rw [HL.out]; exact hlt
          obtain ⟨b, o, rfl, hbb, e0, e1, e2, e3⟩ := bd_at HR.out hi'
          have HSK := Lib.hid (hft.skip hao hi')
          have HMO := Lib.hid (hft.more hao hi')
          have hrs := Rs.of_own tmc_len (by decide) hown
          obtain ⟨bo, oo, rfl, hbo, c0, c1⟩ := tm_at hrs hao
          have hak : (a : Int) < (k3 : Int) := by have := HKL.out; omega
          generalize hy : l[i] = y at *
          obtain ⟨av, an, bv, bn⟩ := y
          simp only [Bd.a, Bd.b] at e0 e1 e2 e3 HSK HMO
          have HE0 := Lib.hid fun W (hW : Below w.heap.size w W) => (hW.cell (p := ⟨b, o + i * 4, none⟩) hbb).trans e0
          have HE1 := Lib.hid fun W (hW : Below w.heap.size w W) => (hW.cell (p := ⟨b, o + i * 4 + 1, none⟩) hbb).trans e1
          have HE2 := Lib.hid fun W (hW : Below w.heap.size w W) => (hW.cell (p := ⟨b, o + i * 4 + 2, none⟩) hbb).trans e2
          have HE3 := Lib.hid fun W (hW : Below w.heap.size w W) => (hW.cell (p := ⟨b, o + i * 4 + 3, none⟩) hbb).trans e3
          clear e0 e1 e2 e3
          have e0 := HE0.out _ hb
          have e1 := HE1.out _ hb
          have e2 := HE2.out _ hb
          have e3 := HE3.out _ hb
          obtain ⟨x, hx⟩ : ∃ x, x = out[a] := ⟨_, rfl⟩
          rw [← hx] at c0 c1 HSK HMO
          obtain ⟨xv, xz⟩ := x
          simp only at c0 c1
          have HLT := Lib.hid hlt
          have HAO := Lib.hid hao
          clear hbb hi' hy hx hlt hft hao
          by_cases he : ((av, an) : Tm) = (xv, xz)
          case neg =>
            have HNX := Lib.hid (HSK.out fun e => absurd e he)
            have hne : (av = xv ∧ ((an : Int) == (xz : Int)) = false) ∨ (av = true ∧ xv = false) ∨ (av = false ∧ xv = true) := by
              cases av <;> cases xv <;> simp <;> intro e2 <;> exact he (by rw [show an = xz by omega])
            clear he HSK HMO hrs
            rcases hne with ⟨rfl, hq⟩ | ⟨rfl, rfl⟩ | ⟨rfl, rfl⟩
            all_goals (
              go_wp2_with fail
              go_big_quiet (fail)
              have hb := hb.trans ((below_drewN wr nq).mono hb.size)
              have hown := own_sm hown (below_drewN wr nq)
              go_wp2_with fail
              go_roundw
              case rel => exact ⟨i + 1, _, k3, c3, out, by have := HLT.out; have := HL.out; have := HN.out; go_num, by have := HLT.out; have := HL.out; omega, rfl, HAO.out, hown, HNX.out, hb⟩
              case measure =>
                have := HLT.out
                simp [intOf]
                omega)
          case pos =>
            injection he with he1 he2
            subst he1
            subst he2
            have HSK2 : Hid (((bv, bn) : Tm) ∈ out → FromTo l (v, z) a (i + 1) out) := Lib.hid fun hm => HSK.out fun _ => hm
            have HMO2 : Hid (¬ ((bv, bn) : Tm) ∈ out → FromTo l (v, z) a (i + 1) (out ++ [(bv, bn)])) := Lib.hid (HMO.out rfl)
            clear HSK HMO
            obtain ⟨r, hr⟩ : ∃ r, decide (((bv, bn) : Tm) ∈ out) = r := ⟨_, rfl⟩
            have HRR := Lib.hid hr
            clear hr
            go_wp2_with fail
            refine wp_region_ord [0, 1, 2, 3, 4, 5, 6, 7, 8, 9, 10, 11, 12, 13, 14, 15, 16, 17, 18, 19] [17] 20 (fun w' => w'.cell? ⟨b, o + i * 4, none⟩ = some (.bool av) ∧ w'.cell? ⟨b, o + i * 4 + 1, none⟩ = some (.int .u64 (an : Int)) ∧ w'.cell? ⟨b, o + i * 4 + 2, none⟩ = some (.bool bv) ∧ w'.cell? ⟨b, o + i * 4 + 3, none⟩ = some (.int .u64 (bn : Int)) ∧ w'.cell? ⟨bo, oo + a * 2, none⟩ = some (.bool av) ∧ w'.cell? ⟨bo, oo + a * 2 + 1, none⟩ = some (.int .u64 (an : Int))) (by kernel_rfl) (by kernel_rfl) (by kernel_rfl) (by kernel_rfl) (fun _ _ _ _ _ h => h) ⟨e0, e1, e2, e3, c0, c1⟩ ?_
            simp only [steps, List.getElem?_cons_zero, List.getElem?_cons_succ]
            repeat (first
              | (refine ord_no rfl ?_; simp only [Act.put, List.setIfInBounds_toArray, List.set_cons_zero, List.set_cons_succ])
              | (refine ord_yes (v := ?_) rfl rfl ?_ ?_; rotate_left; (focus (rintro w' ⟨hS0, hS1, hS2, hS3, hS4, hS5⟩; go_simp; try with_reducible rfl)); simp only [Act.put, List.setIfInBounds_toArray, List.set_cons_zero, List.set_cons_succ]))
            have hv : Below wr.heap.size wr wr.drew := (Below.refl _ _).drew
            replace c0 := cell_old c0 hv
            replace c1 := cell_old c1 hv
            replace hown := own_sm hown hv
            replace hb := hb.trans (hv.mono hb.size)
            clear hv hrs e0 e1 e2 e3
            have e0 := HE0.out _ hb
            have e1 := HE1.out _ hb
            have e2 := HE2.out _ hb
            have e3 := HE3.out _ hb
            generalize wr.drew = w5 at *
            refine ord_hard rfl rfl (fun K hK => ?_)
            go_simp
            have hrs := Rs.of_own tmc_len (by decide) hown
            have HC := Lib.hid (hasT_any _ k3 c3 _ out bv bn w5 r hrs (Nat.le_refl _) HRR.out)
            unfold tmv at HC
            refine HC.out.mono ?_
            rintro e w6 ⟨rfl, hv⟩
            replace c0 := cell_old c0 hv
            replace c1 := cell_old c1 hv
            replace hown := own_sm hown hv
            replace hb := hb.trans (hv.mono hb.size)
            clear hv hrs e0 e1 e2 e3 HC
            have e0 := HE0.out _ hb
            have e1 := HE1.out _ hb
            have e2 := HE2.out _ hb
            have e3 := HE3.out _ hb
            refine hK.out _ _ (fun _ => ⟨e0, e1, e2, e3, c0, c1⟩) ?_
            clear hK K
            try simp only [Act.put, List.setIfInBounds_toArray, List.set_cons_zero, List.set_cons_succ]
            cases r with
            | true =>
              have HNX := Lib.hid (HSK2.out (of_decide_eq_true HRR.out))
              repeat (first
                | (refine ord_no rfl ?_; simp only [Act.put, List.setIfInBounds_toArray, List.set_cons_zero, List.set_cons_succ])
                | (refine ord_yes (v := ?_) rfl rfl ?_ ?_; rotate_left; (focus (rintro w' ⟨hS0, hS1, hS2, hS3, hS4, hS5⟩; go_simp; try with_reducible rfl)); simp only [Act.put, List.setIfInBounds_toArray, List.set_cons_zero, List.set_cons_succ]))
              refine ord_end ?_
              clear HSK2 HMO2 c0 c1 hbo
              go_wp2_with fail
              go_roundw
              case rel => exact ⟨i + 1, _, k3, c3, out, by have := HLT.out; have := HL.out; have := HN.out; go_num, by have := HLT.out; have := HL.out; omega, rfl, HAO.out, hown, HNX.out, hb⟩
              case measure =>
                have := HLT.out
                simp [intOf]
                omega
            | false =>
              have HNX := Lib.hid (HMO2.out (of_decide_eq_false HRR.out))
              repeat (first
                | (refine ord_no rfl ?_; simp only [Act.put, List.setIfInBounds_toArray, List.set_cons_zero, List.set_cons_succ])
                | (refine ord_yes (v := ?_) rfl rfl ?_ ?_; rotate_left; (focus (rintro w' ⟨hS0, hS1, hS2, hS3, hS4, hS5⟩; go_simp; try with_reducible rfl)); simp only [Act.put, List.setIfInBounds_toArray, List.set_cons_zero, List.set_cons_succ]))
              refine ord_end ?_
              clear HSK2 HMO2 c0 c1 hbo
              have hv : Below w6.heap.size w6 (w6.alloc (.cells #[.bool bv, .int .u64 (bn : Int)] 75)) := (Below.refl _ _).alloc (Nat.le_refl _) _
              have ho := one_tm w6 bv bn
              have hown0 := own_sm hown hv
              have hb0 := hb.trans (hv.mono hb.size)
              clear hv hb hown
              go_wp2_with (at_builtin; refine wpList_tm rfl (.tmp 42) (.tmp 48) rfl w.heap.size (.slice (some ⟨bo, oo, none⟩) k3 c3) k3 out rfl hown0 _ _ 1 1 [(bv, bn)] rfl ho (by have := HKL.out; have := HFL.out; have := HN.out; omega) hb0.size ?_; intro A9 k9 c9 w9 hk9 ha9; have hb := hb0.grown ha9.out.grown hb0.size (fun j hj => (hown0.lt j hj).1); have hown := ha9.out.own; clear ha9 hk9 hown0 ho hb0)
              go_roundw
              case rel => exact ⟨i + 1, A9, k9, c9, (out ++ [(bv, bn)]), by have := HLT.out; have := HL.out; have := HN.out; go_num, by have := HLT.out; have := HL.out; omega, rfl, by have := HAO.out; simp; omega, hown, HNX.out, hb⟩
              case measure =>
                have := HLT.out
                simp [intOf]
                omega
        · obtain rfl : i = n := by have := HL.out; omega
          have HNX : Hid (FromTo l (v, z) (a + 1) 0 out) := Lib.hid (hft.next hao (by rw [HL.out]))
          have HAO := Lib.hid hao
          clear hft hlt hi
          go_wp2_with fail
          go_roundw
          case rel => exact ⟨a + 1, A3, k3, c3, out, by go_num, HAO.out, rfl, hown, HNX.out, hb⟩
          case measure =>
            simp [intOf]
            have := HFL.out
            have := HL.out
            have := HAO.out
            omega
    · have HE : Hid (IsFrom l (v, z) out) := Lib.hid (by
        obtain rfl : a = out.length := by have := HKL.out; omega
        exact hft.end)
      have hrs := Lib.hid hown
      clear hft hown
      go_wp2_with fail
      go_ret
      exact ⟨_, _, _, out, rfl, hrs.out, HE.out, hb⟩
end Go.Proofs.YtnlgfiffhahpfaaGreatDoor
