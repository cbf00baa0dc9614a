/- The document's constants: each that stands in a bound, once. No condition but sizes. -/
import Derived.Test.YtnlgfiffhahpfaaGreatDoorRefF
import Derived.Test.YtnlgfiffhahpfaaGreatDoorApp
namespace Go.Proofs.YtnlgfiffhahpfaaGreatDoor
open Go.RowKit

theorem own_sm {w w' : World} {base sz n : Nat} {e : TypeId} {v : Value} {xs : List Value} (h : w.ownsRow base e sz v n xs) (hb : Below w.heap.size w w') : w'.ownsRow base e sz v n xs := by
  refine ⟨h.1, ?_⟩
  rcases h.2 with hn | ⟨g, cap, cur, hv, hg, hgg, r⟩
  · exact .inl hn
  · exact .inr ⟨g, cap, cur, hv, hg, (hb.block g (Array.getElem?_eq_some_iff.1 hgg).1).trans hgg, r⟩
theorem own_nw {α : Type} {enc : α → List Value} {sz : Nat} {E : TypeId} {w : World} {g base n : Nat} {cs : Array Value} {l : List α} (he : ∀ x, (enc x).length = sz) (hg : w.heap[g]? = some (.cells cs E (0, 0))) (hb : base ≤ g) (hcs : cs.toList = l.flatMap enc) (hn : l.length = n) (hm : n ≤ maxLen) :
    w.ownsRow base E sz (.slice (some ⟨g, 0, none⟩) n n) n (l.flatMap enc) := by
  have hl : (l.flatMap enc).length = n * sz := by rw [flat_len he, hn]
  refine ⟨hl, .inr ⟨g, n, cs, rfl, hb, hg, Nat.le_refl _, hm, ?_, ?_⟩⟩
  · rw [← Array.length_toList, hcs, hl]
  · rw [hcs, List.take_of_length_le (by rw [hl]; exact Nat.le_refl _)]

/-- append(own, xs...) of terms. -/
theorem wpList_tm {w : World} {ops : Array Oper} {rest : List Oper} {o : Oper} {a : Act} {Q : Exit → Act → World → Prop} (hgd : o.guard = none) (s x : Operand)
    (ho : o.op = .call { callee := .builtin .append, args := #[s, x], argTypes := #[83, 83] })
    (base : Nat) (v : Value) (n : Nat) (vs : List Tm) (hs : a.eval s = v) (hown : w.ownsRow base 75 2 v n (vs.flatMap tmc)) (B : Nat) (A : Option Addr) (m c : Nat) (ms : List Tm) (hx : a.eval x = .slice A m c) (hr : Rs tmc 2 w B A m c ms)
    (hsm : n + m ≤ 100000) (hbase : base ≤ w.heap.size)
    (h : ∀ A' k c' w', Hid (k = n + m) → Hid (Appended w w' base 75 2 v (.slice A' k c') k ((vs ++ ms).flatMap tmc)) → wpList Tryz.prog ops Q rest (a.put o.dst (.slice A' k c')) w') : wpList Tryz.prog ops Q (o :: rest) a w :=
  wpList_plain hgd fun _ hK => op_append tmc_len (by decide) tmc_one Tryz.underlying83 tm_inf rfl (by decide) s x ho base v n vs hs hown B A m c ms hx hr hsm hbase fun A' k c' w' g1 g2 => hK _ _ (h A' k c' w' g1 g2)
theorem one_tm (w : World) (b : Bool) (x : Nat) : Rs tmc 2 (w.alloc (.cells #[.bool b, .int .u64 (x : Int)] 75)) (w.alloc (.cells #[.bool b, .int .u64 (x : Int)] 75)).heap.size (some ⟨w.heap.size, 0, none⟩) 1 1 [(b, x)] :=
  Rs.of_blk tmc_len (heap_alloc_new w _) ⟨[], rfl⟩ rfl (Nat.le_refl _) (by unfold maxLen; omega)

theorem addC_var {out : List Tm} {t : Tm} (h : t.1 = true) : addC out t = out := by
  unfold addC
  rw [if_neg (fun e => by rw [h] at e; cases e.1)]
theorem addC_old {out : List Tm} {n : Nat} (h : decide ((false, n) ∈ out) = true) : addC out (false, n) = out := by
  unfold addC
  rw [if_neg (fun e => e.2 (of_decide_eq_true h))]
theorem addC_new {out : List Tm} {n : Nat} (h : decide ((false, n) ∈ out) = false) : addC out (false, n) = out ++ [(false, n)] := by
  unfold addC
  rw [if_pos ⟨rfl, of_decide_eq_false h⟩]

def CnRel (l : List Bd) (w : World) (v3 v4 : Value) (wr : World) : Prop :=
  ∃ (i : Nat) (A : Option Addr) (k c : Nat) (out : List Tm), v4 = .int .i64 (i : Int) ∧ i ≤ l.length ∧ v3 = .slice A k c ∧ wr.ownsRow w.heap.size 75 2 (.slice A k c) k (out.flatMap tmc) ∧ Consts l i out ∧ Below w.heap.size w wr

set_option maxRecDepth 100000 in
set_option maxHeartbeats 8000000 in
theorem constants_any (A : Option Addr) (n c : Nat) (l : List Bd) (w : World) (h : Rs bdc 4 w w.heap.size A n c l) (hf : ∀ b ∈ l, b.Fit) (hn : l.length ≤ 256) :
    Calls Tryz.prog 31 #[.slice A n c] w fun e w' => ∃ A' k c' out, e = .returned (.slice A' k c') ∧ w'.ownsRow w.heap.size 75 2 (.slice A' k c') k (out.flatMap tmc) ∧ Consts l l.length out ∧ Below w.heap.size w w' := by
  have HL := Lib.hid h.len
  have htop := h.top
  have hcap := h.cap
  unfold maxLen at htop
  have HR := Lib.hid h
  have HF := Lib.hid hf
  have HN := Lib.hid hn
  clear h hf hn
  go_enter Tryz.func31, Tryz.ntmps31
  go_wp2_with fail
  go_loopw [3, 4] (fun v3 v4 wr => CnRel l w v3 v4 wr) (fun _ v4 _ => n - (intOf v4).toNat)
  case atStart => exact ⟨0, none, 0, 0, [], rfl, by omega, rfl, World.ownsRow_nil _ _ _ _, Consts.start l, Below.refl _ _⟩
  case round =>
    obtain ⟨i, A3, k3, c3, out, rfl, hi, rfl, hown, hcs, hb⟩ := hrel
    by_cases hlt : i < n
    · have hi' : i < l.length := by rw [HL.out]; exact hlt
      obtain ⟨b, o, rfl, hbb, e0, e1, e2, e3⟩ := bd_at HR.out hi'
      have hu := HF.out _ (List.getElem_mem hi')
      have HNX := Lib.hid (hcs.next hi')
      have HCL := Lib.hid hcs.len
      generalize l[i] = y at *
      obtain ⟨av, an, bv, bn⟩ := y
      simp only [Bd.a, Bd.b] at e0 e1 e2 e3 hu HNX
      have HE0 := Lib.hid fun W (hW : Below w.heap.size w W) => (hW.cell (p := ⟨b, o + i * 4, none⟩) hbb).trans e0
      have HE1 := Lib.hid fun W (hW : Below w.heap.size w W) => (hW.cell (p := ⟨b, o + i * 4 + 1, none⟩) hbb).trans e1
      have HE2 := Lib.hid fun W (hW : Below w.heap.size w W) => (hW.cell (p := ⟨b, o + i * 4 + 2, none⟩) hbb).trans e2
      have HE3 := Lib.hid fun W (hW : Below w.heap.size w W) => (hW.cell (p := ⟨b, o + i * 4 + 3, none⟩) hbb).trans e3
      replace e0 := HE0.out _ hb
      replace e1 := HE1.out _ hb
      replace e2 := HE2.out _ hb
      replace e3 := HE3.out _ hb
      have HKL : Hid (out.length = k3) := Lib.hid (rs_own_len tmc_len (by decide) hown)
      have HLT := Lib.hid hlt
      have HU := Lib.hid hu
      clear hbb hi' hcs hu
      cases av with
      | true =>
        cases bv with
        | true =>
          have HEA := Lib.hid (addC_var (out := out) (t := (true, an)) rfl)
          have HEB := Lib.hid (addC_var (out := out) (t := (true, bn)) rfl)
          go_wp2_with fail
          go_roundw
          case rel => exact ⟨i + 1, A3, k3, c3, out, by have := HLT.out; have := HL.out; have := HN.out; go_num, by have := HLT.out; have := HL.out; omega, rfl, hown, by have := HNX.out; rw [HEA.out, HEB.out] at this; exact this, hb⟩
          case measure =>
            have := HLT.out
            simp [intOf]
            omega
        | false =>
          have HEA := Lib.hid (addC_var (out := out) (t := (true, an)) rfl)
          have HCL2 : Hid (out.length ≤ 512) := Lib.hid (by have := HCL.out; have := HN.out; omega)
          go_wp2_with fail
          have HKB : Hid (out.length = k3) := Lib.hid (rs_own_len tmc_len (by decide) hown)
          have hrs := Rs.of_own tmc_len (by decide) hown
          obtain ⟨r2, hr2⟩ : ∃ r, decide ((false, bn) ∈ out) = r := ⟨_, rfl⟩
          have HCr2 := Lib.hid (hasT_any A3 k3 c3 _ out false bn wr r2 hrs (Nat.le_refl _) hr2)
          have Hr2 := Lib.hid hr2
          unfold tmv at HCr2
          clear hrs hr2
          refine HCr2.out.mono ?_
          rintro e wb ⟨rfl, hv⟩
          clear HCr2
          replace hown := own_sm hown hv
          replace hb := hb.trans (hv.mono hb.size)
          clear hv
          clear e0 e1 e2 e3
          have e0 := HE0.out _ hb
          have e1 := HE1.out _ hb
          have e2 := HE2.out _ hb
          have e3 := HE3.out _ hb
          cases r2 with
          | true =>
            have HE := Lib.hid (addC_old Hr2.out)
            go_wp2_with fail
            go_roundw
            case rel => exact ⟨i + 1, A3, k3, c3, out, by have := HLT.out; have := HL.out; have := HN.out; go_num, by have := HLT.out; have := HL.out; omega, rfl, hown, by have := HNX.out; rw [HEA.out] at this; rw [HE.out] at this; exact this, hb⟩
            case measure =>
              have := HLT.out
              simp [intOf]
              omega
          | false =>
            have HE := Lib.hid (addC_new Hr2.out)
            have hv : Below wb.heap.size wb (wb.alloc (.cells #[.bool false, .int .u64 (bn : Int)] 75)) := (Below.refl _ _).alloc (Nat.le_refl _) _
            have ho := one_tm wb false bn
            have hown0 := own_sm hown hv
            have hb0 := hb.trans (hv.mono hb.size)
            clear hv hb hown
            go_wp2_with (at_builtin; refine wpList_tm rfl (.tmp 53) (.tmp 59) rfl w.heap.size (.slice A3 k3 c3) k3 out rfl hown0 _ _ 1 1 [(false, bn)] rfl ho (by have := HKB.out; have := HCL2.out; have := HN.out; omega) hb0.size ?_; intro A9 k9 c9 w9 hk9 ha9; have hb := hb0.grown ha9.out.grown hb0.size (fun j hj => (hown0.lt j hj).1); have hown := ha9.out.own; clear ha9 hk9 hown0 ho hb0; clear e0 e1 e2 e3; have e0 := HE0.out _ hb; have e1 := HE1.out _ hb; have e2 := HE2.out _ hb; have e3 := HE3.out _ hb)
            go_roundw
            case rel => exact ⟨i + 1, A9, k9, c9, (out ++ [(false, bn)]), by have := HLT.out; have := HL.out; have := HN.out; go_num, by have := HLT.out; have := HL.out; omega, rfl, hown, by have := HNX.out; rw [HEA.out] at this; rw [HE.out] at this; exact this, hb⟩
            case measure =>
              have := HLT.out
              simp [intOf]
              omega
      | false =>
        cases bv with
        | true =>
          go_wp2_with fail
          have hrs := Rs.of_own tmc_len (by decide) hown
          obtain ⟨r1, hr1⟩ : ∃ r, decide ((false, an) ∈ out) = r := ⟨_, rfl⟩
          have HCr1 := Lib.hid (hasT_any A3 k3 c3 _ out false an wr r1 hrs (Nat.le_refl _) hr1)
          have Hr1 := Lib.hid hr1
          unfold tmv at HCr1
          clear hrs hr1
          refine HCr1.out.mono ?_
          rintro e wa ⟨rfl, hv⟩
          clear HCr1
          replace hown := own_sm hown hv
          replace hb := hb.trans (hv.mono hb.size)
          clear hv
          clear e0 e1 e2 e3
          have e0 := HE0.out _ hb
          have e1 := HE1.out _ hb
          have e2 := HE2.out _ hb
          have e3 := HE3.out _ hb
          cases r1 with
          | true =>
            have HEA := Lib.hid (addC_old Hr1.out)
            have HEB := Lib.hid (addC_var (out := out) (t := (true, bn)) rfl)
            go_wp2_with fail
            go_roundw
            case rel => exact ⟨i + 1, A3, k3, c3, out, by have := HLT.out; have := HL.out; have := HN.out; go_num, by have := HLT.out; have := HL.out; omega, rfl, hown, by have := HNX.out; rw [HEA.out, HEB.out] at this; exact this, hb⟩
            case measure =>
              have := HLT.out
              simp [intOf]
              omega
          | false =>
            have HEA := Lib.hid (addC_new Hr1.out)
            have HEB := Lib.hid (addC_var (out := (out ++ [(false, an)])) (t := (true, bn)) rfl)
            have hv : Below wa.heap.size wa (wa.alloc (.cells #[.bool false, .int .u64 (an : Int)] 75)) := (Below.refl _ _).alloc (Nat.le_refl _) _
            have ho := one_tm wa false an
            have hown0 := own_sm hown hv
            have hb0 := hb.trans (hv.mono hb.size)
            clear hv hb hown
            go_wp2_with (at_builtin; refine wpList_tm rfl (.tmp 28) (.tmp 34) rfl w.heap.size (.slice A3 k3 c3) k3 out rfl hown0 _ _ 1 1 [(false, an)] rfl ho (by have := HCL.out; have := HN.out; have := HKL.out; omega) hb0.size ?_; intro A5 k5 c5 w5 hk9 ha9; have hb := hb0.grown ha9.out.grown hb0.size (fun j hj => (hown0.lt j hj).1); have hown := ha9.out.own; clear ha9 hk9 hown0 ho hb0; clear e0 e1 e2 e3; have e0 := HE0.out _ hb; have e1 := HE1.out _ hb; have e2 := HE2.out _ hb; have e3 := HE3.out _ hb)
            go_roundw
            case rel => exact ⟨i + 1, A5, k5, c5, (out ++ [(false, an)]), by have := HLT.out; have := HL.out; have := HN.out; go_num, by have := HLT.out; have := HL.out; omega, rfl, hown, by have := HNX.out; rw [HEA.out, HEB.out] at this; exact this, hb⟩
            case measure =>
              have := HLT.out
              simp [intOf]
              omega
        | false =>
          go_wp2_with fail
          have hrs := Rs.of_own tmc_len (by decide) hown
          obtain ⟨r1, hr1⟩ : ∃ r, decide ((false, an) ∈ out) = r := ⟨_, rfl⟩
          have HCr1 := Lib.hid (hasT_any A3 k3 c3 _ out false an wr r1 hrs (Nat.le_refl _) hr1)
          have Hr1 := Lib.hid hr1
          unfold tmv at HCr1
          clear hrs hr1
          refine HCr1.out.mono ?_
          rintro e wa ⟨rfl, hv⟩
          clear HCr1
          replace hown := own_sm hown hv
          replace hb := hb.trans (hv.mono hb.size)
          clear hv
          clear e0 e1 e2 e3
          have e0 := HE0.out _ hb
          have e1 := HE1.out _ hb
          have e2 := HE2.out _ hb
          have e3 := HE3.out _ hb
          cases r1 with
          | true =>
            have HEA := Lib.hid (addC_old Hr1.out)
            have HCL2 : Hid (out.length ≤ 512) := Lib.hid (by have := HCL.out; have := HN.out; omega)
            go_wp2_with fail
            have HKB : Hid (out.length = k3) := Lib.hid (rs_own_len tmc_len (by decide) hown)
            have hrs := Rs.of_own tmc_len (by decide) hown
            obtain ⟨r2, hr2⟩ : ∃ r, decide ((false, bn) ∈ out) = r := ⟨_, rfl⟩
            have HCr2 := Lib.hid (hasT_any A3 k3 c3 _ out false bn wa r2 hrs (Nat.le_refl _) hr2)
            have Hr2 := Lib.hid hr2
            unfold tmv at HCr2
            clear hrs hr2
            refine HCr2.out.mono ?_
            rintro e wb ⟨rfl, hv⟩
            clear HCr2
            replace hown := own_sm hown hv
            replace hb := hb.trans (hv.mono hb.size)
            clear hv
            clear e0 e1 e2 e3
            have e0 := HE0.out _ hb
            have e1 := HE1.out _ hb
            have e2 := HE2.out _ hb
            have e3 := HE3.out _ hb
            cases r2 with
            | true =>
              have HE := Lib.hid (addC_old Hr2.out)
              go_wp2_with fail
              go_roundw
              case rel => exact ⟨i + 1, A3, k3, c3, out, by have := HLT.out; have := HL.out; have := HN.out; go_num, by have := HLT.out; have := HL.out; omega, rfl, hown, by have := HNX.out; rw [HEA.out] at this; rw [HE.out] at this; exact this, hb⟩
              case measure =>
                have := HLT.out
                simp [intOf]
                omega
            | false =>
              have HE := Lib.hid (addC_new Hr2.out)
              have hv : Below wb.heap.size wb (wb.alloc (.cells #[.bool false, .int .u64 (bn : Int)] 75)) := (Below.refl _ _).alloc (Nat.le_refl _) _
              have ho := one_tm wb false bn
              have hown0 := own_sm hown hv
              have hb0 := hb.trans (hv.mono hb.size)
              clear hv hb hown
              go_wp2_with (at_builtin; refine wpList_tm rfl (.tmp 53) (.tmp 59) rfl w.heap.size (.slice A3 k3 c3) k3 out rfl hown0 _ _ 1 1 [(false, bn)] rfl ho (by have := HKB.out; have := HCL2.out; have := HN.out; omega) hb0.size ?_; intro A9 k9 c9 w9 hk9 ha9; have hb := hb0.grown ha9.out.grown hb0.size (fun j hj => (hown0.lt j hj).1); have hown := ha9.out.own; clear ha9 hk9 hown0 ho hb0; clear e0 e1 e2 e3; have e0 := HE0.out _ hb; have e1 := HE1.out _ hb; have e2 := HE2.out _ hb; have e3 := HE3.out _ hb)
              go_roundw
              case rel => exact ⟨i + 1, A9, k9, c9, (out ++ [(false, bn)]), by have := HLT.out; have := HL.out; have := HN.out; go_num, by have := HLT.out; have := HL.out; omega, rfl, hown, by have := HNX.out; rw [HEA.out] at this; rw [HE.out] at this; exact this, hb⟩
              case measure =>
                have := HLT.out
                simp [intOf]
                omega
          | false =>
            have HEA := Lib.hid (addC_new Hr1.out)
            have HCL2 : Hid ((out ++ [(false, an)]).length ≤ 513) := Lib.hid (by have := HCL.out; have := HN.out; simp; omega)
            have hv : Below wa.heap.size wa (wa.alloc (.cells #[.bool false, .int .u64 (an : Int)] 75)) := (Below.refl _ _).alloc (Nat.le_refl _) _
            have ho := one_tm wa false an
            have hown0 := own_sm hown hv
            have hb0 := hb.trans (hv.mono hb.size)
            clear hv hb hown
            go_wp2_with (at_builtin; refine wpList_tm rfl (.tmp 28) (.tmp 34) rfl w.heap.size (.slice A3 k3 c3) k3 out rfl hown0 _ _ 1 1 [(false, an)] rfl ho (by have := HCL.out; have := HN.out; have := HKL.out; omega) hb0.size ?_; intro A5 k5 c5 w5 hk9 ha9; have hb := hb0.grown ha9.out.grown hb0.size (fun j hj => (hown0.lt j hj).1); have hown := ha9.out.own; clear ha9 hk9 hown0 ho hb0; clear e0 e1 e2 e3; have e0 := HE0.out _ hb; have e1 := HE1.out _ hb; have e2 := HE2.out _ hb; have e3 := HE3.out _ hb)
            have HKB : Hid ((out ++ [(false, an)]).length = k5) := Lib.hid (rs_own_len tmc_len (by decide) hown)
            have hrs := Rs.of_own tmc_len (by decide) hown
            obtain ⟨r2, hr2⟩ : ∃ r, decide ((false, bn) ∈ (out ++ [(false, an)])) = r := ⟨_, rfl⟩
            have HCr2 := Lib.hid (hasT_any A5 k5 c5 _ (out ++ [(false, an)]) false bn w5 r2 hrs (Nat.le_refl _) hr2)
            have Hr2 := Lib.hid hr2
            unfold tmv at HCr2
            clear hrs hr2
            refine HCr2.out.mono ?_
            rintro e wb ⟨rfl, hv⟩
            clear HCr2
            replace hown := own_sm hown hv
            replace hb := hb.trans (hv.mono hb.size)
            clear hv
            clear e0 e1 e2 e3
            have e0 := HE0.out _ hb
            have e1 := HE1.out _ hb
            have e2 := HE2.out _ hb
            have e3 := HE3.out _ hb
            cases r2 with
            | true =>
              have HE := Lib.hid (addC_old Hr2.out)
              go_wp2_with fail
              go_roundw
              case rel => exact ⟨i + 1, A5, k5, c5, (out ++ [(false, an)]), by have := HLT.out; have := HL.out; have := HN.out; go_num, by have := HLT.out; have := HL.out; omega, rfl, hown, by have := HNX.out; rw [HEA.out] at this; rw [HE.out] at this; exact this, hb⟩
              case measure =>
                have := HLT.out
                simp [intOf]
                omega
            | false =>
              have HE := Lib.hid (addC_new Hr2.out)
              have hv : Below wb.heap.size wb (wb.alloc (.cells #[.bool false, .int .u64 (bn : Int)] 75)) := (Below.refl _ _).alloc (Nat.le_refl _) _
              have ho := one_tm wb false bn
              have hown0 := own_sm hown hv
              have hb0 := hb.trans (hv.mono hb.size)
              clear hv hb hown
              go_wp2_with (at_builtin; refine wpList_tm rfl (.tmp 53) (.tmp 59) rfl w.heap.size (.slice A5 k5 c5) k5 (out ++ [(false, an)]) rfl hown0 _ _ 1 1 [(false, bn)] rfl ho (by have := HKB.out; have := HCL2.out; have := HN.out; omega) hb0.size ?_; intro A9 k9 c9 w9 hk9 ha9; have hb := hb0.grown ha9.out.grown hb0.size (fun j hj => (hown0.lt j hj).1); have hown := ha9.out.own; clear ha9 hk9 hown0 ho hb0; clear e0 e1 e2 e3; have e0 := HE0.out _ hb; have e1 := HE1.out _ hb; have e2 := HE2.out _ hb; have e3 := HE3.out _ hb)
              go_roundw
              case rel => exact ⟨i + 1, A9, k9, c9, ((out ++ [(false, an)]) ++ [(false, bn)]), by have := HLT.out; have := HL.out; have := HN.out; go_num, by have := HLT.out; have := HL.out; omega, rfl, hown, by have := HNX.out; rw [HEA.out] at this; rw [HE.out] at this; exact this, hb⟩
              case measure =>
                have := HLT.out
                simp [intOf]
                omega
    · obtain rfl : i = n := by have := HL.out; omega
      have HCS : Hid (Consts l l.length out) := Lib.hid (by rw [HL.out]; exact hcs)
      have hrs := Lib.hid hown
      clear hcs hown
      go_wp2
      go_ret
      exact ⟨_, _, _, out, rfl, hrs.out, HCS.out, hb⟩
end Go.Proofs.YtnlgfiffhahpfaaGreatDoor
