/- Proved: whatever the number of variables, the bounds and one more, ReachesLess answers true: with one bound more each reaches at least what it reached, and nothing more just if it is known already. No condition. -/
import Derived.Test.YtomokkpfkhfemaaAlv
import Derived.Test.YtomokkpfkhfemaaApp
import Derived.Test.YtomokkpfkhfemaaGvn
import Derived.Test.YtomokkpfkhfemaaRows
namespace Go.Proofs.Ytomokkpfkhfemaa.reachesLess
open Go.ChangeShapes Go.WideShapes Go.ChangeAt Go.RowKit

theorem own : ownKnob Try.prog.godebug = none := by kernel_rfl
theorem laidOut : laidOutB Try.prog = true := by kernel_rfl


theorem hard_end {P : Program} {o : Oper} {a : Act} {w : World} {Q : Exit → Act → World → Prop} {R : Act → World → Prop} (h : ∀ K : Act → World → Prop, Shut (∀ a' w', R a' w' → K a' w') → Oper.wp P o a w K Q) : Oper.wp P o a w R Q := h _ (fun _ _ h => h)

/-- What came of Of, in one form. -/
theorem of_form {k : Int} {l : List Bd} {x : Int} {w w' : World} {e : Ending} (h : OfE k l x w e w') : ∃ A n c, e = .returned (.tuple #[.slice A n c, .int .i64 x]) ∧ Below w.heap.size w w' ∧
    (x = 0 → ∃ q g gs, k = ((q : Nat) : Int) ∧ A = some ⟨g, 0, none⟩ ∧ n = q ∧ c = q ∧ Sqr w' w.heap.size g q gs (La.bt (rchN q l))) := by
  rcases h with ⟨h0, rfl, hv⟩ | ⟨rfl, q, g, gs, rfl, rfl, hS, hv⟩
  · exact ⟨_, _, _, rfl, hv, fun h => absurd h h0⟩
  · exact ⟨_, _, _, rfl, hv, fun _ => ⟨q, g, gs, rfl, rfl, rfl, rfl, hS⟩⟩
theorem ofE_more {k : Int} {l : List Bd} {b : Bd} (h : ofE k ([] ++ l ++ [b]) = 0) : ofE k l = 0 := by
  obtain ⟨q, rfl, h1, h2, h3⟩ := ofE_ok h
  refine ofE_is h1 ?_ fun c hc => h3 c (by simp [hc])
  simp at h2
  omega

def LsRel (q : Nat) (w : World) (v : Value) (wr : World) : Prop := ∃ i : Nat, v = .int .i64 (i : Int) ∧ i ≤ q ∧ Below w.heap.size w wr

set_option maxRecDepth 100000 in
set_option maxHeartbeats 8000000 in
theorem walk (k : Int) (A : Option Addr) (n c : Nat) (l : List Bd) (av : Bool) (an : Nat) (bv : Bool) (bn : Nat) (w : World) (h : Rs bdc 4 w w.heap.size A n c l) (_hf : ∀ b ∈ l, b.Fit) :
    Calls Try.prog 6 #[.int .i64 k, .slice A n c, .agg #[.bool av, .int .u64 (an : Int), .bool bv, .int .u64 (bn : Int)]] w fun e w' => e = .returned (.bool true) ∧ Below w.heap.size w w' := by
  have hb : Below w.heap.size w (w.alloc (.cells #[.bool av, .int .u64 (an : Int), .bool bv, .int .u64 (bn : Int)] 33)) := (Below.refl _ _).alloc (Nat.le_refl _) _
  have hby := heap_alloc_new w (.cells #[.bool av, .int .u64 (an : Int), .bool bv, .int .u64 (bn : Int)] 33)
  have hy0 := (cell_blk (i := 0) hby).trans rfl
  have hy1 := (cell_blk (i := 1) hby).trans rfl
  have hy2 := (cell_blk (i := 2) hby).trans rfl
  have hy3 := (cell_blk (i := 3) hby).trans rfl
  replace hy0 : _ = some (Value.bool av) := hy0
  replace hy1 : _ = some (Value.int .u64 (an : Int)) := hy1
  replace hy2 : _ = some (Value.bool bv) := hy2
  replace hy3 : _ = some (Value.int .u64 (bn : Int)) := hy3
  obtain ⟨x, hx⟩ : ∃ x, ofE k l = x := ⟨_, rfl⟩
  have HLN := Lib.hid h.len
  have HX := Lib.hid hx
  replace h := h.at_size (Nat.le_refl _) hb
  have HCALL := Lib.hid (of_any k A n c l _ x h hx)
  clear hx hby
  by_cases hk0 : 255 < n
  · have hk1 : (255 : Int) < (n : Int) := by omega
    clear h HCALL hk0
    go_enter Try.func6, Try.ntmps6
    go_wp2_with fail
    refine (alive_any _).mono ?_
    rintro e wz ⟨rfl, hv⟩
    replace hb := hb.trans (hv.mono hb.size)
    clear hv
    go_wp2_with fail
    go_ret
    exact ⟨rfl, hb⟩
  have hk1 : ¬ (255 : Int) < (n : Int) := by omega
  have HN : Hid (n ≤ 255) := Lib.hid (by omega)
  clear hk0
  go_enter Try.func6, Try.ntmps6
  go_wp2_with fail
  refine HCALL.out.mono ?_
  rintro e w3 hE
  obtain ⟨A1, n1, c1, rfl, hv, hS⟩ := of_form hE
  clear hE HCALL hk1
  replace h := h.at_size (Nat.le_refl _) hv
  replace hb := hb.trans (hv.mono hb.size)
  replace hy0 := cell_old hy0 hv
  replace hy1 := cell_old hy1 hv
  replace hy2 := cell_old hy2 hv
  replace hy3 := cell_old hy3 hv
  have HS := Lib.hid hS
  clear hv hS
  go_wp2
  refine wp_region_fork [0, 1, 3] 2 4 _ _ [4, 5, 6, 7, 8, 9, 10, 11] [2, 5, 6, 7, 8, 9, 10, 11] [2, 4, 5, 6] 12 (fun w' => w'.cell? ⟨w.heap.size, 0, none⟩ = some (.bool av) ∧ w'.cell? ⟨w.heap.size, 1, none⟩ = some (.int .u64 (an : Int)) ∧ w'.cell? ⟨w.heap.size, 2, none⟩ = some (.bool bv) ∧ w'.cell? ⟨w.heap.size, 3, none⟩ = some (.int .u64 (bn : Int))) (by kernel_rfl) (by kernel_rfl) rfl rfl rfl rfl (by kernel_rfl) (by kernel_rfl) (by kernel_rfl) (by kernel_rfl) (by kernel_rfl) (by kernel_rfl) (fun _ _ _ _ _ h => h) ⟨hy0, hy1, hy2, hy3⟩ ?_
  simp only [steps, List.getElem?_cons_zero, List.getElem?_cons_succ]
  repeat (
    refine soft_yes (v := ?_) rfl ?_ ?_
    rotate_left
    (focus (rintro w' ⟨hS0, hS1, hS2, hS3⟩; go_simp; try with_reducible rfl))
    simp only [Act.put, List.setIfInBounds_toArray, List.set_cons_zero, List.set_cons_succ])
  have hv : Below w3.heap.size w3 w3.drew := (Below.refl _ _).drew
  replace h := h.at_size (Nat.le_refl _) hv
  replace hb := hb.trans (hv.mono hb.size)
  replace hy0 := cell_old hy0 hv
  replace hy1 := cell_old hy1 hv
  replace hy2 := cell_old hy2 hv
  replace hy3 := cell_old hy3 hv
  have HS1 : Hid (x = 0 → ∃ q g gs, k = ((q : Nat) : Int) ∧ A1 = some ⟨g, 0, none⟩ ∧ n1 = q ∧ c1 = q ∧ Sqr w3.drew 0 g q gs (La.bt (rchN q l))) := Lib.hid fun hx => by
    obtain ⟨q, g, gs, e1, e2, e3, e4, e5⟩ := HS.out hx
    exact ⟨q, g, gs, e1, e2, e3, e4, { e5.keep hv with gbase := Nat.zero_le _, bases := fun _ _ => Nat.zero_le _ }⟩
  clear hv HS
  generalize w3.drew = w5 at *
  refine soft_end ⟨?_, ?_⟩
  (focus (
    refine bd_append (.const (.slice none 0 0)) (.tmp 26) rfl w5.heap.size (.slice none 0 0) 0 [] rfl (World.ownsRow_nil _ _ _ _) _ A n c l rfl h (by have := HN.out; omega) (Nat.le_refl _) ?_
    intro A6 k6 c6 w6 hk6 ha6
    have h6 : Below w5.heap.size w5 w6 := (Below.refl _ w5).grown ha6.out.grown (Nat.le_refl _) (by simp [Value.ownBlock])
    refine ⟨⟨cell_old hy0 h6, cell_old hy1 h6, cell_old hy2 h6, cell_old hy3 h6⟩, ?_⟩
    simp only [Act.put, List.setIfInBounds_toArray, List.set_cons_zero, List.set_cons_succ]
    have h7 : Below w5.heap.size w5 (w6.alloc (.cells #[.bool av, .int .u64 (an : Int), .bool bv, .int .u64 (bn : Int)] 33)) := h6.alloc h6.size _
    have ho1 : Rs bdc 4 (w6.alloc (.cells #[.bool av, .int .u64 (an : Int), .bool bv, .int .u64 (bn : Int)] 33)) (w6.alloc (.cells #[.bool av, .int .u64 (an : Int), .bool bv, .int .u64 (bn : Int)] 33)).heap.size (some ⟨w6.heap.size, 0, none⟩) 1 1 [⟨av, an, bv, bn⟩] := Rs.of_blk bdc_len (heap_alloc_new w6 _) ⟨[], rfl⟩ rfl (Nat.le_refl _) (by unfold maxLen; omega)
    have own6 := ha6.out.own.alloc (.cells #[.bool av, .int .u64 (an : Int), .bool bv, .int .u64 (bn : Int)] 33)
    refine ord_hard rfl rfl (fun K hK => ?_)
    go_simp
    refine hK.out _ _ (fun _ => ⟨cell_old hy0 h7, cell_old hy1 h7, cell_old hy2 h7, cell_old hy3 h7⟩) ?_
    clear hK K h6 ha6
    try simp only [Act.put, List.setIfInBounds_toArray, List.set_cons_zero, List.set_cons_succ]
    generalize w6.alloc (.cells #[.bool av, .int .u64 (an : Int), .bool bv, .int .u64 (bn : Int)] 33) = w7 at *))
  rotate_left
  (focus (
    have h6 : Below w5.heap.size w5 (w5.alloc (.cells #[.bool av, .int .u64 (an : Int), .bool bv, .int .u64 (bn : Int)] 33)) := (Below.refl _ _).alloc (Nat.le_refl _) _
    have ho0 : Rs bdc 4 (w5.alloc (.cells #[.bool av, .int .u64 (an : Int), .bool bv, .int .u64 (bn : Int)] 33)) (w5.alloc (.cells #[.bool av, .int .u64 (an : Int), .bool bv, .int .u64 (bn : Int)] 33)).heap.size (some ⟨w5.heap.size, 0, none⟩) 1 1 [⟨av, an, bv, bn⟩] := Rs.of_blk bdc_len (heap_alloc_new w5 _) ⟨[], rfl⟩ rfl (Nat.le_refl _) (by unfold maxLen; omega)
    refine hard_end (fun K hK => ?_)
    go_simp
    refine hK.out _ _ ⟨⟨cell_old hy0 h6, cell_old hy1 h6, cell_old hy2 h6, cell_old hy3 h6⟩, ?_⟩
    clear hK K
    try simp only [Act.put, List.setIfInBounds_toArray, List.set_cons_zero, List.set_cons_succ]
    have hl6 := h.at_size (Nat.le_refl _) h6
    generalize w5.alloc (.cells #[.bool av, .int .u64 (an : Int), .bool bv, .int .u64 (bn : Int)] 33) = w6 at *
    refine ord_hard rfl rfl (fun K hK => ?_)
    refine bd_append (.const (.slice none 0 0)) (.tmp 26) rfl w5.heap.size (.slice none 0 0) 0 [] rfl (World.ownsRow_nil _ _ _ _) _ A n c l rfl hl6 (by have := HN.out; omega) h6.size ?_
    intro A6 k6 c6 w7 hk6 ha6
    have h7 : Below w5.heap.size w5 w7 := h6.grown ha6.out.grown h6.size (by simp [Value.ownBlock])
    have ho1 := ho0.at_size (Nat.le_refl _) ((Below.refl _ w6).grown ha6.out.grown (Nat.le_refl _) (by simp [Value.ownBlock]))
    have own6 := ha6.out.own
    refine hK.out _ _ (fun _ => ⟨cell_old hy0 h7, cell_old hy1 h7, cell_old hy2 h7, cell_old hy3 h7⟩) ?_
    clear hK K h6 ha6 ho0 hl6
    try simp only [Act.put, List.setIfInBounds_toArray, List.set_cons_zero, List.set_cons_succ]))
  all_goals (
    refine ord_hard rfl rfl (fun K hK => ?_)
    refine bd_append (.tmp 27) (.tmp 29) rfl w5.heap.size _ k6 _ rfl own6 _ _ 1 1 [⟨av, an, bv, bn⟩] rfl ho1 (by have := HN.out; have := hk6.out; omega) h7.size ?_
    intro A8 k8 c8 w8 hk8 ha8
    have hv : Below w5.heap.size w5 w8 := h7.grown ha8.out.grown h7.size (fun j hj => (own6.lt j hj).1)
    have hm := Rs.of_own bdc_len (by decide) ha8.out.own
    have hy0 := cell_old hy0 hv
    have hy1 := cell_old hy1 hv
    have hy2 := cell_old hy2 hv
    have hy3 := cell_old hy3 hv
    refine hK.out _ _ (fun _ => ⟨hy0, hy1, hy2, hy3⟩) ?_
    clear hK K h7 ha8 hk6 hk8 own6 ho1
    try simp only [Act.put, List.setIfInBounds_toArray, List.set_cons_zero, List.set_cons_succ]
    obtain ⟨y, hy⟩ : ∃ y, ofE k ([] ++ l ++ [⟨av, an, bv, bn⟩]) = y := ⟨_, rfl⟩
    have HY := Lib.hid hy
    have HOF := Lib.hid (of_any k A8 k8 c8 _ w8 y hm hy)
    clear hy hm
    refine ord_hard rfl rfl (fun K hK => ?_)
    go_simp
    refine HOF.out.mono ?_
    rintro e w9 hE
    obtain ⟨A9, n9, c9, rfl, hv9, hS9⟩ := of_form hE
    have hvv := hv.trans (hv9.mono hv.size)
    replace hy0 := cell_old hy0 hv9
    replace hy1 := cell_old hy1 hv9
    replace hy2 := cell_old hy2 hv9
    replace hy3 := cell_old hy3 hv9
    refine hK.out _ _ (fun _ => ⟨hy0, hy1, hy2, hy3⟩) ?_
    clear hK K hE HOF
    try simp only [Act.put, List.setIfInBounds_toArray, List.set_cons_zero, List.set_cons_succ]
    repeat (first
      | (refine ord_yes (v := ?_) rfl rfl ?_ ?_; rotate_left; (focus (rintro w' ⟨hS0, hS1, hS2, hS3⟩; go_simp; try with_reducible rfl)); simp only [Act.put, List.setIfInBounds_toArray, List.set_cons_zero, List.set_cons_succ]))
    refine ord_end ?_
    replace hb := hb.trans (hvv.mono hb.size)
    have HT1 : Hid (x = 0 → ∃ q g gs, k = ((q : Nat) : Int) ∧ A1 = some ⟨g, 0, none⟩ ∧ n1 = q ∧ c1 = q ∧ Sqr w9 0 g q gs (La.bt (rchN q l))) := Lib.hid fun hx => by
      obtain ⟨q, g, gs, e1, e2, e3, e4, e5⟩ := HS1.out hx
      exact ⟨q, g, gs, e1, e2, e3, e4, e5.keep hvv⟩
    have HT2 := Lib.hid hS9
    clear hS9 hv9 hvv hv HS1
    by_cases hyz : y = 0
    case neg =>
      have hne : ((y : Int) != 0) = true := by simpa using hyz
      by_cases hxz : x = 0
      case pos =>
        subst hxz
        clear hyz HT1 HT2 hy0 hy1 hy2 hy3
        go_wp2_with fail
        refine (alive_any _).mono ?_
        rintro e wz ⟨rfl, hv⟩
        replace hb := hb.trans (hv.mono hb.size)
        clear hv
        go_wp2_with fail
        go_ret
        exact ⟨rfl, hb⟩
      case neg =>
        have hnx : ((x : Int) != 0) = true := by simpa using hxz
        clear hyz hxz HT1 HT2 hy0 hy1 hy2 hy3
        go_wp2_with fail
        refine (alive_any _).mono ?_
        rintro e wz ⟨rfl, hv⟩
        replace hb := hb.trans (hv.mono hb.size)
        clear hv
        go_wp2_with fail
        go_ret
        exact ⟨rfl, hb⟩
    subst hyz
    obtain rfl : 0 = x := by rw [← HX.out, ofE_more HY.out]
    obtain ⟨q, g, gs, e1, e2, e3, e4, hS⟩ := HT1.out rfl
    obtain ⟨q2, g2, gs2, f1, f2, f3, f4, hS2⟩ := HT2.out rfl
    obtain rfl : q = q2 := by omega
    obtain rfl : q = n1 := e3.symm
    obtain rfl : q = c1 := e4.symm
    obtain rfl : q = n9 := f3.symm
    obtain rfl : q = c9 := f4.symm
    subst e1 e2 f2
    obtain ⟨q3, hq3, hq64, -, hmay⟩ := ofE_ok HY.out
    obtain rfl : q = q3 := by omega
    have HQ := Lib.hid hq64
    have HKN : Hid (knownB q l ⟨av, an, bv, bn⟩ = sameSq q (La.bt (rchN q l)) (La.bt (rchN q ([] ++ l ++ [⟨av, an, bv, bn⟩])))) := Lib.hid (known_is hq64 hmay)
    have HMO : Hid (∀ i j, La.bt (rchN q l) i j = true → La.bt (rchN q ([] ++ l ++ [⟨av, an, bv, bn⟩])) i j = true) := Lib.hid fun i j => rch_more hq64 (fun c hc => hmay c (List.mem_append_left _ hc)) hmay fun i j g => (edge_snoc l _ i j).2 (.inl g)
    have HED : Hid (av = true → bv = true → an < q ∧ bn < q) := Lib.hid fun h1 h2 => mayB_edge (b := ⟨av, an, bv, bn⟩) (hmay _ (List.mem_append_right _ (List.mem_singleton_self _))) h1 h2
    unfold knownB at HKN
    generalize La.bt (rchN q ([] ++ l ++ [⟨av, an, bv, bn⟩])) = R at *
    generalize La.bt (rchN q l) = S at *
    clear HT1 HT2 HX HY hq3 f1 f3 f4 e3 e4 hmay
    go_wp2_with fail
    refine (square_any _ _ _ _ _ _ hS HQ.out).mono ?_
    rintro e w10 ⟨rfl, hv⟩
    replace hS := hS.keep hv
    replace hS2 := hS2.keep hv
    replace hb := hb.trans (hv.mono hb.size)
    replace hy0 := cell_old hy0 hv
    replace hy1 := cell_old hy1 hv
    replace hy2 := cell_old hy2 hv
    replace hy3 := cell_old hy3 hv
    clear hv
    go_wp2_with fail
    refine (square_any _ _ _ _ _ _ hS2 HQ.out).mono ?_
    rintro e w11 ⟨rfl, hv⟩
    replace hS := hS.keep hv
    replace hS2 := hS2.keep hv
    replace hb := hb.trans (hv.mono hb.size)
    replace hy0 := cell_old hy0 hv
    replace hy1 := cell_old hy1 hv
    replace hy2 := cell_old hy2 hv
    replace hy3 := cell_old hy3 hv
    clear hv
    have HS := Lib.hid hS
    have HS2 := Lib.hid hS2
    clear hS hS2
    go_wp2_with fail
    go_loopw [11] (fun v11 wr => LsRel q w11 v11 wr) (fun v11 _ => q - (intOf v11).toNat)
    case atStart => exact ⟨0, rfl, Nat.zero_le _, Below.refl _ _⟩
    case round =>
      obtain ⟨i, rfl, hi, hb1⟩ := hrel
      have hq := HQ.out
      by_cases hlt : i < q
      · have HLT := Lib.hid hlt
        obtain ⟨wo, rfl⟩ : ∃ wo, wo = wr := ⟨_, rfl⟩
        go_wp2
        go_loopw [12] (fun v12 wr => LsRel q w11 v12 wr) (fun v12 _ => q - (intOf v12).toNat)
        case atStart => exact ⟨0, rfl, Nat.zero_le _, hb1⟩
        case round =>
          clear hb1
          obtain ⟨j, rfl, hj, hb1⟩ := hrel
          by_cases hlt2 : j < q
          · have hSk := HS.out.keep hb1
            have hSk2 := HS2.out.keep hb1
            have c1 := (cell_blk (i := i) hSk.blk).trans (hdr_at HLT.out HLT.out)
            have c2 := (cell_blk (i := i) hSk2.blk).trans (hdr_at HLT.out HLT.out)
            have d1 := (cell_blk (i := j) (hSk.rows i HLT.out)).trans (bls_at hlt2)
            have d2 := (cell_blk (i := j) (hSk2.rows i HLT.out)).trans (bls_at hlt2)
            rw [decide_eq_true hlt2, Bool.true_and] at d1 d2
            have hmo := HMO.out i j
            clear hSk hSk2 hy0 hy1 hy2 hy3
            generalize S i j = u at *
            generalize R i j = v at *
            have hltx := HLT.out
            cases u with
            | false =>
              clear hmo
              go_wp2
              go_roundw
              case rel => exact ⟨j + 1, by go_num, by omega, hb1⟩
              case measure => simp [intOf]; omega
            | true =>
              obtain rfl : v = true := hmo rfl
              clear hmo
              go_wp2
              go_roundw
              case rel => exact ⟨j + 1, by go_num, by omega, hb1⟩
              case measure => simp [intOf]; omega
          · obtain rfl : j = q := by omega
            have hltx := HLT.out
            go_wp2
            go_roundw
            case rel => exact ⟨i + 1, by go_num, by have := HLT.out; omega, hb1⟩
            case measure =>
              have := HLT.out
              simp [intOf]
              omega
      · obtain rfl : i = q := by omega
        have hSk := HS.out.keep hb1
        replace HS := Lib.hid hSk
        have hSk2 := HS2.out.keep hb1
        replace HS2 := Lib.hid hSk2
        replace hy0 := cell_old hy0 hb1
        replace hy1 := cell_old hy1 hb1
        replace hy2 := cell_old hy2 hb1
        replace hy3 := cell_old hy3 hb1
        replace hb := hb.trans (hb1.mono hb.size)
        have hw := wrap_small (k := i) (by omega)
        clear hb1 hSk hSk2 HMO
        cases av with
        | false =>
          replace HKN : Hid (true = sameSq i S R) := HKN
          clear HED hy1 hy3
          go_wp2
          go_quiet (fail)
          have hv : Below wr.heap.size wr (wr.drewN nq) := La.below_drewN wr nq
          replace HS := Lib.hid (HS.out.keep hv)
          replace HS2 := Lib.hid (HS2.out.keep hv)
          replace hb := hb.trans (hv.mono hb.size)
          clear hv hy0 hy2
          generalize wr.drewN nq = wq at *
          clear nq
          go_wp2_with fail
          refine (alive_any _).mono ?_
          rintro e w12 ⟨rfl, hv⟩
          replace HS := Lib.hid (HS.out.keep hv)
          replace HS2 := Lib.hid (HS2.out.keep hv)
          replace hb := hb.trans (hv.mono hb.size)
          clear hv
          go_wp2_with fail
          refine (same_any _ _ _ _ _ _ _ _ _ _ HS.out HS2.out HQ.out _ HKN.out.symm).mono ?_
          rintro e w13 ⟨rfl, hv⟩
          replace hb := hb.trans (hv.mono hb.size)
          clear hv HKN HS HS2
          go_wp2_with fail
          go_ret
          exact ⟨rfl, hb⟩
        | true =>
          cases bv with
          | false =>
            replace HKN : Hid (true = sameSq i S R) := HKN
            clear HED hy1 hy3
            go_wp2
            go_quiet (fail)
            have hv : Below wr.heap.size wr (wr.drewN nq) := La.below_drewN wr nq
            replace HS := Lib.hid (HS.out.keep hv)
            replace HS2 := Lib.hid (HS2.out.keep hv)
            replace hb := hb.trans (hv.mono hb.size)
            clear hv hy0 hy2
            generalize wr.drewN nq = wq at *
            clear nq
            go_wp2_with fail
            refine (alive_any _).mono ?_
            rintro e w12 ⟨rfl, hv⟩
            replace HS := Lib.hid (HS.out.keep hv)
            replace HS2 := Lib.hid (HS2.out.keep hv)
            replace hb := hb.trans (hv.mono hb.size)
            clear hv
            go_wp2_with fail
            refine (same_any _ _ _ _ _ _ _ _ _ _ HS.out HS2.out HQ.out _ HKN.out.symm).mono ?_
            rintro e w13 ⟨rfl, hv⟩
            replace hb := hb.trans (hv.mono hb.size)
            clear hv HKN HS HS2
            go_wp2_with fail
            go_ret
            exact ⟨rfl, hb⟩
          | true =>
            obtain ⟨han, hbn⟩ := HED.out rfl rfl
            have hd1 : decide ((an : Int) < (i : Int)) = true := by simpa using han
            have hd2 : decide ((bn : Int) < (i : Int)) = true := by simpa using hbn
            have g1 := (cell_blk (i := an) HS.out.blk).trans (hdr_at han han)
            have g2 := (cell_blk (i := bn) (HS.out.rows an han)).trans (bls_at hbn)
            rw [decide_eq_true hbn, Bool.true_and] at g2
            obtain ⟨r, hr⟩ : ∃ r, r = S an bn := ⟨_, rfl⟩
            rw [← hr] at g2
            replace HKN : Hid (r = sameSq i S R) := Lib.hid (by
              have := HKN.out
              simp only [han, hbn, decide_true, Bool.true_and, Bool.not_true, Bool.false_or] at this
              rw [hr]
              exact this)
            clear hr HED
            go_wp2
            go_quiet (fail)
            have hv : Below wr.heap.size wr (wr.drewN nq) := La.below_drewN wr nq
            replace HS := Lib.hid (HS.out.keep hv)
            replace HS2 := Lib.hid (HS2.out.keep hv)
            replace hb := hb.trans (hv.mono hb.size)
            clear hv hy0 hy1 hy2 hy3 hd1 hd2 g1 g2
            generalize wr.drewN nq = wq at *
            clear nq
            go_wp2_with fail
            refine (alive_any _).mono ?_
            rintro e w12 ⟨rfl, hv⟩
            replace HS := Lib.hid (HS.out.keep hv)
            replace HS2 := Lib.hid (HS2.out.keep hv)
            replace hb := hb.trans (hv.mono hb.size)
            clear hv
            go_wp2_with fail
            refine (same_any _ _ _ _ _ _ _ _ _ _ HS.out HS2.out HQ.out _ HKN.out.symm).mono ?_
            rintro e w13 ⟨rfl, hv⟩
            replace hb := hb.trans (hv.mono hb.size)
            clear hv HKN HS HS2
            cases r
            all_goals (
              go_wp2_with fail
              go_ret
              exact ⟨rfl, hb⟩))

set_option maxRecDepth 100000 in
theorem lifted (os : Os) (started : os.Started) (H : Type) (enc : TypeId × Value → H) :
    ReturnsInHanded {} Try.checked os 6 .any (Rows.reachesLessSpec.pre6 enc Try.prog Try.f6 Rows.reachesLessRow.domain false) (Rows.reachesLessSpec.post enc Try.prog Try.f6 false true false false) := by
  refine returnsInHanded_of_change (C := Try.checked) own started (by kernel_rfl) Try.func6
    (ChangeSpec.witness6 (enc := enc) (C := Try.checked) false ⟨#[], #[.int .i64 0, .slice none 0 0, .agg #[.bool false, .int .u64 0, .bool false, .int .u64 0]], []⟩ 8 (by kernel_rfl) (by kernel_rfl) (by kernel_rfl) (by kernel_rfl)) ?_
  intro W base args ds gs before hval0 hW hcnd _
  have hval : ∀ (j : Nat) t v, Try.f6.params[j]? = some t → args[j]? = some v → Value.okWide Try.prog W .any base t v := hval0
  have hW' := hW
  obtain ⟨p, q, hA0, hV, rfl, hfz, hnd⟩ := hW
  have hA : DataW.TrodAll enc Try.prog W 0 (fun _ => true) true Try.f6.params.toList args.toList ds p := hA0
  rw [Try.params6] at hA hval
  obtain ⟨v0, vs0, d0, ds0, p0, q0, hargs, rfl, rfl, h0, r0⟩ := trodAll_cons hA
  obtain ⟨v1, vs1, d1, ds1, p1, q1, rfl, rfl, rfl, h1, r1⟩ := trodAll_cons r0
  obtain ⟨v2, vs2, d2, ds2, p2, q2, rfl, rfl, rfl, h2, r2⟩ := trodAll_cons r1
  obtain ⟨rfl, rfl, rfl⟩ := trodAll_nil r2
  obtain rfl : args = #[v0, v1, v2] := by cases args; simp_all
  obtain ⟨rfl, rfl⟩ := trodVars_none hV
  obtain ⟨x0, rfl, rfl, rfl, w0⟩ := open_int Try.underlying3 (hval 0 3 v0 rfl rfl) h0
  obtain ⟨a1, len1, cap1, rfl⟩ := okWide_slice Try.underlying22 (hval 1 22 v1 rfl rfl)
  have lt1 : ∀ x ∈ p1, x.block < W.heap.size := by obtain ⟨m, hm⟩ := h1; exact DataW.trod_lt m _ _ _ hm
  obtain ⟨l1, hl1, hf1⟩ := opened_bds h1
  have lt2 : ∀ x ∈ p2, x.block < W.heap.size := by obtain ⟨m, hm⟩ := h2; exact DataW.trod_lt m _ _ _ hm
  obtain ⟨yb, rfl, _hbf⟩ := opened_bound h2
  clear hA0 hval0
  have w0' := w0
  refine (walk x0 a1 len1 cap1 l1 yb.av yb.an yb.bv yb.bn W hl1 hf1).mono fun e W' ⟨he, bel⟩ => ?_
  subst he
  exact ⟨_, rfl, _, _, _, [], _, [], hW', trodAll_mk1 (shut_bool Try.underlying4 _), (trodAll_cons_mk (shut_int Try.underlying3 w0') (trodAll_cons_mk (Below.trod laidOut (by kernel_rfl) (of_decide_eq_true (by kernel_rfl)) h1 bel lt1) (trodAll_cons_mk (Below.trod laidOut (by kernel_rfl) (of_decide_eq_true (by kernel_rfl)) h2 bel lt2) trodAll_mk0))), rfl, bel.frame _, fun h => by cases h⟩

theorem over : Rows.reachesLessRow.holds Try.pinned (OpenSpec.ofChange Rows.reachesLessSpec) :=
  OpenClaim.holds_of_wide 6 Try.f6 rfl rfl rfl rfl rfl rfl rfl ⟨rfl, rfl, rfl, rfl, rfl⟩ rfl rfl rfl rfl rfl (by kernel_rfl) Try.func6 (by kernel_rfl)
    (of_decide_eq_true (by kernel_rfl)) (by unfold Func.isWrapper; first | (rw [if_pos (by decide +kernel)]; kernel_rfl) | (rw [if_neg (by decide +kernel)]; exact ⟨rfl, rfl⟩))
    (fun os started H enc _ => lifted os started H enc)

theorem proved : Rows.ReachesLessSaid := over
#print axioms proved

end Go.Proofs.Ytomokkpfkhfemaa.reachesLess
