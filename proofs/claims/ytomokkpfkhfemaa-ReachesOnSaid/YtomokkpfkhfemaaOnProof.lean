/- Proved: whatever the number of variables and the bounds, ReachesOn answers true: each variable reaches itself, and what those that it reaches reach; each bound between two is one; whatever else one reaches a bound leads out of it to one that reaches that. No condition. -/
import Derived.Test.YtomokkpfkhfemaaAlv
import Derived.Test.YtomokkpfkhfemaaApp
import Derived.Test.YtomokkpfkhfemaaGvn
import Derived.Test.YtomokkpfkhfemaaRows
import Derived.Deep.DeepCutAuto
namespace Go.Proofs.Ytomokkpfkhfemaa.reachesOn
open Go.ChangeShapes Go.WideShapes Go.ChangeAt Go.RowKit

theorem own : ownKnob Try.prog.godebug = none := by kernel_rfl
theorem laidOut : laidOutB Try.prog = true := by kernel_rfl


theorem ofE_val (k : Int) (l : List Bd) : ofE k l = 0 ∨ ofE k l = 1 ∨ ofE k l = 3 := by
  unfold ofE
  split
  · exact .inr (.inr rfl)
  · split
    · exact .inl rfl
    · exact .inr (.inl rfl)

/-- A bound that leads out of i to one that reaches j. -/
def leads (q : Nat) (S : Nat → Nat → Bool) (i j : Nat) (b : Bd) : Bool := b.av && (decide (b.an = i) && (b.bv && (decide (b.bn < q) && S b.bn j)))

def OnRel (q : Nat) (w : World) (v : Value) (wr : World) : Prop := ∃ i : Nat, v = .int .i64 (i : Int) ∧ i ≤ q ∧ Below w.heap.size w wr
def OnFst (q : Nat) (S : Nat → Nat → Bool) (l : List Bd) (i j : Nat) (w : World) (v11 v12 : Value) (wr : World) : Prop :=
  ∃ (k : Nat) (f : Bool), v12 = .int .i64 (k : Int) ∧ v11 = .bool f ∧ k ≤ l.length ∧ (f = false → (i ≠ j ∧ S i j = true) ∧ ∀ b ∈ l.take k, leads q S i j b = false) ∧ Below w.heap.size w wr

theorem first_more {q : Nat} {S : Nat → Nat → Bool} {l : List Bd} {i j k : Nat} {y : Bd} (hk : k < l.length) (hy : l[k] = y) (h : ∀ b ∈ l.take k, leads q S i j b = false) (h2 : leads q S i j y = false) : ∀ b ∈ l.take (k + 1), leads q S i j b = false := by
  intro b hb
  rw [List.take_succ_eq_append_getElem hk, List.mem_append, List.mem_singleton] at hb
  rcases hb with hb | rfl
  · exact h b hb
  · rw [hy]; exact h2

set_option maxRecDepth 100000 in
set_option maxHeartbeats 8000000 in
theorem walk (k : Int) (A : Option Addr) (n c : Nat) (l : List Bd) (w : World) (h : Rs bdc 4 w w.heap.size A n c l) (_hf : ∀ b ∈ l, b.Fit) :
    Calls Try.prog 3 #[.int .i64 k, .slice A n c] w fun e w' => e = .returned (.bool true) ∧ Below w.heap.size w w' := by
  obtain ⟨x, hx⟩ : ∃ x, ofE k l = x := ⟨_, rfl⟩
  have HLN := Lib.hid h.len
  have HX := Lib.hid hx
  have hcall := of_any k A n c l w x h hx
  have hxv := ofE_val k l
  rw [hx] at hxv
  clear hx
  have htop := h.top
  have hcap := h.cap
  unfold maxLen at htop
  go_enter Try.func3, Try.ntmps3
  go_wp2_with fail
  refine hcall.mono ?_
  rintro e w1 (⟨h0, rfl, hv⟩ | ⟨rfl, q, g, gs, rfl, rfl, hS, hv⟩)
  · have hb := hv
    clear hcall h HX hv
    rcases hxv with rfl | rfl | rfl
    · exact absurd rfl h0
    all_goals (
      clear h0
      by_cases h300 : (300 : Int) < (n : Int)
      · go_wp2_with fail
        refine (alive_any _).mono ?_
        rintro e wz ⟨rfl, hv⟩
        replace hb := hb.trans (hv.mono hb.size)
        clear hv
        go_wp2_with fail
        go_ret
        exact ⟨rfl, hb⟩
      · go_wp2_with fail
        refine (alive_any _).mono ?_
        rintro e wz ⟨rfl, hv⟩
        replace hb := hb.trans (hv.mono hb.size)
        clear hv
        go_wp2_with fail
        go_ret
        exact ⟨rfl, hb⟩)
  clear hcall hxv
  replace h := h.at_size (Nat.le_refl _) hv
  have hb := hv
  clear hv
  obtain ⟨q2, hq2, hq64, hl256, hmay⟩ := ofE_ok HX.out
  obtain rfl : q = q2 := by omega
  have HQ := Lib.hid hq64
  have HM := Lib.hid hmay
  have h300 : ¬ (300 : Int) < (n : Int) := by have := HLN.out; omega
  clear hq2 hl256 HX
  have HSELF : Hid (∀ i, i < q → La.bt (rchN q l) i i = true) := Lib.hid fun i hi => rch_self hq64 hmay hi
  have HEDGE : Hid (∀ b ∈ l, b.av = true → b.bv = true → (b.an < q ∧ b.bn < q) ∧ La.bt (rchN q l) b.an b.bn = true) := Lib.hid fun b hb h1 h2 => ⟨mayB_edge (hmay b hb) h1 h2, rch_edge hq64 hmay ⟨b, hb, h1, h2, rfl, rfl⟩⟩
  have HON : Hid (∀ i j k, La.bt (rchN q l) i j = true → La.bt (rchN q l) j k = true → La.bt (rchN q l) i k = true) := Lib.hid fun i j k => rch_on hq64 hmay
  have HFIRST : Hid (∀ i j, i ≠ j → La.bt (rchN q l) i j = true → ∃ b ∈ l, leads q (La.bt (rchN q l)) i j b = true) := Lib.hid fun i j hij hr => by
    obtain ⟨b, hb, h1, h2, h3, h4, h5⟩ := (rch_first hq64 hmay hr).resolve_left hij
    exact ⟨b, hb, by simp [leads, h1, h2, h3, h4, h5]⟩
  generalize La.bt (rchN q l) = S at *
  clear hmay
  go_wp2_with fail
  refine (square_any _ _ _ _ _ _ hS HQ.out).mono ?_
  rintro e w2 ⟨rfl, hv⟩
  replace h := h.at_size (Nat.le_refl _) hv
  have HS := Lib.hid (hS.keep hv)
  replace hb := hb.trans (hv.mono hb.size)
  clear hv hS h300
  have hwq := wrap_small (k := q) (by omega)
  go_wp2_with fail
  go_loopw [7] (fun v7 wr => OnRel n w2 v7 wr) (fun v7 _ => n - (intOf v7).toNat)
  case atStart => exact ⟨0, rfl, Nat.zero_le _, Below.refl _ _⟩
  case round =>
    obtain ⟨i, rfl, hi, hb1⟩ := hrel
    by_cases hlt : i < n
    · have hi' : i < l.length := by rw [HLN.out]; exact hlt
      have hr := h.at_size (Nat.le_refl _) hb1
      obtain ⟨b, o, rfl, hbb, e0, e1, e2, e3⟩ := bd_at hr hi'
      have hed := HEDGE.out _ (List.getElem_mem hi')
      generalize l[i] = y at *
      obtain ⟨av, an, bv, bn⟩ := y
      simp only at e0 e1 e2 e3 hed
      have HSK := Lib.hid (HS.out.keep hb1)
      clear hr hbb hi'
      cases av with
      | false =>
        as_aux_lemma =>
          as_aux_lemma =>
            clear hed e1 e3
            go_wp2
            go_quiet (fail)
            go_wp2
            go_roundw
            case rel => exact ⟨i + 1, by go_num, by omega, hb1.trans (La.below_drewN _ _)⟩
            case measure => simp [intOf]; omega
      | true =>
        cases bv with
        | false =>
          as_aux_lemma =>
            clear hed e1 e3
            go_wp2
            go_quiet (fail)
            go_wp2
            go_roundw
            case rel => exact ⟨i + 1, by go_num, by omega, hb1.trans (La.below_drewN _ _)⟩
            case measure => simp [intOf]; omega
        | true =>
          obtain ⟨⟨han, hbn⟩, hed⟩ := hed rfl rfl
          have g1 := (cell_blk (i := an) HSK.out.blk).trans (hdr_at han han)
          have g2 := (cell_blk (i := bn) (HSK.out.rows an han)).trans (bls_at hbn)
          rw [decide_eq_true hbn, hed] at g2
          replace g2 : _ = some (Value.bool true) := g2
          have hd1 : decide ((q : Int) ≤ (an : Int)) = false := by simp; omega
          have hd2 : decide ((q : Int) ≤ (bn : Int)) = false := by simp; omega
          as_aux_lemma =>
            clear hed
            go_wp2
            go_quiet (fail)
            clear hd1 hd2
            go_wp2
            go_roundw
            case rel => exact ⟨i + 1, by go_num, by omega, hb1.trans (La.below_drewN _ _)⟩
            case measure => simp [intOf]; omega
    · obtain rfl : n = i := by omega
      replace h := h.at_size (Nat.le_refl _) hb1
      replace HS := Lib.hid (HS.out.keep hb1)
      replace hb := hb.trans (hb1.mono hb.size)
      clear hb1 HEDGE
      obtain ⟨wa, rfl⟩ : ∃ wa, wa = wr := ⟨_, rfl⟩
      have H := Lib.hid h
      clear h
      go_wp2
      go_loopw [8] (fun v8 wr => OnRel q wa v8 wr) (fun v8 _ => q - (intOf v8).toNat)
      case atStart => exact ⟨0, rfl, Nat.zero_le _, Below.refl _ _⟩
      case round =>
        obtain ⟨i, rfl, hi, hb1⟩ := hrel
        by_cases hlt : i < q
        · have HLT := Lib.hid hlt
          obtain ⟨wo, rfl⟩ : ∃ wo, wo = wr := ⟨_, rfl⟩
          go_wp2
          go_loopw [9] (fun v9 wr => OnRel q wa v9 wr) (fun v9 _ => q - (intOf v9).toNat)
          case atStart => exact ⟨0, rfl, Nat.zero_le _, hb1⟩
          case round =>
            clear hb1
            obtain ⟨j, rfl, hj, hb1⟩ := hrel
            have hltx := HLT.out
            by_cases hlt2 : j < q
            · have HLT2 := Lib.hid hlt2
              have hSk := HS.out.keep hb1
              have d0 := (cell_blk (i := i) hSk.blk).trans (hdr_at hltx hltx)
              have d1 := (cell_blk (i := j) (hSk.rows i hltx)).trans (bls_at hlt2)
              rw [decide_eq_true hlt2, Bool.true_and] at d1
              obtain ⟨p, hp⟩ : ∃ p, p = S i j := ⟨_, rfl⟩
              rw [← hp] at d1
              have HP := Lib.hid hp
              obtain ⟨eq, heq⟩ : ∃ eq, ((i : Int) == (j : Int)) = eq := ⟨_, rfl⟩
              have HEQ : Hid (eq = true ↔ i = j) := Lib.hid (by rw [← heq]; simp; omega)
              have HPQ : Hid (eq = true → p = true) := Lib.hid fun e => by
                obtain rfl : i = j := HEQ.out.1 e
                rw [hp]
                exact HSELF.out i hltx
              clear hp hSk
              (
                obtain ⟨wv, rfl⟩ : ∃ wv, wv = wr := ⟨_, rfl⟩
                go_upto_region 17 with (fail)
                go_cut [128] (fun s128 wx => s128 = .bool false ∧ wv = wx)
                case first =>
                  cases eq with
                  | true =>
                    obtain rfl : true = p := (HPQ.out rfl).symm
                    go_wp2
                    go_meet
                    exact ⟨rfl, rfl⟩
                  | false =>
                    go_wp2
                    go_meet
                    exact ⟨rfl, rfl⟩
                obtain ⟨rfl, rfl⟩ := hcut
                obtain ⟨wi, rfl⟩ : ∃ wi, wi = wv := ⟨_, rfl⟩
                go_wp2
                clear d0 d1
                go_loopw [10] (fun v10 wr => OnRel q wa v10 wr) (fun v10 _ => q - (intOf v10).toNat)
                case atStart => exact ⟨0, rfl, Nat.zero_le _, hb1⟩
                case round =>
                  clear hb1
                  obtain ⟨k, rfl, hk, hb2⟩ := hrel
                  have hlt2 := HLT2.out
                  have hltx := HLT.out
                  by_cases hlt3 : k < q
                  · have hSk := HS.out.keep hb2
                    have d0 := (cell_blk (i := i) hSk.blk).trans (hdr_at hltx hltx)
                    have d00 := (cell_blk (i := j) hSk.blk).trans (hdr_at hlt2 hlt2)
                    have d1 := (cell_blk (i := j) (hSk.rows i hltx)).trans (bls_at hlt2)
                    have d2 := (cell_blk (i := k) (hSk.rows j hlt2)).trans (bls_at hlt3)
                    have d3 := (cell_blk (i := k) (hSk.rows i hltx)).trans (bls_at hlt3)
                    rw [decide_eq_true hlt2, Bool.true_and, ← HP.out] at d1
                    rw [decide_eq_true hlt3, Bool.true_and] at d2 d3
                    have hon := HON.out i j k
                    rw [← HP.out] at hon
                    clear hSk
                    generalize S j k = p2 at *
                    generalize S i k = p3 at *
                    cases p2 with
                    | false =>
                      clear hon
                      cases p
                      all_goals (as_aux_lemma => (
                        go_wp2
                        go_roundw
                        case rel => exact ⟨k + 1, by go_num, by omega, hb2⟩
                        case measure => simp [intOf]; omega))
                    | true =>
                      cases p3 with
                      | true =>
                        clear hon
                        cases p
                        all_goals (as_aux_lemma => (
                          go_wp2
                          go_roundw
                          case rel => exact ⟨k + 1, by go_num, by omega, hb2⟩
                          case measure => simp [intOf]; omega))
                      | false =>
                        cases p with
                        | true => exact absurd (hon rfl rfl) (by decide)
                        | false =>
                          clear hon
                          as_aux_lemma => (
                            go_wp2
                            go_roundw
                            case rel => exact ⟨k + 1, by go_num, by omega, hb2⟩
                            case measure => simp [intOf]; omega)
                  · obtain rfl : q = k := by omega
                    have hSk := HS.out.keep hb2
                    have d0 := (cell_blk (i := i) hSk.blk).trans (hdr_at hltx hltx)
                    have d1 := (cell_blk (i := j) (hSk.rows i hltx)).trans (bls_at hlt2)
                    rw [decide_eq_true hlt2, Bool.true_and, ← HP.out] at d1
                    clear hSk
                    obtain ⟨wf, rfl⟩ : ∃ wf, wf = wr := ⟨_, rfl⟩
                    go_upto_region 24 with (fail)
                    go_cut [11] (fun s11 wx => s11 = .bool (eq || !p) ∧ wf = wx)
                    case first =>
                      cases eq with
                      | true =>
                        go_wp2
                        go_meet
                        exact ⟨rfl, rfl⟩
                      | false =>
                        cases p
                        all_goals (
                          go_wp2
                          go_meet
                          exact ⟨rfl, rfl⟩)
                    obtain ⟨rfl, rfl⟩ := hcut
                    go_wp2
                    clear d0 d1 heq
                    go_loopw [11, 12] (fun v11 v12 wr => OnFst q S l i j wa v11 v12 wr) (fun _ v12 _ => n - (intOf v12).toNat)
                    case atStart => exact ⟨0, _, rfl, rfl, Nat.zero_le _, (fun h => by
                      rw [Bool.or_eq_false_iff] at h
                      refine ⟨⟨fun e => ?_, ?_⟩, fun b hb => by simp at hb⟩
                      · rw [HEQ.out.2 e] at h
                        cases h.1
                      · rw [← HP.out]
                        simpa using h.2), hb2⟩
                    case round =>
                      clear hb2
                      obtain ⟨k, f, rfl, rfl, hk, hfk, hb3⟩ := hrel
                      have HFK := Lib.hid hfk
                      clear hfk
                      by_cases hlt4 : k < n
                      · cases f with
                        | true =>
                          go_wp2
                          go_roundw
                          case rel => exact ⟨j + 1, by go_num, by have := HLT2.out; omega, hb3⟩
                          case measure =>
                            have := HLT2.out
                            simp [intOf]
                            omega
                        | false =>
                          obtain ⟨hij, hfl⟩ := HFK.out rfl
                          have hk' : k < l.length := by rw [HLN.out]; exact hlt4
                          have hr := H.out.at_size (Nat.le_refl _) hb3
                          obtain ⟨b, o, rfl, hbb, e0, e1, e2, e3⟩ := bd_at hr hk'
                          have hmy := HM.out _ (List.getElem_mem hk')
                          obtain ⟨y, hy⟩ : ∃ y, l[k] = y := ⟨_, rfl⟩
                          rw [hy] at e0 e1 e2 e3 hmy
                          have HNX : Hid (∀ (f' : Bool) (wz : World), Below wa.heap.size wa wz → (f' = false → leads q S i j y = false) → OnFst q S l i j wa (.bool f') (.int .i64 ((k : Int) + 1)) wz) := Lib.hid fun f' wz hz hle => ⟨k + 1, f', by go_num, rfl, hk', fun e => ⟨hij, first_more hk' hy hfl (hle e)⟩, hz⟩
                          have hSk := HS.out.keep hb3
                          have hq := HQ.out
                          have hwi := wrap_small (k := i) (by have := HLT.out; omega)
                          clear hr hbb hk' hfl hij hy HFK
                          obtain ⟨av, an, bv, bn⟩ := y
                          simp only at e0 e1 e2 e3
                          cases av with
                          | false =>
                            as_aux_lemma =>
                              clear hSk hmy
                              go_wp2
                              refine wp_region_ord [0, 1, 2, 3, 4, 5, 6, 7, 8, 9, 10, 11, 12, 13, 14, 15, 16, 17, 18, 19, 20, 21, 22, 23, 24, 25, 26, 27, 28, 29, 30, 31, 32, 33, 34, 35, 36, 37, 38, 39, 40, 41, 42] [7] 43 (fun w' => w'.cell? ⟨b, o + k * 4, none⟩ = some (.bool false) ∧ w'.cell? ⟨b, o + k * 4 + 1, none⟩ = some (.int .u64 (an : Int)) ∧ w'.cell? ⟨b, o + k * 4 + 2, none⟩ = some (.bool bv) ∧ w'.cell? ⟨b, o + k * 4 + 3, none⟩ = some (.int .u64 (bn : Int))) (by kernel_rfl) (by kernel_rfl) (by kernel_rfl) (by kernel_rfl) (fun _ _ _ _ _ h => h) ⟨e0, e1, e2, e3⟩ ?_
                              simp only [steps, List.getElem?_cons_zero, List.getElem?_cons_succ]
                              repeat (first
                                | (refine ord_no rfl ?_; simp only [Act.put, List.setIfInBounds_toArray, List.set_cons_zero, List.set_cons_succ])
                                | (refine ord_yes (v := ?_) rfl rfl ?_ ?_; rotate_left; (focus (rintro w' ⟨hS0, hS1, hS2, hS3⟩; go_simp; try with_reducible rfl)); simp only [Act.put, List.setIfInBounds_toArray, List.set_cons_zero, List.set_cons_succ]))
                              refine ord_hard rfl rfl (fun K hK => ?_)
                              go_simp
                              refine (v_any i _).mono ?_
                              rintro e w8 ⟨rfl, hv8⟩
                              have hv : Below wr.heap.size wr w8 := (La.below_drew wr).trans (hv8.mono (Nat.le_refl _))
                              have HB2 := Lib.hid (hb3.trans (hv.mono hb3.size))
                              refine hK.out _ _ (fun _ => ⟨cell_old e0 hv, cell_old e1 hv, cell_old e2 hv, cell_old e3 hv⟩) ?_
                              clear hK K
                              try simp only [Act.put, List.setIfInBounds_toArray, List.set_cons_zero, List.set_cons_succ]
                              repeat (first
                                | (refine ord_no rfl ?_; simp only [Act.put, List.setIfInBounds_toArray, List.set_cons_zero, List.set_cons_succ])
                                | (refine ord_yes (v := ?_) rfl rfl ?_ ?_; rotate_left; (focus (rintro w' ⟨hS0, hS1, hS2, hS3⟩; go_simp; try with_reducible rfl)); simp only [Act.put, List.setIfInBounds_toArray, List.set_cons_zero, List.set_cons_succ]))
                              refine ord_end ?_
                              clear hv hv8 e0 e1 e2 e3
                              have HREL := Lib.hid (HNX.out false w8 HB2.out fun _ => rfl)
                              clear HNX
                              go_wp2
                              go_roundw
                              case rel => exact HREL.out
                              case measure => simp [intOf]; omega
                          | true =>
                            by_cases hai : an = i
                            · subst hai
                              have heqi : ((an : Int) == (an : Int)) = true := by simp
                              cases bv with
                              | false =>
                                as_aux_lemma =>
                                  clear hSk hmy
                                  go_wp2
                                  refine wp_region_ord [0, 1, 2, 3, 4, 5, 6, 7, 8, 9, 10, 11, 12, 13, 14, 15, 16, 17, 18, 19, 20, 21, 22, 23, 24, 25, 26, 27, 28, 29, 30, 31, 32, 33, 34, 35, 36, 37, 38, 39, 40, 41, 42] [7] 43 (fun w' => w'.cell? ⟨b, o + k * 4, none⟩ = some (.bool true) ∧ w'.cell? ⟨b, o + k * 4 + 1, none⟩ = some (.int .u64 (an : Int)) ∧ w'.cell? ⟨b, o + k * 4 + 2, none⟩ = some (.bool false) ∧ w'.cell? ⟨b, o + k * 4 + 3, none⟩ = some (.int .u64 (bn : Int))) (by kernel_rfl) (by kernel_rfl) (by kernel_rfl) (by kernel_rfl) (fun _ _ _ _ _ h => h) ⟨e0, e1, e2, e3⟩ ?_
                                  simp only [steps, List.getElem?_cons_zero, List.getElem?_cons_succ]
                                  repeat (first
                                    | (refine ord_no rfl ?_; simp only [Act.put, List.setIfInBounds_toArray, List.set_cons_zero, List.set_cons_succ])
                                    | (refine ord_yes (v := ?_) rfl rfl ?_ ?_; rotate_left; (focus (rintro w' ⟨hS0, hS1, hS2, hS3⟩; go_simp; try with_reducible rfl)); simp only [Act.put, List.setIfInBounds_toArray, List.set_cons_zero, List.set_cons_succ]))
                                  refine ord_hard rfl rfl (fun K hK => ?_)
                                  go_simp
                                  refine (v_any an _).mono ?_
                                  rintro e w8 ⟨rfl, hv8⟩
                                  have hv : Below wr.heap.size wr w8 := (La.below_drew wr).trans (hv8.mono (Nat.le_refl _))
                                  have HB2 := Lib.hid (hb3.trans (hv.mono hb3.size))
                                  refine hK.out _ _ (fun _ => ⟨cell_old e0 hv, cell_old e1 hv, cell_old e2 hv, cell_old e3 hv⟩) ?_
                                  clear hK K
                                  try simp only [Act.put, List.setIfInBounds_toArray, List.set_cons_zero, List.set_cons_succ]
                                  repeat (first
                                    | (refine ord_no rfl ?_; simp only [Act.put, List.setIfInBounds_toArray, List.set_cons_zero, List.set_cons_succ])
                                    | (refine ord_yes (v := ?_) rfl rfl ?_ ?_; rotate_left; (focus (rintro w' ⟨hS0, hS1, hS2, hS3⟩; go_simp; try with_reducible rfl)); simp only [Act.put, List.setIfInBounds_toArray, List.set_cons_zero, List.set_cons_succ]))
                                  refine ord_end ?_
                                  clear hv hv8 e0 e1 e2 e3
                                  have HREL := Lib.hid (HNX.out false w8 HB2.out fun _ => by simp [leads])
                                  clear HNX heqi
                                  go_wp2
                                  go_roundw
                                  case rel => exact HREL.out
                                  case measure => simp [intOf]; omega
                              | true =>
                                have hbn : bn < q := by
                                  rw [mayB, Bool.and_eq_true] at hmy
                                  exact may_var hmy.2
                                have hd2 : decide ((bn : Int) < (q : Int)) = true := by simpa using hbn
                                have g1 := (cell_blk (i := bn) hSk.blk).trans (hdr_at hbn hbn)
                                have g2 := (cell_blk (i := j) (hSk.rows bn hbn)).trans (bls_at HLT2.out)
                                rw [decide_eq_true HLT2.out, Bool.true_and] at g2
                                obtain ⟨p, hp⟩ : ∃ p, S bn j = p := ⟨_, rfl⟩
                                rw [hp] at g2
                                have HLE : Hid (leads q S an j ⟨true, an, true, bn⟩ = p) := Lib.hid (by simp [leads, hbn, hp])
                                as_aux_lemma =>
                                  clear hSk hmy hp
                                  go_wp2
                                  refine wp_region_ord [0, 1, 2, 3, 4, 5, 6, 7, 8, 9, 10, 11, 12, 13, 14, 15, 16, 17, 18, 19, 20, 21, 22, 23, 24, 25, 26, 27, 28, 29, 30, 31, 32, 33, 34, 35, 36, 37, 38, 39, 40, 41, 42] [7] 43 (fun w' => w'.cell? ⟨b, o + k * 4, none⟩ = some (.bool true) ∧ w'.cell? ⟨b, o + k * 4 + 1, none⟩ = some (.int .u64 (an : Int)) ∧ w'.cell? ⟨b, o + k * 4 + 2, none⟩ = some (.bool true) ∧ w'.cell? ⟨b, o + k * 4 + 3, none⟩ = some (.int .u64 (bn : Int)) ∧ w'.cell? ⟨g, bn, none⟩ = some (.slice (some ⟨gs bn, 0, none⟩) q q) ∧ w'.cell? ⟨gs bn, j, none⟩ = some (.bool p)) (by kernel_rfl) (by kernel_rfl) (by kernel_rfl) (by kernel_rfl) (fun _ _ _ _ _ h => h) ⟨e0, e1, e2, e3, g1, g2⟩ ?_
                                  simp only [steps, List.getElem?_cons_zero, List.getElem?_cons_succ]
                                  repeat (first
                                    | (refine ord_no rfl ?_; simp only [Act.put, List.setIfInBounds_toArray, List.set_cons_zero, List.set_cons_succ])
                                    | (refine ord_yes (v := ?_) rfl rfl ?_ ?_; rotate_left; (focus (rintro w' ⟨hS0, hS1, hS2, hS3, hS4, hS5⟩; go_simp; try with_reducible rfl)); simp only [Act.put, List.setIfInBounds_toArray, List.set_cons_zero, List.set_cons_succ]))
                                  refine ord_hard rfl rfl (fun K hK => ?_)
                                  go_simp
                                  refine (v_any an _).mono ?_
                                  rintro e w8 ⟨rfl, hv8⟩
                                  have hv : Below wr.heap.size wr w8 := (La.below_drew wr).trans (hv8.mono (Nat.le_refl _))
                                  have HB2 := Lib.hid (hb3.trans (hv.mono hb3.size))
                                  refine hK.out _ _ (fun _ => ⟨cell_old e0 hv, cell_old e1 hv, cell_old e2 hv, cell_old e3 hv, cell_old g1 hv, cell_old g2 hv⟩) ?_
                                  clear hK K
                                  try simp only [Act.put, List.setIfInBounds_toArray, List.set_cons_zero, List.set_cons_succ]
                                  repeat (first
                                    | (refine ord_no rfl ?_; simp only [Act.put, List.setIfInBounds_toArray, List.set_cons_zero, List.set_cons_succ])
                                    | (refine ord_yes (v := ?_) rfl rfl ?_ ?_; rotate_left; (focus (rintro w' ⟨hS0, hS1, hS2, hS3, hS4, hS5⟩; go_simp; try with_reducible rfl)); simp only [Act.put, List.setIfInBounds_toArray, List.set_cons_zero, List.set_cons_succ]))
                                  refine ord_end ?_
                                  clear hv hv8 e0 e1 e2 e3
                                  have HREL := Lib.hid (HNX.out p w8 HB2.out fun e => by rw [HLE.out, e])
                                  clear HNX heqi hd2 g1 g2
                                  go_wp2
                                  go_roundw
                                  case rel => exact HREL.out
                                  case measure => simp [intOf]; omega
                            · have heqi : ((an : Int) == (i : Int)) = false := by simp; omega
                              as_aux_lemma =>
                                clear hSk hmy
                                go_wp2
                                refine wp_region_ord [0, 1, 2, 3, 4, 5, 6, 7, 8, 9, 10, 11, 12, 13, 14, 15, 16, 17, 18, 19, 20, 21, 22, 23, 24, 25, 26, 27, 28, 29, 30, 31, 32, 33, 34, 35, 36, 37, 38, 39, 40, 41, 42] [7] 43 (fun w' => w'.cell? ⟨b, o + k * 4, none⟩ = some (.bool true) ∧ w'.cell? ⟨b, o + k * 4 + 1, none⟩ = some (.int .u64 (an : Int)) ∧ w'.cell? ⟨b, o + k * 4 + 2, none⟩ = some (.bool bv) ∧ w'.cell? ⟨b, o + k * 4 + 3, none⟩ = some (.int .u64 (bn : Int))) (by kernel_rfl) (by kernel_rfl) (by kernel_rfl) (by kernel_rfl) (fun _ _ _ _ _ h => h) ⟨e0, e1, e2, e3⟩ ?_
                                simp only [steps, List.getElem?_cons_zero, List.getElem?_cons_succ]
                                repeat (first
                                  | (refine ord_no rfl ?_; simp only [Act.put, List.setIfInBounds_toArray, List.set_cons_zero, List.set_cons_succ])
                                  | (refine ord_yes (v := ?_) rfl rfl ?_ ?_; rotate_left; (focus (rintro w' ⟨hS0, hS1, hS2, hS3⟩; go_simp; try with_reducible rfl)); simp only [Act.put, List.setIfInBounds_toArray, List.set_cons_zero, List.set_cons_succ]))
                                refine ord_hard rfl rfl (fun K hK => ?_)
                                go_simp
                                refine (v_any i _).mono ?_
                                rintro e w8 ⟨rfl, hv8⟩
                                have hv : Below wr.heap.size wr w8 := (La.below_drew wr).trans (hv8.mono (Nat.le_refl _))
                                have HB2 := Lib.hid (hb3.trans (hv.mono hb3.size))
                                refine hK.out _ _ (fun _ => ⟨cell_old e0 hv, cell_old e1 hv, cell_old e2 hv, cell_old e3 hv⟩) ?_
                                clear hK K
                                try simp only [Act.put, List.setIfInBounds_toArray, List.set_cons_zero, List.set_cons_succ]
                                repeat (first
                                  | (refine ord_no rfl ?_; simp only [Act.put, List.setIfInBounds_toArray, List.set_cons_zero, List.set_cons_succ])
                                  | (refine ord_yes (v := ?_) rfl rfl ?_ ?_; rotate_left; (focus (rintro w' ⟨hS0, hS1, hS2, hS3⟩; go_simp; try with_reducible rfl)); simp only [Act.put, List.setIfInBounds_toArray, List.set_cons_zero, List.set_cons_succ]))
                                refine ord_end ?_
                                clear hv hv8 e0 e1 e2 e3
                                have HREL := Lib.hid (HNX.out false w8 HB2.out fun _ => by simp [leads, hai])
                                clear HNX heqi
                                go_wp2
                                go_roundw
                                case rel => exact HREL.out
                                case measure => simp [intOf]; omega
                      · obtain rfl : k = n := by have := HLN.out; omega
                        have HF : Hid (f = true) := Lib.hid (by
                          cases f with
                          | true => rfl
                          | false =>
                            obtain ⟨⟨h1, h2⟩, h3⟩ := HFK.out rfl
                            obtain ⟨b, hb, h4⟩ := HFIRST.out i j h1 h2
                            rw [List.take_of_length_le (by rw [HLN.out]; exact Nat.le_refl _)] at h3
                            rw [h3 b hb] at h4
                            cases h4)
                        obtain rfl : true = f := HF.out.symm
                        clear HFK HF
                        have hltj := HLT2.out
                        have hqj := HQ.out
                        go_wp2
                        go_roundw
                        case rel => exact ⟨j + 1, by go_num, by have := HLT2.out; omega, hb3⟩
                        case measure =>
                          have := HLT2.out
                          simp [intOf]
                          omega
                    )
            · obtain rfl : j = q := by omega
              go_wp2
              go_roundw
              case rel => exact ⟨i + 1, by go_num, by have := HLT.out; omega, hb1⟩
              case measure =>
                have := HLT.out
                simp [intOf]
                omega
        · obtain rfl : i = q := by omega
          replace hb := hb.trans (hb1.mono hb.size)
          clear hb1
          go_wp2_with fail
          refine (alive_any _).mono ?_
          rintro e wz ⟨rfl, hv⟩
          replace hb := hb.trans (hv.mono hb.size)
          clear hv
          go_wp2_with fail
          go_ret
          exact ⟨rfl, hb⟩

set_option maxRecDepth 100000 in
theorem lifted (os : Os) (started : os.Started) (H : Type) (enc : TypeId × Value → H) :
    ReturnsInHanded {} Try.checked os 3 .any (Rows.reachesOnSpec.pre6 enc Try.prog Try.f3 Rows.reachesOnRow.domain false) (Rows.reachesOnSpec.post enc Try.prog Try.f3 false true false false) := by
  refine returnsInHanded_of_change (C := Try.checked) own started (by kernel_rfl) Try.func3
    (ChangeSpec.witness6 (enc := enc) (C := Try.checked) false ⟨#[], #[.int .i64 0, .slice none 0 0], []⟩ 8 (by kernel_rfl) (by kernel_rfl) (by kernel_rfl) (by kernel_rfl)) ?_
  intro W base args ds gs before hval0 hW hcnd _
  have hval : ∀ (j : Nat) t v, Try.f3.params[j]? = some t → args[j]? = some v → Value.okWide Try.prog W .any base t v := hval0
  have hW' := hW
  obtain ⟨p, q, hA0, hV, rfl, hfz, hnd⟩ := hW
  have hA : DataW.TrodAll enc Try.prog W 0 (fun _ => true) true Try.f3.params.toList args.toList ds p := hA0
  rw [Try.params3] at hA hval
  obtain ⟨v0, vs0, d0, ds0, p0, q0, hargs, rfl, rfl, h0, r0⟩ := trodAll_cons hA
  obtain ⟨v1, vs1, d1, ds1, p1, q1, rfl, rfl, rfl, h1, r1⟩ := trodAll_cons r0
  obtain ⟨rfl, rfl, rfl⟩ := trodAll_nil r1
  obtain rfl : args = #[v0, v1] := by cases args; simp_all
  obtain ⟨rfl, rfl⟩ := trodVars_none hV
  obtain ⟨x0, rfl, rfl, rfl, w0⟩ := open_int Try.underlying3 (hval 0 3 v0 rfl rfl) h0
  obtain ⟨a1, len1, cap1, rfl⟩ := okWide_slice Try.underlying22 (hval 1 22 v1 rfl rfl)
  have lt1 : ∀ x ∈ p1, x.block < W.heap.size := by obtain ⟨m, hm⟩ := h1; exact DataW.trod_lt m _ _ _ hm
  obtain ⟨l1, hl1, hf1⟩ := opened_bds h1
  clear hA0 hval0
  have w0' := w0
  refine (walk x0 a1 len1 cap1 l1 W hl1 hf1).mono fun e W' ⟨he, bel⟩ => ?_
  subst he
  exact ⟨_, rfl, _, _, _, [], _, [], hW', trodAll_mk1 (shut_bool Try.underlying4 _), (trodAll_cons_mk (shut_int Try.underlying3 w0') (trodAll_cons_mk (Below.trod laidOut (by kernel_rfl) (of_decide_eq_true (by kernel_rfl)) h1 bel lt1) trodAll_mk0)), rfl, bel.frame _, fun h => by cases h⟩

theorem over : Rows.reachesOnRow.holds Try.pinned (OpenSpec.ofChange Rows.reachesOnSpec) :=
  OpenClaim.holds_of_wide 3 Try.f3 rfl rfl rfl rfl rfl rfl rfl ⟨rfl, rfl, rfl, rfl, rfl⟩ rfl rfl rfl rfl rfl (by kernel_rfl) Try.func3 (by kernel_rfl)
    (of_decide_eq_true (by kernel_rfl)) (by unfold Func.isWrapper; first | (rw [if_pos (by decide +kernel)]; kernel_rfl) | (rw [if_neg (by decide +kernel)]; exact ⟨rfl, rfl⟩))
    (fun os started H enc _ => lifted os started H enc)

theorem proved : Rows.ReachesOnSaid := over
#print axioms proved

end Go.Proofs.Ytomokkpfkhfemaa.reachesOn
