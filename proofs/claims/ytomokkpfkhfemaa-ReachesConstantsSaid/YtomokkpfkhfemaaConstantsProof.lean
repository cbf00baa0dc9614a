/- Proved: whatever the number of variables, the bounds and by how far they are moved, ReachesConstants answers true: bounds with a constant change nothing, nor does the order in which bounds stand. No condition. -/
import Derived.Test.YtomokkpfkhfemaaAlv
import Derived.Test.YtomokkpfkhfemaaApp
import Derived.Test.YtomokkpfkhfemaaGvn
import Derived.Test.YtomokkpfkhfemaaRows
namespace Go.Proofs.Ytomokkpfkhfemaa.reachesConstants
open Go.ChangeShapes Go.WideShapes Go.ChangeAt Go.RowKit

theorem own : ownKnob Try.prog.godebug = none := by kernel_rfl
theorem laidOut : laidOutB Try.prog = true := by kernel_rfl


theorem rem_nat (z n : Nat) : (z : Int) % (n : Int) = ((z % n : Nat) : Int) := by rw [Int.natCast_emod]
theorem u8_nat {x : Int} (h : (Lit.int .u8 x).wf = true) : ∃ y : Nat, x = (y : Int) ∧ y < 256 := by
  have h2 : IntKind.u8.min ≤ x ∧ x ≤ IntKind.u8.max := by simpa [Lit.wf] using h
  have h3 : (0 : Int) ≤ x := h2.1
  have h4 : x ≤ 255 := h2.2
  exact ⟨x.toNat, by omega, by omega⟩
theorem bd_size (w : World) : (Go.sizeOf 33).run Try.prog w = .ok 4 w := by kernel_rfl
theorem len0 : Try.prog.underlying 22 = some (.slice 33) := Try.underlying22

theorem edge_mem {l l' : List Bd} (h : ∀ b, b ∈ l ↔ b ∈ l') (i j : Nat) : Edge l i j ↔ Edge l' i j :=
  ⟨fun ⟨b, hb, r⟩ => ⟨b, (h b).1 hb, r⟩, fun ⟨b, hb, r⟩ => ⟨b, (h b).2 hb, r⟩⟩
/-- Two variables. -/
def both (b : Bd) : Bool := b.av && b.bv
theorem edge_both {l : List Bd} (i j : Nat) : Edge l i j ↔ Edge (l.filter both) i j :=
  ⟨fun ⟨b, hb, h1, h2, r⟩ => ⟨b, List.mem_filter.2 ⟨hb, by rw [both, h1, h2]; rfl⟩, h1, h2, r⟩, fun ⟨b, hb, r⟩ => ⟨b, (List.mem_filter.1 hb).1, r⟩⟩
theorem both_step {l : List Bd} {i : Nat} (hi : i < l.length) : (l.take (i + 1)).filter both = (l.take i).filter both ++ (if both l[i] then [l[i]] else []) := by
  rw [List.take_succ_eq_append_getElem hi, List.filter_append]
  cases h : both l[i] <;> simp [h]

/-- One more element, of a row of one's own, in a run of operations. -/
theorem bd_more {w : World} {ops : Array Oper} {rest : List Oper} {o : Oper} {a : Act} {Q : Exit → Act → World → Prop} (hgd : o.guard = none) (s x : Operand)
    (ho : o.op = .call { callee := .builtin .append, args := #[s, x], argTypes := #[22, 22] })
    (base : Nat) (v : Value) (n : Nat) (vs : List Bd) (hs : a.eval s = v) (hown : w.ownsRow base 33 4 v n (vs.flatMap bdc)) (B : Nat) (A : Option Addr) (m c : Nat) (ms : List Bd) (hx : a.eval x = .slice A m c) (hr : Rs bdc 4 w B A m c ms)
    (hsm : n + m ≤ 100000) (hbase : base ≤ w.heap.size)
    (h : ∀ A' k c' w', Hid (k = n + m) → Hid (Appended w w' base 33 4 v (.slice A' k c') k ((vs ++ ms).flatMap bdc)) → wpList Try.prog ops Q rest (a.put o.dst (.slice A' k c')) w') : wpList Try.prog ops Q (o :: rest) a w :=
  wpList_plain hgd fun _ hK => bd_append s x ho base v n vs hs hown B A m c ms hx hr hsm hbase fun A' k c' w' g1 g2 => hK _ _ (h A' k c' w' g1 g2)

/-- Of the first i of them those of two variables are put. -/
def SoRel (ml : List Bd) (w : World) (v11 v12 : Value) (wr : World) : Prop :=
  ∃ (i k c : Nat) (A : Option Addr), v12 = .int .i64 (i : Int) ∧ v11 = .slice A k c ∧ i ≤ ml.length ∧ wr.ownsRow w.heap.size 33 4 (.slice A k c) k (((ml.take i).filter both).flatMap bdc) ∧ Below w.heap.size w wr

set_option maxRecDepth 100000 in
set_option maxHeartbeats 8000000 in
theorem walk (k : Int) (A : Option Addr) (n c : Nat) (l : List Bd) (y : Nat) (w : World) (h : Rs bdc 4 w w.heap.size A n c l) (_hf : ∀ b ∈ l, b.Fit) (hy : y < 256) :
    Calls Try.prog 5 #[.int .i64 k, .slice A n c, .int .u8 (y : Int)] w fun e w' => e = .returned (.bool true) ∧ Below w.heap.size w w' := by
  obtain ⟨x, hx⟩ : ∃ x, ofE k l = x := ⟨_, rfl⟩
  have HLN := Lib.hid h.len
  have HX := Lib.hid hx
  have hcall := of_any k A n c l w x h hx
  clear hx
  go_enter Try.func5, Try.ntmps5
  go_wp2_with fail
  refine hcall.mono ?_
  rintro e w1 (⟨h0, rfl, hv⟩ | ⟨rfl, q, g, gs, rfl, rfl, hS, hv⟩)
  · have hne : ((x : Int) != 0) = true := by simpa using h0
    clear hcall h h0 HX
    have hb := hv
    clear hv
    go_wp2_with fail
    refine (alive_any _).mono ?_
    rintro e wz ⟨rfl, hv⟩
    replace hb := hb.trans (hv.mono hb.size)
    clear hv
    go_wp2_with fail
    go_ret
    exact ⟨rfl, hb⟩
  clear hcall
  replace h := h.at_size (Nat.le_refl _) hv
  have hb := hv
  clear hv
  obtain ⟨q2, hq2, hq64, hl256, hmay⟩ := ofE_ok HX.out
  obtain rfl : q = q2 := by omega
  have HQ := Lib.hid hq64
  have HM := Lib.hid hmay
  have hn256 : n ≤ 256 := by rw [← HLN.out]; exact hl256
  have HN := Lib.hid hn256
  clear hq2 hq64 hl256 hmay HX hn256
  by_cases hn0 : n = 0
  · subst hn0
    clear h
    go_wp2_with fail
    refine (alive_any _).mono ?_
    rintro e wz ⟨rfl, hv⟩
    replace hb := hb.trans (hv.mono hb.size)
    clear hv
    go_wp2_with fail
    go_ret
    exact ⟨rfl, hb⟩
  have hk2 : ((n : Int) == 0) = false := by simpa using hn0
  have hk3 : ¬ (300 : Int) < (n : Int) := by have := HN.out; omega
  have hk4 : ¬ (n : Int) = 0 := by omega
  have hr := rem_nat y n
  have hy1 : y % n ≤ n := Nat.le_of_lt (Nat.mod_lt _ (by omega))
  generalize y % n = by0 at hr hy1
  have HR := Lib.hid hr
  have HY := Lib.hid hy1
  have hwy : IntKind.i64.wrap (y : Int) = (y : Int) := by rw [IntKind.wrap_i64]; omega
  clear hr hy1
  obtain ⟨A4, n4, c4, hs4, hr4⟩ := rs_slice_l (P := Try.prog) 22 33 Try.underlying22 bd_size h by0 HY.out
  obtain ⟨A5, n5, c5, hs5, hr5⟩ := rs_slice_h (P := Try.prog) 22 33 Try.underlying22 bd_size h by0 HY.out
  have HL4 : Hid (n4 = n - by0) := Lib.hid (by rw [← hr4.len, List.length_drop, HLN.out])
  have HL5 : Hid (n5 = by0) := Lib.hid (by rw [← hr5.len, List.length_take, HLN.out]; exact Nat.min_eq_left HY.out)
  go_wp2_with (rw [HR.out])
  refine wp_region_ord [0, 1, 2, 4, 5, 6, 3, 7, 8] [3, 7] 9 (fun _ => True) (by kernel_rfl) (by kernel_rfl) (by kernel_rfl) (by kernel_rfl) (fun _ _ _ _ _ h => h) trivial ?_
  simp only [steps, List.getElem?_cons_zero, List.getElem?_cons_succ]
  repeat (first
    | (refine ord_yes (v := ?_) rfl rfl ?_ ?_; rotate_left; (focus (rintro w' hS0; go_simp; try with_reducible rfl)); simp only [Act.put, List.setIfInBounds_toArray, List.set_cons_zero, List.set_cons_succ]))
  have hv : Below w1.heap.size w1 w1.drew := (Below.refl _ _).drew
  replace hS := hS.keep hv
  replace hb := hb.trans (hv.mono hb.size)
  replace hr4 := hr4.at_size (Nat.le_refl _) hv
  replace hr5 := hr5.at_size (Nat.le_refl _) hv
  clear hv h
  generalize w1.drew = w5 at *
  refine ord_hard rfl rfl (fun K hK => ?_)
  refine bd_append (.const (.slice none 0 0)) (.tmp 43) rfl w5.heap.size (.slice none 0 0) 0 [] rfl (World.ownsRow_nil _ _ _ _) _ A4 n4 c4 (l.drop by0) rfl hr4 (by have := HN.out; have := HL4.out; omega) (Nat.le_refl _) ?_
  intro A6 k6 c6 w6 hk6 ha6
  have h6 : Below w5.heap.size w5 w6 := (Below.refl _ w5).grown ha6.out.grown (Nat.le_refl _) (by simp [Value.ownBlock])
  refine hK.out _ _ (fun _ => trivial) ?_
  clear hK K
  try simp only [Act.put, List.setIfInBounds_toArray, List.set_cons_zero, List.set_cons_succ]
  refine ord_hard rfl rfl (fun K hK => ?_)
  refine bd_append (.tmp 44) (.tmp 47) rfl w5.heap.size _ k6 _ rfl ha6.out.own _ A5 n5 c5 (l.take by0) rfl (hr5.at_size (Nat.le_refl _) h6) (by have := HN.out; have := HL4.out; have := HL5.out; have := HY.out; have := hk6.out; omega) h6.size ?_
  intro A7 k7 c7 w7 hk7 ha7
  have hv : Below w5.heap.size w5 w7 := h6.grown ha7.out.grown h6.size (fun j hj => (ha6.out.own.lt j hj).1)
  have hm := Rs.of_own bdc_len (by decide) ha7.out.own
  have HML : Hid (([] ++ l.drop by0 ++ l.take by0).length ≤ 256) := Lib.hid (by have := HLN.out; have := HN.out; simp only [List.length_append, List.length_drop, List.length_take, List.length_nil]; omega)
  have HMM : Hid (∀ b, b ∈ l ↔ b ∈ [] ++ l.drop by0 ++ l.take by0) := Lib.hid fun b => ⟨fun hb => by
    rw [List.nil_append, List.mem_append]
    have := (List.take_append_drop by0 l).symm ▸ hb
    rcases List.mem_append.1 this with h | h
    · exact .inr h
    · exact .inl h, fun hb => by
    rcases List.mem_append.1 hb with hb | hb
    · rcases List.mem_append.1 hb with hb | hb
      · cases hb
      · exact List.mem_of_mem_drop hb
    · exact List.mem_of_mem_take hb⟩
  generalize [] ++ l.drop by0 ++ l.take by0 = ml at hm HML HMM
  replace hS := hS.keep hv
  replace hb := hb.trans (hv.mono hb.size)
  clear hv
  clear hr4 hr5 h6 ha6 ha7 hk6 hk7 hs4 hs5 HL4 HL5 hk2 hk3 hk4 hwy
  refine hK.out _ _ (fun _ => trivial) ?_
  clear hK K
  try simp only [Act.put, List.setIfInBounds_toArray, List.set_cons_zero, List.set_cons_succ]
  repeat (first
    | (refine ord_yes (v := ?_) rfl rfl ?_ ?_; rotate_left; (focus (rintro w' hS0; go_simp; try with_reducible rfl)); simp only [Act.put, List.setIfInBounds_toArray, List.set_cons_zero, List.set_cons_succ]))
  refine ord_end ?_
  have HK7 := Lib.hid hm.len
  have hk7m : k7 ≤ 256 := by have := HK7.out; have := HML.out; omega
  have hcap := hm.cap
  have htop := hm.top
  unfold maxLen at htop
  go_wp2
  go_loopw [11, 12] (fun v11 v12 wr => SoRel ml w7 v11 v12 wr) (fun _ v12 _ => k7 - (intOf v12).toNat)
  case atStart => exact ⟨0, 0, 0, none, rfl, rfl, Nat.zero_le _, World.ownsRow_nil _ _ _ _, Below.refl _ _⟩
  case round =>
    obtain ⟨i, k2, c2, A2, rfl, rfl, hi, hown, hb1⟩ := hrel
    have HI := Lib.hid hi
    clear hi
    by_cases hlt : i < k7
    · have hi' : i < ml.length := by rw [HK7.out]; exact hlt
      have hmr := hm.at_size (Nat.le_refl _) hb1
      obtain ⟨b, o, rfl, hbb, e0, e1, e2, e3⟩ := bd_at hmr hi'
      have HST := Lib.hid (both_step hi')
      have HK2 : Hid (k2 ≤ 256) := Lib.hid (by
        have := rs_own_len bdc_len (by decide) hown
        have h2 := List.length_filter_le both (ml.take i)
        rw [List.length_take] at h2
        have := HML.out
        omega)
      generalize ml[i] = yb at *
      obtain ⟨av, an, bv, bn⟩ := yb
      simp only at e0 e1 e2 e3
      have HOWN := Lib.hid hown
      have HB1 := Lib.hid hb1
      clear hown hb1 hmr hbb hi'
      have hno : both ⟨av, an, bv, bn⟩ = false → Hid (SoRel ml w7 (.slice A2 k2 c2) (.int .i64 ((i : Int) + 1)) wr) := fun hbo => Lib.hid ⟨i + 1, k2, c2, A2, by go_num, rfl, by have := HK7.out; omega, by
        rw [HST.out, hbo, if_neg (by decide), List.append_nil]
        exact HOWN.out, HB1.out⟩
      cases av with
      | false =>
        have HNO := hno rfl
        clear hno HST HOWN
        go_wp2
        go_roundw
        case rel => exact HNO.out
        case measure => simp [intOf]; omega
      | true =>
        cases bv with
        | false =>
          have HNO := hno rfl
          clear hno HST HOWN
          go_wp2
          go_roundw
          case rel => exact HNO.out
          case measure => simp [intOf]; omega
        | true =>
          clear hno
          have ho1 : Rs bdc 4 (wr.alloc (.cells #[.bool true, .int .u64 (an : Int), .bool true, .int .u64 (bn : Int)] 33)) (wr.alloc (.cells #[.bool true, .int .u64 (an : Int), .bool true, .int .u64 (bn : Int)] 33)).heap.size (some ⟨wr.heap.size, 0, none⟩) 1 1 [⟨true, an, true, bn⟩] := Rs.of_blk bdc_len (heap_alloc_new wr _) ⟨[], rfl⟩ rfl (Nat.le_refl _) (by unfold maxLen; omega)
          have HO1 := Lib.hid ho1
          have HOW := Lib.hid (HOWN.out.alloc (.cells #[.bool true, .int .u64 (an : Int), .bool true, .int .u64 (bn : Int)] 33))
          have HBB := Lib.hid (HB1.out.alloc HB1.out.size (.cells #[.bool true, .int .u64 (an : Int), .bool true, .int .u64 (bn : Int)] 33))
          clear ho1
          go_wp2_with (at_builtin; refine bd_more rfl (.tmp 69) (.tmp 74) rfl w7.heap.size _ k2 _ rfl HOW.out _ _ 1 1 [⟨true, an, true, bn⟩] rfl HO1.out (by have := HK2.out; omega) HBB.out.size ?_; intro A8 k8 c8 w8 hk8 ha8)
          have HREL : Hid (SoRel ml w7 (.slice A8 k8 c8) (.int .i64 ((i : Int) + 1)) w8) := Lib.hid ⟨i + 1, k8, c8, A8, by go_num, rfl, by have := HK7.out; omega, by
            rw [HST.out, if_pos (show both ⟨true, an, true, bn⟩ = true from rfl)]
            exact ha8.out.own, HBB.out.grown ha8.out.grown HBB.out.size (fun j hj => (HOW.out.lt j hj).1)⟩
          clear hk8 ha8 HOW HO1 HBB HST e0 e1 e2 e3
          go_roundw
          case rel => exact HREL.out
          case measure => simp [intOf]; omega
    · obtain rfl : i = k7 := by have := HK7.out; have := HI.out; omega
      rw [List.take_of_length_le (by rw [HK7.out]; exact Nat.le_refl _)] at hown
      have hs := Rs.of_own bdc_len (by decide) hown
      have HSL : Hid ((ml.filter both).length ≤ 256) := Lib.hid (Nat.le_trans (List.length_filter_le _ _) HML.out)
      have HSM : Hid (∀ b ∈ ml, mayB q b = true) := Lib.hid fun b hb => HM.out b ((HMM.out b).2 hb)
      have HSN : Hid (∀ b ∈ ml.filter both, mayB q b = true) := Lib.hid fun b hb => HSM.out b (List.mem_filter.1 hb).1
      have HE1 : Hid (sameSq q (La.bt (rchN q l)) (La.bt (rchN q ml)) = true) := Lib.hid (sameSq_iff.2 fun a _ d _ => rch_same HQ.out HM.out HSM.out (edge_mem HMM.out) a d)
      have HE2 : Hid (sameSq q (La.bt (rchN q l)) (La.bt (rchN q (ml.filter both))) = true) := Lib.hid (sameSq_iff.2 fun a _ d _ => rch_same HQ.out HM.out HSN.out (fun a d => (edge_mem HMM.out a d).trans (edge_both a d)) a d)
      have hm2 := hm.at_size (Nat.le_refl _) hb1
      replace hS := hS.keep hb1
      replace hb := hb.trans (hb1.mono hb.size)
      clear hown hm hb1 hlt
      generalize ml.filter both = sl at *
      go_wp2_with fail
      refine (of_any (q : Int) A7 i c7 ml _ 0 hm2 (ofE_is HQ.out HML.out HSM.out)).mono ?_
      rintro e w10 (⟨h0, -⟩ | ⟨-, q3, g3, gs3, hq3, rfl, hS3, hv⟩)
      · exact absurd rfl h0
      obtain rfl : q3 = q := by omega
      replace hS := hS.keep hv
      replace hs := hs.at_size (Nat.le_refl _) hv
      replace hb := hb.trans (hv.mono hb.size)
      clear hv hq3 hm2
      go_wp2_with fail
      refine (of_any (q3 : Int) A2 k2 c2 sl _ 0 hs (ofE_is HQ.out HSL.out HSN.out)).mono ?_
      rintro e w11 (⟨h0, -⟩ | ⟨-, q4, g4, gs4, hq4, rfl, hS4, hv⟩)
      · exact absurd rfl h0
      obtain rfl : q4 = q3 := by omega
      replace hS := hS.keep hv
      replace hS3 := hS3.keep hv
      replace hb := hb.trans (hv.mono hb.size)
      clear hv hq4 hs
      go_wp2_with fail
      refine (alive_any _).mono ?_
      rintro e w12 ⟨rfl, hv⟩
      replace hS := hS.keep hv
      replace hS3 := hS3.keep hv
      replace hS4 := hS4.keep hv
      replace hb := hb.trans (hv.mono hb.size)
      clear hv
      go_wp2_with fail
      refine (same_any _ _ _ _ _ _ _ _ _ _ hS hS3 HQ.out true HE1.out).mono ?_
      rintro e w13 ⟨rfl, hv⟩
      replace hS := hS.keep hv
      replace hS4 := hS4.keep hv
      replace hb := hb.trans (hv.mono hb.size)
      clear hv
      go_wp2_with fail
      refine (same_any _ _ _ _ _ _ _ _ _ _ hS hS4 HQ.out true HE2.out).mono ?_
      rintro e w14 ⟨rfl, hv⟩
      replace hb := hb.trans (hv.mono hb.size)
      clear hv
      go_wp2_with fail
      go_ret
      exact ⟨rfl, hb⟩

set_option maxRecDepth 100000 in
theorem lifted (os : Os) (started : os.Started) (H : Type) (enc : TypeId × Value → H) :
    ReturnsInHanded {} Try.checked os 5 .any (Rows.reachesConstantsSpec.pre6 enc Try.prog Try.f5 Rows.reachesConstantsRow.domain false) (Rows.reachesConstantsSpec.post enc Try.prog Try.f5 false true false false) := by
  refine returnsInHanded_of_change (C := Try.checked) own started (by kernel_rfl) Try.func5
    (ChangeSpec.witness6 (enc := enc) (C := Try.checked) false ⟨#[], #[.int .i64 0, .slice none 0 0, .int .u8 0], []⟩ 8 (by kernel_rfl) (by kernel_rfl) (by kernel_rfl) (by kernel_rfl)) ?_
  intro W base args ds gs before hval0 hW hcnd _
  have hval : ∀ (j : Nat) t v, Try.f5.params[j]? = some t → args[j]? = some v → Value.okWide Try.prog W .any base t v := hval0
  have hW' := hW
  obtain ⟨p, q, hA0, hV, rfl, hfz, hnd⟩ := hW
  have hA : DataW.TrodAll enc Try.prog W 0 (fun _ => true) true Try.f5.params.toList args.toList ds p := hA0
  rw [Try.params5] at hA hval
  obtain ⟨v0, vs0, d0, ds0, p0, q0, hargs, rfl, rfl, h0, r0⟩ := trodAll_cons hA
  obtain ⟨v1, vs1, d1, ds1, p1, q1, rfl, rfl, rfl, h1, r1⟩ := trodAll_cons r0
  obtain ⟨v2, vs2, d2, ds2, p2, q2, rfl, rfl, rfl, h2, r2⟩ := trodAll_cons r1
  obtain ⟨rfl, rfl, rfl⟩ := trodAll_nil r2
  obtain rfl : args = #[v0, v1, v2] := by cases args; simp_all
  obtain ⟨rfl, rfl⟩ := trodVars_none hV
  obtain ⟨x0, rfl, rfl, rfl, w0⟩ := open_int Try.underlying3 (hval 0 3 v0 rfl rfl) h0
  obtain ⟨a1, len1, cap1, rfl⟩ := okWide_slice Try.underlying22 (hval 1 22 v1 rfl rfl)
  have lt1 : ∀ x ∈ p1, x.block < W.heap.size := by obtain ⟨m, hm⟩ := h1; exact DataW.trod_lt m _ _ _ hm
  obtain ⟨l1, hl1, hf1⟩ := opened_bds h1
  obtain ⟨x2, rfl, rfl, rfl, w2⟩ := open_int Try.underlying5 (hval 2 5 v2 rfl rfl) h2
  clear hA0 hval0
  have w0' := w0
  have w2' := w2
  obtain ⟨y2, rfl, hy2⟩ := u8_nat w2
  refine (walk x0 a1 len1 cap1 l1 y2 W hl1 hf1 hy2).mono fun e W' ⟨he, bel⟩ => ?_
  subst he
  exact ⟨_, rfl, _, _, _, [], _, [], hW', trodAll_mk1 (shut_bool Try.underlying4 _), (trodAll_cons_mk (shut_int Try.underlying3 w0') (trodAll_cons_mk (Below.trod laidOut (by kernel_rfl) (of_decide_eq_true (by kernel_rfl)) h1 bel lt1) (trodAll_cons_mk (shut_int Try.underlying5 w2') trodAll_mk0))), rfl, bel.frame _, fun h => by cases h⟩

theorem over : Rows.reachesConstantsRow.holds Try.pinned (OpenSpec.ofChange Rows.reachesConstantsSpec) :=
  OpenClaim.holds_of_wide 5 Try.f5 rfl rfl rfl rfl rfl rfl rfl ⟨rfl, rfl, rfl, rfl, rfl⟩ rfl rfl rfl rfl rfl (by kernel_rfl) Try.func5 (by kernel_rfl)
    (of_decide_eq_true (by kernel_rfl)) (by unfold Func.isWrapper; first | (rw [if_pos (by decide +kernel)]; kernel_rfl) | (rw [if_neg (by decide +kernel)]; exact ⟨rfl, rfl⟩))
    (fun os started H enc _ => lifted os started H enc)

theorem proved : Rows.ReachesConstantsSaid := over
#print axioms proved

end Go.Proofs.Ytomokkpfkhfemaa.reachesConstants
