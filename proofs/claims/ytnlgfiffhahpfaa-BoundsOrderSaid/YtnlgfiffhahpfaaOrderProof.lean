/- Proved: whatever the rows or effects, the number of variables, the bounds and by how far they are moved, BoundsOrder answers true: in whatever order bounds stand, and however often, least and greatest values are the same. No condition. -/
import Derived.Test.YtnlgfiffhahpfaaAlv
import Derived.Test.YtnlgfiffhahpfaaLws
import Derived.Test.YtnlgfiffhahpfaaApp
import Derived.Test.YtnlgfiffhahpfaaRows
namespace Go.Proofs.Ytnlgfiffhahpfaa.boundsOrder
open Go.ChangeShapes Go.WideShapes Go.ChangeAt Go.RowKit

theorem own : ownKnob Try.prog.godebug = none := by kernel_rfl
theorem laidOut : laidOutB Try.prog = true := by kernel_rfl


theorem great_no {n n1 n2 : Nat} (h : false = (decide (64 < n) || (decide (300 < n1) || decide (200 < n2)))) : n ≤ 64 ∧ n1 ≤ 300 ∧ n2 ≤ 200 := by
  have h := h.symm
  rw [Bool.or_eq_false_iff, Bool.or_eq_false_iff, decide_eq_false_iff_not, decide_eq_false_iff_not, decide_eq_false_iff_not] at h
  omega


theorem rem_nat (z n : Nat) : (z : Int) % (n : Int) = ((z % n : Nat) : Int) := by rw [Int.natCast_emod]
theorem u8_nat {x : Int} (h : (Lit.int .u8 x).wf = true) : ∃ y : Nat, x = (y : Int) ∧ y < 256 := by
  have h2 : IntKind.u8.min ≤ x ∧ x ≤ IntKind.u8.max := by simpa [Lit.wf] using h
  have h3 : (0 : Int) ≤ x := h2.1
  have h4 : x ≤ 255 := h2.2
  exact ⟨x.toNat, by omega, by omega⟩
theorem bd_size (w : World) : (Go.sizeOf 53).run Try.prog w = .ok 4 w := by kernel_rfl

set_option maxRecDepth 100000 in
set_option maxHeartbeats 8000000 in
theorem walk (A : Option Addr) (n c : Nat) (s : Bool) (k z : Int) (A1 : Option Addr) (n1 c1 : Nat) (A2 : Option Addr) (n2 c2 : Nat) (rows : List Nat) (l : List Bd) (u : List Nat) (w : World) (hC : Came w A n c rows A1 n1 c1 l A2 n2 c2 u) (hzw : (Lit.int .i64 z).wf = true) (y : Nat) (hy : y < 256) :
    Calls Try.prog 6 #[gV A n c s k z A1 n1 c1 A2 n2 c2, .int .u8 (y : Int)] w fun e w' => e = .returned (.bool true) ∧ Below w.heap.size w w' := by
  have hb : Below w.heap.size w (w.alloc (.cells #[.slice A n c, .bool s, .int .i64 k, .int .i64 z, .slice A1 n1 c1, .slice A2 n2 c2] 25)) := (Below.refl _ _).alloc (Nat.le_refl _) _
  have hbx := heap_alloc_new w (.cells #[.slice A n c, .bool s, .int .i64 k, .int .i64 z, .slice A1 n1 c1, .slice A2 n2 c2] 25)
  have hz0 := (cell_blk (i := 0) hbx).trans rfl
  have hz1 := (cell_blk (i := 1) hbx).trans rfl
  have hz2 := (cell_blk (i := 2) hbx).trans rfl
  have hz3 := (cell_blk (i := 3) hbx).trans rfl
  have hz4 := (cell_blk (i := 4) hbx).trans rfl
  have hz5 := (cell_blk (i := 5) hbx).trans rfl
  replace hC := hC.keep hb
  clear hbx
  obtain ⟨gr, hgr⟩ : ∃ r, r = (decide (64 < n) || (decide (300 < n1) || decide (200 < n2))) := ⟨_, rfl⟩
  have HGR := Lib.hid hgr
  have HGC := Lib.hid fun W => great_any A n c s k z A1 n1 c1 A2 n2 c2 W gr HGR.out
  have HSC := Lib.hid fun W (h : Came W A n c rows A1 n1 c1 l A2 n2 c2 u) => sort_any A n c s k z A1 n1 c1 A2 n2 c2 rows W h.hr h.hrf
  have HSO := Lib.hid (srOf_ok rows s k)
  generalize srOf rows s k = S at HSC HSO
  have HLN := Lib.hid (And.intro hC.hl.len hC.hu.len)
  have HZW := Lib.hid hzw
  unfold gV at HGC HSC ⊢
  clear hgr hzw
  go_enter Try.func6, Try.ntmps6
  go_wp2_with fail
  refine (HGC.out _).mono ?_
  rintro e w1 ⟨rfl, hv⟩
  clear HGC
  replace hC := hC.keep hv
  replace hz0 := cell_old hz0 hv
  replace hz1 := cell_old hz1 hv
  replace hz2 := cell_old hz2 hv
  replace hz3 := cell_old hz3 hv
  replace hz4 := cell_old hz4 hv
  replace hz5 := cell_old hz5 hv
  replace hb := hb.trans (hv.mono hb.size)
  clear hv
  cases gr with
  | true =>
    clear HSC
    go_wp2_with fail
    refine (alive_any _).mono ?_
    rintro e wz ⟨rfl, hv⟩
    replace hb := hb.trans (hv.mono hb.size)
    clear hv
    go_wp2_with fail
    go_ret
    exact ⟨rfl, hb⟩
  | false =>
    obtain ⟨-, hn1, -⟩ := great_no HGR.out
    clear HGR
    by_cases hk0 : n1 = 0
    · have hk1 : ((n1 : Int) == 0) = true := by simp [hk0]
      clear HSC hn1 hk0
      go_wp2_with fail
      refine (alive_any _).mono ?_
      rintro e wz ⟨rfl, hv⟩
      replace hb := hb.trans (hv.mono hb.size)
      clear hv
      go_wp2_with fail
      go_ret
      exact ⟨rfl, hb⟩
    have hk1 : ((n1 : Int) == 0) = false := by simpa using hk0
    by_cases hk2 : 128 < n1
    · have hk3 : (128 : Int) < (n1 : Int) := by omega
      clear HSC hn1 hk0 hk2
      go_wp2_with fail
      refine (alive_any _).mono ?_
      rintro e wz ⟨rfl, hv⟩
      replace hb := hb.trans (hv.mono hb.size)
      clear hv
      go_wp2_with fail
      go_ret
      exact ⟨rfl, hb⟩
    have hk3 : ¬ (128 : Int) < (n1 : Int) := by omega
    have HN : Hid (n1 ≤ 128) := Lib.hid (by omega)
    have hk4 : ¬ (n1 : Int) = 0 := by omega
    have hr := rem_nat y n1
    have hy1 : y % n1 ≤ n1 := Nat.le_of_lt (Nat.mod_lt _ (by omega))
    generalize y % n1 = by0 at hr hy1
    have HR := Lib.hid hr
    have HY := Lib.hid hy1
    have hwy : IntKind.i64.wrap (y : Int) = (y : Int) := by rw [IntKind.wrap_i64]; omega
    clear hn1 hk2 hr hy1
    go_wp2_with fail
    refine (HSC.out _ hC).mono ?_
    rintro e w2 ⟨v, rfl, hS, hv⟩
    clear HSC
    replace hC := hC.keep hv
    replace hz0 := cell_old hz0 hv
    replace hz1 := cell_old hz1 hv
    replace hz2 := cell_old hz2 hv
    replace hz3 := cell_old hz3 hv
    replace hz4 := cell_old hz4 hv
    replace hz5 := cell_old hz5 hv
    replace hb := hb.trans (hv.mono hb.size)
    clear hv
    have hSk := hS
    obtain ⟨T, pt, rfl⟩ : ∃ T p, v = .iface T p := by
      rcases hS with ⟨a, e, -⟩ | ⟨a, e, -⟩
      · exact ⟨_, _, e⟩
      · exact ⟨_, _, e⟩
    clear hS
    obtain ⟨A4, n4, c4, hs4, hr4⟩ := rs_slice_l (P := Try.prog) 23 53 Try.underlying23 bd_size hC.hl by0 HY.out
    obtain ⟨A5, n5, c5, hs5, hr5⟩ := rs_slice_h (P := Try.prog) 23 53 Try.underlying23 bd_size hC.hl by0 HY.out
    have HL4 : Hid (n4 = n1 - by0) := Lib.hid (by rw [← hr4.len, List.length_drop, HLN.out.1])
    have HL5 : Hid (n5 = by0) := Lib.hid (by rw [← hr5.len, List.length_take, HLN.out.1]; exact Nat.min_eq_left HY.out)
    go_wp2_with (rw [HR.out])
    refine wp_region_ord [0, 1, 2, 3, 5, 6, 7, 8, 10, 11, 4, 9, 12, 13] [4, 9, 12] 14 (fun w' => w'.cell? ⟨w.heap.size, 4, none⟩ = some (.slice A1 n1 c1)) (by kernel_rfl) (by kernel_rfl) (by kernel_rfl) (by kernel_rfl) (fun _ _ _ _ _ h => h) hz4 ?_
    simp only [steps, List.getElem?_cons_zero, List.getElem?_cons_succ]
    repeat (first
      | (refine ord_no rfl ?_; simp only [Act.put, List.setIfInBounds_toArray, List.set_cons_zero, List.set_cons_succ])
      | (refine ord_yes (v := ?_) rfl rfl ?_ ?_; rotate_left; (focus (rintro w' hS0; go_simp; try with_reducible rfl)); simp only [Act.put, List.setIfInBounds_toArray, List.set_cons_zero, List.set_cons_succ]))
    have hv : Below w2.heap.size w2 w2.drew := (Below.refl _ _).drew
    replace hC := hC.keep hv
    replace hz0 := cell_old hz0 hv
    replace hz1 := cell_old hz1 hv
    replace hz2 := cell_old hz2 hv
    replace hz3 := cell_old hz3 hv
    replace hz4 := cell_old hz4 hv
    replace hz5 := cell_old hz5 hv
    replace hb := hb.trans (hv.mono hb.size)
    replace hSk := hSk.keep hv
    replace hr4 := hr4.at_size (Nat.le_refl _) hv
    replace hr5 := hr5.at_size (Nat.le_refl _) hv
    clear hv
    generalize w2.drew = w5 at *
    refine ord_hard rfl rfl (fun K hK => ?_)
    refine bd_append (.const (.slice none 0 0)) (.tmp 43) rfl w5.heap.size (.slice none 0 0) 0 [] rfl (World.ownsRow_nil _ _ _ _) _ A4 n4 c4 (l.drop by0) rfl hr4 (by have := HN.out; have := HL4.out; omega) (Nat.le_refl _) ?_
    intro A6 k6 c6 w6 hk6 ha6
    have h6 : Below w5.heap.size w5 w6 := (Below.refl _ w5).grown ha6.out.grown (Nat.le_refl _) (by simp [Value.ownBlock])
    refine hK.out _ _ (fun _ => cell_old hz4 h6) ?_
    clear hK K
    try simp only [Act.put, List.setIfInBounds_toArray, List.set_cons_zero, List.set_cons_succ]
    refine ord_hard rfl rfl (fun K hK => ?_)
    refine bd_append (.tmp 44) (.tmp 48) rfl w5.heap.size _ k6 _ rfl ha6.out.own _ A5 n5 c5 (l.take by0) rfl (hr5.at_size (Nat.le_refl _) h6) (by have := HN.out; have := HL4.out; have := HL5.out; have := HY.out; have := hk6.out; omega) h6.size ?_
    intro A7 k7 c7 w7 hk7 ha7
    have h7 : Below w5.heap.size w5 w7 := h6.grown ha7.out.grown h6.size (fun j hj => (ha6.out.own.lt j hj).1)
    refine hK.out _ _ (fun _ => cell_old hz4 h7) ?_
    clear hK K
    try simp only [Act.put, List.setIfInBounds_toArray, List.set_cons_zero, List.set_cons_succ]
    refine ord_hard rfl rfl (fun K hK => ?_)
    refine bd_append (.tmp 49) (.tmp 51) rfl w5.heap.size _ k7 _ rfl ha7.out.own _ A1 n1 c1 l rfl (hC.hl.at_size (Nat.le_refl _) h7) (by have := HN.out; have := HL4.out; have := HL5.out; have := HY.out; have := hk6.out; have := hk7.out; omega) h7.size ?_
    intro A8 k8 c8 w8 hk8 ha8
    have hv : Below w5.heap.size w5 w8 := h7.grown ha8.out.grown h7.size (fun j hj => (ha7.out.own.lt j hj).1)
    have hm := Rs.of_own bdc_len (by decide) ha8.out.own
    have HML : Hid (([] ++ l.drop by0 ++ l.take by0 ++ l).length ≤ 256) := Lib.hid (by have := HLN.out.1; have := HN.out; simp only [List.length_append, List.length_drop, List.length_take, List.length_nil]; omega)
    have HMM : Hid (∀ b, b ∈ l ↔ b ∈ [] ++ l.drop by0 ++ l.take by0 ++ l) := Lib.hid fun b => ⟨fun hb => List.mem_append.2 (.inr hb), fun hb => by
      rcases List.mem_append.1 hb with hb | hb
      · rcases List.mem_append.1 hb with hb | hb
        · rcases List.mem_append.1 hb with hb | hb
          · cases hb
          · exact List.mem_of_mem_drop hb
        · exact List.mem_of_mem_take hb
      · exact hb⟩
    generalize [] ++ l.drop by0 ++ l.take by0 ++ l = ml at hm HML HMM
    replace hC := hC.keep hv
    replace hz0 := cell_old hz0 hv
    replace hz1 := cell_old hz1 hv
    replace hz2 := cell_old hz2 hv
    replace hz3 := cell_old hz3 hv
    replace hz4 := cell_old hz4 hv
    replace hz5 := cell_old hz5 hv
    replace hb := hb.trans (hv.mono hb.size)
    replace hSk := hSk.keep hv
    clear hv
    clear hr4 hr5 h6 h7 ha6 ha7 ha8 hk6 hk7 hk8 hs4 hs5 HL4 HL5
    refine hK.out _ _ (fun _ => hz4) ?_
    clear hK K
    try simp only [Act.put, List.setIfInBounds_toArray, List.set_cons_zero, List.set_cons_succ]
    repeat (first
      | (refine ord_no rfl ?_; simp only [Act.put, List.setIfInBounds_toArray, List.set_cons_zero, List.set_cons_succ])
      | (refine ord_yes (v := ?_) rfl rfl ?_ ?_; rotate_left; (focus (rintro w' hS0; go_simp; try with_reducible rfl)); simp only [Act.put, List.setIfInBounds_toArray, List.set_cons_zero, List.set_cons_succ]))
    refine ord_end ?_
    go_wp2_with fail
    refine (solve_any _ z A1 n1 c1 l S _ HSO.out hSk.into hC.hl hC.hlf).mono ?_
    rintro e w9 ⟨B1, m1, d1, B2, m2, d2, x, lo, hi, rfl, hlo, hhi, hans, hv⟩
    have HANS := Lib.hid hans
    clear hans
    replace hC := hC.keep hv
    replace hz0 := cell_old hz0 hv
    replace hz1 := cell_old hz1 hv
    replace hz2 := cell_old hz2 hv
    replace hz3 := cell_old hz3 hv
    replace hz4 := cell_old hz4 hv
    replace hz5 := cell_old hz5 hv
    replace hb := hb.trans (hv.mono hb.size)
    replace hSk := hSk.keep hv
    replace hm := hm.at_size (Nat.le_refl _) hv
    clear hv
    go_wp2_with fail
    refine (solve_any _ z A8 k8 c8 ml S _ HSO.out hSk.into hm (fun b hb => hC.hlf b ((HMM.out b).2 hb))).mono ?_
    rintro e w10 ⟨B3, m3, d3, B4, m4, d4, x2, lo2, hi2, rfl, hlo2, hhi2, hans, hv⟩
    obtain ⟨rfl, rfl, rfl⟩ := solve_same HSO.out (by have := HLN.out.1; have := HN.out; omega) HML.out HMM.out HANS.out hans
    clear hans HANS
    replace hC := hC.keep hv
    replace hz0 := cell_old hz0 hv
    replace hz1 := cell_old hz1 hv
    replace hz2 := cell_old hz2 hv
    replace hz3 := cell_old hz3 hv
    replace hz4 := cell_old hz4 hv
    replace hz5 := cell_old hz5 hv
    replace hb := hb.trans (hv.mono hb.size)
    replace hSk := hSk.keep hv
    replace hm := hm.at_size (Nat.le_refl _) hv
    replace hlo := hlo.at_size (Nat.le_refl _) hv
    replace hhi := hhi.at_size (Nat.le_refl _) hv
    clear hv
    have hxx : ((x : Int) == (x : Int)) = true := by simp
    clear hC hz0 hz1 hz2 hz3 hz4 hz5 hSk hm
    go_wp2_with fail
    refine (alive_any _).mono ?_
    rintro e w11 ⟨rfl, hv⟩
    replace hlo := hlo.at_size (Nat.le_refl _) hv
    replace hhi := hhi.at_size (Nat.le_refl _) hv
    replace hlo2 := hlo2.at_size (Nat.le_refl _) hv
    replace hhi2 := hhi2.at_size (Nat.le_refl _) hv
    replace hb := hb.trans (hv.mono hb.size)
    clear hv
    go_wp2_with fail
    refine (same_lit true hlo hlo2 (by simp)).mono ?_
    rintro e w12 ⟨rfl, hv⟩
    replace hlo := hlo.at_size (Nat.le_refl _) hv
    replace hhi := hhi.at_size (Nat.le_refl _) hv
    replace hlo2 := hlo2.at_size (Nat.le_refl _) hv
    replace hhi2 := hhi2.at_size (Nat.le_refl _) hv
    replace hb := hb.trans (hv.mono hb.size)
    clear hv
    go_wp2_with fail
    refine (same_lit true hhi hhi2 (by simp)).mono ?_
    rintro e w13 ⟨rfl, hv⟩
    replace hlo := hlo.at_size (Nat.le_refl _) hv
    replace hhi := hhi.at_size (Nat.le_refl _) hv
    replace hlo2 := hlo2.at_size (Nat.le_refl _) hv
    replace hhi2 := hhi2.at_size (Nat.le_refl _) hv
    replace hb := hb.trans (hv.mono hb.size)
    clear hv
    go_wp2_with fail
    go_ret
    exact ⟨rfl, hb⟩


set_option maxRecDepth 100000 in
theorem lifted (os : Os) (started : os.Started) (H : Type) (enc : TypeId × Value → H) :
    ReturnsInHanded {} Try.checked os 6 .any (Rows.boundsOrderSpec.pre6 enc Try.prog Try.f6 Rows.boundsOrderRow.domain false) (Rows.boundsOrderSpec.post enc Try.prog Try.f6 false true false false) := by
  refine returnsInHanded_of_change (C := Try.checked) own started (by kernel_rfl) Try.func6
    (ChangeSpec.witness6 (enc := enc) (C := Try.checked) false ⟨#[], #[.agg #[.slice none 0 0, .bool false, .int .i64 0, .int .i64 0, .slice none 0 0, .slice none 0 0], .int .u8 0], []⟩ 8 (by kernel_rfl) (by kernel_rfl) (by kernel_rfl) (by kernel_rfl)) ?_
  intro W base args ds gs before hval0 hW hcnd _
  have hval : ∀ (j : Nat) t v, Try.f6.params[j]? = some t → args[j]? = some v → Value.okWide Try.prog W .any base t v := hval0
  have hW' := hW
  obtain ⟨p, q, hA0, hV, rfl, hfz, hnd⟩ := hW
  have hA : DataW.TrodAll enc Try.prog W 0 (fun _ => true) true Try.f6.params.toList args.toList ds p := hA0
  rw [Try.params6] at hA hval
  obtain ⟨v0, vs0, d0, ds0, p0, q0, hargs, rfl, rfl, h0, r0⟩ := trodAll_cons hA
  obtain ⟨v1, vs1, d1, ds1, p1, q1, rfl, rfl, rfl, h1, r1⟩ := trodAll_cons r0
  obtain ⟨rfl, rfl, rfl⟩ := trodAll_nil r1
  obtain rfl : args = #[v0, v1] := by cases args; simp_all
  obtain ⟨rfl, rfl⟩ := trodVars_none hV
  have lt0 : ∀ x ∈ p0, x.block < W.heap.size := by obtain ⟨m, hm⟩ := h0; exact DataW.trod_lt m _ _ _ hm
  obtain ⟨A, n, c, s, k, z, A1, n1, c1, A2, n2, c2, rows, l, u, rfl, hC, hzw⟩ := opened_given h0
  obtain ⟨x1, rfl, rfl, rfl, w1⟩ := open_int Try.underlying5 (hval 1 5 v1 rfl rfl) h1
  clear hA0 hval0
  have w1' := w1
  obtain ⟨y1, rfl, hy1⟩ := u8_nat w1
  refine (walk A n c s k z A1 n1 c1 A2 n2 c2 rows l u W hC hzw y1 hy1).mono fun e W' ⟨he, bel⟩ => ?_
  subst he
  exact ⟨_, rfl, _, _, _, [], _, [], hW', trodAll_mk1 (shut_bool Try.underlying4 _), (trodAll_cons_mk (Below.trod laidOut (by kernel_rfl) (of_decide_eq_true (by kernel_rfl)) h0 bel lt0) (trodAll_cons_mk (shut_int Try.underlying5 w1') trodAll_mk0)), rfl, bel.frame _, fun h => by cases h⟩

theorem over : Rows.boundsOrderRow.holds Try.pinned (OpenSpec.ofChange Rows.boundsOrderSpec) :=
  OpenClaim.holds_of_wide 6 Try.f6 rfl rfl rfl rfl rfl rfl rfl ⟨rfl, rfl, rfl, rfl, rfl⟩ rfl rfl rfl rfl rfl (by kernel_rfl) Try.func6 (by kernel_rfl)
    (of_decide_eq_true (by kernel_rfl)) (by unfold Func.isWrapper; first | (rw [if_pos (by decide +kernel)]; kernel_rfl) | (rw [if_neg (by decide +kernel)]; exact ⟨rfl, rfl⟩))
    (fun os started H enc _ => lifted os started H enc)

theorem proved : Rows.BoundsOrderSaid := over
#print axioms proved

end Go.Proofs.Ytnlgfiffhahpfaa.boundsOrder
