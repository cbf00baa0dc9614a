/- Proved: whatever the rows or effects, the number of variables, the bounds and one more, BoundsMore answers true: with one bound more least values are above, greatest ones below, what they were; with one that there was already nothing changes. No condition. -/
import Derived.Test.YtnlgfiffhahpfaaAlv
import Derived.Test.YtnlgfiffhahpfaaLws
import Derived.Test.YtnlgfiffhahpfaaApp
import Derived.Test.YtnlgfiffhahpfaaRows
namespace Go.Proofs.Ytnlgfiffhahpfaa.boundsMore
open Go.ChangeShapes Go.WideShapes Go.ChangeAt Go.RowKit

theorem own : ownKnob Try.prog.godebug = none := by kernel_rfl
theorem laidOut : laidOutB Try.prog = true := by kernel_rfl


theorem great_no {n n1 n2 : Nat} (h : false = (decide (64 < n) || (decide (300 < n1) || decide (200 < n2)))) : n ≤ 64 ∧ n1 ≤ 300 ∧ n2 ≤ 200 := by
  have h := h.symm
  rw [Bool.or_eq_false_iff, Bool.or_eq_false_iff, decide_eq_false_iff_not, decide_eq_false_iff_not, decide_eq_false_iff_not] at h
  omega


def BmRel (q : Nat) (w : World) (v13 : Value) (wr : World) : Prop := ∃ i : Nat, v13 = .int .i64 (i : Int) ∧ i ≤ q ∧ Below w.heap.size w wr
theorem hard_end {P : Program} {o : Oper} {a : Act} {w : World} {Q : Exit → Act → World → Prop} {R : Act → World → Prop} (h : ∀ K : Act → World → Prop, Shut (∀ a' w', R a' w' → K a' w') → Oper.wp P o a w K Q) : Oper.wp P o a w R Q := h _ (fun _ _ h => h)
theorem more_list {l : List Bd} {x : Bd} : ∀ b, b ∈ l → b ∈ [] ++ l ++ [x] := fun _ hb => List.mem_append.2 (.inl hb)
theorem more_same {l : List Bd} {x : Bd} (hx : x ∈ l) : ∀ b, b ∈ l ↔ b ∈ [] ++ l ++ [x] := fun b => ⟨more_list b, fun hb => by
  rcases List.mem_append.1 hb with hb | hb
  · exact hb
  · rw [List.mem_singleton.1 hb]
    exact hx⟩
theorem more_fit {l : List Bd} {x : Bd} (hf : ∀ b ∈ l, b.Fit) (hx : x.Fit) : ∀ b ∈ [] ++ l ++ [x], b.Fit := fun b hb => by
  rcases List.mem_append.1 hb with hb | hb
  · exact hf b hb
  · rw [List.mem_singleton.1 hb]
    exact hx
theorem more_len (l : List Bd) (x : Bd) : ([] ++ l ++ [x]).length = l.length + 1 := by simp

theorem box2 (w : World) (o1 o2 : Obj) : ((w.alloc o1).alloc o2).heap[w.heap.size]? = some o1 ∧ ((w.alloc o1).alloc o2).heap[w.heap.size + 1]? = some o2 ∧ Below w.heap.size w ((w.alloc o1).alloc o2) := by
  have hb1 : Below w.heap.size w (w.alloc o1) := (Below.refl _ _).alloc (Nat.le_refl _) _
  refine ⟨(Below.heap_alloc _ _ _ (by simp)).trans (heap_alloc_new w _), ?_, hb1.alloc hb1.size _⟩
  have := heap_alloc_new (w.alloc o1) o2
  rwa [World.size_alloc] at this

set_option maxRecDepth 100000 in
set_option maxHeartbeats 8000000 in
theorem walk (A : Option Addr) (n c : Nat) (s : Bool) (k z : Int) (A1 : Option Addr) (n1 c1 : Nat) (A2 : Option Addr) (n2 c2 : Nat) (rows : List Nat) (l : List Bd) (u : List Nat) (w : World) (hC : Came w A n c rows A1 n1 c1 l A2 n2 c2 u) (av : Bool) (an : Nat) (bv : Bool) (bn : Nat) (hbf : (Bd.mk av an bv bn).Fit) :
    Calls Try.prog 5 #[gV A n c s k z A1 n1 c1 A2 n2 c2, .agg #[.bool av, .int .u64 (an : Int), .bool bv, .int .u64 (bn : Int)]] w fun e w' => e = .returned (.bool true) ∧ Below w.heap.size w w' := by
  obtain ⟨hbx, hby, hb⟩ := box2 w (.cells #[.slice A n c, .bool s, .int .i64 k, .int .i64 z, .slice A1 n1 c1, .slice A2 n2 c2] 25) (.cells #[.bool av, .int .u64 (an : Int), .bool bv, .int .u64 (bn : Int)] 53)
  have hz0 := (cell_blk (i := 0) hbx).trans rfl
  have hz1 := (cell_blk (i := 1) hbx).trans rfl
  have hz2 := (cell_blk (i := 2) hbx).trans rfl
  have hz3 := (cell_blk (i := 3) hbx).trans rfl
  have hz4 := (cell_blk (i := 4) hbx).trans rfl
  have hz5 := (cell_blk (i := 5) hbx).trans rfl
  have hy0 := (cell_blk (i := 0) hby).trans rfl
  have hy1 := (cell_blk (i := 1) hby).trans rfl
  have hy2 := (cell_blk (i := 2) hby).trans rfl
  have hy3 := (cell_blk (i := 3) hby).trans rfl
  replace hC := hC.keep hb
  clear hbx hby
  obtain ⟨gr, hgr⟩ : ∃ r, r = (decide (64 < n) || (decide (300 < n1) || decide (200 < n2))) := ⟨_, rfl⟩
  have HGR := Lib.hid hgr
  have HGC := Lib.hid fun W => great_any A n c s k z A1 n1 c1 A2 n2 c2 W gr HGR.out
  have HSC := Lib.hid fun W (h : Came W A n c rows A1 n1 c1 l A2 n2 c2 u) => sort_any A n c s k z A1 n1 c1 A2 n2 c2 rows W h.hr h.hrf
  have HSO := Lib.hid (srOf_ok rows s k)
  generalize srOf rows s k = S at HSC HSO
  have HLN := Lib.hid hC.hl.len
  have HBF : Hid (Bd.mk av an bv bn).Fit := Lib.hid hbf
  unfold gV at HGC HSC ⊢
  clear hgr hbf
  go_enter Try.func5, Try.ntmps5
  go_wp2_with fail
  refine (HGC.out _).mono ?_
  rintro e w1 ⟨rfl, hv⟩
  clear HGC
  replace hC := hC.keep hv
  replace hz0 := cell_old hz0 hv
  replace hz1 := cell_old hz1 hv
  replace hz2 := cell_old hz2 hv
  replace hz3 := cell_old hz3 hv
  replace hz4 := cell_old hz4 hv
  replace hz5 := cell_old hz5 hv
  replace hb := hb.trans (hv.mono hb.size)
  replace hy0 := cell_old hy0 hv
  replace hy1 := cell_old hy1 hv
  replace hy2 := cell_old hy2 hv
  replace hy3 := cell_old hy3 hv
  clear hv
  cases gr with
  | true =>
    clear HSC
    go_wp2_with fail
    refine (alive_any _).mono ?_
    rintro e wz ⟨rfl, hv⟩
    replace hb := hb.trans (hv.mono hb.size)
    clear hv
    go_wp2_with fail
    go_ret
    exact ⟨rfl, hb⟩
  | false =>
    clear HGR
    by_cases hk0 : 255 < n1
    · have hk1 : (255 : Int) < (n1 : Int) := by omega
      clear HSC hk0
      go_wp2_with fail
      refine (alive_any _).mono ?_
      rintro e wz ⟨rfl, hv⟩
      replace hb := hb.trans (hv.mono hb.size)
      clear hv
      go_wp2_with fail
      go_ret
      exact ⟨rfl, hb⟩
    have hk1 : ¬ (255 : Int) < (n1 : Int) := by omega
    have HN : Hid (n1 ≤ 255) := Lib.hid (by omega)
    clear hk0
    go_wp2_with fail
    refine (HSC.out _ hC).mono ?_
    rintro e w2 ⟨v, rfl, hS, hv⟩
    clear HSC
    replace hC := hC.keep hv
    replace hz0 := cell_old hz0 hv
    replace hz1 := cell_old hz1 hv
    replace hz2 := cell_old hz2 hv
    replace hz3 := cell_old hz3 hv
    replace hz4 := cell_old hz4 hv
    replace hz5 := cell_old hz5 hv
    replace hb := hb.trans (hv.mono hb.size)
    replace hy0 := cell_old hy0 hv
    replace hy1 := cell_old hy1 hv
    replace hy2 := cell_old hy2 hv
    replace hy3 := cell_old hy3 hv
    clear hv
    have hSk := hS
    obtain ⟨T, pt, rfl⟩ : ∃ T p, v = .iface T p := by
      rcases hS with ⟨a, e, -⟩ | ⟨a, e, -⟩
      · exact ⟨_, _, e⟩
      · exact ⟨_, _, e⟩
    clear hS
    go_wp2_with fail
    refine (solve_any _ z A1 n1 c1 l S _ HSO.out hSk.into hC.hl hC.hlf).mono ?_
    rintro e w3 ⟨B1, m1, d1, B2, m2, d2, x, lo, hi, rfl, hlo, hhi, hans, hv⟩
    have HANS := Lib.hid hans
    clear hans hz0 hz1 hz2 hz5 hk1
    replace hC := hC.keep hv
    replace hz3 := cell_old hz3 hv
    replace hz4 := cell_old hz4 hv
    replace hb := hb.trans (hv.mono hb.size)
    replace hy0 := cell_old hy0 hv
    replace hy1 := cell_old hy1 hv
    replace hy2 := cell_old hy2 hv
    replace hy3 := cell_old hy3 hv
    replace hSk := hSk.keep hv
    clear hv
    go_wp2
    refine wp_region_fork [0, 1, 3] 2 4 _ _ [4, 5, 6] [2, 5, 6] [2, 4, 5] 7 (fun w' => w'.cell? ⟨w.heap.size, 4, none⟩ = some (.slice A1 n1 c1) ∧ w'.cell? ⟨w.heap.size + 1, 0, none⟩ = some (.bool av) ∧ w'.cell? ⟨w.heap.size + 1, 1, none⟩ = some (.int .u64 (an : Int)) ∧ w'.cell? ⟨w.heap.size + 1, 2, none⟩ = some (.bool bv) ∧ w'.cell? ⟨w.heap.size + 1, 3, none⟩ = some (.int .u64 (bn : Int))) (by kernel_rfl) (by kernel_rfl) rfl rfl rfl rfl (by kernel_rfl) (by kernel_rfl) (by kernel_rfl) (by kernel_rfl) (by kernel_rfl) (by kernel_rfl) (fun _ _ _ _ _ h => h) ⟨hz4, hy0, hy1, hy2, hy3⟩ ?_
    simp only [steps, List.getElem?_cons_zero, List.getElem?_cons_succ]
    repeat (
      refine soft_yes (v := ?_) rfl ?_ ?_
      rotate_left
      (focus (rintro w' ⟨hS0, hS1, hS2, hS3, hS4⟩; go_simp; try with_reducible rfl))
      simp only [Act.put, List.setIfInBounds_toArray, List.set_cons_zero, List.set_cons_succ])
    have hv : Below w3.heap.size w3 w3.drew := (Below.refl _ _).drew
    replace hC := hC.keep hv
    replace hz3 := cell_old hz3 hv
    replace hz4 := cell_old hz4 hv
    replace hb := hb.trans (hv.mono hb.size)
    replace hy0 := cell_old hy0 hv
    replace hy1 := cell_old hy1 hv
    replace hy2 := cell_old hy2 hv
    replace hy3 := cell_old hy3 hv
    replace hSk := hSk.keep hv
    replace hlo := hlo.at_size (Nat.le_refl _) hv
    replace hhi := hhi.at_size (Nat.le_refl _) hv
    clear hv
    generalize w3.drew = w5 at *
    refine soft_end ⟨?_, ?_⟩
    (focus (
      refine bd_append (.const (.slice none 0 0)) (.tmp 42) rfl w5.heap.size (.slice none 0 0) 0 [] rfl (World.ownsRow_nil _ _ _ _) _ A1 n1 c1 l rfl hC.hl (by have := HN.out; omega) (Nat.le_refl _) ?_
      intro A6 k6 c6 w6 hk6 ha6
      have h6 : Below w5.heap.size w5 w6 := (Below.refl _ w5).grown ha6.out.grown (Nat.le_refl _) (by simp [Value.ownBlock])
      refine ⟨⟨cell_old hz4 h6, cell_old hy0 h6, cell_old hy1 h6, cell_old hy2 h6, cell_old hy3 h6⟩, ?_⟩
      simp only [Act.put, List.setIfInBounds_toArray, List.set_cons_zero, List.set_cons_succ]
      have h7 : Below w5.heap.size w5 (w6.alloc (.cells #[.bool av, .int .u64 (an : Int), .bool bv, .int .u64 (bn : Int)] 53)) := h6.alloc h6.size _
      have ho1 : Rs bdc 4 (w6.alloc (.cells #[.bool av, .int .u64 (an : Int), .bool bv, .int .u64 (bn : Int)] 53)) (w6.alloc (.cells #[.bool av, .int .u64 (an : Int), .bool bv, .int .u64 (bn : Int)] 53)).heap.size (some ⟨w6.heap.size, 0, none⟩) 1 1 [⟨av, an, bv, bn⟩] := Rs.of_blk bdc_len (heap_alloc_new w6 _) ⟨[], rfl⟩ rfl (Nat.le_refl _) (by unfold maxLen; omega)
      have own6 := ha6.out.own.alloc (.cells #[.bool av, .int .u64 (an : Int), .bool bv, .int .u64 (bn : Int)] 53)
      refine ord_hard rfl rfl (fun K hK => ?_)
      go_simp
      refine hK.out _ _ (fun _ => ⟨cell_old hz4 h7, cell_old hy0 h7, cell_old hy1 h7, cell_old hy2 h7, cell_old hy3 h7⟩) ?_
      clear hK K h6 ha6
      try simp only [Act.put, List.setIfInBounds_toArray, List.set_cons_zero, List.set_cons_succ]
      generalize w6.alloc (.cells #[.bool av, .int .u64 (an : Int), .bool bv, .int .u64 (bn : Int)] 53) = w7 at *))
    rotate_left
    (focus (
      have h6 : Below w5.heap.size w5 (w5.alloc (.cells #[.bool av, .int .u64 (an : Int), .bool bv, .int .u64 (bn : Int)] 53)) := (Below.refl _ _).alloc (Nat.le_refl _) _
      have ho0 : Rs bdc 4 (w5.alloc (.cells #[.bool av, .int .u64 (an : Int), .bool bv, .int .u64 (bn : Int)] 53)) (w5.alloc (.cells #[.bool av, .int .u64 (an : Int), .bool bv, .int .u64 (bn : Int)] 53)).heap.size (some ⟨w5.heap.size, 0, none⟩) 1 1 [⟨av, an, bv, bn⟩] := Rs.of_blk bdc_len (heap_alloc_new w5 _) ⟨[], rfl⟩ rfl (Nat.le_refl _) (by unfold maxLen; omega)
      refine hard_end (fun K hK => ?_)
      go_simp
      refine hK.out _ _ ⟨⟨cell_old hz4 h6, cell_old hy0 h6, cell_old hy1 h6, cell_old hy2 h6, cell_old hy3 h6⟩, ?_⟩
      clear hK K
      try simp only [Act.put, List.setIfInBounds_toArray, List.set_cons_zero, List.set_cons_succ]
      have hl6 := hC.hl.at_size (Nat.le_refl _) h6
      generalize w5.alloc (.cells #[.bool av, .int .u64 (an : Int), .bool bv, .int .u64 (bn : Int)] 53) = w6 at *
      refine ord_hard rfl rfl (fun K hK => ?_)
      refine bd_append (.const (.slice none 0 0)) (.tmp 42) rfl w5.heap.size (.slice none 0 0) 0 [] rfl (World.ownsRow_nil _ _ _ _) _ A1 n1 c1 l rfl hl6 (by have := HN.out; omega) h6.size ?_
      intro A6 k6 c6 w7 hk6 ha6
      have h7 : Below w5.heap.size w5 w7 := h6.grown ha6.out.grown h6.size (by simp [Value.ownBlock])
      have ho1 := ho0.at_size (Nat.le_refl _) ((Below.refl _ w6).grown ha6.out.grown (Nat.le_refl _) (by simp [Value.ownBlock]))
      have own6 := ha6.out.own
      refine hK.out _ _ (fun _ => ⟨cell_old hz4 h7, cell_old hy0 h7, cell_old hy1 h7, cell_old hy2 h7, cell_old hy3 h7⟩) ?_
      clear hK K h6 ha6 ho0 hl6
      try simp only [Act.put, List.setIfInBounds_toArray, List.set_cons_zero, List.set_cons_succ]))
    all_goals (
      refine ord_hard rfl rfl (fun K hK => ?_)
      refine bd_append (.tmp 43) (.tmp 45) rfl w5.heap.size _ k6 _ rfl own6 _ _ 1 1 [⟨av, an, bv, bn⟩] rfl ho1 (by have := HN.out; have := hk6.out; omega) h7.size ?_
      intro A8 k8 c8 w8 hk8 ha8
      have hv : Below w5.heap.size w5 w8 := h7.grown ha8.out.grown h7.size (fun j hj => (own6.lt j hj).1)
      have hm := Rs.of_own bdc_len (by decide) ha8.out.own
      replace hC := hC.keep hv
      replace hz3 := cell_old hz3 hv
      replace hz4 := cell_old hz4 hv
      replace hb := hb.trans (hv.mono hb.size)
      replace hy0 := cell_old hy0 hv
      replace hy1 := cell_old hy1 hv
      replace hy2 := cell_old hy2 hv
      replace hy3 := cell_old hy3 hv
      replace hSk := hSk.keep hv
      replace hlo := hlo.at_size (Nat.le_refl _) hv
      replace hhi := hhi.at_size (Nat.le_refl _) hv
      clear hv
      clear h7 ha8 hk6 hk8 own6 ho1
      refine hK.out _ _ (fun _ => ⟨hz4, hy0, hy1, hy2, hy3⟩) ?_
      clear hK K
      try simp only [Act.put, List.setIfInBounds_toArray, List.set_cons_zero, List.set_cons_succ]
      repeat (first
        | (refine ord_no rfl ?_; simp only [Act.put, List.setIfInBounds_toArray, List.set_cons_zero, List.set_cons_succ])
        | (refine ord_yes (v := ?_) rfl rfl ?_ ?_; rotate_left; (focus (rintro w' ⟨hS0, hS1, hS2, hS3, hS4⟩; go_simp; try with_reducible rfl)); simp only [Act.put, List.setIfInBounds_toArray, List.set_cons_zero, List.set_cons_succ]))
      refine ord_end ?_
      clear hy0 hy1 hy2 hy3
      go_wp2_with fail
      refine (solve_any _ z A8 k8 c8 _ S _ HSO.out hSk.into hm (more_fit hC.hlf HBF.out)).mono ?_
      rintro e w9 ⟨B3, m3, d3, B4, m4, d4, y, la, hd, rfl, hla, hhd, hans, hv⟩
      clear hm
      have HANB := Lib.hid hans
      clear hans
      replace hC := hC.keep hv
      replace hz3 := cell_old hz3 hv
      replace hz4 := cell_old hz4 hv
      replace hb := hb.trans (hv.mono hb.size)
      replace hSk := hSk.keep hv
      replace hlo := hlo.at_size (Nat.le_refl _) hv
      replace hhi := hhi.at_size (Nat.le_refl _) hv
      clear hv
      have HUP : Hid (y = 0 → x = 0) := Lib.hid fun hy => more_up more_list (by rw [more_len]; omega) HANS.out HANB.out hy
      by_cases hyz : y = 0
      case neg =>
        have hne : ((y : Int) != 0) = true := by simpa using hyz
        by_cases hxz : x = 0
        case pos =>
          subst hxz
          clear hyz HANS HANB HUP
          go_wp2_with fail
          refine (alive_any _).mono ?_
          rintro e wz ⟨rfl, hv⟩
          replace hb := hb.trans (hv.mono hb.size)
          clear hv
          go_wp2_with fail
          go_ret
          exact ⟨rfl, hb⟩
        case neg =>
          have hnx : ((x : Int) != 0) = true := by simpa using hxz
          clear hyz hxz HANS HANB HUP
          go_wp2_with fail
          refine (alive_any _).mono ?_
          rintro e wz ⟨rfl, hv⟩
          replace hb := hb.trans (hv.mono hb.size)
          clear hv
          go_wp2_with fail
          go_ret
          exact ⟨rfl, hb⟩
      obtain rfl := HUP.out hyz
      subst hyz
      obtain ⟨q, e1, e2, e3, e4, hbel⟩ := more_facts more_list HANS.out HANB.out
      have HQ : Hid (q ≤ 64) := Lib.hid (by rw [← e1]; exact (solve_lens HANS.out).1)
      obtain ⟨f1, f2⟩ := solve_fit HSO.out HANS.out
      obtain ⟨f3, f4⟩ := solve_fit HSO.out HANB.out
      obtain rfl : q = m1 := e1.symm.trans hlo.len
      obtain rfl : q = m2 := e2.symm.trans hhi.len
      obtain rfl : q = m3 := e3.symm.trans hla.len
      obtain rfl : q = m4 := e4.symm.trans hhd.len
      have hqq : ((q : Int) != (q : Int)) = false := by simp
      have HBEL := Lib.hid hbel
      have HE1 := Lib.hid e1
      have HE2 := Lib.hid e2
      have HE3 := Lib.hid e3
      have HE4 := Lib.hid e4
      have HF1 := Lib.hid f1
      have HF2 := Lib.hid f2
      have HF3 := Lib.hid f3
      have HF4 := Lib.hid f4
      clear e1 e2 e3 e4 f1 f2 f3 f4 hbel HUP HANB
      go_wp2_with fail
      clear hqq
      go_loopw [13] (fun v13 wr => BmRel q w9 v13 wr) (fun v13 _ => q - (intOf v13).toNat)
      case atStart => exact ⟨0, rfl, Nat.zero_le _, Below.refl _ _⟩
      case round =>
        obtain ⟨i, rfl, hi1, hb1⟩ := hrel
        by_cases hlt : i < q
        · have i1 : i < lo.length := by rw [HE1.out]; exact hlt
          obtain ⟨b1, o1, rfl, -, hcv1⟩ := (hlo.at_size (Nat.le_refl _) hb1).spot (by omega)
          have hc1 := hcv1 i i1
          have x1f := HF1.out.get i i1
          clear hcv1
          have i2 : i < hi.length := by rw [HE2.out]; exact hlt
          obtain ⟨b2, o2, rfl, -, hcv2⟩ := (hhi.at_size (Nat.le_refl _) hb1).spot (by omega)
          have hc2 := hcv2 i i2
          have x2f := HF2.out.get i i2
          clear hcv2
          have i3 : i < la.length := by rw [HE3.out]; exact hlt
          obtain ⟨b3, o3, rfl, -, hcv3⟩ := (hla.at_size (Nat.le_refl _) hb1).spot (by omega)
          have hc3 := hcv3 i i3
          have x3f := HF3.out.get i i3
          clear hcv3
          have i4 : i < hd.length := by rw [HE4.out]; exact hlt
          obtain ⟨b4, o4, rfl, -, hcv4⟩ := (hhd.at_size (Nat.le_refl _) hb1).spot (by omega)
          have hc4 := hcv4 i i4
          have x4f := HF4.out.get i i4
          clear hcv4
          have g := HBEL.out i hlt
          rw [getD_at i1, getD_at i2, getD_at i3, getD_at i4] at g
          generalize lo[i] = x1 at hc1 x1f g
          replace hc1 : _ = some (Value.int .u64 (x1 : Int)) := hc1
          generalize hi[i] = x2 at hc2 x2f g
          replace hc2 : _ = some (Value.int .u64 (x2 : Int)) := hc2
          generalize la[i] = x3 at hc3 x3f g
          replace hc3 : _ = some (Value.int .u64 (x3 : Int)) := hc3
          generalize hd[i] = x4 at hc4 x4f g
          replace hc4 : _ = some (Value.int .u64 (x4 : Int)) := hc4
          have HLT := Lib.hid hlt
          have hq64 := HQ.out
          clear i1 i2 i3 i4 hC hz3 hz4 hb hlo hhi hla hhd HBEL
          rcases hSk with ⟨a, eT, hA⟩ | ⟨a, eT, hA⟩
          have hnm := nil_la_Below a
          rotate_left
          have hnm := nil_ef_Below a
          rotate_left
          all_goals (
            injection eT with eT1 eT2
            subst eT1
            subst eT2
            have HP := Lib.hid fun W (h : Below w9.heap.size w9 W) => g.1 ▸ hA.below W h x1 x3 x1f x3f
            have HR := Lib.hid fun W (h : Below w9.heap.size w9 W) => g.2 ▸ hA.below W h x4 x2 x4f x2f
            clear g x1f x2f x3f x4f hA
            go_wp2
            refine wp_region_ord [0, 1, 2, 3, 4, 5, 6, 7, 8, 9, 10, 11, 12, 13, 14, 15, 16, 17, 18, 19, 20, 21, 22, 23, 24, 25, 26, 27, 28, 29] [12, 27] 30 (fun w' => w'.cell? ⟨b1, o1 + i, none⟩ = some (.int .u64 (x1 : Int)) ∧ w'.cell? ⟨b2, o2 + i, none⟩ = some (.int .u64 (x2 : Int)) ∧ w'.cell? ⟨b3, o3 + i, none⟩ = some (.int .u64 (x3 : Int)) ∧ w'.cell? ⟨b4, o4 + i, none⟩ = some (.int .u64 (x4 : Int))) (by kernel_rfl) (by kernel_rfl) (by kernel_rfl) (by kernel_rfl) (fun _ _ _ _ _ h => h) ⟨hc1, hc2, hc3, hc4⟩ ?_
            simp only [steps, List.getElem?_cons_zero, List.getElem?_cons_succ]
            repeat (first
              | (refine ord_no rfl ?_; simp only [Act.put, List.setIfInBounds_toArray, List.set_cons_zero, List.set_cons_succ])
              | (refine ord_yes (v := ?_) rfl rfl ?_ ?_; rotate_left; (focus (rintro w' ⟨hS0, hS1, hS2, hS3⟩; go_simp; try with_reducible rfl)); simp only [Act.put, List.setIfInBounds_toArray, List.set_cons_zero, List.set_cons_succ]))
            have hv : Below wr.heap.size wr wr.drew := (Below.refl _ _).drew
            have hb2 := hb1
            replace hc1 := cell_old hc1 hv
            replace hc2 := cell_old hc2 hv
            replace hc3 := cell_old hc3 hv
            replace hc4 := cell_old hc4 hv
            replace hb2 := hb2.trans (hv.mono hb2.size)
            clear hv
            clear hb1
            generalize wr.drew = w10 at *
            refine ord_hard rfl rfl (fun K hK => ?_)
            go_simp
            go_invoke
            go_simp
            refine (HP.out _ hb2).mono ?_
            rintro e w11 ⟨rfl, hv⟩
            replace hc1 := cell_old hc1 hv
            replace hc2 := cell_old hc2 hv
            replace hc3 := cell_old hc3 hv
            replace hc4 := cell_old hc4 hv
            replace hb2 := hb2.trans (hv.mono hb2.size)
            clear hv
            refine hK.out _ _ (fun _ => ⟨hc1, hc2, hc3, hc4⟩) ?_
            clear hK K
            try simp only [Act.put, List.setIfInBounds_toArray, List.set_cons_zero, List.set_cons_succ]
            repeat (first
              | (refine ord_no rfl ?_; simp only [Act.put, List.setIfInBounds_toArray, List.set_cons_zero, List.set_cons_succ])
              | (refine ord_yes (v := ?_) rfl rfl ?_ ?_; rotate_left; (focus (rintro w' ⟨hS0, hS1, hS2, hS3⟩; go_simp; try with_reducible rfl)); simp only [Act.put, List.setIfInBounds_toArray, List.set_cons_zero, List.set_cons_succ]))
            refine ord_hard rfl rfl (fun K hK => ?_)
            go_simp
            go_invoke
            go_simp
            refine (HR.out _ hb2).mono ?_
            rintro e w12 ⟨rfl, hv⟩
            replace hc1 := cell_old hc1 hv
            replace hc2 := cell_old hc2 hv
            replace hc3 := cell_old hc3 hv
            replace hc4 := cell_old hc4 hv
            replace hb2 := hb2.trans (hv.mono hb2.size)
            clear hv
            refine hK.out _ _ (fun _ => ⟨hc1, hc2, hc3, hc4⟩) ?_
            clear hK K
            try simp only [Act.put, List.setIfInBounds_toArray, List.set_cons_zero, List.set_cons_succ]
            repeat (first
              | (refine ord_no rfl ?_; simp only [Act.put, List.setIfInBounds_toArray, List.set_cons_zero, List.set_cons_succ])
              | (refine ord_yes (v := ?_) rfl rfl ?_ ?_; rotate_left; (focus (rintro w' ⟨hS0, hS1, hS2, hS3⟩; go_simp; try with_reducible rfl)); simp only [Act.put, List.setIfInBounds_toArray, List.set_cons_zero, List.set_cons_succ]))
            refine ord_end ?_
            clear hc1 hc2 hc3 hc4
            go_wp2_with fail
            go_roundw
            case rel => exact ⟨i + 1, by have := HLT.out; have := HQ.out; go_num, by have := HLT.out; omega, hb2⟩
            case measure =>
              have := HLT.out
              simp [intOf]
              omega)
        · have hv := hb1
          replace hC := hC.keep hv
          replace hz3 := cell_old hz3 hv
          replace hz4 := cell_old hz4 hv
          replace hb := hb.trans (hv.mono hb.size)
          replace hSk := hSk.keep hv
          replace hlo := hlo.at_size (Nat.le_refl _) hv
          replace hhi := hhi.at_size (Nat.le_refl _) hv
          replace hla := hla.at_size (Nat.le_refl _) hv
          replace hhd := hhd.at_size (Nat.le_refl _) hv
          clear hv
          clear hb1 hla hhd
          have hni : ¬ (i : Int) < (q : Int) := by omega
          clear hlt hi1
          by_cases hn0 : n1 = 0
          · have hn0' : ((n1 : Int) == 0) = true := by simp [hn0]
            clear hn0 HANS
            go_wp2_with fail
            refine (alive_any _).mono ?_
            rintro e wz ⟨rfl, hv⟩
            replace hb := hb.trans (hv.mono hb.size)
            clear hv
            go_wp2_with fail
            go_ret
            exact ⟨rfl, hb⟩
          have hn0' : ((n1 : Int) == 0) = false := by simpa using hn0
          have hl0 : 0 < l.length := by rw [HLN.out]; omega
          have hn1 : (0 : Int) < (n1 : Int) := by omega
          obtain ⟨b0, o0, rfl, -, e0, e1, e2, e3⟩ := bd_at hC.hl hl0
          rw [Nat.zero_mul, Nat.add_zero] at e0 e1 e2 e3
          have HLX := Lib.hid (more_same (List.getElem_mem hl0))
          have HXF := Lib.hid (hC.hlf _ (List.getElem_mem hl0))
          generalize l[0] = y0 at *
          obtain ⟨av0, an0, bv0, bn0⟩ := y0
          simp only at e0 e1 e2 e3
          have hn2 : 0 < n1 := by omega
          clear hl0
          go_wp2
          refine wp_region_fork [0, 1, 2, 3, 4, 6, 7, 8, 9] 5 10 _ _ [10, 11, 12, 13, 14, 15, 16, 17, 18, 19] [5, 11, 12, 13, 14, 15, 16, 17, 18, 19] [5, 10, 11, 12] 20 (fun w' => w'.cell? ⟨w.heap.size, 3, none⟩ = some (.int .i64 z) ∧ w'.cell? ⟨w.heap.size, 4, none⟩ = some (.slice (some ⟨b0, o0, none⟩) n1 c1) ∧ w'.cell? ⟨b0, o0, none⟩ = some (.bool av0) ∧ w'.cell? ⟨b0, o0 + 1, none⟩ = some (.int .u64 (an0 : Int)) ∧ w'.cell? ⟨b0, o0 + 2, none⟩ = some (.bool bv0) ∧ w'.cell? ⟨b0, o0 + 3, none⟩ = some (.int .u64 (bn0 : Int))) (by kernel_rfl) (by kernel_rfl) rfl rfl rfl rfl (by kernel_rfl) (by kernel_rfl) (by kernel_rfl) (by kernel_rfl) (by kernel_rfl) (by kernel_rfl) (fun _ _ _ _ _ h => h) ⟨hz3, hz4, e0, e1, e2, e3⟩ ?_
          simp only [steps, List.getElem?_cons_zero, List.getElem?_cons_succ]
          repeat (
            refine soft_yes (v := ?_) rfl ?_ ?_
            rotate_left
            (focus (rintro w' ⟨hS0, hS1, hS2, hS3, hS4, hS5⟩; go_simp; try with_reducible rfl))
            simp only [Act.put, List.setIfInBounds_toArray, List.set_cons_zero, List.set_cons_succ])
          have hv : Below wr.heap.size wr wr.drew := (Below.refl _ _).drew
          replace hC := hC.keep hv
          replace hz3 := cell_old hz3 hv
          replace hz4 := cell_old hz4 hv
          replace hb := hb.trans (hv.mono hb.size)
          replace hSk := hSk.keep hv
          replace hlo := hlo.at_size (Nat.le_refl _) hv
          replace hhi := hhi.at_size (Nat.le_refl _) hv
          replace e0 := cell_old e0 hv
          replace e1 := cell_old e1 hv
          replace e2 := cell_old e2 hv
          replace e3 := cell_old e3 hv
          clear hv
          generalize wr.drew = w15 at *
          refine soft_end ⟨?_, ?_⟩
          (focus (
            refine bd_append (.const (.slice none 0 0)) (.tmp 136) rfl w15.heap.size (.slice none 0 0) 0 [] rfl (World.ownsRow_nil _ _ _ _) _ (some ⟨b0, o0, none⟩) n1 c1 l rfl hC.hl (by have := HN.out; omega) (Nat.le_refl _) ?_
            intro A6 k6 c6 w16 hk6 ha6
            have h6 : Below w15.heap.size w15 w16 := (Below.refl _ w15).grown ha6.out.grown (Nat.le_refl _) (by simp [Value.ownBlock])
            refine ⟨⟨cell_old hz3 h6, cell_old hz4 h6, cell_old e0 h6, cell_old e1 h6, cell_old e2 h6, cell_old e3 h6⟩, ?_⟩
            simp only [Act.put, List.setIfInBounds_toArray, List.set_cons_zero, List.set_cons_succ]
            have h7 : Below w15.heap.size w15 (w16.alloc (.cells #[.bool av0, .int .u64 (an0 : Int), .bool bv0, .int .u64 (bn0 : Int)] 53)) := h6.alloc h6.size _
            have ho1 : Rs bdc 4 (w16.alloc (.cells #[.bool av0, .int .u64 (an0 : Int), .bool bv0, .int .u64 (bn0 : Int)] 53)) (w16.alloc (.cells #[.bool av0, .int .u64 (an0 : Int), .bool bv0, .int .u64 (bn0 : Int)] 53)).heap.size (some ⟨w16.heap.size, 0, none⟩) 1 1 [⟨av0, an0, bv0, bn0⟩] := Rs.of_blk bdc_len (heap_alloc_new w16 _) ⟨[], rfl⟩ rfl (Nat.le_refl _) (by unfold maxLen; omega)
            have own6 := ha6.out.own.alloc (.cells #[.bool av0, .int .u64 (an0 : Int), .bool bv0, .int .u64 (bn0 : Int)] 53)
            refine ord_hard rfl rfl (fun K hK => ?_)
            go_simp
            refine hK.out _ _ (fun _ => ⟨cell_old hz3 h7, cell_old hz4 h7, cell_old e0 h7, cell_old e1 h7, cell_old e2 h7, cell_old e3 h7⟩) ?_
            clear hK K h6 ha6
            try simp only [Act.put, List.setIfInBounds_toArray, List.set_cons_zero, List.set_cons_succ]
            generalize w16.alloc (.cells #[.bool av0, .int .u64 (an0 : Int), .bool bv0, .int .u64 (bn0 : Int)] 53) = w17 at *))
          rotate_left
          (focus (
            have h6 : Below w15.heap.size w15 (w15.alloc (.cells #[.bool av0, .int .u64 (an0 : Int), .bool bv0, .int .u64 (bn0 : Int)] 53)) := (Below.refl _ _).alloc (Nat.le_refl _) _
            have ho0 : Rs bdc 4 (w15.alloc (.cells #[.bool av0, .int .u64 (an0 : Int), .bool bv0, .int .u64 (bn0 : Int)] 53)) (w15.alloc (.cells #[.bool av0, .int .u64 (an0 : Int), .bool bv0, .int .u64 (bn0 : Int)] 53)).heap.size (some ⟨w15.heap.size, 0, none⟩) 1 1 [⟨av0, an0, bv0, bn0⟩] := Rs.of_blk bdc_len (heap_alloc_new w15 _) ⟨[], rfl⟩ rfl (Nat.le_refl _) (by unfold maxLen; omega)
            refine hard_end (fun K hK => ?_)
            go_simp
            refine hK.out _ _ ⟨⟨cell_old hz3 h6, cell_old hz4 h6, cell_old e0 h6, cell_old e1 h6, cell_old e2 h6, cell_old e3 h6⟩, ?_⟩
            clear hK K
            try simp only [Act.put, List.setIfInBounds_toArray, List.set_cons_zero, List.set_cons_succ]
            have hl6 := hC.hl.at_size (Nat.le_refl _) h6
            generalize w15.alloc (.cells #[.bool av0, .int .u64 (an0 : Int), .bool bv0, .int .u64 (bn0 : Int)] 53) = w16 at *
            refine ord_hard rfl rfl (fun K hK => ?_)
            refine bd_append (.const (.slice none 0 0)) (.tmp 136) rfl w15.heap.size (.slice none 0 0) 0 [] rfl (World.ownsRow_nil _ _ _ _) _ (some ⟨b0, o0, none⟩) n1 c1 l rfl hl6 (by have := HN.out; omega) h6.size ?_
            intro A6 k6 c6 w17 hk6 ha6
            have h7 : Below w15.heap.size w15 w17 := h6.grown ha6.out.grown h6.size (by simp [Value.ownBlock])
            have ho1 := ho0.at_size (Nat.le_refl _) ((Below.refl _ w16).grown ha6.out.grown (Nat.le_refl _) (by simp [Value.ownBlock]))
            have own6 := ha6.out.own
            refine hK.out _ _ (fun _ => ⟨cell_old hz3 h7, cell_old hz4 h7, cell_old e0 h7, cell_old e1 h7, cell_old e2 h7, cell_old e3 h7⟩) ?_
            clear hK K h6 ha6 ho0 hl6
            try simp only [Act.put, List.setIfInBounds_toArray, List.set_cons_zero, List.set_cons_succ]))
          all_goals (
            refine ord_hard rfl rfl (fun K hK => ?_)
            refine bd_append (.tmp 137) (.tmp 142) rfl w15.heap.size _ k6 _ rfl own6 _ _ 1 1 [⟨av0, an0, bv0, bn0⟩] rfl ho1 (by have := HN.out; have := hk6.out; omega) h7.size ?_
            intro A8 k8 c8 w18 hk8 ha8
            have hv : Below w15.heap.size w15 w18 := h7.grown ha8.out.grown h7.size (fun j hj => (own6.lt j hj).1)
            have hm := Rs.of_own bdc_len (by decide) ha8.out.own
            replace hC := hC.keep hv
            replace hz3 := cell_old hz3 hv
            replace hz4 := cell_old hz4 hv
            replace hb := hb.trans (hv.mono hb.size)
            replace hSk := hSk.keep hv
            replace hlo := hlo.at_size (Nat.le_refl _) hv
            replace hhi := hhi.at_size (Nat.le_refl _) hv
            replace e0 := cell_old e0 hv
            replace e1 := cell_old e1 hv
            replace e2 := cell_old e2 hv
            replace e3 := cell_old e3 hv
            clear hv
            clear h7 ha8 hk6 hk8 own6 ho1
            refine hK.out _ _ (fun _ => ⟨hz3, hz4, e0, e1, e2, e3⟩) ?_
            clear hK K
            try simp only [Act.put, List.setIfInBounds_toArray, List.set_cons_zero, List.set_cons_succ]
            repeat (first
              | (refine ord_no rfl ?_; simp only [Act.put, List.setIfInBounds_toArray, List.set_cons_zero, List.set_cons_succ])
              | (refine ord_yes (v := ?_) rfl rfl ?_ ?_; rotate_left; (focus (rintro w' ⟨hS0, hS1, hS2, hS3, hS4, hS5⟩; go_simp; try with_reducible rfl)); simp only [Act.put, List.setIfInBounds_toArray, List.set_cons_zero, List.set_cons_succ]))
            refine ord_hard rfl rfl (fun K hK => ?_)
            go_simp
            refine (solve_any _ z A8 k8 c8 _ S _ HSO.out hSk.into hm (more_fit hC.hlf HXF.out)).mono ?_
            rintro e w19 ⟨B5, m5, d5, B6, m6, d6, y2, lo2, hi2, rfl, hlo2, hhi2, hans, hv⟩
            clear hm
            obtain ⟨rfl, rfl, rfl⟩ := solve_same HSO.out (by have := HN.out; have := HLN.out; omega) (by rw [more_len]; have := HN.out; have := HLN.out; omega) HLX.out HANS.out hans
            clear hans HANS
            replace hC := hC.keep hv
            replace hz3 := cell_old hz3 hv
            replace hz4 := cell_old hz4 hv
            replace hb := hb.trans (hv.mono hb.size)
            replace hSk := hSk.keep hv
            replace hlo := hlo.at_size (Nat.le_refl _) hv
            replace hhi := hhi.at_size (Nat.le_refl _) hv
            replace e0 := cell_old e0 hv
            replace e1 := cell_old e1 hv
            replace e2 := cell_old e2 hv
            replace e3 := cell_old e3 hv
            clear hv
            refine hK.out _ _ (fun _ => ⟨hz3, hz4, e0, e1, e2, e3⟩) ?_
            clear hK K
            try simp only [Act.put, List.setIfInBounds_toArray, List.set_cons_zero, List.set_cons_succ]
            repeat (first
              | (refine ord_no rfl ?_; simp only [Act.put, List.setIfInBounds_toArray, List.set_cons_zero, List.set_cons_succ])
              | (refine ord_yes (v := ?_) rfl rfl ?_ ?_; rotate_left; (focus (rintro w' ⟨hS0, hS1, hS2, hS3, hS4, hS5⟩; go_simp; try with_reducible rfl)); simp only [Act.put, List.setIfInBounds_toArray, List.set_cons_zero, List.set_cons_succ]))
            refine ord_end ?_
            clear hC hz3 hz4 hSk e0 e1 e2 e3
            go_wp2_with fail
            refine (alive_any _).mono ?_
            rintro e w20 ⟨rfl, hv⟩
            replace hlo := hlo.at_size (Nat.le_refl _) hv
            replace hhi := hhi.at_size (Nat.le_refl _) hv
            replace hlo2 := hlo2.at_size (Nat.le_refl _) hv
            replace hhi2 := hhi2.at_size (Nat.le_refl _) hv
            replace hb := hb.trans (hv.mono hb.size)
            clear hv
            go_wp2_with fail
            refine (same_lit true hlo2 hlo (by simp)).mono ?_
            rintro e w21 ⟨rfl, hv⟩
            replace hlo := hlo.at_size (Nat.le_refl _) hv
            replace hhi := hhi.at_size (Nat.le_refl _) hv
            replace hlo2 := hlo2.at_size (Nat.le_refl _) hv
            replace hhi2 := hhi2.at_size (Nat.le_refl _) hv
            replace hb := hb.trans (hv.mono hb.size)
            clear hv
            go_wp2_with fail
            refine (same_lit true hhi2 hhi (by simp)).mono ?_
            rintro e w22 ⟨rfl, hv⟩
            replace hlo := hlo.at_size (Nat.le_refl _) hv
            replace hhi := hhi.at_size (Nat.le_refl _) hv
            replace hlo2 := hlo2.at_size (Nat.le_refl _) hv
            replace hhi2 := hhi2.at_size (Nat.le_refl _) hv
            replace hb := hb.trans (hv.mono hb.size)
            clear hv
            go_wp2_with fail
            go_ret
            exact ⟨rfl, hb⟩))


set_option maxRecDepth 100000 in
theorem lifted (os : Os) (started : os.Started) (H : Type) (enc : TypeId × Value → H) :
    ReturnsInHanded {} Try.checked os 5 .any (Rows.boundsMoreSpec.pre6 enc Try.prog Try.f5 Rows.boundsMoreRow.domain false) (Rows.boundsMoreSpec.post enc Try.prog Try.f5 false true false false) := by
  refine returnsInHanded_of_change (C := Try.checked) own started (by kernel_rfl) Try.func5
    (ChangeSpec.witness6 (enc := enc) (C := Try.checked) false ⟨#[], #[.agg #[.slice none 0 0, .bool false, .int .i64 0, .int .i64 0, .slice none 0 0, .slice none 0 0], .agg #[.bool false, .int .u64 0, .bool false, .int .u64 0]], []⟩ 8 (by kernel_rfl) (by kernel_rfl) (by kernel_rfl) (by kernel_rfl)) ?_
  intro W base args ds gs before hval0 hW hcnd _
  have hval : ∀ (j : Nat) t v, Try.f5.params[j]? = some t → args[j]? = some v → Value.okWide Try.prog W .any base t v := hval0
  have hW' := hW
  obtain ⟨p, q, hA0, hV, rfl, hfz, hnd⟩ := hW
  have hA : DataW.TrodAll enc Try.prog W 0 (fun _ => true) true Try.f5.params.toList args.toList ds p := hA0
  rw [Try.params5] at hA hval
  obtain ⟨v0, vs0, d0, ds0, p0, q0, hargs, rfl, rfl, h0, r0⟩ := trodAll_cons hA
  obtain ⟨v1, vs1, d1, ds1, p1, q1, rfl, rfl, rfl, h1, r1⟩ := trodAll_cons r0
  obtain ⟨rfl, rfl, rfl⟩ := trodAll_nil r1
  obtain rfl : args = #[v0, v1] := by cases args; simp_all
  obtain ⟨rfl, rfl⟩ := trodVars_none hV
  have lt0 : ∀ x ∈ p0, x.block < W.heap.size := by obtain ⟨m, hm⟩ := h0; exact DataW.trod_lt m _ _ _ hm
  obtain ⟨A, n, c, s, k, z, A1, n1, c1, A2, n2, c2, rows, l, u, rfl, hC, hzw⟩ := opened_given h0
  have lt1 : ∀ x ∈ p1, x.block < W.heap.size := by obtain ⟨m, hm⟩ := h1; exact DataW.trod_lt m _ _ _ hm
  obtain ⟨yb, rfl, hbf⟩ := opened_bound h1
  clear hA0 hval0
  refine (walk A n c s k z A1 n1 c1 A2 n2 c2 rows l u W hC yb.av yb.an yb.bv yb.bn hbf).mono fun e W' ⟨he, bel⟩ => ?_
  subst he
  exact ⟨_, rfl, _, _, _, [], _, [], hW', trodAll_mk1 (shut_bool Try.underlying4 _), (trodAll_cons_mk (Below.trod laidOut (by kernel_rfl) (of_decide_eq_true (by kernel_rfl)) h0 bel lt0) (trodAll_cons_mk (Below.trod laidOut (by kernel_rfl) (of_decide_eq_true (by kernel_rfl)) h1 bel lt1) trodAll_mk0)), rfl, bel.frame _, fun h => by cases h⟩

theorem over : Rows.boundsMoreRow.holds Try.pinned (OpenSpec.ofChange Rows.boundsMoreSpec) :=
  OpenClaim.holds_of_wide 5 Try.f5 rfl rfl rfl rfl rfl rfl rfl ⟨rfl, rfl, rfl, rfl, rfl⟩ rfl rfl rfl rfl rfl (by kernel_rfl) Try.func5 (by kernel_rfl)
    (of_decide_eq_true (by kernel_rfl)) (by unfold Func.isWrapper; first | (rw [if_pos (by decide +kernel)]; kernel_rfl) | (rw [if_neg (by decide +kernel)]; exact ⟨rfl, rfl⟩))
    (fun os started H enc _ => lifted os started H enc)

theorem proved : Rows.BoundsMoreSaid := over
#print axioms proved

end Go.Proofs.Ytnlgfiffhahpfaa.boundsMore
