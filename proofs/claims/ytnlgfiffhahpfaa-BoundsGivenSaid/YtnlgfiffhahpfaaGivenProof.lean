/- Proved: whatever the rows or effects, the number of variables, the bounds and the values, BoundsGiven answers true: where each variable is bounded to a value it has, from both sides, values hold just if Solve tells these as the least ones, and the greatest ones. No condition. -/
import Derived.Test.YtnlgfiffhahpfaaAlv
import Derived.Test.YtnlgfiffhahpfaaLws
import Derived.Test.YtnlgfiffhahpfaaApp
import Derived.Test.YtnlgfiffhahpfaaRows
namespace Go.Proofs.Ytnlgfiffhahpfaa.boundsGiven
open Go.ChangeShapes Go.WideShapes Go.ChangeAt Go.RowKit

theorem own : ownKnob Try.prog.godebug = none := by kernel_rfl
theorem laidOut : laidOutB Try.prog = true := by kernel_rfl


theorem great_no {n n1 n2 : Nat} (h : false = (decide (64 < n) || (decide (300 < n1) || decide (200 < n2)))) : n ≤ 64 ∧ n1 ≤ 300 ∧ n2 ≤ 200 := by
  have h := h.symm
  rw [Bool.or_eq_false_iff, Bool.or_eq_false_iff, decide_eq_false_iff_not, decide_eq_false_iff_not, decide_eq_false_iff_not] at h
  omega


theorem wpList_bd {w : World} {ops : Array Oper} {rest : List Oper} {o : Oper} {a : Act} {Q : Exit → Act → World → Prop} (hgd : o.guard = none) (s x : Operand)
    (ho : o.op = .call { callee := .builtin .append, args := #[s, x], argTypes := #[23, 23] })
    (base : Nat) (v : Value) (n : Nat) (vs : List Bd) (hs : a.eval s = v) (hown : w.ownsRow base 53 4 v n (vs.flatMap bdc)) (B : Nat) (A : Option Addr) (m c : Nat) (ms : List Bd) (hx : a.eval x = .slice A m c) (hr : Rs bdc 4 w B A m c ms)
    (hsm : n + m ≤ 100000) (hbase : base ≤ w.heap.size)
    (h : ∀ A' k c' w', Hid (k = n + m) → Hid (Appended w w' base 53 4 v (.slice A' k c') k ((vs ++ ms).flatMap bdc)) → wpList Try.prog ops Q rest (a.put o.dst (.slice A' k c')) w') : wpList Try.prog ops Q (o :: rest) a w :=
  wpList_plain hgd fun _ hK => bd_append s x ho base v n vs hs hown B A m c ms hx hr hsm hbase fun A' k c' w' g1 g2 => hK _ _ (h A' k c' w' g1 g2)

theorem own_kp {w w' : World} {base n sz : Nat} {E : TypeId} {v : Value} {xs : List Value} (h : w.ownsRow base E sz v n xs) (hb : Below w.heap.size w w') : w'.ownsRow base E sz v n xs := by
  refine ⟨h.1, ?_⟩
  rcases h.2 with hn | ⟨g, cap, cur, hv, hg, hgg, r⟩
  · exact .inl hn
  · exact .inr ⟨g, cap, cur, hv, hg, (hb.block g (Array.getElem?_eq_some_iff.1 hgg).1).trans hgg, r⟩

/-- The bounds of the first i values stand behind those that came in. -/
def GnRel (S : Sr) (vs : List Nat) (l : List Bd) (w : World) (v5 v6 : Value) (wr : World) : Prop :=
  ∃ (i : Nat) (A : Option Addr) (k c : Nat), v6 = .int .i64 (i : Int) ∧ v5 = .slice A k c ∧ i ≤ vs.length ∧ wr.ownsRow w.heap.size 53 4 (.slice A k c) k (([] ++ l ++ pts vs i).flatMap bdc) ∧ (vs.take i).all S.has = true ∧ Below w.heap.size w wr

set_option maxRecDepth 100000 in
set_option maxHeartbeats 8000000 in
theorem walk (A : Option Addr) (n c : Nat) (s : Bool) (k z : Int) (A1 : Option Addr) (n1 c1 : Nat) (A2 : Option Addr) (n2 c2 : Nat) (rows : List Nat) (l : List Bd) (u : List Nat) (w : World) (hC : Came w A n c rows A1 n1 c1 l A2 n2 c2 u) (hzw : (Lit.int .i64 z).wf = true) :
    Calls Try.prog 7 #[gV A n c s k z A1 n1 c1 A2 n2 c2] w fun e w' => e = .returned (.bool true) ∧ Below w.heap.size w w' := by
  have hb : Below w.heap.size w (w.alloc (.cells #[.slice A n c, .bool s, .int .i64 k, .int .i64 z, .slice A1 n1 c1, .slice A2 n2 c2] 25)) := (Below.refl _ _).alloc (Nat.le_refl _) _
  have hbx := heap_alloc_new w (.cells #[.slice A n c, .bool s, .int .i64 k, .int .i64 z, .slice A1 n1 c1, .slice A2 n2 c2] 25)
  have hz0 := (cell_blk (i := 0) hbx).trans rfl
  have hz1 := (cell_blk (i := 1) hbx).trans rfl
  have hz2 := (cell_blk (i := 2) hbx).trans rfl
  have hz3 := (cell_blk (i := 3) hbx).trans rfl
  have hz4 := (cell_blk (i := 4) hbx).trans rfl
  have hz5 := (cell_blk (i := 5) hbx).trans rfl
  replace hC := hC.keep hb
  clear hbx
  obtain ⟨gr, hgr⟩ : ∃ r, r = (decide (64 < n) || (decide (300 < n1) || decide (200 < n2))) := ⟨_, rfl⟩
  have HGR := Lib.hid hgr
  have HGC := Lib.hid fun W => great_any A n c s k z A1 n1 c1 A2 n2 c2 W gr HGR.out
  have HSC := Lib.hid fun W (h : Came W A n c rows A1 n1 c1 l A2 n2 c2 u) => sort_any A n c s k z A1 n1 c1 A2 n2 c2 rows W h.hr h.hrf
  have HSO := Lib.hid (srOf_ok rows s k)
  generalize srOf rows s k = S at HSC HSO
  have HLN := Lib.hid (And.intro hC.hl.len hC.hu.len)
  have HZW := Lib.hid hzw
  unfold gV at HGC HSC ⊢
  clear hgr hzw
  go_enter Try.func7, Try.ntmps7
  go_wp2_with fail
  refine (HGC.out _).mono ?_
  rintro e w1 ⟨rfl, hv⟩
  clear HGC
  replace hC := hC.keep hv
  replace hz0 := cell_old hz0 hv
  replace hz1 := cell_old hz1 hv
  replace hz2 := cell_old hz2 hv
  replace hz3 := cell_old hz3 hv
  replace hz4 := cell_old hz4 hv
  replace hz5 := cell_old hz5 hv
  replace hb := hb.trans (hv.mono hb.size)
  clear hv
  cases gr with
  | true =>
    clear HSC
    go_wp2_with fail
    refine (alive_any _).mono ?_
    rintro e wz ⟨rfl, hv⟩
    replace hb := hb.trans (hv.mono hb.size)
    clear hv
    go_wp2_with fail
    go_ret
    exact ⟨rfl, hb⟩
  | false =>
    obtain ⟨-, hn1, hn2⟩ := great_no HGR.out
    clear HGR
    by_cases hk0 : z < 0
    · clear HSC hn1 hn2
      go_wp2_with fail
      refine (alive_any _).mono ?_
      rintro e wz ⟨rfl, hv⟩
      replace hb := hb.trans (hv.mono hb.size)
      clear hv
      go_wp2_with fail
      go_ret
      exact ⟨rfl, hb⟩
    by_cases hk1 : (n2 : Int) < z
    · clear HSC hn1 hn2
      go_wp2_with fail
      refine (alive_any _).mono ?_
      rintro e wz ⟨rfl, hv⟩
      replace hb := hb.trans (hv.mono hb.size)
      clear hv
      go_wp2_with fail
      go_ret
      exact ⟨rfl, hb⟩
    by_cases hk2 : 60 < z
    · clear HSC hn1 hn2
      go_wp2_with fail
      refine (alive_any _).mono ?_
      rintro e wz ⟨rfl, hv⟩
      replace hb := hb.trans (hv.mono hb.size)
      clear hv
      go_wp2_with fail
      go_ret
      exact ⟨rfl, hb⟩
    obtain ⟨q, rfl⟩ : ∃ q : Nat, z = (q : Int) := ⟨z.toNat, by omega⟩
    have hw1 : IntKind.i64.wrap (2 * (q : Int)) = 2 * (q : Int) := by rw [IntKind.wrap_i64]; omega
    have hw2 : IntKind.i64.wrap ((n1 : Int) + 2 * (q : Int)) = (n1 : Int) + 2 * (q : Int) := by rw [IntKind.wrap_i64]; omega
    by_cases hk3 : 256 < (n1 : Int) + 2 * (q : Int)
    · clear HSC hn1 hn2
      go_wp2_with fail
      refine (alive_any _).mono ?_
      rintro e wz ⟨rfl, hv⟩
      replace hb := hb.trans (hv.mono hb.size)
      clear hv
      go_wp2_with fail
      go_ret
      exact ⟨rfl, hb⟩
    have hq2 : q ≤ n2 := by omega
    have HQ2 := Lib.hid hq2
    have HQ : Hid (q ≤ 60) := Lib.hid (by omega)
    have HN : Hid (n1 + 2 * q ≤ 256) := Lib.hid (by omega)
    clear hk0 hn1 hn2 hq2
    go_wp2_with fail
    refine (HSC.out _ hC).mono ?_
    rintro e w2 ⟨v, rfl, hS, hv⟩
    clear HSC
    replace hC := hC.keep hv
    replace hz0 := cell_old hz0 hv
    replace hz1 := cell_old hz1 hv
    replace hz2 := cell_old hz2 hv
    replace hz3 := cell_old hz3 hv
    replace hz4 := cell_old hz4 hv
    replace hz5 := cell_old hz5 hv
    replace hb := hb.trans (hv.mono hb.size)
    clear hv
    clear hk1 hk2 hk3 hw1 hw2
    have hSk := hS
    obtain ⟨T, pt, rfl⟩ : ∃ T p, v = .iface T p := by
      rcases hS with ⟨a, e, -⟩ | ⟨a, e, -⟩
      · exact ⟨_, _, e⟩
      · exact ⟨_, _, e⟩
    clear hS
    obtain ⟨A3, n3, c3, hsl, hvs⟩ := rd_slice_h (P := Try.prog) 22 28 Try.underlying22 La.nm_size hC.hu (q : Int) (by omega) (by have := HQ2.out; omega)
    rw [Int.toNat_natCast] at hvs
    have hvl : (u.take q).length = q := by have := HQ2.out; have := HLN.out; rw [List.length_take]; omega
    have hvf : La.Fit (u.take q) := fun y hy => hC.huf y (List.mem_of_mem_take hy)
    have HVF := Lib.hid hvf
    obtain rfl : q = n3 := hvl.symm.trans hvs.len
    have HVL := Lib.hid hvl
    generalize u.take q = vs at hvs HVL HVF
    clear hvl hvf
    have HAP := Lib.hid hC.hl
    have hsz := Nat.le_refl w2.heap.size
    go_wp2_with (at_builtin; refine wpList_bd rfl (.const (.slice none 0 0)) (.tmp 52) rfl w2.heap.size (.slice none 0 0) 0 [] rfl (World.ownsRow_nil _ _ _ _) _ A1 n1 c1 l rfl HAP.out (by have := HN.out; omega) hsz ?_; intro A6 k6 c6 w3 hk6 ha6)
    have h3 : Below w2.heap.size w2 w3 := (Below.refl _ w2).grown ha6.out.grown (Nat.le_refl _) (by simp [Value.ownBlock])
    have HOW := Lib.hid ha6.out.own
    have HB3 := Lib.hid h3
    clear h3 ha6 hk6 HAP hsl hsz
    go_loopw [5, 6] (fun v5 v6 wr => GnRel S vs l w2 v5 v6 wr) (fun _ v6 _ => q - (intOf v6).toNat)
    case atStart => exact ⟨0, A6, k6, c6, rfl, rfl, Nat.zero_le _, by have := HOW.out; simpa [pts] using this, rfl, HB3.out⟩
    case round =>
      obtain ⟨i, A, k5, c5, rfl, rfl, hi1, hown, hall, hb1⟩ := hrel
      clear HOW HB3
      by_cases hlt : i < q
      · have hi' : i < vs.length := by rw [HVL.out]; exact hlt
        have HST := Lib.hid (all_more (S := S) hi')
        have hkl : ([] ++ l ++ pts vs i).length = k5 := rs_own_len bdc_len (by decide) hown
        have HKL : Hid (k5 = n1 + 2 * i) := Lib.hid (by rw [← hkl, List.length_append, pts_len, ← HLN.out.1]; simp)
        have HPS := Lib.hid (pts_succ vs i)
        have hhb := hb
        clear hkl hC hz0 hz1 hz2 hz3 hz4 hz5 hb
        have hvr := hvs.keep (w' := wr) (fun k hk => hb1.block k hk)
        obtain ⟨b, o, rfl, hbb, hcv⟩ := hvr.spot (by omega)
        have hc := hcv i hi'
        have hxf := HVF.out.get i hi'
        rw [getD_at hi'] at HST HPS
        generalize vs[i] = x1 at hc HST HPS hxf
        replace hc : _ = some (Value.int .u64 (x1 : Int)) := hc
        rw [hall, Bool.true_and] at HST
        have HCX : ∀ W, Below w2.heap.size w2 W → W.cell? ⟨b, o + i, none⟩ = some (.int .u64 (x1 : Int)) := fun W hW => (hW.cell (p := ⟨b, o + i, none⟩) hbb).trans ((hb1.cell (p := ⟨b, o + i, none⟩) hbb).symm.trans hc)
        have HLT := Lib.hid hlt
        have hq60 := HQ.out
        have hwi := wrap_small (k := i) (by omega)
        clear hvr hcv hvs hi' hi1
        rcases hSk with ⟨a, eT, hA⟩ | ⟨a, eT, hA⟩
        have hnm := nil_la_Has a
        rotate_left
        have hnm := nil_ef_Has a
        rotate_left
        all_goals (
          injection eT with eT1 eT2
          subst eT1
          subst eT2
          have HCW := Lib.hid HCX
          have HHAS := Lib.hid fun W (h : Below w2.heap.size w2 W) => hA.has W h x1 hxf
          generalize hr : S.has x1 = r at HST HHAS
          clear hr hA HCX hbb
          go_wp2
          refine wp_region_ord [0, 1, 2, 3, 4, 5, 6, 7, 8, 9] [8] 10 (fun w' => w'.cell? ⟨b, o + i, none⟩ = some (.int .u64 (x1 : Int))) (by kernel_rfl) (by kernel_rfl) (by kernel_rfl) (by kernel_rfl) (fun _ _ _ _ _ h => h) hc ?_
          simp only [steps, List.getElem?_cons_zero, List.getElem?_cons_succ]
          repeat (first
            | (refine ord_no rfl ?_; simp only [Act.put, List.setIfInBounds_toArray, List.set_cons_zero, List.set_cons_succ])
            | (refine ord_yes (v := ?_) rfl rfl ?_ ?_; rotate_left; (focus (rintro w' hS0; go_simp; try with_reducible rfl)); simp only [Act.put, List.setIfInBounds_toArray, List.set_cons_zero, List.set_cons_succ]))
          have hd : wr.drew.cell? ⟨b, o + i, none⟩ = some (.int .u64 (x1 : Int)) := hc
          have hb2 : Below w2.heap.size w2 wr.drew := hb1.trans ((Below.refl _ wr).drew.mono hb1.size)
          have hown2 := hown.drew
          clear hc hb1 hown
          generalize wr.drew = w5 at *
          refine ord_hard rfl rfl (fun K hK => ?_)
          go_simp
          go_invoke
          go_simp
          refine (HHAS.out _ hb2).mono ?_
          rintro e w6 ⟨rfl, hv⟩
          replace hd := cell_old hd hv
          replace hb2 := hb2.trans (hv.mono hb2.size)
          have hown3 := own_kp hown2 hv
          clear hv hown2
          refine hK.out _ _ (fun _ => hd) ?_
          clear hK K
          try simp only [Act.put, List.setIfInBounds_toArray, List.set_cons_zero, List.set_cons_succ]
          repeat (first
            | (refine ord_no rfl ?_; simp only [Act.put, List.setIfInBounds_toArray, List.set_cons_zero, List.set_cons_succ])
            | (refine ord_yes (v := ?_) rfl rfl ?_ ?_; rotate_left; (focus (rintro w' hS0; go_simp; try with_reducible rfl)); simp only [Act.put, List.setIfInBounds_toArray, List.set_cons_zero, List.set_cons_succ]))
          refine ord_end ?_
          cases r with
          | false =>
            have hb := hhb.trans (hb2.mono hhb.size)
            clear hd hb2 hown3 hwi hq60
            go_wp2_with fail
            refine (alive_any _).mono ?_
            rintro e wz ⟨rfl, hv⟩
            replace hb := hb.trans (hv.mono hb.size)
            clear hv
            go_wp2_with fail
            go_ret
            exact ⟨rfl, hb⟩
          | true =>
            go_wp2
            refine wp_region_ord [0, 1, 2, 3, 4, 6, 7, 10, 11, 13, 14, 15, 16, 5, 8, 9, 12, 17, 18, 19, 20, 21] [5, 8, 12, 17, 19, 20] 22 (fun w' => w'.cell? ⟨b, o + i, none⟩ = some (.int .u64 (x1 : Int))) (by kernel_rfl) (by kernel_rfl) (by kernel_rfl) (by kernel_rfl) (fun _ _ _ _ _ h => h) hd ?_
            simp only [steps, List.getElem?_cons_zero, List.getElem?_cons_succ]
            repeat (first
              | (refine ord_no rfl ?_; simp only [Act.put, List.setIfInBounds_toArray, List.set_cons_zero, List.set_cons_succ])
              | (refine ord_yes (v := ?_) rfl rfl ?_ ?_; rotate_left; (focus (rintro w' hS0; go_simp; try with_reducible rfl)); simp only [Act.put, List.setIfInBounds_toArray, List.set_cons_zero, List.set_cons_succ]))
            replace hd : w6.drew.cell? ⟨b, o + i, none⟩ = some (.int .u64 (x1 : Int)) := hd
            replace hb2 := hb2.trans ((Below.refl _ w6).drew.mono hb2.size)
            have hown4 := hown3.drew
            clear hown3
            generalize w6.drew = w7 at *
            refine ord_hard rfl rfl (fun K hK => ?_)
            go_simp
            refine (c_any x1 _).mono ?_
            rintro e w8 ⟨rfl, hv⟩
            replace hd := cell_old hd hv
            replace hb2 := hb2.trans (hv.mono hb2.size)
            replace hown4 := own_kp hown4 hv
            clear hv
            refine hK.out _ _ (fun _ => hd) ?_
            clear hK K
            try simp only [Act.put, List.setIfInBounds_toArray, List.set_cons_zero, List.set_cons_succ]
            repeat (first
              | (refine ord_no rfl ?_; simp only [Act.put, List.setIfInBounds_toArray, List.set_cons_zero, List.set_cons_succ])
              | (refine ord_yes (v := ?_) rfl rfl ?_ ?_; rotate_left; (focus (rintro w' hS0; go_simp; try with_reducible rfl)); simp only [Act.put, List.setIfInBounds_toArray, List.set_cons_zero, List.set_cons_succ]))
            refine ord_hard rfl rfl (fun K hK => ?_)
            go_simp
            refine (v_any i _).mono ?_
            rintro e w9 ⟨rfl, hv⟩
            replace hd := cell_old hd hv
            replace hb2 := hb2.trans (hv.mono hb2.size)
            replace hown4 := own_kp hown4 hv
            clear hv
            refine hK.out _ _ (fun _ => hd) ?_
            clear hK K
            try simp only [Act.put, List.setIfInBounds_toArray, List.set_cons_zero, List.set_cons_succ]
            repeat (first
              | (refine ord_no rfl ?_; simp only [Act.put, List.setIfInBounds_toArray, List.set_cons_zero, List.set_cons_succ])
              | (refine ord_yes (v := ?_) rfl rfl ?_ ?_; rotate_left; (focus (rintro w' hS0; go_simp; try with_reducible rfl)); simp only [Act.put, List.setIfInBounds_toArray, List.set_cons_zero, List.set_cons_succ]))
            refine ord_hard rfl rfl (fun K hK => ?_)
            go_simp
            refine (v_any i _).mono ?_
            rintro e w10 ⟨rfl, hv⟩
            replace hd := cell_old hd hv
            replace hb2 := hb2.trans (hv.mono hb2.size)
            replace hown4 := own_kp hown4 hv
            clear hv
            refine hK.out _ _ (fun _ => hd) ?_
            clear hK K
            try simp only [Act.put, List.setIfInBounds_toArray, List.set_cons_zero, List.set_cons_succ]
            repeat (first
              | (refine ord_no rfl ?_; simp only [Act.put, List.setIfInBounds_toArray, List.set_cons_zero, List.set_cons_succ])
              | (refine ord_yes (v := ?_) rfl rfl ?_ ?_; rotate_left; (focus (rintro w' hS0; go_simp; try with_reducible rfl)); simp only [Act.put, List.setIfInBounds_toArray, List.set_cons_zero, List.set_cons_succ]))
            refine ord_hard rfl rfl (fun K hK => ?_)
            go_simp
            refine (c_any x1 _).mono ?_
            rintro e w11 ⟨rfl, hv⟩
            replace hd := cell_old hd hv
            replace hb2 := hb2.trans (hv.mono hb2.size)
            replace hown4 := own_kp hown4 hv
            clear hv
            refine hK.out _ _ (fun _ => hd) ?_
            clear hK K
            try simp only [Act.put, List.setIfInBounds_toArray, List.set_cons_zero, List.set_cons_succ]
            repeat (first
              | (refine ord_no rfl ?_; simp only [Act.put, List.setIfInBounds_toArray, List.set_cons_zero, List.set_cons_succ])
              | (refine ord_yes (v := ?_) rfl rfl ?_ ?_; rotate_left; (focus (rintro w' hS0; go_simp; try with_reducible rfl)); simp only [Act.put, List.setIfInBounds_toArray, List.set_cons_zero, List.set_cons_succ]))
            have hv : Below w11.heap.size w11 (w11.alloc (.cells #[.bool false, .int .u64 (x1 : Int), .bool true, .int .u64 (i : Int), .bool true, .int .u64 (i : Int), .bool false, .int .u64 (x1 : Int)] 53)) := (Below.refl _ _).alloc (Nat.le_refl _) _
            have ho : Rs bdc 4 (w11.alloc (.cells #[.bool false, .int .u64 (x1 : Int), .bool true, .int .u64 (i : Int), .bool true, .int .u64 (i : Int), .bool false, .int .u64 (x1 : Int)] 53)) (w11.alloc (.cells #[.bool false, .int .u64 (x1 : Int), .bool true, .int .u64 (i : Int), .bool true, .int .u64 (i : Int), .bool false, .int .u64 (x1 : Int)] 53)).heap.size (some ⟨w11.heap.size, 0, none⟩) 2 2 [⟨false, x1, true, i⟩, ⟨true, i, false, x1⟩] := Rs.of_blk bdc_len (heap_alloc_new w11 _) ⟨[], rfl⟩ rfl (Nat.le_refl _) (by unfold maxLen; omega)
            replace hd := cell_old hd hv
            replace hb2 := hb2.trans (hv.mono hb2.size)
            replace hown4 := own_kp hown4 hv
            clear hv
            refine ord_hard rfl rfl (fun K hK => ?_)
            go_simp
            refine hK.out _ _ (fun _ => hd) ?_
            clear hK K
            try simp only [Act.put, List.setIfInBounds_toArray, List.set_cons_zero, List.set_cons_succ]
            generalize w11.alloc (.cells #[.bool false, .int .u64 (x1 : Int), .bool true, .int .u64 (i : Int), .bool true, .int .u64 (i : Int), .bool false, .int .u64 (x1 : Int)] 53) = w12 at *
            refine ord_hard rfl rfl (fun K hK => ?_)
            refine bd_append (.tmp 71) (.tmp 90) rfl w2.heap.size _ k5 _ rfl hown4 _ _ 2 2 _ rfl ho (by have := HKL.out; have := HN.out; have := HLT.out; omega) hb2.size ?_
            intro A7 k7 c7 w13 hk7 ha7
            replace hb2 : Below w2.heap.size w2 w13 := hb2.grown ha7.out.grown hb2.size (fun j hj => (hown4.lt j hj).1)
            have HO := Lib.hid ha7.out.own
            replace hd : w13.cell? ⟨b, o + i, none⟩ = some (.int .u64 (x1 : Int)) := HCW.out _ hb2
            clear ha7 hk7 hown4 ho
            refine hK.out _ _ (fun _ => hd) ?_
            clear hK K
            try simp only [Act.put, List.setIfInBounds_toArray, List.set_cons_zero, List.set_cons_succ]
            repeat (first
              | (refine ord_no rfl ?_; simp only [Act.put, List.setIfInBounds_toArray, List.set_cons_zero, List.set_cons_succ])
              | (refine ord_yes (v := ?_) rfl rfl ?_ ?_; rotate_left; (focus (rintro w' hS0; go_simp; try with_reducible rfl)); simp only [Act.put, List.setIfInBounds_toArray, List.set_cons_zero, List.set_cons_succ]))
            refine ord_end ?_
            clear hd
            go_wp2_with fail
            go_roundw
            case rel => exact ⟨i + 1, A7, k7, c7, by have := HLT.out; go_num, rfl, by have := HLT.out; have := HVL.out; omega, by rw [HPS.out, ← List.append_assoc]; exact HO.out, HST.out, hb2⟩
            case measure =>
              have := HLT.out
              simp [intOf]
              omega)
      · obtain rfl : q = i := by have := HVL.out; omega
        have hty : vs.take q = vs := List.take_of_length_le (by rw [HVL.out]; exact Nat.le_refl _)
        rw [hty] at hall
        have HAH := Lib.hid (all_has HVL.out hall)
        have hv := hb1
        replace hC := hC.keep hv
        replace hz0 := cell_old hz0 hv
        replace hz1 := cell_old hz1 hv
        replace hz2 := cell_old hz2 hv
        replace hz3 := cell_old hz3 hv
        replace hz4 := cell_old hz4 hv
        replace hz5 := cell_old hz5 hv
        replace hb := hb.trans (hv.mono hb.size)
        replace hvs := hvs.at_size (Nat.le_refl _) hv
        replace hSk := hSk.keep hv
        clear hv
        have hm0 := Rs.of_own bdc_len (by decide) hown
        have HML : Hid ([] ++ l ++ pts vs q = l ++ pts vs q) := Lib.hid (by simp)
        rw [HML.out] at hm0
        clear hown hall hty hlt hi1 hb1 HML
        obtain ⟨xc, hxc⟩ : ∃ x, chkS S (q : Int) l = x := ⟨_, rfl⟩
        have HXC := Lib.hid hxc
        clear hxc
        go_wp2_with fail
        refine (check_any _ (q : Int) A1 n1 c1 l S _ xc hSk.into hC.hl hC.hlf HXC.out).mono ?_
        rintro e w14 ⟨rfl, hv⟩
        replace hC := hC.keep hv
        replace hz0 := cell_old hz0 hv
        replace hz1 := cell_old hz1 hv
        replace hz2 := cell_old hz2 hv
        replace hz3 := cell_old hz3 hv
        replace hz4 := cell_old hz4 hv
        replace hz5 := cell_old hz5 hv
        replace hb := hb.trans (hv.mono hb.size)
        replace hvs := hvs.at_size (Nat.le_refl _) hv
        replace hSk := hSk.keep hv
        replace hm0 := hm0.at_size (Nat.le_refl _) hv
        clear hv
        by_cases hxc0 : xc = 0
        case neg =>
          have hne : ((xc : Int) != 0) = true := by simpa using hxc0
          clear hxc0 HXC
          go_wp2_with fail
          refine (alive_any _).mono ?_
          rintro e wz ⟨rfl, hv⟩
          replace hb := hb.trans (hv.mono hb.size)
          clear hv
          go_wp2_with fail
          go_ret
          exact ⟨rfl, hb⟩
        subst hxc0
        go_wp2_with fail
        refine (solve_any _ (q : Int) A k5 c5 _ S _ HSO.out hSk.into hm0 (fun b hb => (List.mem_append.1 hb).elim (hC.hlf b) (pts_fit HVF.out (by have := HVL.out; have := HQ.out; omega) (by have := HVL.out; omega) b))).mono ?_
        rintro e w15 ⟨B1, m1, d1, B2, m2, d2, x, lo, hi, rfl, hlo, hhi, hans, hv⟩
        clear hm0
        have HANS := Lib.hid hans
        clear hans
        replace hC := hC.keep hv
        replace hz0 := cell_old hz0 hv
        replace hz1 := cell_old hz1 hv
        replace hz2 := cell_old hz2 hv
        replace hz3 := cell_old hz3 hv
        replace hz4 := cell_old hz4 hv
        replace hz5 := cell_old hz5 hv
        replace hb := hb.trans (hv.mono hb.size)
        replace hvs := hvs.at_size (Nat.le_refl _) hv
        replace hSk := hSk.keep hv
        clear hv
        obtain ⟨hh, hhh⟩ : ∃ x, holdS S vs l = x := ⟨_, rfl⟩
        have HHH := Lib.hid hhh
        clear hhh
        go_wp2_with fail
        refine (hold_any _ A3 q c3 vs A1 n1 c1 l S _ hh hSk.into hvs HVF.out hC.hl hC.hlf HHH.out).mono ?_
        rintro e w16 ⟨rfl, hv⟩
        replace hC := hC.keep hv
        replace hz0 := cell_old hz0 hv
        replace hz1 := cell_old hz1 hv
        replace hz2 := cell_old hz2 hv
        replace hz3 := cell_old hz3 hv
        replace hz4 := cell_old hz4 hv
        replace hz5 := cell_old hz5 hv
        replace hb := hb.trans (hv.mono hb.size)
        replace hvs := hvs.at_size (Nat.le_refl _) hv
        replace hSk := hSk.keep hv
        replace hlo := hlo.at_size (Nat.le_refl _) hv
        replace hhi := hhi.at_size (Nat.le_refl _) hv
        clear hv
        cases hh with
        | false =>
          obtain rfl := given_no HSO.out (Nat.le_trans HQ.out (by decide)) HAH.out HXC.out (by rw [HLN.out.1]; exact HN.out) HHH.out HANS.out
          clear HANS HXC HHH HAH
          go_wp2_with fail
          refine (alive_any _).mono ?_
          rintro e wz ⟨rfl, hv⟩
          replace hb := hb.trans (hv.mono hb.size)
          clear hv
          go_wp2_with fail
          go_ret
          exact ⟨rfl, hb⟩
        | true =>
          obtain ⟨rfl, rfl, rfl⟩ := given_yes HSO.out (Nat.le_trans HQ.out (by decide)) HAH.out HXC.out (by rw [HLN.out.1]; exact HN.out) HHH.out HANS.out
          clear HANS HXC HHH HAH hC hz0 hz1 hz2 hz3 hz4 hz5 hSk
          go_wp2_with fail
          refine (alive_any _).mono ?_
          rintro e w17 ⟨rfl, hv⟩
          replace hlo := hlo.at_size (Nat.le_refl _) hv
          replace hhi := hhi.at_size (Nat.le_refl _) hv
          replace hvs := hvs.at_size (Nat.le_refl _) hv
          replace hb := hb.trans (hv.mono hb.size)
          clear hv
          go_wp2_with fail
          refine (same_lit true hlo hvs (by simp)).mono ?_
          rintro e w18 ⟨rfl, hv⟩
          replace hlo := hlo.at_size (Nat.le_refl _) hv
          replace hhi := hhi.at_size (Nat.le_refl _) hv
          replace hvs := hvs.at_size (Nat.le_refl _) hv
          replace hb := hb.trans (hv.mono hb.size)
          clear hv
          go_wp2_with fail
          refine (same_lit true hhi hvs (by simp)).mono ?_
          rintro e w19 ⟨rfl, hv⟩
          replace hlo := hlo.at_size (Nat.le_refl _) hv
          replace hhi := hhi.at_size (Nat.le_refl _) hv
          replace hvs := hvs.at_size (Nat.le_refl _) hv
          replace hb := hb.trans (hv.mono hb.size)
          clear hv
          go_wp2_with fail
          go_ret
          exact ⟨rfl, hb⟩


set_option maxRecDepth 100000 in
theorem lifted (os : Os) (started : os.Started) (H : Type) (enc : TypeId × Value → H) :
    ReturnsInHanded {} Try.checked os 7 .any (Rows.boundsGivenSpec.pre6 enc Try.prog Try.f7 Rows.boundsGivenRow.domain false) (Rows.boundsGivenSpec.post enc Try.prog Try.f7 false true false false) := by
  refine returnsInHanded_of_change (C := Try.checked) own started (by kernel_rfl) Try.func7
    (ChangeSpec.witness6 (enc := enc) (C := Try.checked) false ⟨#[], #[.agg #[.slice none 0 0, .bool false, .int .i64 0, .int .i64 0, .slice none 0 0, .slice none 0 0]], []⟩ 8 (by kernel_rfl) (by kernel_rfl) (by kernel_rfl) (by kernel_rfl)) ?_
  intro W base args ds gs before hval0 hW hcnd _
  have hval : ∀ (j : Nat) t v, Try.f7.params[j]? = some t → args[j]? = some v → Value.okWide Try.prog W .any base t v := hval0
  have hW' := hW
  obtain ⟨p, q, hA0, hV, rfl, hfz, hnd⟩ := hW
  have hA : DataW.TrodAll enc Try.prog W 0 (fun _ => true) true Try.f7.params.toList args.toList ds p := hA0
  rw [Try.params7] at hA hval
  obtain ⟨v0, vs0, d0, ds0, p0, q0, hargs, rfl, rfl, h0, r0⟩ := trodAll_cons hA
  obtain ⟨rfl, rfl, rfl⟩ := trodAll_nil r0
  obtain rfl : args = #[v0] := by cases args; simp_all
  obtain ⟨rfl, rfl⟩ := trodVars_none hV
  have lt0 : ∀ x ∈ p0, x.block < W.heap.size := by obtain ⟨m, hm⟩ := h0; exact DataW.trod_lt m _ _ _ hm
  obtain ⟨A, n, c, s, k, z, A1, n1, c1, A2, n2, c2, rows, l, u, rfl, hC, hzw⟩ := opened_given h0
  clear hA0 hval0
  refine (walk A n c s k z A1 n1 c1 A2 n2 c2 rows l u W hC hzw).mono fun e W' ⟨he, bel⟩ => ?_
  subst he
  exact ⟨_, rfl, _, _, _, [], _, [], hW', trodAll_mk1 (shut_bool Try.underlying4 _), (trodAll_cons_mk (Below.trod laidOut (by kernel_rfl) (of_decide_eq_true (by kernel_rfl)) h0 bel lt0) trodAll_mk0), rfl, bel.frame _, fun h => by cases h⟩

theorem over : Rows.boundsGivenRow.holds Try.pinned (OpenSpec.ofChange Rows.boundsGivenSpec) :=
  OpenClaim.holds_of_wide 7 Try.f7 rfl rfl rfl rfl rfl rfl rfl ⟨rfl, rfl, rfl, rfl, rfl⟩ rfl rfl rfl rfl rfl (by kernel_rfl) Try.func7 (by kernel_rfl)
    (of_decide_eq_true (by kernel_rfl)) (by unfold Func.isWrapper; first | (rw [if_pos (by decide +kernel)]; kernel_rfl) | (rw [if_neg (by decide +kernel)]; exact ⟨rfl, rfl⟩))
    (fun os started H enc _ => lifted os started H enc)

theorem proved : Rows.BoundsGivenSaid := over
#print axioms proved

end Go.Proofs.Ytnlgfiffhahpfaa.boundsGiven
