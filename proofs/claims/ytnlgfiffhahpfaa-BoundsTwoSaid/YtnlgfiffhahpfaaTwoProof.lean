/- Proved: whatever the rows or effects, the bounds and the values, BoundsTwo answers true: the join of two lists of values that hold, place by place, holds, and their meet does. No condition. -/
import Derived.Test.YtnlgfiffhahpfaaAlv
import Derived.Test.YtnlgfiffhahpfaaLws
import Derived.Test.YtnlgfiffhahpfaaApp
import Derived.Test.YtnlgfiffhahpfaaRows
namespace Go.Proofs.Ytnlgfiffhahpfaa.boundsTwo
open Go.ChangeShapes Go.WideShapes Go.ChangeAt Go.RowKit

theorem own : ownKnob Try.prog.godebug = none := by kernel_rfl
theorem laidOut : laidOutB Try.prog = true := by kernel_rfl


theorem great_no {n n1 n2 : Nat} (h : false = (decide (64 < n) || (decide (300 < n1) || decide (200 < n2)))) : n ≤ 64 ∧ n1 ≤ 300 ∧ n2 ≤ 200 := by
  have h := h.symm
  rw [Bool.or_eq_false_iff, Bool.or_eq_false_iff, decide_eq_false_iff_not, decide_eq_false_iff_not, decide_eq_false_iff_not] at h
  omega


def en (x : Nat) : List Value := [La.nm x]
theorem en_len (x : Nat) : (en x).length = 1 := rfl
theorem en_map (l : List Nat) : l.flatMap en = l.map La.nm := by
  induction l with
  | nil => rfl
  | cons x l ih => rw [List.flatMap_cons, ih]; rfl
theorem en_one (l : List Nat) : ∀ u ∈ l.flatMap en, u.oneCell' = true := by
  intro u hu
  rw [en_map] at hu
  obtain ⟨x, _, rfl⟩ := List.mem_map.1 hu
  rfl
theorem own_same {w w' : World} {base sz n : Nat} {e : TypeId} {v : Value} {xs : List Value} (h : w.ownsRow base e sz v n xs) (hq : ∀ q, v.ownBlock = some q → w'.heap[q]? = w.heap[q]?) : w'.ownsRow base e sz v n xs := by
  refine ⟨h.1, ?_⟩
  rcases h.2 with hn | ⟨g, cap, cur, rfl, hg, hgg, r⟩
  · exact .inl hn
  · exact .inr ⟨g, cap, cur, rfl, hg, (hq g rfl).trans hgg, r⟩

theorem wpList_nm {w : World} {ops : Array Oper} {rest : List Oper} {o : Oper} {a : Act} {Q : Exit → Act → World → Prop} (hgd : o.guard = none) (s x : Operand)
    (ho : o.op = .call { callee := .builtin .append, args := #[s, x], argTypes := #[22, 22] })
    (base : Nat) (v : Value) (n : Nat) (vs : List Nat) (hs : a.eval s = v) (hown : w.ownsRow base 28 1 v n (vs.flatMap en)) (B : Nat) (A : Option Addr) (m c : Nat) (ms : List Nat) (hx : a.eval x = .slice A m c) (hr : Rs en 1 w B A m c ms)
    (hsm : n + m ≤ 100000) (hbase : base ≤ w.heap.size)
    (h : ∀ A' k c' w', Hid (k = n + m) → Hid (Appended w w' base 28 1 v (.slice A' k c') k ((vs ++ ms).flatMap en)) → wpList Try.prog ops Q rest (a.put o.dst (.slice A' k c')) w') : wpList Try.prog ops Q (o :: rest) a w :=
  wpList_plain hgd fun _ hK => op_append en_len (by decide) en_one Try.underlying22 nm_inf rfl (by decide) s x ho base v n vs hs hown B A m c ms hx hr hsm hbase fun A' k c' w' g1 g2 => hK _ _ (h A' k c' w' g1 g2)

/-- Two rows of one's own, apart. -/
structure Jm (w : World) (base : Nat) (v5 v6 : Value) (k k' : Nat) (js ms : List Nat) : Prop where
  j : w.ownsRow base 28 1 v5 k (js.flatMap en)
  m : w.ownsRow base 28 1 v6 k' (ms.flatMap en)
  ap : ∀ q, v5.ownBlock = some q → v6.ownBlock ≠ some q
theorem Jm.keep {w w' : World} {base : Nat} {v5 v6 : Value} {k k' : Nat} {js ms : List Nat} (h : Jm w base v5 v6 k k' js ms) (hb : Below w.heap.size w w') : Jm w' base v5 v6 k k' js ms :=
  ⟨own_same h.j fun q hq => hb.block q (h.j.lt q hq).2, own_same h.m fun q hq => hb.block q (h.m.lt q hq).2, h.ap⟩
theorem Jm.one {w w' : World} {base : Nat} {v5 v6 v : Value} {k k' n : Nat} {js ms xs : List Nat} (h : Jm w base v5 v6 k k' js ms) (ha : Appended w w' base 28 1 v5 v n (xs.flatMap en)) : Jm w' base v v6 n k' xs ms :=
  ⟨ha.own, own_same h.m fun q hq => ha.grown.block q (h.m.lt q hq).2 fun e => h.ap q e.symm hq, fun q hq hv => ha.apart (h.m.lt q hv).2 (fun e => h.ap q e hv) hq⟩
theorem Jm.two {w w' : World} {base : Nat} {v5 v6 v : Value} {k k' n : Nat} {js ms xs : List Nat} (h : Jm w base v5 v6 k k' js ms) (ha : Appended w w' base 28 1 v6 v n (xs.flatMap en)) : Jm w' base v5 v k n js xs :=
  ⟨own_same h.j fun q hq => ha.grown.block q (h.j.lt q hq).2 fun e => h.ap q hq e.symm, ha.own, fun q hq => ha.apart (h.j.lt q hq).2 (h.ap q hq)⟩
theorem Jm.rd {w : World} {base n k : Nat} {A : Option Addr} {c : Nat} {js : List Nat} (h : w.ownsRow base 28 1 (.slice A k c) k (js.flatMap en)) (hn : js.length = n) : k = n ∧ Rd La.nm w w.heap.size A k c js := by
  rw [en_map] at h
  have := Rd.of_own h
  exact ⟨this.len.symm.trans hn, this⟩
theorem one_nm (w : World) (x : Nat) : Rs en 1 (w.alloc (.cells #[.int .u64 (x : Int)] 28)) (w.alloc (.cells #[.int .u64 (x : Int)] 28)).heap.size (some ⟨w.heap.size, 0, none⟩) 1 1 [x] :=
  Rs.of_blk en_len (heap_alloc_new w _) ⟨[], rfl⟩ rfl (Nat.le_refl _) (by unfold maxLen; omega)

/-- The joins and meets of the first i places stand. -/
def TwRel (S : Sr) (p q : List Nat) (w : World) (v5 v6 v7 : Value) (wr : World) : Prop :=
  ∃ (i : Nat) (A : Option Addr) (k c : Nat) (A' : Option Addr) (k' c' : Nat), v7 = .int .i64 (i : Int) ∧ i ≤ p.length ∧ v5 = .slice A k c ∧ v6 = .slice A' k' c' ∧
    Jm wr w.heap.size (.slice A k c) (.slice A' k' c') k k' (jns S.join p q i) (jns S.meet p q i) ∧ (p.take i).all S.has = true ∧ (q.take i).all S.has = true ∧ Below w.heap.size w wr

set_option maxRecDepth 100000 in
set_option maxHeartbeats 8000000 in
theorem walk (A : Option Addr) (n c : Nat) (s : Bool) (k z : Int) (A1 : Option Addr) (n1 c1 : Nat) (A2 : Option Addr) (n2 c2 : Nat) (rows : List Nat) (l : List Bd) (u : List Nat) (w : World) (hC : Came w A n c rows A1 n1 c1 l A2 n2 c2 u) (hzw : (Lit.int .i64 z).wf = true) :
    Calls Try.prog 8 #[gV A n c s k z A1 n1 c1 A2 n2 c2] w fun e w' => e = .returned (.bool true) ∧ Below w.heap.size w w' := by
  have hb : Below w.heap.size w (w.alloc (.cells #[.slice A n c, .bool s, .int .i64 k, .int .i64 z, .slice A1 n1 c1, .slice A2 n2 c2] 25)) := (Below.refl _ _).alloc (Nat.le_refl _) _
  have hbx := heap_alloc_new w (.cells #[.slice A n c, .bool s, .int .i64 k, .int .i64 z, .slice A1 n1 c1, .slice A2 n2 c2] 25)
  have hz0 := (cell_blk (i := 0) hbx).trans rfl
  have hz1 := (cell_blk (i := 1) hbx).trans rfl
  have hz2 := (cell_blk (i := 2) hbx).trans rfl
  have hz3 := (cell_blk (i := 3) hbx).trans rfl
  have hz4 := (cell_blk (i := 4) hbx).trans rfl
  have hz5 := (cell_blk (i := 5) hbx).trans rfl
  replace hC := hC.keep hb
  clear hbx
  obtain ⟨gr, hgr⟩ : ∃ r, r = (decide (64 < n) || (decide (300 < n1) || decide (200 < n2))) := ⟨_, rfl⟩
  have HGR := Lib.hid hgr
  have HGC := Lib.hid fun W => great_any A n c s k z A1 n1 c1 A2 n2 c2 W gr HGR.out
  have HSC := Lib.hid fun W (h : Came W A n c rows A1 n1 c1 l A2 n2 c2 u) => sort_any A n c s k z A1 n1 c1 A2 n2 c2 rows W h.hr h.hrf
  have HSO := Lib.hid (srOf_ok rows s k)
  generalize srOf rows s k = S at HSC HSO
  have HLN := Lib.hid (And.intro hC.hl.len hC.hu.len)
  have HZW := Lib.hid hzw
  unfold gV at HGC HSC ⊢
  clear hgr hzw
  go_enter Try.func8, Try.ntmps8
  go_wp2_with fail
  refine (HGC.out _).mono ?_
  rintro e w1 ⟨rfl, hv⟩
  clear HGC
  replace hC := hC.keep hv
  replace hz0 := cell_old hz0 hv
  replace hz1 := cell_old hz1 hv
  replace hz2 := cell_old hz2 hv
  replace hz3 := cell_old hz3 hv
  replace hz4 := cell_old hz4 hv
  replace hz5 := cell_old hz5 hv
  replace hb := hb.trans (hv.mono hb.size)
  clear hv
  cases gr with
  | true =>
    clear HSC
    go_wp2_with fail
    refine (alive_any _).mono ?_
    rintro e wz ⟨rfl, hv⟩
    replace hb := hb.trans (hv.mono hb.size)
    clear hv
    go_wp2_with fail
    go_ret
    exact ⟨rfl, hb⟩
  | false =>
    obtain ⟨-, hn1, hn2⟩ := great_no HGR.out
    clear HGR hn1
    by_cases hk0 : n2 % 2 = 0
    case neg =>
      have hk1 : (n2 : Int) % 2 = 1 := by omega
      have HK1 := Lib.hid hk1
      clear HSC hn2 hk0 hk1
      go_wp2_with (rw [HK1.out])
      refine (alive_any _).mono ?_
      rintro e wz ⟨rfl, hv⟩
      replace hb := hb.trans (hv.mono hb.size)
      clear hv
      go_wp2_with fail
      go_ret
      exact ⟨rfl, hb⟩
    obtain ⟨q, hq⟩ : ∃ q : Nat, n2 = 2 * q := ⟨n2 / 2, by omega⟩
    have HQ : Hid (n2 = 2 * q ∧ q ≤ 100) := Lib.hid ⟨hq, by omega⟩
    have HK1 : Hid ((n2 : Int) % 2 = 0) := Lib.hid (by omega)
    have HK2 : Hid ((n2 : Int) / 2 = (q : Int)) := Lib.hid (by omega)
    clear hk0 hn2 hq
    go_wp2_with (rw [HK1.out])
    refine (HSC.out _ hC).mono ?_
    rintro e w2 ⟨v, rfl, hS, hv⟩
    clear HSC HK1
    replace hC := hC.keep hv
    replace hz0 := cell_old hz0 hv
    replace hz1 := cell_old hz1 hv
    replace hz2 := cell_old hz2 hv
    replace hz3 := cell_old hz3 hv
    replace hz4 := cell_old hz4 hv
    replace hz5 := cell_old hz5 hv
    replace hb := hb.trans (hv.mono hb.size)
    clear hv
    have hSk := hS
    obtain ⟨T, pt, rfl⟩ : ∃ T p, v = .iface T p := by
      rcases hS with ⟨a, e, -⟩ | ⟨a, e, -⟩
      · exact ⟨_, _, e⟩
      · exact ⟨_, _, e⟩
    clear hS
    clear hz0 hz1 hz2 hz3
    obtain ⟨p, hp⟩ : ∃ p, u.take q = p := ⟨_, rfl⟩
    obtain ⟨r, hr⟩ : ∃ r, u.drop q = r := ⟨_, rfl⟩
    have HPL : Hid (p.length = q) := Lib.hid (by have := HQ.out; have := HLN.out; rw [← hp, List.length_take]; omega)
    have HRL : Hid (r.length = q) := Lib.hid (by have := HQ.out; have := HLN.out; rw [← hr, List.length_drop]; omega)
    have HPA : Hid (∀ i, i < q → p.getD i 0 = u.getD i 0) := Lib.hid fun i hi => by
      rw [← hp, List.getD_eq_getElem?_getD, List.getD_eq_getElem?_getD, List.getElem?_take, if_pos hi]
    have HRA : Hid (∀ i, i < q → r.getD i 0 = u.getD (q + i) 0) := Lib.hid fun i hi => by
      rw [← hr, List.getD_eq_getElem?_getD, List.getD_eq_getElem?_getD, List.getElem?_drop]
    have HPF : Hid (La.Fit p) := Lib.hid fun y hy => hC.huf y (by rw [← hp] at hy; exact List.mem_of_mem_take hy)
    have HRF : Hid (La.Fit r) := Lib.hid fun y hy => hC.huf y (by rw [← hr] at hy; exact List.mem_of_mem_drop hy)
    have HP := Lib.hid hp
    have HR := Lib.hid hr
    clear hp hr
    have hq100 : q ≤ 100 := HQ.out.2
    have hn200 : n2 ≤ 200 := by have := HQ.out; omega
    go_wp2_with (rw [HK2.out])
    clear HK2 hn200
    go_loopw [5, 6, 7] (fun v5 v6 v7 wr => TwRel S p r w2 v5 v6 v7 wr) (fun _ _ v7 _ => q - (intOf v7).toNat)
    case atStart => exact ⟨0, none, 0, 0, none, 0, 0, rfl, Nat.zero_le _, rfl, rfl, ⟨World.ownsRow_nil _ _ _ _, World.ownsRow_nil _ _ _ _, fun q h => by cases h⟩, rfl, rfl, Below.refl _ _⟩
    case round =>
      obtain ⟨i, A6, k6, c6, A7, k7, c7, rfl, hi1, rfl, rfl, hjm, hap, har, hb1⟩ := hrel
      by_cases hlt : i < q
      · have hpi : i < p.length := by rw [HPL.out]; exact hlt
        have hri : i < r.length := by rw [HRL.out]; exact hlt
        have hui : i < u.length := by have := HQ.out; have := HLN.out.2; omega
        have hui2 : q + i < u.length := by have := HQ.out; have := HLN.out.2; omega
        have HST := Lib.hid (all_more (S := S) hpi)
        have HSR := Lib.hid (all_more (S := S) hri)
        rw [hap, Bool.true_and, HPA.out i hlt, getD_at hui] at HST
        rw [har, Bool.true_and, HRA.out i hlt, getD_at hui2] at HSR
        have HJS := Lib.hid (jns_succ S.join p r i)
        have HMS := Lib.hid (jns_succ S.meet p r i)
        rw [HPA.out i hlt, HRA.out i hlt, getD_at hui, getD_at hui2] at HJS HMS
        have HKL : Hid (k6 = i) := Lib.hid (Jm.rd hjm.j (jns_len _ _ _ _)).1
        have HKM : Hid (k7 = i) := Lib.hid (Jm.rd hjm.m (jns_len _ _ _ _)).1
        have hvr := hC.hu.at_size (Nat.le_refl _) hb1
        have hz5' := cell_old hz5 hb1
        obtain ⟨b, o, rfl, hbb, hcv⟩ := hvr.spot (by have := HQ.out; omega)
        have hc1 := hcv i hui
        have hc2 := hcv (q + i) hui2
        have hxf := hC.huf.get i hui
        have hyf := hC.huf.get (q + i) hui2
        have hwq : (q : Int) + (i : Int) = ((q + i : Nat) : Int) := by omega
        have hqi : q + i < n2 := by have := HQ.out; omega
        have hi2 : i < n2 := by omega
        have HLT := Lib.hid hlt
        generalize u[i] = x1 at hc1 HST HJS HMS hxf
        generalize u[q + i] = y1 at hc2 HSR HJS HMS hyf
        generalize q + i = t at hc2 hwq hqi
        have HWQ := Lib.hid hwq
        replace hc1 : _ = some (Value.int .u64 (x1 : Int)) := hc1
        replace hc2 : _ = some (Value.int .u64 (y1 : Int)) := hc2
        have hhb := hb
        clear hvr hcv hpi hri hui hui2 hap har hi1 hb hz4 hwq
        rcases hSk with ⟨a, eT, hA⟩ | ⟨a, eT, hA⟩
        all_goals (
          injection eT with eT1 eT2
          subst eT1
          subst eT2
          have HHAS := Lib.hid fun W (h : Below w2.heap.size w2 W) => hA.has W h x1 hxf
          have HHAR := Lib.hid fun W (h : Below w2.heap.size w2 W) => hA.has W h y1 hyf
          have HJO := Lib.hid fun W (h : Below w2.heap.size w2 W) => hA.join W h x1 y1 hxf hyf
          have HME := Lib.hid fun W (h : Below w2.heap.size w2 W) => hA.meet W h x1 y1 hxf hyf
          generalize hr1 : S.has x1 = r1 at HST HHAS
          generalize hr2 : S.has y1 = r2 at HSR HHAR
          generalize hr3 : S.join x1 y1 = z1 at HJS HJO
          generalize hr4 : S.meet x1 y1 = z2 at HMS HME
          clear hr1 hr2 hr3 hr4 hA hxf hyf hbb
          go_wp2_with (rw [HWQ.out])
          refine (HHAS.out _ hb1).mono ?_
          rintro e w3 ⟨rfl, hv⟩
          have hb3 := hb1.trans (hv.mono hb1.size)
          have hj3 := hjm.keep hv
          clear hv hb1 hjm hc1 hc2
          cases r1 with
          | false =>
            have hb := hhb.trans (hb3.mono hhb.size)
            clear hb3 hj3
            go_wp2_with fail
            refine (alive_any _).mono ?_
            rintro e wz ⟨rfl, hv⟩
            replace hb := hb.trans (hv.mono hb.size)
            clear hv
            go_wp2_with fail
            go_ret
            exact ⟨rfl, hb⟩
          | true =>
            go_wp2_with fail
            refine (HHAR.out _ hb3).mono ?_
            rintro e w4 ⟨rfl, hv⟩
            replace hb3 := hb3.trans (hv.mono hb3.size)
            replace hj3 := hj3.keep hv
            clear hv
            cases r2 with
            | false =>
              have hb := hhb.trans (hb3.mono hhb.size)
              clear hb3 hj3
              go_wp2_with fail
              refine (alive_any _).mono ?_
              rintro e wz ⟨rfl, hv⟩
              replace hb := hb.trans (hv.mono hb.size)
              clear hv
              go_wp2_with fail
              go_ret
              exact ⟨rfl, hb⟩
            | true =>
              go_wp2_with fail
              refine (HJO.out _ hb3).mono ?_
              rintro e w5 ⟨rfl, hv⟩
              replace hb3 := hb3.trans (hv.mono hb3.size)
              replace hj3 := hj3.keep hv
              clear hv
              have hv : Below w5.heap.size w5 (w5.alloc (.cells #[.int .u64 (z1 : Int)] 28)) := (Below.refl _ _).alloc (Nat.le_refl _) _
              have ho := one_nm w5 z1
              have hb4 := hb3.trans (hv.mono hb3.size)
              have hj4 := hj3.keep hv
              clear hv
              go_wp2_with (at_builtin; refine wpList_nm rfl (.tmp 57) (.tmp 62) rfl w2.heap.size (.slice A6 k6 c6) k6 (jns S.join p r i) rfl hj4.j _ _ 1 1 [z1] rfl ho (by have := HKL.out; have := HQ.out; have := HLT.out; omega) hb4.size ?_; intro A8 k8 c8 w6 hk8 ha8; have hb6 := hb4.grown ha8.out.grown hb4.size (fun j hj => (hj4.j.lt j hj).1); have hj6 := hj4.one ha8.out; clear ha8 hk8 hj4 hb4 ho hb3 hj3)
              refine (HME.out _ hb6).mono ?_
              rintro e w7 ⟨rfl, hv⟩
              replace hb6 := hb6.trans (hv.mono hb6.size)
              replace hj6 := hj6.keep hv
              clear hv
              have hv : Below w7.heap.size w7 (w7.alloc (.cells #[.int .u64 (z2 : Int)] 28)) := (Below.refl _ _).alloc (Nat.le_refl _) _
              have ho := one_nm w7 z2
              have hb4 := hb6.trans (hv.mono hb6.size)
              have hj4 := hj6.keep hv
              clear hv
              go_wp2_with (at_builtin; refine wpList_nm rfl (.tmp 64) (.tmp 69) rfl w2.heap.size (.slice A7 k7 c7) k7 (jns S.meet p r i) rfl hj4.m _ _ 1 1 [z2] rfl ho (by have := HKM.out; have := HQ.out; have := HLT.out; omega) hb4.size ?_; intro A9 k9 c9 w8 hk9 ha9; have hb8 := hb4.grown ha9.out.grown hb4.size (fun j hj => (hj4.m.lt j hj).1); have hj8 := hj4.two ha9.out; clear ha9 hk9 hj4 hb4 ho hb6 hj6)
              go_roundw
              case rel => exact ⟨i + 1, A8, k8, c8, A9, k9, c9, by have := HLT.out; have := HQ.out; go_num, by have := HLT.out; have := HPL.out; omega, rfl, rfl, by rw [HJS.out, HMS.out]; exact hj8, HST.out, HSR.out, hb8⟩
              case measure =>
                have := HLT.out
                simp [intOf]
                omega)
      · obtain rfl : q = i := by have := HPL.out; omega
        have hv := hb1
        replace hC := hC.keep hv
        replace hz4 := cell_old hz4 hv
        replace hz5 := cell_old hz5 hv
        replace hb := hb.trans (hv.mono hb.size)
        replace hSk := hSk.keep hv
        clear hv
        have HAP : Hid (AllHas S q p) := Lib.hid (all_has HPL.out (by rw [List.take_of_length_le (by rw [HPL.out]; exact Nat.le_refl _)] at hap; exact hap))
        have HAR : Hid (AllHas S q r) := Lib.hid (all_has HRL.out (by rw [List.take_of_length_le (by rw [HRL.out]; exact Nat.le_refl _)] at har; exact har))
        obtain ⟨hk6, hj6⟩ := Jm.rd hjm.j (jns_len _ _ _ _)
        obtain ⟨hk7, hj7⟩ := Jm.rd hjm.m (jns_len _ _ _ _)
        have HFJ := Lib.hid (jns_fit HSO.out HAP.out HAR.out (Nat.le_refl q))
        obtain ⟨A3, n3, c3, hsl, hvs⟩ := rd_slice_h (P := Try.prog) 22 28 Try.underlying22 La.nm_size hC.hu (q : Int) (by omega) (by have := HQ.out; omega)
        obtain ⟨A4, n4, c4, hsr, hvr⟩ := rd_slice_l (P := Try.prog) 22 28 Try.underlying22 La.nm_size hC.hu (q : Int) (by omega) (by have := HQ.out; omega)
        rw [Int.toNat_natCast] at hvs hvr
        rw [HP.out] at hvs
        rw [HR.out] at hvr
        obtain ⟨h1, hh1⟩ : ∃ x, holdS S p l = x := ⟨_, rfl⟩
        obtain ⟨h2, hh2⟩ : ∃ x, holdS S r l = x := ⟨_, rfl⟩
        have HH1 := Lib.hid hh1
        have HH2 := Lib.hid hh2
        clear hh1 hh2 hap har hlt hi1 hk6 hk7 hjm hb1
        go_wp2_with fail
        refine wp_region_ord [0, 1, 2, 3, 4, 5, 6, 7, 8, 9, 10, 11, 12, 13, 14, 15, 16, 17, 18, 19] [7, 17] 20 (fun w' => w'.cell? ⟨w.heap.size, 4, none⟩ = some (.slice A1 n1 c1) ∧ w'.cell? ⟨w.heap.size, 5, none⟩ = some (.slice A2 n2 c2)) (by kernel_rfl) (by kernel_rfl) (by kernel_rfl) (by kernel_rfl) (fun _ _ _ _ _ h => h) ⟨hz4, hz5⟩ ?_
        simp only [steps, List.getElem?_cons_zero, List.getElem?_cons_succ]
        repeat (first
          | (refine ord_no rfl ?_; simp only [Act.put, List.setIfInBounds_toArray, List.set_cons_zero, List.set_cons_succ])
          | (refine ord_yes (v := ?_) rfl rfl ?_ ?_; rotate_left; (focus (rintro w' ⟨hS0, hS1⟩; go_simp; try with_reducible rfl)); simp only [Act.put, List.setIfInBounds_toArray, List.set_cons_zero, List.set_cons_succ]))
        have hv : Below wr.heap.size wr wr.drew := (Below.refl _ _).drew
        replace hC := hC.keep hv
        replace hSk := hSk.keep hv
        replace hz4 := cell_old hz4 hv
        replace hz5 := cell_old hz5 hv
        replace hb := hb.trans (hv.mono hb.size)
        replace hj6 := hj6.at_size (Nat.le_refl _) hv
        replace hj7 := hj7.at_size (Nat.le_refl _) hv
        replace hvs := hvs.at_size (Nat.le_refl _) hv
        replace hvr := hvr.at_size (Nat.le_refl _) hv
        clear hv
        generalize wr.drew = w9 at *
        refine ord_hard rfl rfl (fun K hK => ?_)
        go_simp
        refine (hold_any _ A3 n3 c3 p A1 n1 c1 l S _ h1 hSk.into hvs HPF.out hC.hl hC.hlf HH1.out).mono ?_
        rintro e w10 ⟨rfl, hv⟩
        replace hC := hC.keep hv
        replace hSk := hSk.keep hv
        replace hz4 := cell_old hz4 hv
        replace hz5 := cell_old hz5 hv
        replace hb := hb.trans (hv.mono hb.size)
        replace hj6 := hj6.at_size (Nat.le_refl _) hv
        replace hj7 := hj7.at_size (Nat.le_refl _) hv
        replace hvs := hvs.at_size (Nat.le_refl _) hv
        replace hvr := hvr.at_size (Nat.le_refl _) hv
        clear hv
        refine hK.out _ _ (fun _ => ⟨hz4, hz5⟩) ?_
        clear hK K
        try simp only [Act.put, List.setIfInBounds_toArray, List.set_cons_zero, List.set_cons_succ]
        cases h1 with
        | false =>
          repeat (first
            | (refine ord_no rfl ?_; simp only [Act.put, List.setIfInBounds_toArray, List.set_cons_zero, List.set_cons_succ])
            | (refine ord_yes (v := ?_) rfl rfl ?_ ?_; rotate_left; (focus (rintro w' ⟨hS0, hS1⟩; go_simp; try with_reducible rfl)); simp only [Act.put, List.setIfInBounds_toArray, List.set_cons_zero, List.set_cons_succ]))
          refine ord_end ?_
          go_wp2_with fail
          refine (alive_any _).mono ?_
          rintro e wz ⟨rfl, hv⟩
          replace hb := hb.trans (hv.mono hb.size)
          clear hv
          go_wp2_with fail
          go_ret
          exact ⟨rfl, hb⟩
        | true =>
          repeat (first
            | (refine ord_no rfl ?_; simp only [Act.put, List.setIfInBounds_toArray, List.set_cons_zero, List.set_cons_succ])
            | (refine ord_yes (v := ?_) rfl rfl ?_ ?_; rotate_left; (focus (rintro w' ⟨hS0, hS1⟩; go_simp; try with_reducible rfl)); simp only [Act.put, List.setIfInBounds_toArray, List.set_cons_zero, List.set_cons_succ]))
          refine ord_hard rfl rfl (fun K hK => ?_)
          go_simp
          refine (hold_any _ A4 n4 c4 r A1 n1 c1 l S _ h2 hSk.into hvr HRF.out hC.hl hC.hlf HH2.out).mono ?_
          rintro e w11 ⟨rfl, hv⟩
          replace hC := hC.keep hv
          replace hSk := hSk.keep hv
          replace hz4 := cell_old hz4 hv
          replace hz5 := cell_old hz5 hv
          replace hb := hb.trans (hv.mono hb.size)
          replace hj6 := hj6.at_size (Nat.le_refl _) hv
          replace hj7 := hj7.at_size (Nat.le_refl _) hv
          replace hvs := hvs.at_size (Nat.le_refl _) hv
          replace hvr := hvr.at_size (Nat.le_refl _) hv
          clear hv
          refine hK.out _ _ (fun _ => ⟨hz4, hz5⟩) ?_
          clear hK K
          try simp only [Act.put, List.setIfInBounds_toArray, List.set_cons_zero, List.set_cons_succ]
          repeat (first
            | (refine ord_no rfl ?_; simp only [Act.put, List.setIfInBounds_toArray, List.set_cons_zero, List.set_cons_succ])
            | (refine ord_yes (v := ?_) rfl rfl ?_ ?_; rotate_left; (focus (rintro w' ⟨hS0, hS1⟩; go_simp; try with_reducible rfl)); simp only [Act.put, List.setIfInBounds_toArray, List.set_cons_zero, List.set_cons_succ]))
          refine ord_end ?_
          cases h2 with
          | false =>
            go_wp2_with fail
            refine (alive_any _).mono ?_
            rintro e wz ⟨rfl, hv⟩
            replace hb := hb.trans (hv.mono hb.size)
            clear hv
            go_wp2_with fail
            go_ret
            exact ⟨rfl, hb⟩
          | true =>
            have HT1 := Lib.hid (two_hold HSO.out HAP.out HH1.out HH2.out)
            have HT2 := Lib.hid (two_meet HSO.out HAP.out HH1.out HH2.out)
            go_wp2_with fail
            refine (alive_any _).mono ?_
            rintro e w12 ⟨rfl, hv⟩
            replace hC := hC.keep hv
            replace hSk := hSk.keep hv
            replace hz4 := cell_old hz4 hv
            replace hz5 := cell_old hz5 hv
            replace hb := hb.trans (hv.mono hb.size)
            replace hj6 := hj6.at_size (Nat.le_refl _) hv
            replace hj7 := hj7.at_size (Nat.le_refl _) hv
            replace hvs := hvs.at_size (Nat.le_refl _) hv
            replace hvr := hvr.at_size (Nat.le_refl _) hv
            clear hv
            go_wp2_with fail
            refine (hold_any _ A6 k6 c6 _ A1 n1 c1 l S _ true hSk.into hj6 HFJ.out.1 hC.hl hC.hlf HT1.out).mono ?_
            rintro e w13 ⟨rfl, hv⟩
            replace hC := hC.keep hv
            replace hSk := hSk.keep hv
            replace hz4 := cell_old hz4 hv
            replace hz5 := cell_old hz5 hv
            replace hb := hb.trans (hv.mono hb.size)
            replace hj6 := hj6.at_size (Nat.le_refl _) hv
            replace hj7 := hj7.at_size (Nat.le_refl _) hv
            replace hvs := hvs.at_size (Nat.le_refl _) hv
            replace hvr := hvr.at_size (Nat.le_refl _) hv
            clear hv
            go_wp2_with fail
            refine (hold_any _ A7 k7 c7 _ A1 n1 c1 l S _ true hSk.into hj7 HFJ.out.2 hC.hl hC.hlf HT2.out).mono ?_
            rintro e w14 ⟨rfl, hv⟩
            replace hC := hC.keep hv
            replace hSk := hSk.keep hv
            replace hz4 := cell_old hz4 hv
            replace hz5 := cell_old hz5 hv
            replace hb := hb.trans (hv.mono hb.size)
            replace hj6 := hj6.at_size (Nat.le_refl _) hv
            replace hj7 := hj7.at_size (Nat.le_refl _) hv
            replace hvs := hvs.at_size (Nat.le_refl _) hv
            replace hvr := hvr.at_size (Nat.le_refl _) hv
            clear hv
            go_wp2_with fail
            go_ret
            exact ⟨rfl, hb⟩


set_option maxRecDepth 100000 in
theorem lifted (os : Os) (started : os.Started) (H : Type) (enc : TypeId × Value → H) :
    ReturnsInHanded {} Try.checked os 8 .any (Rows.boundsTwoSpec.pre6 enc Try.prog Try.f8 Rows.boundsTwoRow.domain false) (Rows.boundsTwoSpec.post enc Try.prog Try.f8 false true false false) := by
  refine returnsInHanded_of_change (C := Try.checked) own started (by kernel_rfl) Try.func8
    (ChangeSpec.witness6 (enc := enc) (C := Try.checked) false ⟨#[], #[.agg #[.slice none 0 0, .bool false, .int .i64 0, .int .i64 0, .slice none 0 0, .slice none 0 0]], []⟩ 8 (by kernel_rfl) (by kernel_rfl) (by kernel_rfl) (by kernel_rfl)) ?_
  intro W base args ds gs before hval0 hW hcnd _
  have hval : ∀ (j : Nat) t v, Try.f8.params[j]? = some t → args[j]? = some v → Value.okWide Try.prog W .any base t v := hval0
  have hW' := hW
  obtain ⟨p, q, hA0, hV, rfl, hfz, hnd⟩ := hW
  have hA : DataW.TrodAll enc Try.prog W 0 (fun _ => true) true Try.f8.params.toList args.toList ds p := hA0
  rw [Try.params8] at hA hval
  obtain ⟨v0, vs0, d0, ds0, p0, q0, hargs, rfl, rfl, h0, r0⟩ := trodAll_cons hA
  obtain ⟨rfl, rfl, rfl⟩ := trodAll_nil r0
  obtain rfl : args = #[v0] := by cases args; simp_all
  obtain ⟨rfl, rfl⟩ := trodVars_none hV
  have lt0 : ∀ x ∈ p0, x.block < W.heap.size := by obtain ⟨m, hm⟩ := h0; exact DataW.trod_lt m _ _ _ hm
  obtain ⟨A, n, c, s, k, z, A1, n1, c1, A2, n2, c2, rows, l, u, rfl, hC, hzw⟩ := opened_given h0
  clear hA0 hval0
  refine (walk A n c s k z A1 n1 c1 A2 n2 c2 rows l u W hC hzw).mono fun e W' ⟨he, bel⟩ => ?_
  subst he
  exact ⟨_, rfl, _, _, _, [], _, [], hW', trodAll_mk1 (shut_bool Try.underlying4 _), (trodAll_cons_mk (Below.trod laidOut (by kernel_rfl) (of_decide_eq_true (by kernel_rfl)) h0 bel lt0) trodAll_mk0), rfl, bel.frame _, fun h => by cases h⟩

theorem over : Rows.boundsTwoRow.holds Try.pinned (OpenSpec.ofChange Rows.boundsTwoSpec) :=
  OpenClaim.holds_of_wide 8 Try.f8 rfl rfl rfl rfl rfl rfl rfl ⟨rfl, rfl, rfl, rfl, rfl⟩ rfl rfl rfl rfl rfl (by kernel_rfl) Try.func8 (by kernel_rfl)
    (of_decide_eq_true (by kernel_rfl)) (by unfold Func.isWrapper; first | (rw [if_pos (by decide +kernel)]; kernel_rfl) | (rw [if_neg (by decide +kernel)]; exact ⟨rfl, rfl⟩))
    (fun os started H enc _ => lifted os started H enc)

theorem proved : Rows.BoundsTwoSaid := over
#print axioms proved

end Go.Proofs.Ytnlgfiffhahpfaa.boundsTwo
