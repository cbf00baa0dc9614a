/- What solve tells of a sort's variables. Condition: bounds may be, and can be read. -/
import Derived.Test.YtmejhedegmjboaaGreatSns
namespace Go.Proofs.YtmejhedegmjboaaGreat
open Go.RowKit

set_option maxRecDepth 100000 in
set_option maxHeartbeats 2000000 in
theorem or2_any (g : Nat) (a b : Int) (w : World) (h0 : w.cell? ⟨g, 0, none⟩ = some (.int .i64 a)) (h1 : w.cell? ⟨g, 1, none⟩ = some (.int .i64 b)) :
    Calls Tryz.prog 44 #[.slice (some ⟨g, 0, none⟩) 2 2] w fun e w' => e = .returned (.int .i64 (orE a b)) ∧ w = w' := by
  have hall : ∀ i : Nat, i < 2 → w.cell? ⟨g, i, none⟩ = some (.int .i64 ([a, b].getD i 0)) := fun i hi => by
    have : i = 0 ∨ i = 1 := by omega
    rcases this with rfl | rfl
    · exact h0
    · exact h1
  have HA := Lib.hid hall
  have HF : Hid (∀ i : Nat, i < 2 → (∀ j, j < i → [a, b].getD j 0 = 0) → [a, b].getD i 0 ≠ 0 → orE a b = [a, b].getD i 0) := Lib.hid fun i hi hz hn => by
    have : i = 0 ∨ i = 1 := by omega
    rcases this with rfl | rfl
    · exact if_neg hn
    · have z0 := hz 0 (by decide)
      replace z0 : a = 0 := z0
      subst z0
      exact if_pos rfl
  have HE : Hid ((∀ j, j < 2 → [a, b].getD j 0 = 0) → orE a b = 0) := Lib.hid fun hz => by
    have z0 := hz 0 (by decide)
    have z1 := hz 1 (by decide)
    replace z0 : a = 0 := z0
    replace z1 : b = 0 := z1
    subst z0 z1
    rfl
  generalize orE a b = r at *
  generalize [a, b] = L at *
  clear h0 h1 hall
  go_enter Tryz.func44, Tryz.ntmps44
  go_wp2
  go_loopw [8] (fun v8 wr => ∃ i : Nat, v8 = .int .i64 (i : Int) ∧ i ≤ 2 ∧ (∀ j, j < i → L.getD j 0 = 0) ∧ w = wr) (fun v8 _ => 2 - (intOf v8).toNat)
  case atStart => exact ⟨0, rfl, by omega, fun j h => by omega, rfl⟩
  case round =>
    obtain ⟨i, rfl, hi, hz, rfl⟩ := hrel
    have HZ := Lib.hid hz
    clear hz
    by_cases hlt : i < 2
    · have hc := HA.out i hlt
      have HS : Hid (L.getD i 0 = 0 → ∀ j, j < i + 1 → L.getD j 0 = 0) := Lib.hid fun e j hj => by
        by_cases hji : j < i
        · exact HZ.out j hji
        · obtain rfl : j = i := by omega
          exact e
      have HN := Lib.hid (HF.out i hlt HZ.out)
      have HLT := Lib.hid hlt
      generalize L.getD i 0 = q at *
      clear hi
      by_cases hq : q = 0
      · subst hq
        go_wp2_with fail
        go_roundw
        case rel => exact ⟨i + 1, by have := HLT.out; go_num, by have := HLT.out; omega, HS.out rfl, by trivial⟩
        case measure =>
          have := HLT.out
          simp [intOf]
          omega
      · have hqq : (q != 0) = true := by simpa using hq
        have HR := Lib.hid (HN.out hq)
        clear HN HS
        go_wp2_with fail
        go_ret
        exact ⟨by rw [HR.out]; rfl, rfl⟩
    · obtain rfl : i = 2 := by omega
      have HR := Lib.hid (HE.out HZ.out)
      clear hlt hi
      go_wp2
      go_ret
      exact ⟨by rw [HR.out]; rfl, rfl⟩

/-- A row that does not lie in a block whose cells are others. -/
theorem Rd.off {α : Type} {enc : α → Value} {w w' : World} {A : Option Addr} {n c g : Nat} {l : List α} (h : Rd enc w w.heap.size A n c l) (hg : ∀ o v, w.cell? ⟨g, o, none⟩ = some v → ∀ x, v ≠ enc x) (hk : ∀ k, k < w.heap.size → k ≠ g → w'.heap[k]? = w.heap[k]?) (hs : w.heap.size ≤ w'.heap.size) : Rd enc w' w'.heap.size A n c l := by
  refine ⟨h.len, h.cap, h.top, h.none0, fun h0 => ?_⟩
  obtain ⟨b, o, e, hb, hc⟩ := h.spot h0
  have hne : b ≠ g := by
    rintro rfl
    have h1 : 0 < l.length := by rw [h.len]; exact h0
    exact hg _ _ (hc 0 h1) _ rfl
  exact ⟨b, o, e, Nat.lt_of_lt_of_le hb hs, fun j hj => (World.cell?_of_block (hk b hb hne)).trans (hc j hj)⟩

theorem results_cell_tmp {P : Program} {fn : Func} {p q : Tmp} {ty : TypeId} (h : fn.results = #[.cell p ty, .tmp q]) (tmps : Array Value) (w : World) (g : Nat) (t : TypeId) (cs : Array Value) (fr : Nat × Nat) (d : TypeDesc)
    (hp : tmps.getD p undef = .pointer (some ⟨g, 0, none⟩)) (hg : w.heap[g]? = some (.cells cs t fr))
    (hu : P.underlying ty = some d) (hd : (match d with | .struct _ | .array _ _ => true | _ => false) = true) (hi : (P.info? ty).map (·.size) = some cs.size) (v : Value) (hv : tmps.getD q undef = v) :
    (results fn tmps).run P w = .ok (.tuple #[.agg cs, v]) w := by
  have hp' : tmps[p]?.getD undef = .pointer (some ⟨g, 0, none⟩) := by simpa using hp
  have hv' : tmps[q]?.getD undef = v := by simpa using hv
  simp [results, h, hp', hv', asAddr, run_loadVar_row w g t ty cs fr d hg hu hd hi]

/-- No values of a sort are such that all bounds hold. -/
def NoVals (S : Bo.Sr) (k : Int) (l : List Bo.Bd) : Prop := ∃ q : Nat, k = (q : Int) ∧ ∀ u, Bo.AllHas S q u → Bo.holdS S u l = false
theorem orE_self_l (x : Int) : orE x 0 = x := by unfold orE; split <;> simp_all

set_option maxRecDepth 100000 in
set_option maxHeartbeats 4000000 in
theorem solve2_any (v : Value) (k : Int) (A : Option Addr) (n c : Nat) (l : List Bo.Bd) (S : Bo.Sr) (w : World) (hS : S.Ok) (hs : Srt3 w v S) (h : Rs Bo.bdc 4 w w.heap.size A n c l) (hf : ∀ b ∈ l, b.Fit) (hc : Bo.chkS S k l = 0) :
    Calls Tryz.prog 43 #[v, .int .i64 k, .slice A n c] w fun e w' => ∃ A1 n1 c1 A2 n2 c2 A3 n3 c3 x, e = .returned (.tuple #[slvV v A1 n1 c1 A2 n2 c2 A3 n3 c3, .int .i64 x]) ∧ Below w.heap.size w w' ∧
      ((x = 10 ∧ NoVals S k l) ∨ (x = 0 ∧ ∃ (q : Nat) (lo hi : List Nat), k = (q : Int) ∧ Got S q l lo hi ∧ SlvAt w' S q lo hi (rcB q l) v A1 n1 c1 A2 n2 c2 A3 n3 c3)) := by
  have HS := Lib.hid hs
  have HH : Hid (∀ W, Below w.heap.size w W → Rs Bo.bdc 4 W W.heap.size A n c l) := Lib.hid fun W hW => h.at_size (Nat.le_refl _) hW
  have HOK := Lib.hid hS
  have HF := Lib.hid hf
  obtain ⟨q0, hk, hq, hl, hm⟩ := Bo.chk_ok hc
  have HR : Hid (∀ W, Below w.heap.size w W → Calls Tryz.prog 74 #[.int .i64 k, .slice A n c] W (Re.OfE k l 0 W)) := Lib.hid fun W hW => by
    have hx : Re.ofE k l = 0 := by rw [hk]; exact Re.ofE_is hq hl fun b hb => may_re (hm b hb)
    exact Re.of_any k A n c l W 0 (h.at_size (Nat.le_refl _) hW) hx
  have HC := Lib.hid hc
  have HK := Lib.hid hk
  have HQ := Lib.hid hq
  have HM := Lib.hid hm
  have hal : Below w.heap.size w (w.alloc (.cells #[.nilIface, .slice none 0 0, .slice none 0 0, .slice none 0 0] 100)) := (Below.refl _ _).alloc (Nat.le_refl _) _
  have hsol := Bo.solve_any v k A n c l S _ hS (hs.into.keep hal) (h.at_size (Nat.le_refl _) hal) hf
  have hblk := heap_alloc_new w (.cells #[.nilIface, .slice none 0 0, .slice none 0 0, .slice none 0 0] 100)
  obtain ⟨u, hu⟩ : ∃ u, w.alloc (.cells #[.nilIface, .slice none 0 0, .slice none 0 0, .slice none 0 0] 100) = u := ⟨_, rfl⟩
  rw [hu] at hal hsol hblk
  have HB := Lib.hid hal
  have HO := Lib.hid hblk
  clear hS hs h hf hc hk hq hl hm hal hblk
  go_enter Tryz.func43, Tryz.ntmps43
  go_wp2_with fail
  clear hu
  refine hsol.mono ?_
  rintro e w1 ⟨A1, n1, c1, A2, n2, c2, x, lo, hi, hsv⟩
  obtain rfl := hsv.ret
  have HB1 := Lib.hid (HB.out.trans (hsv.kept.mono HB.out.size))
  have HU1 := Lib.hid hsv.kept
  have HSV := Lib.hid hsv
  clear hsv hsol HB
  go_wp2_with fail
  refine (HR.out _ HB1.out).mono ?_
  rintro e w2 he
  rcases he with ⟨h0, -⟩ | ⟨-, q, g, gs, hkq, rfl, hsq, hv⟩
  · exact absurd rfl h0
  have HB2 := Lib.hid (HB1.out.trans (hv.mono HB1.out.size))
  have HU2 := Lib.hid (HU1.out.trans (hv.mono HU1.out.size))
  have HV := Lib.hid hv
  have HSQ := Lib.hid hsq
  have HKQ := Lib.hid hkq
  clear hv hsq hkq HB1 HU1 HR
  have hb3 : Below w2.heap.size w2 (w2.alloc (.cells #[.int .i64 x, .int .i64 0] 51)) := (Below.refl _ _).alloc (Nat.le_refl _) _
  have hn := heap_alloc_new w2 (.cells #[.int .i64 x, .int .i64 0] 51)
  have hor := or2_any w2.heap.size x 0 _ ((cell_blk (i := 0) hn).trans rfl) ((cell_blk (i := 1) hn).trans rfl)
  rw [orE_self_l] at hor
  have HB3 := Lib.hid (HB2.out.trans (hb3.mono HB2.out.size))
  have HU3 := Lib.hid (HU2.out.trans (hb3.mono HU2.out.size))
  have HV3 := Lib.hid (HV.out.trans (hb3.mono HV.out.size))
  have HW3 := Lib.hid hb3
  have ho3 := (HU3.out.block _ (lt_blk HO.out)).trans HO.out
  have o0 := (cell_blk (i := 0) ho3).trans rfl
  have o1 := (cell_blk (i := 1) ho3).trans rfl
  have o2 := (cell_blk (i := 2) ho3).trans rfl
  have o3 := (cell_blk (i := 3) ho3).trans rfl
  have z0 : (w2.alloc (.cells #[.int .i64 x, .int .i64 0] 51)).frozen? ⟨w.heap.size, 0, none⟩ = false := frozen_blk ho3
  have z1 : (w2.alloc (.cells #[.int .i64 x, .int .i64 0] 51)).frozen? ⟨w.heap.size, 1, none⟩ = false := frozen_blk ho3
  have z2 : (w2.alloc (.cells #[.int .i64 x, .int .i64 0] 51)).frozen? ⟨w.heap.size, 2, none⟩ = false := frozen_blk ho3
  have z3 : (w2.alloc (.cells #[.int .i64 x, .int .i64 0] 51)).frozen? ⟨w.heap.size, 3, none⟩ = false := frozen_blk ho3
  have HO3 := Lib.hid ho3
  clear hb3 hn ho3 HU2 HB2
  have hv := HS.out
  rcases hv with ⟨pa, rfl, -⟩ | ⟨pa, rfl, -⟩
  · go_wp2_with fail
    refine hor.mono ?_
    rintro e w3 ⟨rfl, rfl⟩
    go_wp2_with fail
    refine bodyPost_ret (v := .tuple #[slvV (.iface 74 (.pointer pa)) A1 n1 c1 A2 n2 c2 (some ⟨g, 0, none⟩) q q, .int .i64 x]) ?_ rfl ?_
    · exact results_cell_tmp (P := Tryz.prog) rfl _ _ w.heap.size 100 _ (0, 0) _ rfl (set4_blk HO3.out _ _ _ _) Tryz.underlying100 rfl rfl _ rfl
    · have hbf := set4_below (g := w.heap.size) HB3.out (Nat.le_refl _) (.iface 74 (.pointer pa)) (.slice A1 n1 c1) (.slice A2 n2 c2) (.slice (some ⟨g, 0, none⟩) q q)
      refine ⟨A1, n1, c1, A2, n2, c2, some ⟨g, 0, none⟩, q, q, x, rfl, hbf, ?_⟩
      have hsv := HSV.out
      rcases hsv.ans with ⟨e1, e2, -, -⟩ | ⟨q1, e1, -, e2, -, -, e3⟩ | ⟨q1, e1, -, e2, hlo, hhi, hho⟩
      · exact absurd (e1.symm.trans HC.out) e2
      · exact .inl ⟨e2, q1, e1, e3⟩
      · have hqq : q1 = q := by have := HKQ.out; omega
        subst hqq
        have hqk : q1 ≤ 64 := by have := HK.out; have := HQ.out; omega
        have hqe : q0 = q1 := by have := HK.out; omega
        have hmm : ∀ b ∈ l, Bo.mayB S q1 b = true := hqe ▸ HM.out
        have hlt : w.heap.size < u.heap.size := lt_blk HO.out
        have ho1 := (hsv.kept.block _ hlt).trans HO.out
        have hne : ∀ o v, w1.cell? ⟨w.heap.size, o, none⟩ = some v → ∀ x : Nat, v ≠ La.nm x := fun o v hv x e => by
          rw [cell_blk ho1] at hv
          subst e
          have ho : o = 0 ∨ o = 1 ∨ o = 2 ∨ o = 3 := by
            have := (Array.getElem?_eq_some_iff.1 hv).1
            simp at this
            omega
          rcases ho with rfl | rfl | rfl | rfl <;> simp [La.nm] at hv
        have hk : ∀ k, k < w1.heap.size → k ≠ w.heap.size → (set4 (w2.alloc (.cells #[.int .i64 x, .int .i64 0] 51)) w.heap.size (.iface 74 (.pointer pa)) (.slice A1 n1 c1) (.slice A2 n2 c2) (.slice (some ⟨g, 0, none⟩) q1 q1)).heap[k]? = w1.heap[k]? := fun k h1 h2 => (set4_far h2 _ _ _ _).trans (HV3.out.block k h1)
        have hsz : w1.heap.size ≤ (set4 (w2.alloc (.cells #[.int .i64 x, .int .i64 0] 51)) w.heap.size (.iface 74 (.pointer pa)) (.slice A1 n1 c1) (.slice A2 n2 c2) (.slice (some ⟨g, 0, none⟩) q1 q1)).heap.size := by
          unfold set4
          rw [World.size_setCell, World.size_setCell, World.size_setCell, World.size_setCell]
          exact HV3.out.size
        have hgw := hsv.kept.size
        have far : ∀ k, w1.heap.size ≤ k → ∀ o, w2.heap[k]? = some o → (set4 (w2.alloc (.cells #[.int .i64 x, .int .i64 0] 51)) w.heap.size (.iface 74 (.pointer pa)) (.slice A1 n1 c1) (.slice A2 n2 c2) (.slice (some ⟨g, 0, none⟩) q1 q1)).heap[k]? = some o := fun k hk o h => (set4_far (by omega) _ _ _ _).trans ((HW3.out.block k (lt_blk h)).trans h)
        have sq := HSQ.out
        have hgot : Got S q1 l lo hi := ⟨HOK.out, hqk, hmm, hlo, hhi, hho⟩
        refine .inr ⟨e2, q1, lo, hi, e1, hgot, ⟨HS.out.keep hbf, hsv.rlo.off hne hk hsz, hsv.rhi.off hne hk hsz, rows_sqr ⟨far _ sq.gbase _ sq.blk, fun i hi => far _ (sq.bases i hi) _ (sq.rows i hi), sq.gbase, sq.bases, sq.apart⟩ hqk, hlo.has.1, hhi.has.1, (Bo.solve_fit HOK.out hsv.ans).1, (Bo.solve_fit HOK.out hsv.ans).2⟩⟩
  · go_wp2_with fail
    refine hor.mono ?_
    rintro e w3 ⟨rfl, rfl⟩
    go_wp2_with fail
    refine bodyPost_ret (v := .tuple #[slvV (.iface 77 (.pointer pa)) A1 n1 c1 A2 n2 c2 (some ⟨g, 0, none⟩) q q, .int .i64 x]) ?_ rfl ?_
    · exact results_cell_tmp (P := Tryz.prog) rfl _ _ w.heap.size 100 _ (0, 0) _ rfl (set4_blk HO3.out _ _ _ _) Tryz.underlying100 rfl rfl _ rfl
    · have hbf := set4_below (g := w.heap.size) HB3.out (Nat.le_refl _) (.iface 77 (.pointer pa)) (.slice A1 n1 c1) (.slice A2 n2 c2) (.slice (some ⟨g, 0, none⟩) q q)
      refine ⟨A1, n1, c1, A2, n2, c2, some ⟨g, 0, none⟩, q, q, x, rfl, hbf, ?_⟩
      have hsv := HSV.out
      rcases hsv.ans with ⟨e1, e2, -, -⟩ | ⟨q1, e1, -, e2, -, -, e3⟩ | ⟨q1, e1, -, e2, hlo, hhi, hho⟩
      · exact absurd (e1.symm.trans HC.out) e2
      · exact .inl ⟨e2, q1, e1, e3⟩
      · have hqq : q1 = q := by have := HKQ.out; omega
        subst hqq
        have hqk : q1 ≤ 64 := by have := HK.out; have := HQ.out; omega
        have hqe : q0 = q1 := by have := HK.out; omega
        have hmm : ∀ b ∈ l, Bo.mayB S q1 b = true := hqe ▸ HM.out
        have hlt : w.heap.size < u.heap.size := lt_blk HO.out
        have ho1 := (hsv.kept.block _ hlt).trans HO.out
        have hne : ∀ o v, w1.cell? ⟨w.heap.size, o, none⟩ = some v → ∀ x : Nat, v ≠ La.nm x := fun o v hv x e => by
          rw [cell_blk ho1] at hv
          subst e
          have ho : o = 0 ∨ o = 1 ∨ o = 2 ∨ o = 3 := by
            have := (Array.getElem?_eq_some_iff.1 hv).1
            simp at this
            omega
          rcases ho with rfl | rfl | rfl | rfl <;> simp [La.nm] at hv
        have hk : ∀ k, k < w1.heap.size → k ≠ w.heap.size → (set4 (w2.alloc (.cells #[.int .i64 x, .int .i64 0] 51)) w.heap.size (.iface 77 (.pointer pa)) (.slice A1 n1 c1) (.slice A2 n2 c2) (.slice (some ⟨g, 0, none⟩) q1 q1)).heap[k]? = w1.heap[k]? := fun k h1 h2 => (set4_far h2 _ _ _ _).trans (HV3.out.block k h1)
        have hsz : w1.heap.size ≤ (set4 (w2.alloc (.cells #[.int .i64 x, .int .i64 0] 51)) w.heap.size (.iface 77 (.pointer pa)) (.slice A1 n1 c1) (.slice A2 n2 c2) (.slice (some ⟨g, 0, none⟩) q1 q1)).heap.size := by
          unfold set4
          rw [World.size_setCell, World.size_setCell, World.size_setCell, World.size_setCell]
          exact HV3.out.size
        have hgw := hsv.kept.size
        have far : ∀ k, w1.heap.size ≤ k → ∀ o, w2.heap[k]? = some o → (set4 (w2.alloc (.cells #[.int .i64 x, .int .i64 0] 51)) w.heap.size (.iface 77 (.pointer pa)) (.slice A1 n1 c1) (.slice A2 n2 c2) (.slice (some ⟨g, 0, none⟩) q1 q1)).heap[k]? = some o := fun k hk o h => (set4_far (by omega) _ _ _ _).trans ((HW3.out.block k (lt_blk h)).trans h)
        have sq := HSQ.out
        have hgot : Got S q1 l lo hi := ⟨HOK.out, hqk, hmm, hlo, hhi, hho⟩
        refine .inr ⟨e2, q1, lo, hi, e1, hgot, ⟨HS.out.keep hbf, hsv.rlo.off hne hk hsz, hsv.rhi.off hne hk hsz, rows_sqr ⟨far _ sq.gbase _ sq.blk, fun i hi => far _ (sq.bases i hi) _ (sq.rows i hi), sq.gbase, sq.bases, sq.apart⟩ hqk, hlo.has.1, hhi.has.1, (Bo.solve_fit HOK.out hsv.ans).1, (Bo.solve_fit HOK.out hsv.ans).2⟩⟩
end Go.Proofs.YtmejhedegmjboaaGreat
