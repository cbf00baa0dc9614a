/- PairsOwn is true: what may be one variable, and the bounds, hang on what the sense says alone, not on its spots' terms. Condition: none but those of the statement. -/
import Derived.Test.YtmejhedegmjboaaGreatPaSb
import Derived.Test.YtmejhedegmjboaaGreatOpn
import Derived.Test.YtmejhedegmjboaaGreatRows
namespace Go.Proofs.YtmejhedegmjboaaGreat.I
open Go.RowKit PaC

/-! ### Spots with other terms and nodes -/
def SameS (z : Sen) (L : List Sp) : Prop := L.map Sp.s = z.p.map Sp.s
theorem SameS.len {z : Sen} {L : List Sp} (h : SameS z L) : L.length = z.p.length := by simpa using congrArg List.length h
theorem sd_other {z : Sen} {L : List Sp} (h : SameS z L) (i : Nat) : sd { z with p := L } i = sd z i := by
  have hg : ∀ (M : List Sp), (M.getD i ⟨0, 0, 0, false, 0⟩).s = (M.map Sp.s).getD i 0 := fun M => by
    rw [List.getD_eq_getElem?_getD, List.getD_eq_getElem?_getD, List.getElem?_map]
    cases M[i]? <;> rfl
  unfold sd
  rw [hg, hg]
  show (L.map Sp.s).getD i 0 = _
  rw [h]
theorem any_s (M : List Sp) : M.any (fun p => decide (2 < p.s)) = (M.map Sp.s).any fun s => decide (2 < s) := by rw [List.any_map]; rfl
theorem whole_other {z : Sen} {L : List Sp} (h : SameS z L) : wholeS { z with p := L } = wholeS z := by
  unfold wholeS
  show (decide (z.lo.length = L.length) && _) = _
  rw [h.len]
  show (decide (z.lo.length = z.p.length) && (decide (z.hi.length = z.p.length) && (decide (z.be.length = z.p.length) && (!L.any _ && _)))) = _
  rw [any_s L, h, ← any_s z.p]
theorem look_other {z : Sen} {L : List Sp} (h : SameS z L) : Look { z with p := L } = Look z := by
  funext i j
  unfold Look
  rw [sd_other h, sd_other h]
  show (_ ∧ (_ → _ ∧ ∀ k < L.length, _) ∧ (_ → _ ∧ ∀ k < L.length, _)) = _
  rw [h.len]
  rfl
theorem ok_other {z : Sen} {L : List Sp} (h : SameS z L) : okA { z with p := L } = okA z := by
  funext i
  unfold okA
  rw [sd_other h]
  rfl
theorem first_other {z : Sen} {L : List Sp} (h : SameS z L) : first { z with p := L } = first z := by
  funext i
  unfold first lookB
  rw [ok_other h, look_other h]
theorem fixB_other {S : Bo.Sr} {z : Sen} {L : List Sp} (h : SameS z L) : fixB S { z with p := L } = fixB S z := by
  funext i
  unfold fixB
  rw [sd_other h]
  show (if _ then (List.range L.length).all _ else if _ then (List.range L.length).all _ else _) = _
  rw [h.len]
  rfl
theorem valF_other {z : Sen} {L : List Sp} (h : SameS z L) : valF { z with p := L } = valF z := by
  funext i
  unfold valF
  rw [sd_other h]
  rfl

theorem cfg_other {S : Bo.Sr} {z : Sen} {L : List Sp} (h : SameS z L) : cfg S { z with p := L } = cfg S z := by
  have hl : ({ z with p := L } : Sen).p.length = z.p.length := h.len
  have e1 : sd { z with p := L } = sd z := funext (sd_other h)
  have e2 : soB { z with p := L } = soB z := by funext i j; unfold soB; rw [hl]; rfl
  have e3 : siB { z with p := L } = siB z := by funext i j; unfold siB; rw [hl]; rfl
  have e4 : mayB S { z with p := L } = mayB S z := by funext i j; unfold mayB leadsB fitsB; rw [hl]; rfl
  unfold cfg
  rw [hl, e1, e2, e3, e4, first_other h, fixB_other h]
theorem trm_other {S : Bo.Sr} {z : Sen} {L : List Sp} (h : SameS z L) : trmL S { z with p := L } = trmL S z ∧ trmN S { z with p := L } = trmN S z := by
  have hl : ({ z with p := L } : Sen).p.length = z.p.length := h.len
  have e : trm S { z with p := L } = trm S z := by funext i; unfold trm; rw [fixB_other h, valF_other h, cfg_other h]
  unfold trmL trmN
  rw [whole_other h, hl, e, cfg_other h]
  exact ⟨rfl, rfl⟩
theorem und_other {S : Bo.Sr} {z : Sen} {L : List Sp} (h : SameS z L) : undB S { z with p := L } = undB S z := by
  funext v w
  unfold undB
  rw [cfg_other h]
  rfl
theorem bds_other {S : Bo.Sr} {z : Sen} {L : List Sp} (h : SameS z L) : bds S { z with p := L } = bds S z := by
  have e1 : lowBd S { z with p := L } = lowBd S z := by funext v; unfold lowBd; rw [cfg_other h]; rfl
  have e2 : highBd S { z with p := L } = highBd S z := by funext v; unfold highBd; rw [cfg_other h]; rfl
  unfold bds bdsF bdsV covBd covB
  rw [(trm_other h).2, e1, e2, und_other h]
theorem bdsAns_other {S : Bo.Sr} {z : Sen} {L : List Sp} (h : SameS z L) (tl : List Tm) (n : Int) : bdsAns S { z with p := L } tl n = bdsAns S z tl n := by
  unfold bdsAns
  rw [(trm_other h).1, (trm_other h).2, bds_other h]

section
variable {α : Type} {enc : α → List Value} {sz : Nat}
theorem set_cellsG (he : ∀ x, (enc x).length = sz) {l : List α} {k : Nat} (h : k < l.length) {u : Value} {i : Nat} (hi : i < sz) {y : α} (hy : enc y = (enc l[k]).set i u) :
    (l.flatMap enc).set (k * sz + i) u = (l.set k y).flatMap enc := by
  induction l generalizing k with
  | nil => simp at h
  | cons x l ih =>
    cases k with
    | zero =>
      simp only [List.getElem_cons_zero] at hy
      rw [List.set_cons_zero, List.flatMap_cons, List.flatMap_cons, hy, Nat.zero_mul, Nat.zero_add, List.set_append_left _ _ (by rw [he]; exact hi)]
    | succ k =>
      simp only [List.getElem_cons_succ] at hy
      rw [List.set_cons_succ, List.flatMap_cons, List.flatMap_cons, List.set_append_right _ _ (by rw [he, Nat.add_mul]; omega), he, show (k + 1) * sz + i - sz = k * sz + i by rw [Nat.add_mul]; omega, ih (by simpa using h) hy]
end

theorem TwL.off67 {w W : World} {g q : Nat} {l : List (List Bool)} {cs : Array Value} (h : TwL w g l) (hq : w.heap[q]? = some (.cells cs 67 (0, 0))) (hk : ∀ b, b ≠ q → W.heap[b]? = w.heap[b]?) : TwL W g l := by
  obtain ⟨gs, gm, h1, h2, h3⟩ := h.ex
  have ht : ∀ (g t : Nat) (cs : Array Value), w.heap[g]? = some (.cells cs t (0, 0)) → t ≠ 67 → g ≠ q := fun g t cs hg hne e => by
    rw [e, hq] at hg
    injection hg with hg
    injection hg with _ hg
    exact hne hg.symm
  exact ⟨gs, gm, h1, (hk _ (ht _ _ _ h2 (by decide))).trans h2, fun i a b => ⟨(hk _ (ht _ _ _ (h3 i a b).blk (by decide))).trans (h3 i a b).blk⟩⟩

/-- A cell of a spot of the twin is stored into. -/
theorem TwSen.set {w0 w : World} {g1 g2 g3 g4 : Nat} {z : Sen} {n1 n2 n3 n4 : Nat} (h : TwSen w0 w g1 g2 g3 g4 z n1 n2 n3 n4) {k : Nat} (hk : k < z.p.length) {j : Nat} (hj : j < 5) {u : Value} {y : Sp} (hy : spc y = (spc z.p[k]).set j u) :
    TwSen w0 (w.setCell ⟨g1, k * 5 + j, none⟩ u) g1 g2 g3 g4 { z with p := z.p.set k y } n1 n2 n3 n4 := by
  have hb := h.t1.blk
  have off : ∀ b, b ≠ g1 → (w.setCell ⟨g1, k * 5 + j, none⟩ u).heap[b]? = w.heap[b]? := fun b hb => Below.heap_setCell w ⟨g1, k * 5 + j, none⟩ u b hb
  have ne : ∀ (g t : Nat) (cs : Array Value), w.heap[g]? = some (.cells cs t (0, 0)) → t ≠ 67 → g ≠ g1 := fun g t cs hg hne e => by
    rw [e, hb] at hg
    injection hg with hg
    injection hg with _ hg
    exact hne hg.symm
  refine ⟨⟨by show (z.p.set k y).length = _; rw [List.length_set]; exact h.t1.len, h.t1.top, h.t1.old, ?_⟩, ⟨h.t2.len, h.t2.top, h.t2.old, (off _ (ne _ _ _ h.t2.blk (by decide))).trans h.t2.blk⟩, ⟨h.t3.len, h.t3.top, h.t3.old, (off _ (ne _ _ _ h.t3.blk (by decide))).trans h.t3.blk⟩, h.t4.off67 hb off, h.l4⟩
  have hs := set_blk (i := k * 5 + j) hb u
  rw [List.setIfInBounds_toArray, set_cellsG spc_len (l := z.p ++ [bMark]) (k := k) (by simp; omega) hj (y := y) (by rw [List.getElem_append_left hk]; exact hy), List.set_append_left _ _ hk] at hs
  exact hs
theorem TwSen.drew {w0 w : World} {g1 g2 g3 g4 : Nat} {z : Sen} {n1 n2 n3 n4 : Nat} (h : TwSen w0 w g1 g2 g3 g4 z n1 n2 n3 n4) : TwSen w0 w.drew g1 g2 g3 g4 z n1 n2 n3 n4 := h.keep (Below.refl _ _).drew
theorem SameS.set {z : Sen} {L : List Sp} (h : SameS z L) {k : Nat} (hk : k < L.length) {y : Sp} (hy : y.s = L[k].s) : SameS z (L.set k y) := by
  unfold SameS
  rw [List.map_set, hy, ← h]
  apply List.ext_getElem (by simp)
  intro i h1 h2
  rw [List.getElem_set]
  split
  · rename_i e; subst e; simp
  · rfl
end Go.Proofs.YtmejhedegmjboaaGreat.I

namespace Go.Proofs.YtmejhedegmjboaaGreat
/-- Both senses, in their boxes. -/
structure B8' (w : World) (g g' : Nat) (A1 : Option Addr) (n1 c1 : Nat) (A2 : Option Addr) (n2 c2 : Nat) (A3 : Option Addr) (n3 c3 : Nat) (A4 : Option Addr) (n4 c4 : Nat) (B1 : Option Addr) (m1 d1 : Nat) (B2 : Option Addr) (m2 d2 : Nat) (B3 : Option Addr) (m3 d3 : Nat) (B4 : Option Addr) (m4 d4 : Nat) : Prop where
  a : I.ZB w g A1 n1 c1 A2 n2 c2 A3 n3 c3 A4 n4 c4
  b : I.ZB w g' B1 m1 d1 B2 m2 d2 B3 m3 d3 B4 m4 d4
end Go.Proofs.YtmejhedegmjboaaGreat

namespace Go.Proofs.YtmejhedegmjboaaGreat.pairsOwn
open Go.ChangeShapes Go.WideShapes Go.ChangeAt Go.RowKit

set_option maxRecDepth 100000 in
set_option maxHeartbeats 8000000 in
theorem walk (A5 : Option Addr) (n5 c5 : Nat) (k : Int) (rows : List Nat) (z : I.Sen) (A1 : Option Addr) (n1 c1 : Nat) (A2 : Option Addr) (n2 c2 : Nat) (A3 : Option Addr) (n3 c3 : Nat) (A4 : Option Addr) (n4 c4 : Nat) (A6 : Option Addr) (n6 c6 : Nat) (ts : List Tm) (w : World) (hr : Rd La.nm w w.heap.size A5 n5 c5 rows) (hrf : La.Fit rows) (h : I.SenAt w z A1 n1 c1 A2 n2 c2 A3 n3 c3 A4 n4 c4) (ht : Rs tmc 2 w w.heap.size A6 n6 c6 ts) :
    Calls Tryz.prog 6 #[zV A5 n5 c5 k, senV A1 n1 c1 A2 n2 c2 A3 n3 c3 A4 n4 c4, .slice A6 n6 c6] w fun e w' => e = .returned (.bool true) ∧ Below w.heap.size w w' := by
  have HSA : Hid (∀ W, Below w.heap.size w W → I.SenAt W z A1 n1 c1 A2 n2 c2 A3 n3 c3 A4 n4 c4) := Lib.hid fun W hW => h.keep hW
  have HT : Hid (∀ W, Below w.heap.size w W → Rs tmc 2 W W.heap.size A6 n6 c6 ts) := Lib.hid fun W hW => ht.at_size (Nat.le_refl _) hW
  have HPC : Hid (∀ W, Below w.heap.size w W → Calls Tryz.prog 10 #[zV A5 n5 c5 k] W fun e w' => ∃ a b, e = .returned (.tuple #[.iface 74 (.pointer a), .iface 77 (.pointer b)]) ∧ Both w' a b (laOf rows) (efOf k) ∧ Below W.heap.size W w') := Lib.hid fun W hW => of_sorts A5 n5 c5 k rows W (hr.at_size (Nat.le_refl _) hW) hrf
  have HGA := Lib.hid fun W (hW : Below w.heap.size w W) => I.greatS_any A1 n1 c1 A2 n2 c2 A3 n3 c3 A4 n4 c4 z W (h.keep hW)
  have HLEN := Lib.hid h.rp.len
  have HLT := Lib.hid ht.len
  have HTOP := Lib.hid (show n6 ≤ maxLen from Nat.le_trans ht.cap ht.top)
  have HFIT := Lib.hid (And.intro h.fl h.fh)
  obtain ⟨x, hx⟩ : ∃ x, w.alloc (.cells #[.slice A5 n5 c5, .int .i64 k] 24) = x := ⟨_, rfl⟩
  obtain ⟨y, hy⟩ : ∃ y, x.alloc (.cells #[.slice A1 n1 c1, .slice A2 n2 c2, .slice A3 n3 c3, .slice A4 n4 c4] 28) = y := ⟨_, rfl⟩
  have b0 : Below w.heap.size w x := hx ▸ (Below.refl _ _).alloc (Nat.le_refl _) _
  have sx : x.heap.size = w.heap.size + 1 := by rw [← hx, World.size_alloc]
  have b1 : Below x.heap.size x y := hy ▸ (Below.refl _ _).alloc (Nat.le_refl _) _
  have k0 : y.heap[w.heap.size]? = some (.cells #[.slice A5 n5 c5, .int .i64 k] 24 (0, 0)) := (b1.block _ (by rw [sx]; omega)).trans (hx ▸ heap_alloc_new w _)
  have k1 : y.heap[w.heap.size + 1]? = some (.cells #[.slice A1 n1 c1, .slice A2 n2 c2, .slice A3 n3 c3, .slice A4 n4 c4] 28 (0, 0)) := by rw [← sx, ← hy]; exact heap_alloc_new x _
  have hb : Below w.heap.size w y := b0.trans (b1.mono b0.size)
  have s0 := (cell_blk (i := 0) k0).trans rfl
  have s1 := (cell_blk (i := 1) k0).trans rfl
  have hzb := I.ZB.of k1
  have HB := Lib.hid hb
  have HZB := Lib.hid hzb
  have HS0 := Lib.hid s0
  have HS1 := Lib.hid s1
  have z0 := hzb.p0
  have z1 := hzb.p1
  have z2 := hzb.p2
  have z3 := hzb.p3
  have hga := HGA.out y hb
  have HG := Lib.hid hga
  clear b0 b1 sx k0 k1 hb hzb h hr hrf ht s1 hga HGA
  subst hx
  unfold senV at HG ⊢
  unfold zV at HPC ⊢
  go_enter Tryz.func6, Tryz.ntmps6
  go_wp2_with fail
  clear hy
  refine HG.out.mono ?_
  rintro e w1 ⟨⟨gr, rfl, hgr⟩, hv⟩
  have HGR := Lib.hid hgr
  have HV1 := Lib.hid hv
  replace s0 := cell_old s0 hv
  clear hv hgr z0 z1 z2 z3 HG
  cases gr with
  | true =>
    have HBZ := Lib.hid (HB.out.trans (HV1.out.mono HB.out.size))
    go_wp2_with fail
    refine (lives_any _).mono ?_
    rintro e wz ⟨rfl, hv⟩
    have HZ := Lib.hid (HBZ.out.trans (hv.mono HBZ.out.size))
    clear hv
    go_wp2_with fail
    go_ret
    exact ⟨rfl, HZ.out⟩
  | false =>
  by_cases hbig : 100 < n5
  · have hbig' : (100 : Int) < (n5 : Int) := by omega
    have HBZ := Lib.hid (HB.out.trans (HV1.out.mono HB.out.size))
    clear hbig
    go_wp2_with fail
    refine (lives_any _).mono ?_
    rintro e wz ⟨rfl, hv⟩
    have HZ := Lib.hid (HBZ.out.trans (hv.mono HBZ.out.size))
    clear hv
    go_wp2_with fail
    go_ret
    exact ⟨rfl, HZ.out⟩
  have hbig' : ¬ (100 : Int) < (n5 : Int) := by omega
  have HSM := Lib.hid (HGR.out rfl)
  have s1 := cell_old HS1.out HV1.out
  have hcp := HPC.out w1 (HB.out.trans (HV1.out.mono HB.out.size))
  have HCP := Lib.hid hcp
  clear hcp hbig HPC HGR
  go_wp2_with fail
  refine HCP.out.mono ?_
  rintro e w2 ⟨a, b, rfl, hbo, hv⟩
  have HV2 := Lib.hid (HV1.out.trans (hv.mono HV1.out.size))
  have HBO := Lib.hid hbo
  have HB2 := Lib.hid (HB.out.trans (HV2.out.mono HB.out.size))
  have hz2 := HZB.out.keep HV2.out
  have z0 := hz2.p0
  have z1 := hz2.p1
  have z2 := hz2.p2
  have z3 := hz2.p3
  have HTW := Lib.hid (I.twinSen_any A1 n1 c1 A2 n2 c2 A3 n3 c3 A4 n4 c4 z w2 (HSA.out w2 HB2.out) (by have := HSM.out.p; omega) (by have := HSM.out.lo; omega) (by have := HSM.out.hi; omega) (by have := HSM.out.be; omega) (fun r hr => by have := HSM.out.row r hr; omega))
  clear hv hbo s0 s1 hbig' hz2 HCP HV1
  unfold senV at HTW
  go_wp2_with fail
  refine HTW.out.mono ?_
  rintro e w3 ⟨g1, g2, g3, g4, rfl, htw, hv⟩
  have hal : Below w3.heap.size w3 (w3.alloc (.cells #[.slice (some ⟨g1, 0, none⟩) n1 (n1 + 1), .slice (some ⟨g2, 0, none⟩) n2 (n2 + 1), .slice (some ⟨g3, 0, none⟩) n3 (n3 + 1), .slice (some ⟨g4, 0, none⟩) n4 (n4 + 1)] 28)) := (Below.refl _ _).alloc (Nat.le_refl _) _
  have hko := heap_alloc_new w3 (.cells #[.slice (some ⟨g1, 0, none⟩) n1 (n1 + 1), .slice (some ⟨g2, 0, none⟩) n2 (n2 + 1), .slice (some ⟨g3, 0, none⟩) n3 (n3 + 1), .slice (some ⟨g4, 0, none⟩) n4 (n4 + 1)] 28)
  have hva := hv.trans (hal.mono hv.size)
  have HV4 := Lib.hid (HV2.out.trans (hva.mono HV2.out.size))
  have HT4 := Lib.hid (htw.keep hal)
  have HW24 := Lib.hid hva
  have HBO2 := HBO
  have hzo := I.ZB.of hko
  have y0 := hzo.p0
  clear hv hva hal htw z0 z1 z2 z3 HTW HBO HV4
  go_wp2_with fail
  generalize w3.alloc (.cells #[.slice (some ⟨g1, 0, none⟩) n1 (n1 + 1), .slice (some ⟨g2, 0, none⟩) n2 (n2 + 1), .slice (some ⟨g3, 0, none⟩) n3 (n3 + 1), .slice (some ⟨g4, 0, none⟩) n4 (n4 + 1)] 28) = w4 at *
  have HZO := Lib.hid hzo
  have HKO := Lib.hid hko
  clear hzo y0 hko
  generalize w3.heap.size = go at *
  go_loopw [10] (fun v10 wr => ∃ (i : Nat) (L : List I.Sp), v10 = .int .i64 (i : Int) ∧ i ≤ n1 ∧ i ≤ n6 ∧ I.SameS z L ∧ I.TwSen w2 wr g1 g2 g3 g4 { z with p := L } n1 n2 n3 n4 ∧ wr.heap[go]? = some (.cells #[.slice (some ⟨g1, 0, none⟩) n1 (n1 + 1), .slice (some ⟨g2, 0, none⟩) n2 (n2 + 1), .slice (some ⟨g3, 0, none⟩) n3 (n3 + 1), .slice (some ⟨g4, 0, none⟩) n4 (n4 + 1)] 28 (0, 0)) ∧ Below w2.heap.size w2 wr) (fun v10 _ => n1 - (intOf v10).toNat)
  case atStart => exact ⟨0, z.p, rfl, Nat.zero_le _, Nat.zero_le _, rfl, HT4.out, HKO.out, HW24.out⟩
  case round =>
    clear HT4 HKO HW24
    obtain ⟨i, L, rfl, hi, hi6, hS, htw, hko, hb⟩ := hrel
    have hzo := I.ZB.of hko
    have y0 := hzo.p0
    have hbw := HB2.out.trans (hb.mono HB2.out.size)
    have hn6 := HTOP.out
    unfold maxLen at hn6
    have hn1 := HSM.out.p
    by_cases hlt : i < n1 ∧ i < n6
    · obtain ⟨hlt1, hlt6⟩ := hlt
      have hiL : i < L.length := by rw [hS.len, HLEN.out]; exact hlt1
      have hit : i < ts.length := by rw [HLT.out]; exact hlt6
      obtain ⟨b6, o6, rfl, -, u0, u1⟩ := term_at (HT.out wr hbw) hit
      have HTW := Lib.hid htw
      have HS := Lib.hid hS
      have hgo : go ≠ g1 := fun e => by
        have := htw.t1.blk
        rw [← e, hko] at this
        injection this with this
        injection this with _ this
        exact absurd this (by decide)
      generalize ts[i] = tt at *
      obtain ⟨tv, tz⟩ := tt
      obtain ⟨b', o', e, -, e0, -, -, e3, e4⟩ := I.spot_at htw.t1.rs hiL
      injection e with e
      injection e with ea eb
      subst ea eb
      simp only [Nat.zero_add] at e0 e3 e4
      have f3 : wr.frozen? ⟨g1, i * 5 + 3, none⟩ = false := frozen_blk htw.t1.blk
      have f4 : wr.frozen? ⟨g1, i * 5 + 4, none⟩ = false := frozen_blk htw.t1.blk
      have h1 := HTW.out.drew.set (k := i) hiL (j := 3) (by decide) (u := .bool tv) (y := { L[i] with v := tv }) rfl
      have h2 := h1.set (k := i) (by show i < (L.set i _).length; rw [List.length_set]; exact hiL) (j := 4) (by decide) (u := .int .u64 tz) (y := { L[i] with v := tv, z := tz }) (by simp [I.spc])
      have hSS : I.SameS z ((L.set i { L[i] with v := tv }).set i { L[i] with v := tv, z := tz }) := by
        rw [List.set_set]
        exact hS.set hiL rfl
      have HSS := Lib.hid hSS
      have H3 := Lib.hid h2
      have hkd : wr.drew.heap[go]? = _ := hko
      have hk2 : ((wr.drew.setCell ⟨g1, i * 5 + 3, none⟩ (.bool tv)).setCell ⟨g1, i * 5 + 4, none⟩ (.int .u64 tz)).heap[go]? = _ := (Below.heap_setCell _ ⟨g1, i * 5 + 4, none⟩ _ go hgo).trans ((Below.heap_setCell _ ⟨g1, i * 5 + 3, none⟩ _ go hgo).trans hkd)
      have HK3 := Lib.hid hk2
      have hg1 := htw.t1.old
      have HB3 := Lib.hid (((hb.drew).setCell (p := ⟨g1, i * 5 + 3, none⟩) hg1 (.bool tv)).setCell (p := ⟨g1, i * 5 + 4, none⟩) hg1 (.int .u64 tz))
      have HL6 := Lib.hid (And.intro hlt1 hlt6)
      have hin : (i : Int) < (n1 : Int) := by omega
      have hin6 : (i : Int) < (n6 : Int) := by omega
      have hd3 : wr.drew.cell? ⟨g1, i * 5 + 3, none⟩ = _ := e3
      have hd4 : wr.drew.cell? ⟨g1, i * 5 + 4, none⟩ = _ := e4
      have hf3 : wr.drew.frozen? ⟨g1, i * 5 + 3, none⟩ = false := f3
      have hf4 : wr.drew.frozen? ⟨g1, i * 5 + 4, none⟩ = false := f4
      simp only at H3 HK3 HB3
      clear htw hS hit h1 h2 hSS hk2 hkd hg1 hb hbw hzo hko e0 e3 e4 f3 f4
      go_wp2_with fail
      go_still_tail 9, (by kernel_rfl)
      change wpList _ _ _ _ _ wr.drew
      clear y0 u0 u1
      generalize wr.drew = wd at *
      go_wp2_with fail
      go_roundw
      case rel => exact ⟨i + 1, _, by go_num, HL6.out.1, HL6.out.2, HSS.out, H3.out, HK3.out, HB3.out⟩
      case measure =>
        have := HL6.out
        simp [intOf]
        omega
    · have hc : ((i : Int) < (n1 : Int) ∧ ¬ (i : Int) < (n6 : Int)) ∨ ¬ (i : Int) < (n1 : Int) := by omega
      have HSO := Lib.hid (htw.at HFIT.out.1 HFIT.out.2 (by have := HSM.out.be; omega) (fun r hr => by have := HSM.out.row r hr; omega))
      have HSS := Lib.hid hS
      have HZO' := Lib.hid hzo
      have HBW := Lib.hid hbw
      have HB0 := Lib.hid hb
      have hzs := HZB.out.keep (HV2.out.trans (hb.mono HV2.out.size))
      have HZS := Lib.hid hzs
      have HBR := Lib.hid (HBO2.out.keep hb)
      have z0 := hzs.p0
      have z1 := hzs.p1
      have z2 := hzs.p2
      have z3 := hzs.p3
      have HF1 := Lib.hid (I.pairsOf_any (.iface 74 (.pointer a)) (laOf rows) z A1 n1 c1 A2 n2 c2 A3 n3 c3 A4 n4 c4 wr HBR.out.sl.into (HSA.out wr hbw) (by omega))
      clear hlt htw hS hzo hb hbw hzs hi hi6 hko hn6 hn1
      unfold senV at HF1
      rcases hc with ⟨hc1, hc2⟩ | hc1
      all_goals (
        go_wp2_with fail
        clear y0
        refine HF1.out.mono ?_
        rintro e w5 ⟨E, ne, ce, rfl, ho, hv⟩
        have HV5 := Lib.hid hv
        have HRB := Lib.hid (Rs.of_own tmc_len (by decide) ho)
        have ho := HZO'.out.keep hv
        have y0 := ho.p0
        have y1 := ho.p1
        have y2 := ho.p2
        have y3 := ho.p3
        have HF2 := Lib.hid (I.pairsOf_any (.iface 74 (.pointer a)) (laOf rows) _ _ _ _ _ _ _ _ _ _ _ _ _ w5 (HBR.out.keep hv).sl.into (HSO.out.keep hv) (by have := HSM.out.p; omega))
        rw [(I.trm_other HSS.out).1, (I.trm_other HSS.out).2] at HF2
        have hme : z.p.length = n1 := HLEN.out
        have hms := HSM.out.p
        have htl : (I.trmL (laOf rows) z).length ≤ 60000 := by
          unfold I.trmL
          split
          · rw [List.length_map, List.length_range]; omega
          · simp
        have HTL := Lib.hid htl
        clear z0 z1 z2 z3 hv ho HF1 hme hms htl
        unfold senV at HF2
        generalize I.trmN (laOf rows) z = tn at *
        go_wp2_with fail
        refine HF2.out.mono ?_
        rintro e w6 ⟨E', ne', ce', rfl, ho, hv⟩
        have hrb := Rs.of_own tmc_len (by decide) ho
        have HV6 := Lib.hid (HV5.out.trans (hv.mono HV5.out.size))
        have hrb1 := HRB.out.at_size (Nat.le_refl _) hv
        obtain rfl : ne = ne' := hrb1.len.symm.trans hrb.len
        have HNE : Hid (ne ≤ 60000) := Lib.hid (by rw [← hrb1.len]; exact HTL.out)
        have HST : Hid (∀ W, Below w6.heap.size w6 W → Calls Tryz.prog 23 #[.slice E ne ce, .slice E' ne ce'] W fun e w' => e = .returned (.bool true) ∧ Below W.heap.size W w') := Lib.hid fun W hW => I.sameT_any E E' ne ce ne ce' _ _ W (hrb1.at_size (Nat.le_refl _) hW) (hrb.at_size (Nat.le_refl _) hW) HNE.out true (by simp)
        have HO1 : Hid (∀ W, Below w6.heap.size w6 W → Calls Tryz.prog 14 #[.iface 74 (.pointer a), senV A1 n1 c1 A2 n2 c2 A3 n3 c3 A4 n4 c4, .slice E ne ce, .int .i64 (tn : Int)] W fun e w' => ∃ A' N' c', e = .returned (.slice A' N' c') ∧ w'.ownsRow W.heap.size 69 4 (.slice A' N' c') N' ((I.bdsAns (laOf rows) z (I.trmL (laOf rows) z) (tn : Int)).flatMap Bo.bdc) ∧ Below W.heap.size W w') := Lib.hid fun W hW => I.pairsBounds_any (.iface 74 (.pointer a)) (laOf rows) (laOf_ok _) z A1 n1 c1 A2 n2 c2 A3 n3 c3 A4 n4 c4 E ne ce _ _ W (HBR.out.keep (HV6.out.trans (hW.mono HV6.out.size))).sl.into (HSA.out W (HBW.out.trans ((HV6.out.trans (hW.mono HV6.out.size)).mono HBW.out.size))) (by have := HSM.out.p; omega) (hrb1.at_size (Nat.le_refl _) hW)
        have HO2 : Hid (∀ W, Below w6.heap.size w6 W → Calls Tryz.prog 14 #[.iface 74 (.pointer a), senV (some ⟨g1, 0, none⟩) n1 (n1 + 1) (some ⟨g2, 0, none⟩) n2 (n2 + 1) (some ⟨g3, 0, none⟩) n3 (n3 + 1) (some ⟨g4, 0, none⟩) n4 (n4 + 1), .slice E' ne ce', .int .i64 (tn : Int)] W fun e w' => ∃ A' N' c', e = .returned (.slice A' N' c') ∧ w'.ownsRow W.heap.size 69 4 (.slice A' N' c') N' ((I.bdsAns (laOf rows) z (I.trmL (laOf rows) z) (tn : Int)).flatMap Bo.bdc) ∧ Below W.heap.size W w') := Lib.hid fun W hW => by
          have h := I.pairsBounds_any (.iface 74 (.pointer a)) (laOf rows) (laOf_ok _) _ _ _ _ _ _ _ _ _ _ _ _ _ E' ne ce' _ (tn : Int) W (HBR.out.keep (HV6.out.trans (hW.mono HV6.out.size))).sl.into (HSO.out.keep (HV6.out.trans (hW.mono HV6.out.size))) (by have := HSM.out.p; omega) (hrb.at_size (Nat.le_refl _) hW)
          rw [I.bdsAns_other HSS.out] at h
          exact h
        have HKR : Hid (∀ W, Below w6.heap.size w6 W → B8' W (w.heap.size + 1) go A1 n1 c1 A2 n2 c2 A3 n3 c3 A4 n4 c4 (some ⟨g1, 0, none⟩) n1 (n1 + 1) (some ⟨g2, 0, none⟩) n2 (n2 + 1) (some ⟨g3, 0, none⟩) n3 (n3 + 1) (some ⟨g4, 0, none⟩) n4 (n4 + 1)) := Lib.hid fun W hW => B8'.mk (HZS.out.keep (HV6.out.trans (hW.mono HV6.out.size))) (HZO'.out.keep (HV6.out.trans (hW.mono HV6.out.size)))
        clear y0 y1 y2 y3 hrb ho hv hrb1 HF2 HRB HV5
        generalize I.bdsAns (laOf rows) z (I.trmL (laOf rows) z) (tn : Int) = bl at *
        unfold senV at HO1 HO2
        have gt : ((tn : Int) == (tn : Int)) = true := by simp
        go_wp2_with fail
        have hkp := HKR.out _ (Below.refl w6.heap.size w6).drew
        refine wp_region_ord [0, 1, 2, 3, 4, 5, 6, 7, 8, 9, 10, 11, 12, 14, 15, 16, 17, 13, 18, 19, 20, 21, 22, 23, 24] [6, 13, 18, 19, 22] 25 (fun W => B8' W (w.heap.size + 1) go A1 n1 c1 A2 n2 c2 A3 n3 c3 A4 n4 c4 (some ⟨g1, 0, none⟩) n1 (n1 + 1) (some ⟨g2, 0, none⟩) n2 (n2 + 1) (some ⟨g3, 0, none⟩) n3 (n3 + 1) (some ⟨g4, 0, none⟩) n4 (n4 + 1)) (by kernel_rfl) (by kernel_rfl) (by kernel_rfl) (by kernel_rfl) (fun _ _ _ _ _ h => h) hkp ?_
        simp only [steps, List.getElem?_cons_zero, List.getElem?_cons_succ]
        clear hkp
        have HVD := Lib.hid (show Below w6.heap.size w6 w6.drew from (Below.refl _ _).drew)
        generalize World.drew w6 = wc at *
        repeat (first
          | (refine ord_no rfl ?_; simp only [Act.put, List.setIfInBounds_toArray, List.set_cons_zero, List.set_cons_succ])
          | (refine ord_yes (v := ?_) rfl rfl ?_ ?_; rotate_left; (focus (rintro w' ⟨⟨x0, x1, x2, x3⟩, ⟨x4, x5, x6, x7⟩⟩; go_simp; try with_reducible rfl)); simp only [Act.put, List.setIfInBounds_toArray, List.set_cons_zero, List.set_cons_succ]))
        refine ord_hard rfl rfl (fun K hK => ?_)
        go_simp
        refine (HST.out _ HVD.out).mono ?_
        rintro e w7 ⟨rfl, hv⟩
        have HV7 := Lib.hid (HVD.out.trans (hv.mono HVD.out.size))
        have hkp := HKR.out _ HV7.out
        clear hv HST HVD
        refine hK.out _ _ (fun _ => hkp) ?_
        clear hK K hkp
        try simp only [Act.put, List.setIfInBounds_toArray, List.set_cons_zero, List.set_cons_succ]
        repeat (first
          | (refine ord_no rfl ?_; simp only [Act.put, List.setIfInBounds_toArray, List.set_cons_zero, List.set_cons_succ])
          | (refine ord_yes (v := ?_) rfl rfl ?_ ?_; rotate_left; (focus (rintro w' ⟨⟨x0, x1, x2, x3⟩, ⟨x4, x5, x6, x7⟩⟩; go_simp; try with_reducible rfl)); simp only [Act.put, List.setIfInBounds_toArray, List.set_cons_zero, List.set_cons_succ]))
        refine ord_hard rfl rfl (fun K hK => ?_)
        go_simp
        refine (HO1.out _ HV7.out).mono ?_
        rintro e w8 ⟨P, np, cp, rfl, ho, hv⟩
        have HP := Lib.hid (Rs.of_own Bo.bdc_len (by decide) ho)
        have HV8 := Lib.hid (HV7.out.trans (hv.mono HV7.out.size))
        have hkp := HKR.out _ HV8.out
        clear ho hv HO1 HV7
        refine hK.out _ _ (fun _ => hkp) ?_
        clear hK K hkp
        try simp only [Act.put, List.setIfInBounds_toArray, List.set_cons_zero, List.set_cons_succ]
        repeat (first
          | (refine ord_no rfl ?_; simp only [Act.put, List.setIfInBounds_toArray, List.set_cons_zero, List.set_cons_succ])
          | (refine ord_yes (v := ?_) rfl rfl ?_ ?_; rotate_left; (focus (rintro w' ⟨⟨x0, x1, x2, x3⟩, ⟨x4, x5, x6, x7⟩⟩; go_simp; try with_reducible rfl)); simp only [Act.put, List.setIfInBounds_toArray, List.set_cons_zero, List.set_cons_succ]))
        refine ord_hard rfl rfl (fun K hK => ?_)
        go_simp
        refine (HO2.out _ HV8.out).mono ?_
        rintro e w9 ⟨P', np', cp', rfl, ho, hv⟩
        have hp' := Rs.of_own Bo.bdc_len (by decide) ho
        have hp := HP.out.at_size (Nat.le_refl _) hv
        obtain rfl : np = np' := hp.len.symm.trans hp'.len
        have HSB := Lib.hid (I.sameB_any P P' np cp cp' _ w9 hp hp')
        have HV9 := Lib.hid (HV8.out.trans (hv.mono HV8.out.size))
        have hkp := HKR.out _ HV9.out
        clear ho hv hp hp' HO2 HV8 HP
        refine hK.out _ _ (fun _ => hkp) ?_
        clear hK K hkp
        try simp only [Act.put, List.setIfInBounds_toArray, List.set_cons_zero, List.set_cons_succ]
        repeat (first
          | (refine ord_no rfl ?_; simp only [Act.put, List.setIfInBounds_toArray, List.set_cons_zero, List.set_cons_succ])
          | (refine ord_yes (v := ?_) rfl rfl ?_ ?_; rotate_left; (focus (rintro w' ⟨⟨x0, x1, x2, x3⟩, ⟨x4, x5, x6, x7⟩⟩; go_simp; try with_reducible rfl)); simp only [Act.put, List.setIfInBounds_toArray, List.set_cons_zero, List.set_cons_succ]))
        refine ord_hard rfl rfl (fun K hK => ?_)
        go_simp
        refine (HSB.out).mono ?_
        rintro e w10 ⟨rfl, hv⟩
        have HV10 := Lib.hid (HV9.out.trans (hv.mono HV9.out.size))
        have hkp := HKR.out _ HV10.out
        clear hv HSB HV9
        refine hK.out _ _ (fun _ => hkp) ?_
        clear hK K hkp
        try simp only [Act.put, List.setIfInBounds_toArray, List.set_cons_zero, List.set_cons_succ]
        repeat (first
          | (refine ord_no rfl ?_; simp only [Act.put, List.setIfInBounds_toArray, List.set_cons_zero, List.set_cons_succ])
          | (refine ord_yes (v := ?_) rfl rfl ?_ ?_; rotate_left; (focus (rintro w' ⟨⟨x0, x1, x2, x3⟩, ⟨x4, x5, x6, x7⟩⟩; go_simp; try with_reducible rfl)); simp only [Act.put, List.setIfInBounds_toArray, List.set_cons_zero, List.set_cons_succ]))
        refine ord_hard rfl rfl (fun K hK => ?_)
        go_simp
        refine (lives_any _).mono ?_
        rintro e w11 ⟨rfl, hv⟩
        have HV11 := Lib.hid (HV10.out.trans (hv.mono HV10.out.size))
        have hkp := HKR.out _ HV11.out
        clear hv HV10
        refine hK.out _ _ (fun _ => hkp) ?_
        clear hK K hkp
        try simp only [Act.put, List.setIfInBounds_toArray, List.set_cons_zero, List.set_cons_succ]
        repeat (first
          | (refine ord_no rfl ?_; simp only [Act.put, List.setIfInBounds_toArray, List.set_cons_zero, List.set_cons_succ])
          | (refine ord_yes (v := ?_) rfl rfl ?_ ?_; rotate_left; (focus (rintro w' ⟨⟨x0, x1, x2, x3⟩, ⟨x4, x5, x6, x7⟩⟩; go_simp; try with_reducible rfl)); simp only [Act.put, List.setIfInBounds_toArray, List.set_cons_zero, List.set_cons_succ]))
        refine ord_end ?_
        have HZ := Lib.hid (HBW.out.trans ((HV6.out.trans (HV11.out.mono HV6.out.size)).mono HBW.out.size))
        go_wp2_with fail
        go_ret
        exact ⟨rfl, HZ.out⟩)

theorem own : ownKnob Tryz.prog.godebug = none := by kernel_rfl
theorem laidOut : laidOutB Tryz.prog = true := by kernel_rfl

set_option maxRecDepth 100000 in
theorem lifted (os : Os) (started : os.Started) (H : Type) (enc : TypeId × Value → H) :
    ReturnsInHanded {} Tryz.checked os 6 .any (Rows.pairsOwnSpec.pre6 enc Tryz.prog Tryz.f6 Rows.pairsOwnRow.domain false) (Rows.pairsOwnSpec.post enc Tryz.prog Tryz.f6 false true false false) := by
  refine returnsInHanded_of_change (C := Tryz.checked) own started (by kernel_rfl) Tryz.func6
    (ChangeSpec.witness6 (enc := enc) (C := Tryz.checked) false ⟨#[], #[.agg #[.slice none 0 0, .int .i64 0], .agg #[.slice none 0 0, .slice none 0 0, .slice none 0 0, .slice none 0 0], .slice none 0 0], []⟩ 8 (by kernel_rfl) (by kernel_rfl) (by kernel_rfl) (by kernel_rfl)) ?_
  intro W base args ds gs before hval0 hW hcnd _
  have hval : ∀ (j : Nat) t v, Tryz.f6.params[j]? = some t → args[j]? = some v → Value.okWide Tryz.prog W .any base t v := hval0
  have hW' := hW
  obtain ⟨p, q, hA0, hV, rfl, hfz, hnd⟩ := hW
  have hA : DataW.TrodAll enc Tryz.prog W 0 (fun _ => true) true Tryz.f6.params.toList args.toList ds p := hA0
  rw [Tryz.params6] at hA hval
  obtain ⟨v0, vs0, d0, ds0, p0, q0, hargs, rfl, rfl, h0, r0⟩ := trodAll_cons hA
  obtain ⟨v1, vs1, d1, ds1, p1, q1, rfl, rfl, rfl, h1, r1⟩ := trodAll_cons r0
  obtain ⟨v2, vs2, d2, ds2, p2, q2, rfl, rfl, rfl, h2, r2⟩ := trodAll_cons r1
  obtain ⟨rfl, rfl, rfl⟩ := trodAll_nil r2
  obtain rfl : args = #[v0, v1, v2] := by cases args; simp_all
  obtain ⟨rfl, rfl⟩ := trodVars_none hV
  have lt0 : ∀ x ∈ p0, x.block < W.heap.size := by obtain ⟨m, hm⟩ := h0; exact DataW.trod_lt m _ _ _ hm
  have lt1 : ∀ x ∈ p1, x.block < W.heap.size := by obtain ⟨m, hm⟩ := h1; exact DataW.trod_lt m _ _ _ hm
  obtain ⟨A6, n6, c6, rfl⟩ := okWide_slice Tryz.underlying29 (hval 2 29 v2 rfl rfl)
  have lt2 : ∀ x ∈ p2, x.block < W.heap.size := by obtain ⟨m, hm⟩ := h2; exact DataW.trod_lt m _ _ _ hm
  obtain ⟨A5, n5, c5, k, rows, rfl, hr, hrf⟩ := opened_sorts h0
  obtain ⟨z, A1, n1, c1, A2, n2, c2, A3, n3, c3, A4, n4, c4, rfl, ha⟩ := I.opened_sense h1
  clear hA0 hval0
  obtain ⟨ts, ht⟩ := opened_terms h2
  refine (walk A5 n5 c5 k rows z A1 n1 c1 A2 n2 c2 A3 n3 c3 A4 n4 c4 A6 n6 c6 ts W hr hrf ha ht).mono fun e W' ⟨he, bel⟩ => ?_
  subst he
  exact ⟨_, rfl, _, _, _, [], _, [], hW', trodAll_mk1 (shut_bool Tryz.underlying4 _), (trodAll_cons_mk (Below.trod laidOut (by kernel_rfl) (of_decide_eq_true (by kernel_rfl)) h0 bel lt0) (trodAll_cons_mk (Below.trod laidOut (by kernel_rfl) (of_decide_eq_true (by kernel_rfl)) h1 bel lt1) (trodAll_cons_mk (Below.trod laidOut (by kernel_rfl) (of_decide_eq_true (by kernel_rfl)) h2 bel lt2) trodAll_mk0))), rfl, bel.frame _, fun h => by cases h⟩

theorem over : Rows.pairsOwnRow.holds Tryz.pinned (OpenSpec.ofChange Rows.pairsOwnSpec) :=
  OpenClaim.holds_of_wide 6 Tryz.f6 rfl rfl rfl rfl rfl rfl rfl ⟨rfl, rfl, rfl, rfl, rfl⟩ rfl rfl rfl rfl rfl (by kernel_rfl) Tryz.func6 (by kernel_rfl)
    (of_decide_eq_true (by kernel_rfl)) (by unfold Func.isWrapper; first | (rw [if_pos (by decide +kernel)]; kernel_rfl) | (rw [if_neg (by decide +kernel)]; exact ⟨rfl, rfl⟩))
    (fun os started H enc _ => lifted os started H enc)

theorem proved : Rows.PairsOwnSaid := over
end Go.Proofs.YtmejhedegmjboaaGreat.pairsOwn
