/- Of a scheme that may be there is a ground of any values of as many; with one more, or one fewer, there is none: SchemesValues is true, whatever scheme, labels, effects and values are handed in. Condition: none but those of the statement. -/
import Derived.Test.YtmiconjmeaammaaEx
import Derived.Test.YtmiconjmeaammaaTell
import Derived.Test.YtmiconjmeaammaaRows
namespace Go.Proofs.Ytmiconjmeaammaa.Bo
open Go

section
variable (P : Program) (ops : Array Oper)

/-- Operations that yield the same in every world that meets S, in the given order; then E. -/
def wpSoft (S : World → Prop) (E : Act → World → Prop) : List (Nat × Oper) → Act → World → Prop
  | [], a, w => E a w
  | (_, o) :: r, a, w => Region.wanted o (yielded ops a.tmps) = true ∧ ∃ v, (∀ w', S w' → (execOp a.eval o).run P w' = .ok (.value v) w') ∧ wpSoft S E r (a.put o.dst v) w

def okSoft (stop : Nat) : List (Nat × Oper) → Array Bool → Bool
  | [], _ => true
  | x :: r, listed => (Region.ready .any ops listed).contains x.1 && Region.free .any ops listed x.1 && waits ops stop x.1 && x.1 != stop && okSoft stop r (listed.setIfInBounds x.1 true)

/-- What is listed behind them. -/
def marks : List (Nat × Oper) → Array Bool → Array Bool
  | [], listed => listed
  | x :: r, listed => marks r (listed.setIfInBounds x.1 true)
end

section
variable {P : Program} {ops : Array Oper} {Q : Exit → Act → World → Prop} {S : World → Prop} {stop : Nat} {hards : List Nat}

theorem soft_any (hsel : Region.noSelect ops = true) (hQ : ∀ c a d v w, Q (.panic c) (Act.put a (some d) v) w → Q (.panic c) a w) {E : Act → World → Prop} {rest : Nat} :
    ∀ (order : List (Nat × Oper)) (listed : Array Bool) (a : Act) (w : World), (∀ x ∈ order, ops[x.1]? = some x.2) → okSoft ops stop order listed = true → S w →
      (∀ a w, S w → E a w → wpAnyG P ops Q S stop rest (marks order listed) a w) → wpSoft P ops S E order a w → wpAnyG P ops Q S stop (order.length + rest) listed a w
  | [], listed, a, w, _, _, hS, hE, h => by
    rw [List.length_nil, Nat.zero_add]
    exact hE a w hS h
  | (i, o) :: r, listed, a, w, hm, hok, hS, hE, ⟨hw, v, hy, h⟩ => by
    simp only [okSoft, Bool.and_eq_true, bne_iff_ne, ne_eq] at hok
    obtain ⟨⟨⟨⟨hc, hf⟩, hwt⟩, hns⟩, hrest⟩ := hok
    have ho : ops[i]? = some o := hm (i, o) List.mem_cons_self
    have ih := soft_any hsel hQ r (listed.setIfInBounds i true) (a.put o.dst v) w (fun x hx => hm x (List.mem_cons_of_mem _ hx)) hrest hS hE h
    rw [List.length_cons, show r.length + 1 + rest = (r.length + rest) + 1 by omega]
    exact anyG_first ho (Region.noSelect_spec hsel) (fun c a w => put_any_dst hQ c a _ _ w) hns (waits_spec hwt) _ listed a w (Region.free_spec ho hf) (by simpa using hc) (.inl ⟨hw, hy⟩) hS ih

/-- Two may come up: both ways. -/
theorem fork_any {i j : Nat} {oi oj : Oper} {listed : Array Bool} {a : Act} {w : World} {fuel : Nat} (hr : Region.ready .any ops listed = [i, j]) (hi : ops[i]? = some oi) (hj : ops[j]? = some oj)
    (hwi : Region.wanted oi (yielded ops a.tmps) = true) (hwj : Region.wanted oj (yielded ops a.tmps) = true)
    (h1 : Oper.wp P oi a w (fun a' w' => (i ≠ stop → S w') ∧ wpAnyG P ops Q S stop fuel (listed.setIfInBounds i true) a' w') Q)
    (h2 : Oper.wp P oj a w (fun a' w' => (j ≠ stop → S w') ∧ wpAnyG P ops Q S stop fuel (listed.setIfInBounds j true) a' w') Q) : wpAnyG P ops Q S stop (fuel + 1) listed a w := by
  refine ⟨fun h0 => (by rw [hr] at h0; cases h0), fun k hk => ?_⟩
  rw [hr] at hk
  have hk' : k = i ∨ k = j := by simpa using hk
  unfold wpOp
  rcases hk' with rfl | rfl
  · simp only [hi, hwi, if_true]
    exact .inl h1
  · simp only [hj, hwj, if_true]
    exact .inl h2

theorem wp_region_fork {id : Nat} {l : List Oper} {a : Act} {w : World} (first : List Nat) (i j : Nat) (oi oj : Oper) (ri rj : List Nat) (hards : List Nat) (stop : Nat) (S : World → Prop) (hm : P.follows .mixedOrders = true) (hsel : Region.noSelect l.toArray = true)
    (hi : l[i]? = some oi) (hj : l[j]? = some oj) (hgi : oi.guard = none) (hgj : oj.guard = none)
    (hok : okSoft l.toArray stop (steps l first) (Array.replicate l.length false) = true) (hr : (Region.ready .any l.toArray (marks (steps l first) (Array.replicate l.length false)) == [i, j]) = true)
    (hoki : okOrd l.toArray stop hards (steps l ri) ((marks (steps l first) (Array.replicate l.length false)).setIfInBounds i true) = true)
    (hokj : okOrd l.toArray stop hards (steps l rj) ((marks (steps l first) (Array.replicate l.length false)).setIfInBounds j true) = true)
    (hleni : ((steps l first).length + (steps l ri).length + 1 == l.length) = true) (hlenj : ((steps l rj).length == (steps l ri).length) = true)
    (hQ : ∀ c a d v w, Q (.panic c) (Act.put a (some d) v) w → Q (.panic c) a w) (hS : S w.drew)
    (h : wpSoft P l.toArray S (fun a w => Oper.wp P oi a w (fun a' w' => S w' ∧ wpOrd P l.toArray Q S stop hards (steps l ri) a' w') Q ∧ Oper.wp P oj a w (fun a' w' => S w' ∧ wpOrd P l.toArray Q S stop hards (steps l rj) a' w') Q) (steps l first) a w.drew) :
    (Code.region id l.toArray true).wp P Q a w := by
  have hmem : ∀ (o : List Nat) (x : Nat × Oper), x ∈ steps l o → l.toArray[x.1]? = some x.2 := fun o x hx => by rw [List.getElem?_toArray]; exact steps_mem l o x hx
  have hlen : (steps l first).length + ((steps l ri).length + 1) = l.toArray.size := by rw [List.size_toArray]; simp only [beq_iff_eq] at hleni; omega
  simp only [beq_iff_eq] at hr hlenj
  suffices key : wpAnyG P l.toArray Q S stop ((steps l first).length + ((steps l ri).length + 1)) (Array.replicate l.length false) a w.drew by
    rw [hlen] at key
    exact wp_region_any hm (anyG_any (S := S) (stop := stop) _ _ _ _ key)
  refine soft_any hsel hQ (steps l first) _ a w.drew (hmem first) hok hS (fun a w _ hE => ?_) h
  refine fork_any hr (by rw [List.getElem?_toArray]; exact hi) (by rw [List.getElem?_toArray]; exact hj) (by simp [Region.wanted, hgi]) (by simp [Region.wanted, hgj]) ?_ ?_
  · exact Oper.wp_mono (fun a' w' ⟨s1, s2⟩ => ⟨fun _ => s1, ord_any hsel hQ (steps l ri) _ _ a' w' (hmem ri) (Nat.le_refl _) hoki (fun _ => s1) s2⟩) hE.1
  · exact Oper.wp_mono (fun a' w' ⟨s1, s2⟩ => ⟨fun _ => s1, ord_any hsel hQ (steps l rj) _ _ a' w' (hmem rj) (by omega) hokj (fun _ => s1) s2⟩) hE.2

theorem soft_yes {E : Act → World → Prop} {i : Nat} {r : List (Nat × Oper)} {a : Act} {w : World} {o : Oper} {v : Value} (hw : Region.wanted o (yielded ops a.tmps) = true)
    (hy : ∀ w', S w' → (execOp a.eval o).run P w' = .ok (.value v) w') (h : wpSoft P ops S E r (a.put o.dst v) w) : wpSoft P ops S E ((i, o) :: r) a w :=
  ⟨hw, v, hy, h⟩

theorem soft_end {E : Act → World → Prop} {a : Act} {w : World} (h : E a w) : wpSoft P ops S E [] a w := h
end

end Go.Proofs.Ytmiconjmeaammaa.Bo

namespace Go.Proofs.Ytmiconjmeaammaa.schemesValues
open Go.ChangeShapes Go.WideShapes Go.ChangeAt Go.RowKit

theorem hard_end {P : Program} {o : Oper} {a : Act} {w : World} {Q : Exit → Act → World → Prop} {R : Act → World → Prop} (h : ∀ K : Act → World → Prop, Shut (∀ a' w', R a' w' → K a' w') → Oper.wp P o a w K Q) : Oper.wp P o a w R Q := h _ (fun _ _ h => h)

/-- The first q values, gone round from the d-th on. -/
def rowOf (u : List Nat) (d q : Nat) : List Nat := (List.range q).map fun i => u.getD ((i + d) % u.length) 0
theorem rowOf_len (u : List Nat) (d q : Nat) : (rowOf u d q).length = q := by simp [rowOf]
theorem rowOf_next (u : List Nat) (d q : Nat) : rowOf u d (q + 1) = rowOf u d q ++ [u.getD ((q + d) % u.length) 0] := by
  unfold rowOf
  rw [List.range_succ, List.map_append]
  rfl

/-- i values are there. -/
def VrRel (u : List Nat) (d q : Nat) (wB : World) (v9 v11 : Value) (wr : World) : Prop :=
  ∃ (i : Nat) (A : Option Addr) (c : Nat), v11 = .int .i64 (i : Int) ∧ v9 = .slice A i c ∧ i ≤ q ∧ wr.ownsRow wB.heap.size 44 1 (.slice A i c) i ((rowOf u d i).map La.nm) ∧ Below wB.heap.size wB wr

set_option maxRecDepth 100000 in
set_option maxHeartbeats 16000000 in
theorem walk (s : Sch) (A : Option Addr) (n c : Nat) (A1 : Option Addr) (n1 c1 : Nat) (A2 : Option Addr) (n2 c2 : Nat) (A3 : Option Addr) (n3 c3 : Nat) (k : Int) (rows : List Nat) (A4 : Option Addr) (n4 c4 : Nat) (u : List Nat) (w : World) (h : SchAt w s A n c A1 n1 c1 A2 n2 c2) (hr : Rd La.nm w w.heap.size A3 n3 c3 rows) (hrf : La.Fit rows) (hu : Rd La.nm w w.heap.size A4 n4 c4 u) :
    Calls Try.prog 4 #[schV s A n c A1 n1 c1 A2 n2 c2, zV A3 n3 c3 k, .slice A4 n4 c4] w fun e w' => e = .returned (.bool true) ∧ Below w.heap.size w w' := by
  have HGC := Lib.hid fun W r hr => great_any s A n c A1 n1 c1 A2 n2 c2 A3 n3 c3 k W r hr
  obtain ⟨gr, hgr⟩ : ∃ r, grt n3 n n1 n2 = r := ⟨_, rfl⟩
  have HGR := Lib.hid hgr
  have HOF := Lib.hid fun W (h : Rd La.nm W W.heap.size A3 n3 c3 rows) => of_sorts A3 n3 c3 k rows W h hrf
  generalize laOf rows = S at HOF
  generalize efOf k = X at HOF
  obtain ⟨xc, hxc⟩ : ∃ x, s.check S X = x := ⟨_, rfl⟩
  have HCC := Lib.hid fun (W : World) v v' (h : SchAt W s A n c A1 n1 c1 A2 n2 c2) (hS : Bo.SrtIn W v S) (hX : Bo.SrtIn W v' X) => schCheck_any s A n c A1 n1 c1 A2 n2 c2 v v' S X W h hS hX xc hxc
  have HG := Lib.hid fun (W : World) (B1 : Option Addr) (m1 d1 : Nat) (a : List Nat) (B2 : Option Addr) (m2 d2 : Nat) (b : List Nat) (r : Nat) (hg : s.grE a b = r) (h : SchAt W s A n c A1 n1 c1 A2 n2 c2) (ha : Rd La.nm W W.heap.size B1 m1 d1 a) (hb : Rd La.nm W W.heap.size B2 m2 d2 b) => schGround_any s A n c A1 n1 c1 A2 n2 c2 B1 m1 d1 a B2 m2 d2 b W h ha hb r hg
  have HYES := Lib.hid (fun (e : xc = 0) (a b : List Nat) (e1 : (a.length : Int) = s.lv) (e2 : (b.length : Int) = s.ev) => Sch.gr_all (hxc.trans e) (u := a) (x := b) e1 e2)
  have HNO := Lib.hid (fun (e : xc = 0) (a b : List Nat) (e1 : (a.length : Int) ≠ s.lv ∨ (b.length : Int) ≠ s.ev) => Sch.gr_no (hxc.trans e) (u := a) (x := b) e1)
  have HLIM := Lib.hid (fun e : xc = 0 => (Sch.check_is.1 (hxc.trans e)).2.1)
  have HLIM2 := Lib.hid (fun e : xc = 0 => (Sch.check_is.1 (hxc.trans e)).2.2.1)
  have HUL := Lib.hid hu.len
  obtain ⟨i0, hi0, iz0, iz1, iz2⟩ := info_parts La.nm_inf
  have HI0 := Lib.hid (And.intro hi0 (And.intro iz0 (And.intro iz1 iz2)))
  clear hi0 iz0 iz1 iz2
  clear hgr hxc hrf
  generalize hse : Sch.grE s = GE at *
  clear hse
  generalize hsn : Sch.grN s = GN at *
  clear hsn
  obtain ⟨lv, ev, bo, sl, se⟩ := s
  simp only at HYES HNO HLIM HLIM2
  unfold schV zV at HGC
  unfold zV at HOF
  unfold schV at HCC HG
  unfold schV zV
  have hal : Below w.heap.size w (w.alloc (.cells #[.int .i64 lv, .int .i64 ev, .slice A n c, .slice A1 n1 c1, .slice A2 n2 c2] 25)) := (Below.refl _ _).alloc (Nat.le_refl _) _
  have hz := Box.new w lv ev A n c A1 n1 c1 A2 n2 c2
  generalize hwa : w.alloc (.cells #[.int .i64 lv, .int .i64 ev, .slice A n c, .slice A1 n1 c1, .slice A2 n2 c2] 25) = wa at hal hz
  have hb : Below w.heap.size w (wa.alloc (.cells #[.slice A3 n3 c3, .int .i64 k] 31)) := hal.alloc hal.size _
  have hv : Below wa.heap.size wa (wa.alloc (.cells #[.slice A3 n3 c3, .int .i64 k] 31)) := (Below.refl _ _).alloc (Nat.le_refl _) _
  replace hz := hz.keep hv
  have hbx := heap_alloc_new wa (.cells #[.slice A3 n3 c3, .int .i64 k] 31)
  have y0 : _ = some (Value.slice A3 n3 c3) := (cell_blk (i := 0) hbx).trans rfl
  have y1 : _ = some (Value.int .i64 k) := (cell_blk (i := 1) hbx).trans rfl
  clear hbx hv hal
  subst hwa
  simp only [World.size_alloc] at y0 y1
  replace h := h.keep hb
  replace hr := hr.at_size (Nat.le_refl _) hb
  replace hu := hu.at_size (Nat.le_refl _) hb
  go_enter Try.func4, Try.ntmps4
  go_wp2_with fail
  refine (HOF.out _ hr).mono ?_
  rintro e w1 ⟨a, b, rfl, hS, hv⟩
  clear HOF hr
  replace hz := hz.keep hv
  replace h := h.keep hv
  replace hu := hu.at_size (Nat.le_refl _) hv
  replace y0 := cell_old y0 hv
  replace y1 := cell_old y1 hv
  replace hb := hb.trans (hv.mono hb.size)
  clear hv
  have hz0 := hz.z0
  have hz1 := hz.z1
  have hz2 := hz.z2
  have hz3 := hz.z3
  have hz4 := hz.z4
  go_wp2_with fail
  refine (HGC.out _ _ HGR.out).mono ?_
  rintro e w2 ⟨rfl, hv⟩
  clear HGC HGR y0 y1
  clear hz0 hz1 hz2 hz3 hz4
  replace hz := hz.keep hv
  replace h := h.keep hv
  replace hS := hS.keep hv
  replace hu := hu.at_size (Nat.le_refl _) hv
  replace hb := hb.trans (hv.mono hb.size)
  clear hv
  cases gr with
  | true =>
    go_wp2_with fail
    refine (alive_any _).mono ?_
    rintro e wz ⟨rfl, hv⟩
    replace hb := hb.trans (hv.mono hb.size)
    clear hv
    go_wp2_with fail
    go_ret
    exact ⟨rfl, hb⟩
  | false =>
  by_cases g1 : n4 = 0
  · have g1' : ((n4 : Int) == 0) = true := by simp [g1]
    clear g1 HUL
    go_wp2_with fail
    refine (alive_any _).mono ?_
    rintro e wz ⟨rfl, hv⟩
    replace hb := hb.trans (hv.mono hb.size)
    clear hv
    go_wp2_with fail
    go_ret
    exact ⟨rfl, hb⟩
  have g1' : ((n4 : Int) == 0) = false := by simpa using g1
  by_cases g2 : (200 : Int) < (n4 : Int)
  · clear HUL g1
    go_wp2_with fail
    refine (alive_any _).mono ?_
    rintro e wz ⟨rfl, hv⟩
    replace hb := hb.trans (hv.mono hb.size)
    clear hv
    go_wp2_with fail
    go_ret
    exact ⟨rfl, hb⟩
  have hz0 := hz.z0
  have hz1 := hz.z1
  have hz2 := hz.z2
  have hz3 := hz.z3
  have hz4 := hz.z4
  go_wp2_with fail
  refine (HCC.out _ _ _ h hS.inl hS.inr).mono ?_
  rintro e w3 ⟨rfl, hv⟩
  clear HCC
  clear hz0 hz1 hz2 hz3 hz4
  replace hz := hz.keep hv
  replace h := h.keep hv
  replace hS := hS.keep hv
  replace hu := hu.at_size (Nat.le_refl _) hv
  replace hb := hb.trans (hv.mono hb.size)
  clear hv
  by_cases hxc : xc = 0
  case neg =>
    have hne : (xc != 0) = true := by simpa using hxc
    clear hxc g1
    go_wp2_with fail
    refine (alive_any _).mono ?_
    rintro e wz ⟨rfl, hv⟩
    replace hb := hb.trans (hv.mono hb.size)
    clear hv
    go_wp2_with fail
    go_ret
    exact ⟨rfl, hb⟩
  obtain ⟨p1, p2, -, -⟩ := chk_zero.1 (HLIM.out hxc)
  obtain ⟨p3, p4, -, -⟩ := chk_zero.1 (HLIM2.out hxc)
  have HYES2 := Lib.hid (HYES.out hxc)
  have HNO2 := Lib.hid (HNO.out hxc)
  subst hxc
  clear HYES HNO HLIM HLIM2 hS
  obtain ⟨ql, rfl⟩ : ∃ q : Nat, lv = (q : Int) := ⟨lv.toNat, by omega⟩
  obtain ⟨qe, rfl⟩ : ∃ q : Nat, ev = (q : Int) := ⟨ev.toNat, by omega⟩
  have HQ := Lib.hid (And.intro (show ql ≤ 64 by omega) (show qe ≤ 64 by omega))
  have HN4 := Lib.hid (And.intro (show 0 < n4 by omega) (show n4 ≤ 200 by omega))
  have hz0 := hz.z0
  have hz1 := hz.z1
  have r1 : ¬ (ql : Int) < 0 := by omega
  have r2 : ¬ (64 : Int) < (ql : Int) := by omega
  have r3 : ¬ (qe : Int) < 0 := by omega
  have r4 : ¬ (64 : Int) < (qe : Int) := by omega
  go_wp2_with fail
  clear r1 r2 r3 r4 p1 p2 p3 p4 hz0 hz1 g1 g1' g2
  have HH := Lib.hid h
  have HZZ := Lib.hid hz
  have HUU := Lib.hid hu
  have HB0 := Lib.hid hb
  clear hz h hu hb
  obtain ⟨wb1, hwb⟩ : ∃ wb, wb = w3 := ⟨_, rfl⟩
  rw [← hwb] at HH HZZ HUU HB0 ⊢
  clear hwb
  go_loopw [9, 11] (fun v9 v11 wr => VrRel u 0 ql wb1 v9 v11 wr) (fun _ v11 _ => ql - (intOf v11).toNat)
  case atStart => exact ⟨0, none, 0, rfl, rfl, Nat.zero_le _, World.ownsRow_nil _ _ _ _, Below.refl _ _⟩
  case round =>
    obtain ⟨i, D, dc, rfl, rfl, hi, hown, hb3⟩ := hrel
    have hz0 := (HZZ.out.keep hb3).z0
    by_cases hlt : i < ql
    case pos =>
      have hr0 : (i + 0) % n4 < n4 := Nat.mod_lt _ HN4.out.1
      have hm : ((i + 0 : Nat) : Int) % (n4 : Int) = (((i + 0) % n4 : Nat) : Int) := by rw [Int.natCast_emod]
      have HNX := Lib.hid (rowOf_next u 0 i)
      rw [HUL.out] at HNX
      obtain ⟨b', o, rfl, hbb, hcv⟩ := (HUU.out.at_size (Nat.le_refl _) hb3).spot (by omega)
      generalize (i + 0) % n4 = r at hr0 hm HNX
      have hru : r < u.length := by rw [HUL.out]; exact hr0
      have hc := hcv r hru
      have hgd : u.getD r 0 = u[r] := by rw [List.getD_eq_getElem?_getD, List.getElem?_eq_getElem hru]; rfl
      rw [hgd] at HNX
      generalize u[r] = z at *
      replace hc : _ = some (Value.int .u64 (z : Int)) := hc
      have HM : Hid ((i : Int) % (n4 : Int) = (r : Int)) := Lib.hid (by rw [← hm]; rfl)
      have HLT := Lib.hid hlt
      have hi9 : i ≤ 1000 := by have := HQ.out.1; have := HQ.out.2; omega
      have n0 : ¬ (n4 : Int) = 0 := by have := HN4.out.1; omega
      have n01 : ((n4 : Int) == 0) = false := by simpa using n0
      have n02 : ¬ n4 = 0 := by have := HN4.out.1; omega
      have hn9 : n4 ≤ 200 := HN4.out.2
      have HO := Lib.hid (hown.alloc (.cells #[.int .u64 (z : Int)] 44))
      have hb4 := hb3.alloc hb3.size (.cells #[.int .u64 (z : Int)] 44)
      have HB4 := Lib.hid hb4
      have hsz := hb4.size
      have HRD : Hid (Rd La.nm (wr.alloc (.cells #[.int .u64 (z : Int)] 44)) (wr.alloc (.cells #[.int .u64 (z : Int)] 44)).heap.size (some ⟨wr.heap.size, 0, none⟩) 1 1 [z]) := Lib.hid (Rd.new wr _ 44 1 [z] rfl rfl (by decide))
      have hmx : i + 1 ≤ maxLen := by unfold maxLen; omega
      have hmb : (i + 1) * 8 ≤ 140737488355328 := by omega
      clear hi hown hb3 hb4 hm hcv hbb hru hgd
      go_wp2_with (first | (rw [HM.out]) | (at_builtin; refine wpList_append_rd _ rfl (.tmp 71) (.tmp 79) 26 rfl wb1.heap.size 44 i0 (.int .u64 0) 8 Try.underlying26 HI0.out.1 HI0.out.2.1 HI0.out.2.2.1 HI0.out.2.2.2 rfl La.nm_one _ i (rowOf u 0 i) rfl HO.out _ _ 1 1 [z] rfl HRD.out hmx hmb hsz ?_; intro A' k' c' w' HK hown2 hg2 hbs))
      have hgr := HB4.out.grown hg2 hsz fun j hj => (HO.out.lt j hj).1
      obtain rfl : k' = i + 1 := HK.out
      rw [← HNX.out] at hown2
      go_roundw
      case rel => exact ⟨i + 1, A', c', by go_num, rfl, by have := HLT.out; omega, hown2, hgr⟩
      case measure =>
        have := HLT.out
        simp [intOf]
        omega
    case neg =>
    obtain rfl : ql = i := by omega
    have h := HH.out.keep hb3
    have hz := HZZ.out.keep hb3
    have hu := HUU.out.at_size (Nat.le_refl _) hb3
    have hb := HB0.out.trans (hb3.mono HB0.out.size)
    have ra := Rd.of_own hown
    clear HH HZZ HUU HB0 hi hlt hown hb3
    go_wp2_with fail
    clear hz0
    have HH := Lib.hid h
    have HZZ := Lib.hid hz
    have HUU := Lib.hid hu
    have HB0 := Lib.hid hb
    have HRA := Lib.hid ra
    clear ra
    clear hz h hu hb
    obtain ⟨wb2, hwb⟩ : ∃ wb, wb = wr := ⟨_, rfl⟩
    rw [← hwb] at HH HZZ HUU HB0 HRA ⊢
    clear hwb
    go_loopw [10, 12] (fun v9 v11 wr => VrRel u 1 qe wb2 v9 v11 wr) (fun _ v11 _ => qe - (intOf v11).toNat)
    case atStart => exact ⟨0, none, 0, rfl, rfl, Nat.zero_le _, World.ownsRow_nil _ _ _ _, Below.refl _ _⟩
    case round =>
      obtain ⟨i, D, dc, rfl, rfl, hi, hown, hb3⟩ := hrel
      have hz1 := (HZZ.out.keep hb3).z1
      by_cases hlt : i < qe
      case pos =>
        have hr0 : (i + 1) % n4 < n4 := Nat.mod_lt _ HN4.out.1
        have hm : (((i + 1 : Nat) : Int)) % (n4 : Int) = (((i + 1) % n4 : Nat) : Int) := by rw [Int.natCast_emod]
        have HNX := Lib.hid (rowOf_next u 1 i)
        rw [HUL.out] at HNX
        obtain ⟨b', o, rfl, hbb, hcv⟩ := (HUU.out.at_size (Nat.le_refl _) hb3).spot (by omega)
        generalize (i + 1) % n4 = r at hr0 hm HNX
        have hru : r < u.length := by rw [HUL.out]; exact hr0
        have hc := hcv r hru
        have hgd : u.getD r 0 = u[r] := by rw [List.getD_eq_getElem?_getD, List.getElem?_eq_getElem hru]; rfl
        rw [hgd] at HNX
        generalize u[r] = z at *
        replace hc : _ = some (Value.int .u64 (z : Int)) := hc
        have HM : Hid (((i : Int) + 1) % (n4 : Int) = (r : Int)) := Lib.hid (by rw [← hm]; push_cast; rfl)
        have HLT := Lib.hid hlt
        have hi9 : i ≤ 1000 := by have := HQ.out.1; have := HQ.out.2; omega
        have n0 : ¬ (n4 : Int) = 0 := by have := HN4.out.1; omega
        have n01 : ((n4 : Int) == 0) = false := by simpa using n0
        have n02 : ¬ n4 = 0 := by have := HN4.out.1; omega
        have hn9 : n4 ≤ 200 := HN4.out.2
        have HO := Lib.hid (hown.alloc (.cells #[.int .u64 (z : Int)] 44))
        have hb4 := hb3.alloc hb3.size (.cells #[.int .u64 (z : Int)] 44)
        have HB4 := Lib.hid hb4
        have hsz := hb4.size
        have HRD : Hid (Rd La.nm (wr.alloc (.cells #[.int .u64 (z : Int)] 44)) (wr.alloc (.cells #[.int .u64 (z : Int)] 44)).heap.size (some ⟨wr.heap.size, 0, none⟩) 1 1 [z]) := Lib.hid (Rd.new wr _ 44 1 [z] rfl rfl (by decide))
        have hmx : i + 1 ≤ maxLen := by unfold maxLen; omega
        have hmb : (i + 1) * 8 ≤ 140737488355328 := by omega
        clear hi hown hb3 hb4 hm hcv hbb hru hgd
        go_wp2_with (first | (rw [HM.out]) | (at_builtin; refine wpList_append_rd _ rfl (.tmp 87) (.tmp 96) 26 rfl wb2.heap.size 44 i0 (.int .u64 0) 8 Try.underlying26 HI0.out.1 HI0.out.2.1 HI0.out.2.2.1 HI0.out.2.2.2 rfl La.nm_one _ i (rowOf u 1 i) rfl HO.out _ _ 1 1 [z] rfl HRD.out hmx hmb hsz ?_; intro A' k' c' w' HK hown2 hg2 hbs))
        have hgr := HB4.out.grown hg2 hsz fun j hj => (HO.out.lt j hj).1
        obtain rfl : k' = i + 1 := HK.out
        rw [← HNX.out] at hown2
        go_roundw
        case rel => exact ⟨i + 1, A', c', by go_num, rfl, by have := HLT.out; omega, hown2, hgr⟩
        case measure =>
          have := HLT.out
          simp [intOf]
          omega
      case neg =>
      obtain rfl : qe = i := by omega
      have h := HH.out.keep hb3
      have hz := HZZ.out.keep hb3
      have hu := HUU.out.at_size (Nat.le_refl _) hb3
      have hb := HB0.out.trans (hb3.mono HB0.out.size)
      have rb := Rd.of_own hown
      have ra := HRA.out.at_size (Nat.le_refl _) hb3
      clear HRA
      clear HH HZZ HUU HB0 hi hlt hown hb3
      clear hz1
      have HUA := Lib.hid (rowOf_len u 0 ql)
      have HUB := Lib.hid (rowOf_len u 1 qe)
      generalize rowOf u 0 ql = ua at *
      generalize rowOf u 1 qe = ub at *
      clear hu
      have hz0 := hz.z0
      have hz1 := hz.z1
      have hz2 := hz.z2
      have hz3 := hz.z3
      have hz4 := hz.z4
      have hc := HG.out wr _ ql _ ua _ qe _ ub 0 (HYES2.out ua ub (by rw [HUA.out]) (by rw [HUB.out])) h ra rb
      have HC := Lib.hid hc
      clear hc
      go_wp2_with fail
      refine HC.out.mono ?_
      rintro e w4 ⟨G1, kg1, cg1, rfl, -, hv⟩
      clear HC
      clear hz0 hz1 hz2 hz3 hz4
      replace hz := hz.keep hv
      replace h := h.keep hv
      replace ra := ra.at_size (Nat.le_refl _) hv
      replace rb := rb.at_size (Nat.le_refl _) hv
      replace hb := hb.trans (hv.mono hb.size)
      clear hv
      go_wp2
      refine Bo.wp_region_fork [0, 1, 5] 2 3 _ _ [3, 4, 6, 7, 8, 9, 10, 11] [2, 4, 6, 7, 8, 9, 10, 11] [2, 3, 4, 6] 12 (fun w' => Box w' w.heap.size (ql : Int) (qe : Int) A n c A1 n1 c1 A2 n2 c2) (by kernel_rfl) (by kernel_rfl) rfl rfl rfl rfl (by kernel_rfl) (by kernel_rfl) (by kernel_rfl) (by kernel_rfl) (by kernel_rfl) (by kernel_rfl) (fun _ _ _ _ _ h => h) (hz.keep (Below.refl _ w4).drew) ?_
      simp only [steps, List.getElem?_cons_zero, List.getElem?_cons_succ]
      repeat (
        refine Bo.soft_yes (v := ?_) rfl ?_ ?_
        rotate_left
        (focus (rintro w' ⟨hS0, hS1, hS2, hS3, hS4⟩; go_simp; try with_reducible rfl))
        simp only [Act.put, List.setIfInBounds_toArray, List.set_cons_zero, List.set_cons_succ])
      have hv : Below w4.heap.size w4 w4.drew := (Below.refl _ _).drew
      replace hz := hz.keep hv
      replace h := h.keep hv
      replace ra := ra.at_size (Nat.le_refl _) hv
      replace rb := rb.at_size (Nat.le_refl _) hv
      replace hb := hb.trans (hv.mono hb.size)
      clear hv
      generalize w4.drew = wf0 at *
      refine Bo.soft_end ⟨?_, ?_⟩
      (focus (
        refine hard_end (fun K hK => ?_)
        refine wp_append_rd _ (.const (.slice none 0 0)) (.tmp 107) 26 rfl wf0.heap.size 44 i0 (.int .u64 0) 8 Try.underlying26 HI0.out.1 HI0.out.2.1 HI0.out.2.2.1 HI0.out.2.2.2 rfl La.nm_one (.slice none 0 0) 0 [] rfl (World.ownsRow_nil _ _ _ _) _ _ ql _ ua rfl ra (by have := HQ.out.1; have := HQ.out.2; unfold maxLen; omega) (by have := HQ.out.1; have := HQ.out.2; omega) (Nat.le_refl _) ?_
        intro B6 k6 c6 w6 hk6 own6 hg6 hbs6
        have hv6 : Below wf0.heap.size wf0 w6 := (Below.refl _ _).grown hg6 (Nat.le_refl _) (by simp [Value.ownBlock])
        refine hK.out _ _ ⟨hz.keep hv6, ?_⟩
        simp only [Act.put, List.setIfInBounds_toArray, List.set_cons_zero, List.set_cons_succ]
        have hv7 : Below wf0.heap.size wf0 (w6.alloc (.cells #[.int .u64 0] 44)) := hv6.alloc hv6.size _
        have ro1 : Rd La.nm (w6.alloc (.cells #[.int .u64 0] 44)) (w6.alloc (.cells #[.int .u64 0] 44)).heap.size (some ⟨w6.heap.size, 0, none⟩) 1 1 [0] := Rd.new w6 _ 44 1 [0] rfl rfl (by decide)
        have own7 := own6.alloc (.cells #[.int .u64 0] 44)
        have hk7 := hk6
        refine ord_hard rfl rfl (fun K hK => ?_)
        go_simp
        refine hK.out _ _ (fun _ => hz.keep hv7) ?_
        clear hK K hv6 own6 hg6 hbs6 hk6
        try simp only [Act.put, List.setIfInBounds_toArray, List.set_cons_zero, List.set_cons_succ]
        generalize w6.alloc (.cells #[.int .u64 0] 44) = w7 at *))
      rotate_left
      (focus (
        have hv6 : Below wf0.heap.size wf0 (wf0.alloc (.cells #[.int .u64 0] 44)) := (Below.refl _ _).alloc (Nat.le_refl _) _
        have ro0 : Rd La.nm (wf0.alloc (.cells #[.int .u64 0] 44)) (wf0.alloc (.cells #[.int .u64 0] 44)).heap.size (some ⟨wf0.heap.size, 0, none⟩) 1 1 [0] := Rd.new wf0 _ 44 1 [0] rfl rfl (by decide)
        refine hard_end (fun K hK => ?_)
        go_simp
        refine hK.out _ _ ⟨hz.keep hv6, ?_⟩
        clear hK K
        try simp only [Act.put, List.setIfInBounds_toArray, List.set_cons_zero, List.set_cons_succ]
        have rs6 := ra.at_size (Nat.le_refl _) hv6
        generalize wf0.alloc (.cells #[.int .u64 0] 44) = w6 at *
        refine ord_hard rfl rfl (fun K hK => ?_)
        refine wp_append_rd _ (.const (.slice none 0 0)) (.tmp 107) 26 rfl wf0.heap.size 44 i0 (.int .u64 0) 8 Try.underlying26 HI0.out.1 HI0.out.2.1 HI0.out.2.2.1 HI0.out.2.2.2 rfl La.nm_one (.slice none 0 0) 0 [] rfl (World.ownsRow_nil _ _ _ _) _ _ ql _ ua rfl rs6 (by have := HQ.out.1; have := HQ.out.2; unfold maxLen; omega) (by have := HQ.out.1; have := HQ.out.2; omega) hv6.size ?_
        intro B6 k6 c6 w7 hk7 own7 hg7 hbs7
        have hv7 : Below wf0.heap.size wf0 w7 := hv6.grown hg7 hv6.size (by simp [Value.ownBlock])
        have ro1 := ro0.at_size (Nat.le_refl _) ((Below.refl _ w6).grown hg7 (Nat.le_refl _) (by simp [Value.ownBlock]))
        refine hK.out _ _ (fun _ => hz.keep hv7) ?_
        clear hK K hv6 hg7 hbs7 ro0 rs6
        try simp only [Act.put, List.setIfInBounds_toArray, List.set_cons_zero, List.set_cons_succ]))
      all_goals (
        refine ord_hard rfl rfl (fun K hK => ?_)
        refine wp_append_rd _ (.tmp 108) (.tmp 109) 26 rfl wf0.heap.size 44 i0 (.int .u64 0) 8 Try.underlying26 HI0.out.1 HI0.out.2.1 HI0.out.2.2.1 HI0.out.2.2.2 rfl La.nm_one _ k6 _ rfl own7 _ _ 1 1 [0] rfl ro1 (by have := HQ.out.1; have := HQ.out.2; have := hk7.out; unfold maxLen; omega) (by have := HQ.out.1; have := HQ.out.2; have := hk7.out; omega) hv7.size ?_
        intro B8 k8 c8 w8 hk8 own8 hg8 hbs8
        have hv : Below wf0.heap.size wf0 w8 := hv7.grown hg8 hv7.size (fun j hj => (own7.lt j hj).1)
        have rl := Rd.of_own own8
        replace hz := hz.keep hv
        replace h := h.keep hv
        replace ra := ra.at_size (Nat.le_refl _) hv
        replace rb := rb.at_size (Nat.le_refl _) hv
        replace hb := hb.trans (hv.mono hb.size)
        clear hv
        have hc := HG.out w8 _ k8 _ _ _ qe _ ub 1 (HNO2.out _ _ (.inl (by rw [rl.len, hk8.out, hk7.out]; omega))) h rl rb
        have HC := Lib.hid hc
        refine hK.out _ _ (fun _ => hz) ?_
        clear hK K own7 ro1 hv7 hk7 hk8 own8 hg8 hbs8 rl hc
        try simp only [Act.put, List.setIfInBounds_toArray, List.set_cons_zero, List.set_cons_succ]
        refine ord_hard rfl rfl (fun K hK => ?_)
        go_simp
        refine HC.out.mono ?_
        rintro e w9 ⟨G2, kg2, cg2, rfl, -, hv⟩
        replace hz := hz.keep hv
        replace h := h.keep hv
        replace ra := ra.at_size (Nat.le_refl _) hv
        replace rb := rb.at_size (Nat.le_refl _) hv
        replace hb := hb.trans (hv.mono hb.size)
        clear hv
        refine hK.out _ _ (fun _ => hz) ?_
        clear hK K HC
        try simp only [Act.put, List.setIfInBounds_toArray, List.set_cons_zero, List.set_cons_succ]
        repeat (first
          | (refine ord_no rfl ?_; simp only [Act.put, List.setIfInBounds_toArray, List.set_cons_zero, List.set_cons_succ])
          | (refine ord_yes (v := ?_) rfl rfl ?_ ?_; rotate_left; (focus (rintro w' ⟨hS0, hS1, hS2, hS3, hS4⟩; go_simp; try with_reducible rfl)); simp only [Act.put, List.setIfInBounds_toArray, List.set_cons_zero, List.set_cons_succ]))
        refine ord_end ?_
        go_wp2
        refine Bo.wp_region_fork [0, 1, 2] 3 4 _ _ [4, 5, 6, 7, 8, 9, 10, 11] [3, 5, 6, 7, 8, 9, 10, 11] [3, 4, 5, 6] 12 (fun w' => Box w' w.heap.size (ql : Int) (qe : Int) A n c A1 n1 c1 A2 n2 c2) (by kernel_rfl) (by kernel_rfl) rfl rfl rfl rfl (by kernel_rfl) (by kernel_rfl) (by kernel_rfl) (by kernel_rfl) (by kernel_rfl) (by kernel_rfl) (fun _ _ _ _ _ h => h) (hz.keep (Below.refl _ w9).drew) ?_
        simp only [steps, List.getElem?_cons_zero, List.getElem?_cons_succ]
        repeat (
          refine Bo.soft_yes (v := ?_) rfl ?_ ?_
          rotate_left
          (focus (rintro w' ⟨hS0, hS1, hS2, hS3, hS4⟩; go_simp; try with_reducible rfl))
          simp only [Act.put, List.setIfInBounds_toArray, List.set_cons_zero, List.set_cons_succ])
        have hv : Below w9.heap.size w9 w9.drew := (Below.refl _ _).drew
        replace hz := hz.keep hv
        replace h := h.keep hv
        replace ra := ra.at_size (Nat.le_refl _) hv
        replace rb := rb.at_size (Nat.le_refl _) hv
        replace hb := hb.trans (hv.mono hb.size)
        clear hv
        generalize w9.drew = wf1 at *
        refine Bo.soft_end ⟨?_, ?_⟩
        (focus (
          refine hard_end (fun K hK => ?_)
          refine wp_append_rd _ (.const (.slice none 0 0)) (.tmp 118) 26 rfl wf1.heap.size 44 i0 (.int .u64 0) 8 Try.underlying26 HI0.out.1 HI0.out.2.1 HI0.out.2.2.1 HI0.out.2.2.2 rfl La.nm_one (.slice none 0 0) 0 [] rfl (World.ownsRow_nil _ _ _ _) _ _ qe _ ub rfl rb (by have := HQ.out.1; have := HQ.out.2; unfold maxLen; omega) (by have := HQ.out.1; have := HQ.out.2; omega) (Nat.le_refl _) ?_
          intro B6 k6 c6 w6 hk6 own6 hg6 hbs6
          have hv6 : Below wf1.heap.size wf1 w6 := (Below.refl _ _).grown hg6 (Nat.le_refl _) (by simp [Value.ownBlock])
          refine hK.out _ _ ⟨hz.keep hv6, ?_⟩
          simp only [Act.put, List.setIfInBounds_toArray, List.set_cons_zero, List.set_cons_succ]
          have hv7 : Below wf1.heap.size wf1 (w6.alloc (.cells #[.int .u64 0] 44)) := hv6.alloc hv6.size _
          have ro1 : Rd La.nm (w6.alloc (.cells #[.int .u64 0] 44)) (w6.alloc (.cells #[.int .u64 0] 44)).heap.size (some ⟨w6.heap.size, 0, none⟩) 1 1 [0] := Rd.new w6 _ 44 1 [0] rfl rfl (by decide)
          have own7 := own6.alloc (.cells #[.int .u64 0] 44)
          have hk7 := hk6
          refine ord_hard rfl rfl (fun K hK => ?_)
          go_simp
          refine hK.out _ _ (fun _ => hz.keep hv7) ?_
          clear hK K hv6 own6 hg6 hbs6 hk6
          try simp only [Act.put, List.setIfInBounds_toArray, List.set_cons_zero, List.set_cons_succ]
          generalize w6.alloc (.cells #[.int .u64 0] 44) = w7 at *))
        rotate_left
        (focus (
          have hv6 : Below wf1.heap.size wf1 (wf1.alloc (.cells #[.int .u64 0] 44)) := (Below.refl _ _).alloc (Nat.le_refl _) _
          have ro0 : Rd La.nm (wf1.alloc (.cells #[.int .u64 0] 44)) (wf1.alloc (.cells #[.int .u64 0] 44)).heap.size (some ⟨wf1.heap.size, 0, none⟩) 1 1 [0] := Rd.new wf1 _ 44 1 [0] rfl rfl (by decide)
          refine hard_end (fun K hK => ?_)
          go_simp
          refine hK.out _ _ ⟨hz.keep hv6, ?_⟩
          clear hK K
          try simp only [Act.put, List.setIfInBounds_toArray, List.set_cons_zero, List.set_cons_succ]
          have rs6 := rb.at_size (Nat.le_refl _) hv6
          generalize wf1.alloc (.cells #[.int .u64 0] 44) = w6 at *
          refine ord_hard rfl rfl (fun K hK => ?_)
          refine wp_append_rd _ (.const (.slice none 0 0)) (.tmp 118) 26 rfl wf1.heap.size 44 i0 (.int .u64 0) 8 Try.underlying26 HI0.out.1 HI0.out.2.1 HI0.out.2.2.1 HI0.out.2.2.2 rfl La.nm_one (.slice none 0 0) 0 [] rfl (World.ownsRow_nil _ _ _ _) _ _ qe _ ub rfl rs6 (by have := HQ.out.1; have := HQ.out.2; unfold maxLen; omega) (by have := HQ.out.1; have := HQ.out.2; omega) hv6.size ?_
          intro B6 k6 c6 w7 hk7 own7 hg7 hbs7
          have hv7 : Below wf1.heap.size wf1 w7 := hv6.grown hg7 hv6.size (by simp [Value.ownBlock])
          have ro1 := ro0.at_size (Nat.le_refl _) ((Below.refl _ w6).grown hg7 (Nat.le_refl _) (by simp [Value.ownBlock]))
          refine hK.out _ _ (fun _ => hz.keep hv7) ?_
          clear hK K hv6 hg7 hbs7 ro0 rs6
          try simp only [Act.put, List.setIfInBounds_toArray, List.set_cons_zero, List.set_cons_succ]))
        all_goals (
          refine ord_hard rfl rfl (fun K hK => ?_)
          refine wp_append_rd _ (.tmp 119) (.tmp 120) 26 rfl wf1.heap.size 44 i0 (.int .u64 0) 8 Try.underlying26 HI0.out.1 HI0.out.2.1 HI0.out.2.2.1 HI0.out.2.2.2 rfl La.nm_one _ k6 _ rfl own7 _ _ 1 1 [0] rfl ro1 (by have := HQ.out.1; have := HQ.out.2; have := hk7.out; unfold maxLen; omega) (by have := HQ.out.1; have := HQ.out.2; have := hk7.out; omega) hv7.size ?_
          intro B8 k8 c8 w8 hk8 own8 hg8 hbs8
          have hv : Below wf1.heap.size wf1 w8 := hv7.grown hg8 hv7.size (fun j hj => (own7.lt j hj).1)
          have rl := Rd.of_own own8
          replace hz := hz.keep hv
          replace h := h.keep hv
          replace ra := ra.at_size (Nat.le_refl _) hv
          replace rb := rb.at_size (Nat.le_refl _) hv
          replace hb := hb.trans (hv.mono hb.size)
          clear hv
          have hc := HG.out w8 _ ql _ ua _ k8 _ _ 1 (HNO2.out _ _ (.inr (by rw [rl.len, hk8.out, hk7.out]; omega))) h ra rl
          have HC := Lib.hid hc
          refine hK.out _ _ (fun _ => hz) ?_
          clear hK K own7 ro1 hv7 hk7 hk8 own8 hg8 hbs8 rl hc
          try simp only [Act.put, List.setIfInBounds_toArray, List.set_cons_zero, List.set_cons_succ]
          refine ord_hard rfl rfl (fun K hK => ?_)
          go_simp
          refine HC.out.mono ?_
          rintro e w9 ⟨G2, kg2, cg2, rfl, -, hv⟩
          replace hz := hz.keep hv
          replace h := h.keep hv
          replace ra := ra.at_size (Nat.le_refl _) hv
          replace rb := rb.at_size (Nat.le_refl _) hv
          replace hb := hb.trans (hv.mono hb.size)
          clear hv
          refine hK.out _ _ (fun _ => hz) ?_
          clear hK K HC
          try simp only [Act.put, List.setIfInBounds_toArray, List.set_cons_zero, List.set_cons_succ]
          repeat (first
            | (refine ord_no rfl ?_; simp only [Act.put, List.setIfInBounds_toArray, List.set_cons_zero, List.set_cons_succ])
            | (refine ord_yes (v := ?_) rfl rfl ?_ ?_; rotate_left; (focus (rintro w' ⟨hS0, hS1, hS2, hS3, hS4⟩; go_simp; try with_reducible rfl)); simp only [Act.put, List.setIfInBounds_toArray, List.set_cons_zero, List.set_cons_succ]))
          refine ord_end ?_
          by_cases hq0 : ql = 0
          (focus (
            subst hq0
            have hz0 := hz.z0
            clear ra rb h
            go_wp2_with fail
            clear hz0
            refine (alive_any _).mono ?_
            rintro e wz ⟨rfl, hv⟩
            replace hb := hb.trans (hv.mono hb.size)
            clear hv
            go_wp2_with fail
            go_ret
            exact ⟨rfl, hb⟩))
          have hq1 : (0 : Int) < (ql : Int) := by omega
          have hz0 := hz.z0
          obtain ⟨B9, k9, c9, hsl, hrd⟩ := rd_slice_l (P := Try.prog) 26 44 Try.underlying26 La.nm_size ra (1 : Int) (by omega) (by omega)
          have hlen9 : (ua.drop (1 : Int).toNat).length = ql - 1 := by rw [List.length_drop, HUA.out]; rfl
          have HL9 := Lib.hid hlen9
          generalize ua.drop (1 : Int).toNat = u9 at *
          clear hlen9
          go_wp2_with fail
          refine wp_region_ord [0, 1, 2, 3, 4, 5, 6, 7, 8, 9] [4] 10 (fun w' => Box w' w.heap.size (ql : Int) (qe : Int) A n c A1 n1 c1 A2 n2 c2) (by kernel_rfl) (by kernel_rfl) (by kernel_rfl) (by kernel_rfl) (fun _ _ _ _ _ h => h) (hz.keep (Below.refl _ _).drew) ?_
          simp only [steps, List.getElem?_cons_zero, List.getElem?_cons_succ]
          repeat (first
            | (refine ord_no rfl ?_; simp only [Act.put, List.setIfInBounds_toArray, List.set_cons_zero, List.set_cons_succ])
            | (refine ord_yes (v := ?_) rfl rfl ?_ ?_; rotate_left; (focus (rintro w' ⟨hS0, hS1, hS2, hS3, hS4⟩; go_simp; try with_reducible rfl)); simp only [Act.put, List.setIfInBounds_toArray, List.set_cons_zero, List.set_cons_succ]))
          have hv : Below w9.heap.size w9 w9.drew := (Below.refl _ _).drew
          replace hrd := hrd.at_size (Nat.le_refl _) hv
          replace hz := hz.keep hv
          replace h := h.keep hv
          replace ra := ra.at_size (Nat.le_refl _) hv
          replace rb := rb.at_size (Nat.le_refl _) hv
          replace hb := hb.trans (hv.mono hb.size)
          clear hv
          clear hz0
          generalize w9.drew = wg at *
          have hc := HG.out wg B9 k9 c9 u9 _ qe _ ub 1 (HNO2.out _ _ (.inl (by rw [HL9.out]; omega))) h hrd rb
          have HC := Lib.hid hc
          clear hc
          refine ord_hard rfl rfl (fun K hK => ?_)
          go_simp
          refine HC.out.mono ?_
          rintro e wh ⟨G4, kg4, cg4, rfl, -, hv⟩
          clear HC hrd
          replace hz := hz.keep hv
          replace h := h.keep hv
          replace ra := ra.at_size (Nat.le_refl _) hv
          replace rb := rb.at_size (Nat.le_refl _) hv
          replace hb := hb.trans (hv.mono hb.size)
          clear hv
          refine hK.out _ _ (fun _ => hz) ?_
          clear hK K
          try simp only [Act.put, List.setIfInBounds_toArray, List.set_cons_zero, List.set_cons_succ]
          repeat (first
            | (refine ord_no rfl ?_; simp only [Act.put, List.setIfInBounds_toArray, List.set_cons_zero, List.set_cons_succ])
            | (refine ord_yes (v := ?_) rfl rfl ?_ ?_; rotate_left; (focus (rintro w' ⟨hS0, hS1, hS2, hS3, hS4⟩; go_simp; try with_reducible rfl)); simp only [Act.put, List.setIfInBounds_toArray, List.set_cons_zero, List.set_cons_succ]))
          refine ord_end ?_
          clear hz h ra rb hq1 hsl
          go_wp2_with fail
          refine (alive_any _).mono ?_
          rintro e wz ⟨rfl, hv⟩
          replace hb := hb.trans (hv.mono hb.size)
          clear hv
          go_wp2_with fail
          go_ret
          exact ⟨rfl, hb⟩
        )
      )

theorem own : ownKnob Try.prog.godebug = none := by kernel_rfl
theorem laidOut : laidOutB Try.prog = true := by kernel_rfl

set_option maxRecDepth 100000 in
theorem lifted (os : Os) (started : os.Started) (H : Type) (enc : TypeId × Value → H) :
    ReturnsInHanded {} Try.checked os 4 .any (Rows.schemesValuesSpec.pre6 enc Try.prog Try.f4 Rows.schemesValuesRow.domain false) (Rows.schemesValuesSpec.post enc Try.prog Try.f4 false true false false) := by
  refine returnsInHanded_of_change (C := Try.checked) own started (by kernel_rfl) Try.func4
    (ChangeSpec.witness6 (enc := enc) (C := Try.checked) false ⟨#[], #[.agg #[.int .i64 0, .int .i64 0, .slice none 0 0, .slice none 0 0, .slice none 0 0], .agg #[.slice none 0 0, .int .i64 0], .slice none 0 0], []⟩ 8 (by kernel_rfl) (by kernel_rfl) (by kernel_rfl) (by kernel_rfl)) ?_
  intro W base args ds gs before hval0 hW hcnd _
  have hval : ∀ (j : Nat) t v, Try.f4.params[j]? = some t → args[j]? = some v → Value.okWide Try.prog W .any base t v := hval0
  have hW' := hW
  obtain ⟨p, q, hA0, hV, rfl, hfz, hnd⟩ := hW
  have hA : DataW.TrodAll enc Try.prog W 0 (fun _ => true) true Try.f4.params.toList args.toList ds p := hA0
  rw [Try.params4] at hA hval
  obtain ⟨v0, vs0, d0, ds0, p0, q0, hargs, rfl, rfl, h0, r0⟩ := trodAll_cons hA
  obtain ⟨v1, vs1, d1, ds1, p1, q1, rfl, rfl, rfl, h1, r1⟩ := trodAll_cons r0
  obtain ⟨v2, vs2, d2, ds2, p2, q2, rfl, rfl, rfl, h2, r2⟩ := trodAll_cons r1
  obtain ⟨rfl, rfl, rfl⟩ := trodAll_nil r2
  obtain rfl : args = #[v0, v1, v2] := by cases args; simp_all
  obtain ⟨rfl, rfl⟩ := trodVars_none hV
  have lt0 : ∀ x ∈ p0, x.block < W.heap.size := by obtain ⟨m, hm⟩ := h0; exact DataW.trod_lt m _ _ _ hm
  have lt1 : ∀ x ∈ p1, x.block < W.heap.size := by obtain ⟨m, hm⟩ := h1; exact DataW.trod_lt m _ _ _ hm
  have lt2 : ∀ x ∈ p2, x.block < W.heap.size := by obtain ⟨m, hm⟩ := h2; exact DataW.trod_lt m _ _ _ hm
  obtain ⟨s, A, n, c, A1, n1, c1, A2, n2, c2, rfl, hS, -, -⟩ := opened_scheme h0
  obtain ⟨A3, n3, c3, k, rows, rfl, hr, hrf⟩ := opened_sorts h1
  obtain ⟨A4, n4, c4, rfl⟩ := okWide_slice Try.underlying26 (hval 2 26 v2 rfl rfl)
  obtain ⟨u, hu, huf⟩ := opened_nums h2
  clear hA0 hval0
  refine (walk s A n c A1 n1 c1 A2 n2 c2 A3 n3 c3 k rows A4 n4 c4 u W hS hr hrf hu).mono fun e W' ⟨he, bel⟩ => ?_
  subst he
  exact ⟨_, rfl, _, _, _, [], _, [], hW', trodAll_mk1 (shut_bool Try.underlying4 _), (trodAll_cons_mk (Below.trod laidOut (by kernel_rfl) (of_decide_eq_true (by kernel_rfl)) h0 bel lt0) (trodAll_cons_mk (Below.trod laidOut (by kernel_rfl) (of_decide_eq_true (by kernel_rfl)) h1 bel lt1) (trodAll_cons_mk (Below.trod laidOut (by kernel_rfl) (of_decide_eq_true (by kernel_rfl)) h2 bel lt2) trodAll_mk0))), rfl, bel.frame _, fun h => by cases h⟩

theorem over : Rows.schemesValuesRow.holds Try.pinned (OpenSpec.ofChange Rows.schemesValuesSpec) :=
  OpenClaim.holds_of_wide 4 Try.f4 rfl rfl rfl rfl rfl rfl rfl ⟨rfl, rfl, rfl, rfl, rfl⟩ rfl rfl rfl rfl rfl (by kernel_rfl) Try.func4 (by kernel_rfl)
    (of_decide_eq_true (by kernel_rfl)) (by unfold Func.isWrapper; first | (rw [if_pos (by decide +kernel)]; kernel_rfl) | (rw [if_neg (by decide +kernel)]; exact ⟨rfl, rfl⟩))
    (fun os started H enc _ => lifted os started H enc)

theorem proved : Rows.SchemesValuesSaid := over
#print axioms proved

end Go.Proofs.Ytmiconjmeaammaa.schemesValues
