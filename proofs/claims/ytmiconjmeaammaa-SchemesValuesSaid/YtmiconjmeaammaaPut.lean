/- What slices.Clone, fill and Put do. Condition: nodes, spots and terms can be read. -/
import Derived.Test.YtmiconjmeaammaaOfB
import Derived.Lib.SliceRun
namespace Go.Proofs.Ytmiconjmeaammaa
open Go.RowKit

/-- The cells of a spot in a row. -/
theorem spot_at {w : World} {B n c : Nat} {A : Option Addr} {l : List Sp} (h : Rs spc 5 w B A n c l) {k : Nat} (hk : k < l.length) : ∃ b o, A = some ⟨b, o, none⟩ ∧ b < B ∧
    w.cell? ⟨b, o + k * 5, none⟩ = some (.int .i64 (l[k].n : Int)) ∧ w.cell? ⟨b, o + k * 5 + 1, none⟩ = some (.int .u8 (l[k].p : Int)) ∧ w.cell? ⟨b, o + k * 5 + 2, none⟩ = some (.int .u8 (l[k].s : Int)) ∧ w.cell? ⟨b, o + k * 5 + 3, none⟩ = some (.bool l[k].v) ∧ w.cell? ⟨b, o + k * 5 + 4, none⟩ = some (.int .u64 l[k].z) := by
  obtain ⟨b, o, e, hb, hc⟩ := h.spot (by have := h.len; omega)
  have hc := hc k hk
  exact ⟨b, o, e, hb, hc 0 _ rfl, hc 1 _ rfl, hc 2 _ rfl, hc 3 _ rfl, hc 4 _ rfl⟩

theorem own_behind {w w' : World} {base n sz : Nat} {E : TypeId} {v : Value} {xs : List Value} (h : w.ownsRow base E sz v n xs) (hb : Below w.heap.size w w') : w'.ownsRow base E sz v n xs := by
  refine ⟨h.1, ?_⟩
  rcases h.2 with hn | ⟨g, cap, cur, hv, hg, hgg, r⟩
  · exact .inl hn
  · exact .inr ⟨g, cap, cur, hv, hg, (hb.block g (lt_blk hgg)).trans hgg, r⟩

set_option maxRecDepth 100000 in
set_option maxHeartbeats 1000000 in
theorem clone_any (A : Option Addr) (n c B : Nat) (l : List Nd) (w : World) (hr : Ns w B A n c l) (hB : B ≤ w.heap.size) (h0 : 0 < n) (hn : n ≤ 1000) :
    Calls Try.prog 40 #[.slice A n c] w fun e w' => ∃ A' c', e = .returned (.slice A' n c') ∧ w'.ownsRow w.heap.size 64 10 (.slice A' n c') n (l.flatMap ndc) ∧ Below w.heap.size w w' := by
  obtain ⟨b, o, rfl, -⟩ := hr.spot h0
  have hal : Below w.heap.size w (w.alloc (.cells #[] 64)) := (Below.refl _ _).alloc (Nat.le_refl _) _
  have hr1 := hr.below (hal.mono hB)
  have hown : (w.alloc (.cells #[] 64)).ownsRow w.heap.size 64 10 (.slice (some ⟨w.heap.size, 0, none⟩) 0 0) 0 (([] : List Nd).flatMap ndc) := own_of_blk (heap_alloc_new w _) (Nat.le_refl _) rfl rfl (by unfold maxLen; omega)
  have hnil : ∀ W, (binOp .eql 22 (.slice (some ⟨b, o, none⟩) n c) (.slice none 0 0)).run Try.prog W = .ok (.bool false) W := fun W => Lib.run_eql_slice_nil W _ _ _ _ _ _ _ Try.underlying22
  go_enter Try.func40, Try.ntmps40
  go_wp2_with (refine wpList_append_nd rfl (.tmp 5) (.tmp 6) rfl w.heap.size (.slice (some ⟨w.heap.size, 0, none⟩) 0 0) 0 [] rfl hown B _ n c l rfl hr1 (by omega) (by simp) ?_; intro A1 k1 c1 w1 HK HA)
  go_ret
  have hk : k1 = n := by have := HK.out; omega
  subst hk
  have hown1 := HA.out.own
  rw [List.nil_append] at hown1
  refine ⟨A1, c1, rfl, hown1, hal.grown HA.out.grown (by simp) fun j hj => ?_⟩
  have e : j = w.heap.size := by simpa [Value.ownBlock] using hj.symm
  omega

/-- A term of a node in a row of one's own is set anew. -/
theorem own_put {w : World} {base g n c : Nat} {o : List Nd} (h : w.ownsRow base 64 10 (.slice (some ⟨g, 0, none⟩) n c) n (o.flatMap ndc)) {i : Nat} (hi : i < o.length) (p : Nat) (hp : p ≤ 2) (t : Tm) :
    ((w.setCell ⟨g, i * 10 + po p, none⟩ (.bool t.1)).setCell ⟨g, i * 10 + po p + 1, none⟩ (.int .u64 t.2)).ownsRow base 64 10 (.slice (some ⟨g, 0, none⟩) n c) n ((o.set i (o[i].put p t)).flatMap ndc) := by
  have step : ∀ (W : World) (y y' : Nd) (j : Nat) (x : Value), W.ownsRow base 64 10 (.slice (some ⟨g, 0, none⟩) n c) n ((o.set i y).flatMap ndc) → j < 10 → ndc y' = (ndc y).set j x → (W.setCell ⟨g, i * 10 + j, none⟩ x).ownsRow base 64 10 (.slice (some ⟨g, 0, none⟩) n c) n ((o.set i y').flatMap ndc) := by
    intro W y y' j x hW hj hy
    have := own_set hW (k := i) (by simpa using hi) (i := j) (u := x) hj (y := y') (by simpa using hy)
    rwa [List.set_set] at this
  have h0 : w.ownsRow base 64 10 (.slice (some ⟨g, 0, none⟩) n c) n ((o.set i o[i]).flatMap ndc) := by rw [List.set_getElem_self]; exact h
  have h3 : p = 0 ∨ p = 1 ∨ p = 2 := by omega
  rcases h3 with rfl | rfl | rfl
  · exact step _ _ _ 5 _ (step _ _ { o[i] with lv := t.1 } 4 _ h0 (by decide) rfl) (by decide) rfl
  · exact step _ _ _ 7 _ (step _ _ { o[i] with pv := t.1 } 6 _ h0 (by decide) rfl) (by decide) rfl
  · exact step _ _ _ 9 _ (step _ _ { o[i] with ev := t.1 } 8 _ h0 (by decide) rfl) (by decide) rfl

/-- k terms are stored. -/
def FlRel (ps : List Sp) (ts : List Tm) (m : List Nd) (base : Nat) (A : Option Addr) (n c : Nat) (w : World) (v10 : Value) (wr : World) : Prop :=
  ∃ k : Nat, v10 = .int .i64 (k : Int) ∧ k ≤ ps.length ∧ wr.ownsRow base 64 10 (.slice A n c) n ((fillB m (ps.take k) (ts.take k)).flatMap ndc) ∧ Kept (fun b => (Value.slice A n c).ownBlock = some b) w wr

set_option maxRecDepth 100000 in
set_option maxHeartbeats 2000000 in
theorem fill_any (Bf base B1 : Nat) (A A1 A2 : Option Addr) (n c n1 c1 c2 : Nat) (m : List Nd) (ps : List Sp) (ts : List Tm) (w : World) (hcell : w.cell? ⟨Bf, 0, none⟩ = some (.slice A n c)) (hne : (Value.slice A n c).ownBlock ≠ some Bf) (hown : w.ownsRow base 64 10 (.slice A n c) n (m.flatMap ndc))
    (hps : Rs spc 5 w B1 A1 n1 c1 ps) (hts : Rs tmc 2 w B1 A2 n1 c2 ts) (hB : B1 ≤ base) (hb : base ≤ w.heap.size) (hin : ∀ p ∈ ps, p.n < n ∧ p.p ≤ 2) :
    Calls Try.prog 41 #[.func (.func 44) #[] #[.pointer (some ⟨Bf, 0, none⟩)], .slice A1 n1 c1, .slice A2 n1 c2] w fun e w' => e = .returned (.tuple #[]) ∧ w'.ownsRow base 64 10 (.slice A n c) n ((fillB m ps ts).flatMap ndc) ∧ Kept (fun b => (Value.slice A n c).ownBlock = some b) w w' := by
  have HL1 := Lib.hid hps.len
  have HL2 := Lib.hid hts.len
  have htop := hps.top
  have hcap := hps.cap
  unfold maxLen at htop
  have hmx : Try.prog.follows .mixedOrders = true := by kernel_rfl
  have hBf := World.block_lt_of_cell? w ⟨Bf, 0, none⟩ hcell
  have HKP : Hid (∀ wr, Kept (fun b => (Value.slice A n c).ownBlock = some b) w wr → wr.cell? ⟨Bf, 0, none⟩ = some (.slice A n c) ∧ Rs spc 5 wr B1 A1 n1 c1 ps ∧ Rs tmc 2 wr B1 A2 n1 c2 ts) := by
    refine Lib.hid fun wr hk => ?_
    have hlow : ∀ k, k < B1 → wr.heap[k]? = w.heap[k]? := fun k h => hk.block k (by omega) fun e => by have := (own_block hown e).1; omega
    exact ⟨(hk.cell (p := ⟨Bf, 0, none⟩) hBf hne).trans hcell, hps.keep hlow, hts.keep hlow⟩
  have HIN := Lib.hid hin
  have H0 : Hid (FlRel ps ts m base A n c w (.int .i64 0) w) := Lib.hid ⟨0, rfl, Nat.zero_le _, by simpa [fillB] using hown, Kept.refl _ _⟩
  have hml := rs_own_len ndc_len (by decide) hown
  have HML := Lib.hid hml
  clear hcell hps hts hin hown hml
  go_enter Try.func41, Try.ntmps41
  go_wp2
  go_loopw [10] (fun v10 wr => FlRel ps ts m base A n c w v10 wr) (fun v10 _ => n1 - (intOf v10).toNat)
  case atStart => exact H0.out
  case round =>
    clear H0
    obtain ⟨k, rfl, hk, hown, hkp⟩ := hrel
    by_cases hlt : k < n1
    · have hk1 : k < ps.length := by rw [HL1.out]; exact hlt
      have hk2 : k < ts.length := by rw [HL2.out]; exact hlt
      obtain ⟨hcell, hps, hts⟩ := HKP.out wr hkp
      obtain ⟨b1, o1, rfl, hb1, s0, s1, s2, s3, s4⟩ := spot_at hps hk1
      obtain ⟨b2, o2, rfl, hb2, t0, t1⟩ := term_at hts hk2
      obtain ⟨hpn, hpp⟩ := HIN.out _ (List.getElem_mem hk1)
      have HSTEP : Hid (fillB m (ps.take (k + 1)) (ts.take (k + 1)) = (fillB m (ps.take k) (ts.take k)).set ps[k].n (((fillB m (ps.take k) (ts.take k)).getD ps[k].n ⟨0, 0, [], 0, false, 0, false, 0, false, 0⟩).put ps[k].p ts[k])) := by
        refine Lib.hid ?_
        rw [List.take_succ_eq_append_getElem hk1, List.take_succ_eq_append_getElem hk2]
        exact fill_snoc _ _ m _ _ (by rw [List.length_take, List.length_take]; omega)
      generalize fillB m (ps.take k) (ts.take k) = mk at *
      generalize hmk1 : fillB m (ps.take (k + 1)) (ts.take (k + 1)) = mk1 at *
      have HMK1 := Lib.hid hmk1
      clear hmk1
      generalize ps[k] = q at *
      generalize ts[k] = t at *
      obtain ⟨qn, qp, qs, qv, qz⟩ := q
      simp only at s0 s1 s2 s3 s4 hpn hpp HSTEP
      have hmk := rs_own_len ndc_len (by decide) hown
      obtain ⟨g, rfl, hgb, hgl, hgc, hgf⟩ := own_node hown (k := qn) (by omega)
      have hal : Below wr.heap.size wr (wr.alloc (.cells #[.int .i64 (qn : Int), .int .u8 (qp : Int), .int .u8 (qs : Int), .bool qv, .int .u64 qz] 56)) := (Below.refl _ _).alloc (Nat.le_refl _) _
      have hblk := heap_alloc_new wr (.cells #[.int .i64 (qn : Int), .int .u8 (qp : Int), .int .u8 (qs : Int), .bool qv, .int .u64 qz] 56)
      have hfind := fun W (hb : Below wr.heap.size wr W) => finder_any qn qp Bf W.heap.size (some ⟨g, 0, none⟩) n c mk W ((hb.cell (p := ⟨Bf, 0, none⟩) (World.block_lt_of_cell? wr ⟨Bf, 0, none⟩ hcell)).trans hcell) (Rs.of_own ndc_len (by decide) (own_behind hown hb)) (by omega) hpp
      have ht0 := (hal.cell (p := ⟨b2, o2 + k * 2, none⟩) (World.block_lt_of_cell? wr ⟨b2, _, none⟩ t0)).trans t0
      have ht1 := (hal.cell (p := ⟨b2, o2 + k * 2 + 1, none⟩) (World.block_lt_of_cell? wr ⟨b2, _, none⟩ t1)).trans t1
      have hk0 := (cell_blk (i := 0) hblk).trans rfl
      have hk1' := (cell_blk (i := 1) hblk).trans rfl
      have hf0 := hgf (qn * 10 + po qp)
      have hf1 := hgf (qn * 10 + po qp + 1)
      have hqm : qn < mk.length := by omega
      have hcs := node_tm (Rs.of_own ndc_len (by decide) hown) hqm qp
      obtain ⟨wd, hwd⟩ : ∃ wd, wd = (wr.alloc (.cells #[.int .i64 (qn : Int), .int .u8 (qp : Int), .int .u8 (qs : Int), .bool qv, .int .u64 qz] 56)).drew := ⟨_, rfl⟩
      have hald : Below wr.heap.size wr wd := by rw [hwd]; exact hal.drew
      have HW := Lib.hid (own_put (own_behind hown hald) hqm qp hpp t)
      have HKW : Hid (Kept (fun b => (Value.slice (some ⟨g, 0, none⟩) n c).ownBlock = some b) w ((wd.setCell ⟨g, qn * 10 + po qp, none⟩ (.bool t.1)).setCell ⟨g, qn * 10 + po qp + 1, none⟩ (.int .u64 t.2))) := Lib.hid (((hkp.trans (Kept.of_below hald)).setCell (p := ⟨g, qn * 10 + po qp, none⟩) (.inl rfl) _).setCell (p := ⟨g, qn * 10 + po qp + 1, none⟩) (.inl rfl) _)
      rw [List.getD_eq_getElem?_getD, List.getElem?_eq_getElem hqm, Option.getD_some] at HSTEP
      rw [← HSTEP.out] at HW
      rw [Nat.zero_add] at hcs
      generalize hap : qn * 10 + po qp = ap at *
      have hlt1 : (k : Int) < (n1 : Int) := by omega
      have hc0 := (hald.cell (p := ⟨g, ap, none⟩) hgl).trans hcs.1
      have hc1 := (hald.cell (p := ⟨g, ap + 1, none⟩) hgl).trans hcs.2
      have hz0 : wd.frozen? ⟨g, ap, none⟩ = false := (World.frozen?_of_block (hald.block g hgl)).trans hf0
      have hz1 : wd.frozen? ⟨g, ap + 1, none⟩ = false := (World.frozen?_of_block (hald.block g hgl)).trans hf1
      have HWD := Lib.hid hwd
      have HFI := Lib.hid (hfind (wr.alloc (.cells #[.int .i64 (qn : Int), .int .u8 (qp : Int), .int .u8 (qs : Int), .bool qv, .int .u64 qz] 56)).drew ⟨hal.os, hal.tape, hal.output, hal.size, hal.block⟩)
      have HC := Lib.hid (And.intro (And.intro hc0 hc1) (And.intro hz0 hz1))
      clear hgc hgf hcs hf0 hf1 hfind hown hkp hblk HSTEP t0 t1 hps hts hal hcell hwd hald hc0 hc1 hz0 hz1
      go_wp2_with fail
      refine wp_region_ord [0, 1, 2, 3, 4, 6, 7, 8, 9, 5, 10, 11] [5, 11] 11 (fun w' => w'.cell? ⟨wr.heap.size, 0, none⟩ = some (.int .i64 (qn : Int)) ∧ w'.cell? ⟨wr.heap.size, 1, none⟩ = some (.int .u8 (qp : Int)) ∧ w'.cell? ⟨b2, o2 + k * 2, none⟩ = some (.bool t.1) ∧ w'.cell? ⟨b2, o2 + k * 2 + 1, none⟩ = some (.int .u64 t.2)) hmx (by kernel_rfl) (by kernel_rfl) (by kernel_rfl) (fun _ _ _ _ _ h => h) ⟨hk0, hk1', ht0, ht1⟩ ?_
      simp only [steps, List.getElem?_cons_zero, List.getElem?_cons_succ]
      repeat (first | (refine ord_yes (v := ?_) rfl rfl ?_ ?_; rotate_left; (focus (rintro w' ⟨hS0, hS1, hS2, hS3⟩; go_simp; try with_reducible rfl)); try simp only [Act.put, List.setIfInBounds_toArray, List.set_cons_zero, List.set_cons_succ]))
      refine ord_hard rfl rfl (fun K hK => ?_)
      go_simp
      refine HFI.out.mono ?_
      rintro e w4 ⟨⟨b', o', heq, rfl⟩, rfl⟩
      injection heq with heq
      injection heq with e1 e2
      subst e1
      subst e2
      rw [Nat.zero_add, hap]
      refine hK.out _ _ (fun _ => ⟨hk0, hk1', ht0, ht1⟩) ?_
      clear hK K
      try simp only [Act.put, List.setIfInBounds_toArray, List.set_cons_zero, List.set_cons_succ]
      repeat (first | (refine ord_yes (v := ?_) rfl rfl ?_ ?_; rotate_left; (focus (rintro w' ⟨hS0, hS1, hS2, hS3⟩; go_simp; try with_reducible rfl)); try simp only [Act.put, List.setIfInBounds_toArray, List.set_cons_zero, List.set_cons_succ]))
      refine ord_hard rfl rfl (fun K hK => ?_)
      rw [← HWD.out]
      obtain ⟨⟨hc0, hc1⟩, hz0, hz1⟩ := HC.out
      have hc1' : (wd.setCell ⟨g, ap, none⟩ (.bool t.1)).cell? ⟨g, ap + 1, none⟩ = some _ := (World.cell?_setCell_other wd ⟨g, ap, none⟩ ⟨g, ap + 1, none⟩ (.bool t.1) (by simp)).trans hc1
      go_simp
      refine hK.out _ _ (fun h => absurd rfl h) ?_
      clear hK K hc0 hc1 hz0 hz1 hc1'
      refine ord_end ?_
      have HREL := Lib.hid (show FlRel ps ts m base (some ⟨g, 0, none⟩) n c w (.int .i64 ((k : Int) + 1)) _ from ⟨k + 1, by go_num, by omega, by rw [HMK1.out]; exact HW.out, HKW.out⟩)
      clear HW HKW HFI HC HWD hk0 hk1' ht0 ht1 s0 s1 s2 s3 s4
      generalize (wd.setCell ⟨g, ap, none⟩ (.bool t.1)).setCell ⟨g, ap + 1, none⟩ (.int .u64 t.2) = we at *
      go_wp2
      go_roundw
      case rel => exact HREL.out
      case measure => simp [intOf]; omega
    · obtain rfl : k = n1 := by have := HL1.out; omega
      have h1 : ps.take k = ps := List.take_of_length_le (by rw [HL1.out]; exact Nat.le_refl _)
      have h2 : ts.take k = ts := List.take_of_length_le (by rw [HL2.out]; exact Nat.le_refl _)
      rw [h1, h2] at hown
      have HO := Lib.hid hown
      have HK := Lib.hid hkp
      clear hown hkp h1 h2
      go_wp2
      go_end0
      exact ⟨rfl, HO.out, HK.out⟩
end Go.Proofs.Ytmiconjmeaammaa
