/- A ground scheme has no variables, is the same but for its terms, and is ground to itself: SchemesGround is true, whatever scheme and values are handed in. Condition: none but those of the statement. -/
import Derived.Test.YtmiconjmeaammaaEx
import Derived.Test.YtmiconjmeaammaaTell
import Derived.Test.YtmiconjmeaammaaRows
namespace Go.Proofs.Ytmiconjmeaammaa.schemesGround
open Go.ChangeShapes Go.WideShapes Go.ChangeAt Go.RowKit

theorem Alk.symm {x y : Nd} (h : Alk x y) : Alk y x := ⟨h.k.symm, h.m.symm, h.s.symm, h.n.symm, h.may.symm⟩
theorem same_back {l : List Nd} (ts us : List Tm) : sameB (putB l ts us) l = true :=
  same_alk (alks_putB l ts us).len.symm fun j h h' => Alk.symm ((alks_putB l ts us).get j h' h)

set_option maxRecDepth 100000 in
set_option maxHeartbeats 8000000 in
theorem walk (s : Sch) (A : Option Addr) (n c : Nat) (A1 : Option Addr) (n1 c1 : Nat) (A2 : Option Addr) (n2 c2 : Nat) (A3 : Option Addr) (n3 c3 : Nat) (A4 : Option Addr) (n4 c4 : Nat) (u x : List Nat) (w : World) (h : SchAt w s A n c A1 n1 c1 A2 n2 c2) (hu : Rd La.nm w w.heap.size A3 n3 c3 u) (huf : La.Fit u) (hx : Rd La.nm w w.heap.size A4 n4 c4 x) (hxf : La.Fit x) :
    Calls Try.prog 3 #[schV s A n c A1 n1 c1 A2 n2 c2, vV A3 n3 c3 A4 n4 c4] w fun e w' => e = .returned (.bool true) ∧ Below w.heap.size w w' := by
  have HGC := Lib.hid fun W r hr => great_any s A n c A1 n1 c1 A2 n2 c2 none 0 0 0 W r hr
  obtain ⟨gr, hgr⟩ : ∃ r, grt 0 n n1 n2 = r := ⟨_, rfl⟩
  have HGR := Lib.hid hgr
  obtain ⟨er, her⟩ : ∃ r, s.grE u x = r := ⟨_, rfl⟩
  have HER := Lib.hid her
  have HUF := Lib.hid huf
  have HXF := Lib.hid hxf
  clear hgr her huf hxf
  have hbf := h.bf
  have hbt := h.bt
  have HBF := Lib.hid (gr_fits (u := u) (x := x) hbf)
  have HBT := Lib.hid (gr_tfits (u := u) (x := x) hbt HUF.out HXF.out)
  have HF := Lib.hid hbf
  clear hbf hbt
  unfold schV zV at HGC
  unfold vV
  have HG := Lib.hid fun (W : World) (h : SchAt W s A n c A1 n1 c1 A2 n2 c2) (hu : Rd La.nm W W.heap.size A3 n3 c3 u) (hx : Rd La.nm W W.heap.size A4 n4 c4 x) => schGround_any s A n c A1 n1 c1 A2 n2 c2 A3 n3 c3 u A4 n4 c4 x W h hu hx er HER.out
  unfold schV at HG ⊢
  have hal : Below w.heap.size w (w.alloc (.cells #[.int .i64 s.lv, .int .i64 s.ev, .slice A n c, .slice A1 n1 c1, .slice A2 n2 c2] 25)) := (Below.refl _ _).alloc (Nat.le_refl _) _
  have hz := Box.new w s.lv s.ev A n c A1 n1 c1 A2 n2 c2
  generalize hwa : w.alloc (.cells #[.int .i64 s.lv, .int .i64 s.ev, .slice A n c, .slice A1 n1 c1, .slice A2 n2 c2] 25) = wa at hal hz
  have hb : Below w.heap.size w (wa.alloc (.cells #[.slice A3 n3 c3, .slice A4 n4 c4] 28)) := hal.alloc hal.size _
  have hv : Below wa.heap.size wa (wa.alloc (.cells #[.slice A3 n3 c3, .slice A4 n4 c4] 28)) := (Below.refl _ _).alloc (Nat.le_refl _) _
  replace hz := hz.keep hv
  have hbx := heap_alloc_new wa (.cells #[.slice A3 n3 c3, .slice A4 n4 c4] 28)
  have y0 : _ = some (Value.slice A3 n3 c3) := (cell_blk (i := 0) hbx).trans rfl
  have y1 : _ = some (Value.slice A4 n4 c4) := (cell_blk (i := 1) hbx).trans rfl
  clear hbx hv hal
  subst hwa
  simp only [World.size_alloc] at y0 y1
  replace h := h.keep hb
  replace hu := hu.at_size (Nat.le_refl _) hb
  replace hx := hx.at_size (Nat.le_refl _) hb
  have hz0 := hz.z0
  have hz1 := hz.z1
  have hz2 := hz.z2
  have hz3 := hz.z3
  have hz4 := hz.z4
  go_enter Try.func3, Try.ntmps3
  go_wp2_with fail
  refine (HGC.out _ _ HGR.out).mono ?_
  rintro e w1 ⟨rfl, hv⟩
  clear HGC hz0 hz1 hz2 hz3 hz4
  replace hz := hz.keep hv
  replace h := h.keep hv
  replace hu := hu.at_size (Nat.le_refl _) hv
  replace hx := hx.at_size (Nat.le_refl _) hv
  replace y0 := cell_old y0 hv
  replace y1 := cell_old y1 hv
  replace hb := hb.trans (hv.mono hb.size)
  clear hv
  obtain ⟨d, hd⟩ : ∃ d, (gr || (decide ((100 : Int) < (n3 : Int)) || decide ((100 : Int) < (n4 : Int)))) = d := ⟨_, rfl⟩
  cases d with
  | true =>
    clear HG
    cases gr with
    | true =>
      clear hd
      go_wp2_with fail
      refine (alive_any _).mono ?_
      rintro e wz ⟨rfl, hv⟩
      replace hb := hb.trans (hv.mono hb.size)
      clear hv
      go_wp2_with fail
      go_ret
      exact ⟨rfl, hb⟩
    | false =>
      by_cases g3 : (100 : Int) < (n3 : Int)
      · clear hd
        go_wp2_with fail
        refine (alive_any _).mono ?_
        rintro e wz ⟨rfl, hv⟩
        replace hb := hb.trans (hv.mono hb.size)
        clear hv
        go_wp2_with fail
        go_ret
        exact ⟨rfl, hb⟩
      · have g4 : (100 : Int) < (n4 : Int) := by simpa [g3] using hd
        clear hd
        go_wp2_with fail
        refine (alive_any _).mono ?_
        rintro e wz ⟨rfl, hv⟩
        replace hb := hb.trans (hv.mono hb.size)
        clear hv
        go_wp2_with fail
        go_ret
        exact ⟨rfl, hb⟩
  | false =>
  obtain ⟨rfl, g3, g4⟩ : gr = false ∧ ¬ (100 : Int) < (n3 : Int) ∧ ¬ (100 : Int) < (n4 : Int) := by
    rw [Bool.or_eq_false_iff, Bool.or_eq_false_iff, decide_eq_false_iff_not, decide_eq_false_iff_not] at hd
    exact hd
  clear hd
  have hz0 := hz.z0
  have hz1 := hz.z1
  have hz2 := hz.z2
  have hz3 := hz.z3
  have hz4 := hz.z4
  go_wp2_with fail
  refine (HG.out _ h hu hx).mono ?_
  rintro e w2 ⟨G, k, cg, rfl, hown, hv⟩
  clear HG hz0 hz1 hz2 hz3 hz4 y0 y1 hu hx g3 g4
  replace hz := hz.keep hv
  replace h := h.keep hv
  replace hb := hb.trans (hv.mono hb.size)
  clear hv
  by_cases he : er = 0
  case neg =>
    have hne : ((er : Int) != 0) = true := by simp; omega
    have hg0 : s.grN u x = [] := by
      unfold Sch.grN
      rw [if_neg (by rw [HER.out]; exact he)]
    rw [hg0] at hown
    obtain rfl := nil_nd hown
    clear hown he hz h hg0
    go_wp2_with fail
    refine (alive_any _).mono ?_
    rintro e wz ⟨rfl, hv⟩
    replace hb := hb.trans (hv.mono hb.size)
    clear hv
    go_wp2_with fail
    go_ret
    exact ⟨rfl, hb⟩
  subst he
  have hgr := Sch.gr_is HER.out
  have HST := Lib.hid hgr.still
  have HCK := Lib.hid hgr.chk
  obtain ⟨hs1, hs2⟩ := ground_self hgr.chk hgr.still.1 hgr.still.2
  have HS1 := Lib.hid hs1
  have HS2 := Lib.hid hs2
  have HSB : Hid (sameB (s.grN u x) s.b = true) := Lib.hid (by
    unfold Sch.grN
    rw [if_pos HER.out]
    exact same_back _ _)
  have hk := rs_own_len ndc_len (by decide) hown
  have hr1 : Ns w2 w2.heap.size G k cg (s.grN u x) := Rs.of_own ndc_len (by decide) hown
  generalize s.grN u x = g at *
  have HK := Lib.hid hk
  clear hgr hs1 hs2 hk hown
  have hsc : SchAt w2 ⟨0, 0, g, [], []⟩ G k cg none 0 0 none 0 0 := ⟨hr1, HBF.out, HBT.out, Rs.nil _ _, (fun _ h => by cases h), Rs.nil _ _, (fun _ h => by cases h)⟩
  have hcall := schGround_any ⟨0, 0, g, [], []⟩ G k cg none 0 0 none 0 0 none 0 0 [] none 0 0 [] w2 hsc (Rd.nil _ _) (Rd.nil _ _) 0 HS1.out
  rw [HS2.out] at hcall
  unfold schV at hcall
  have HC := Lib.hid hcall
  clear hcall hsc
  go_wp2_with fail
  refine HC.out.mono ?_
  rintro e w3 ⟨G2, k2, cg2, rfl, hown, hv⟩
  have hk2 := rs_own_len ndc_len (by decide) hown
  rw [HK.out] at hk2
  subst hk2
  have hr2 : Ns w3 w3.heap.size G2 k cg2 g := Rs.of_own ndc_len (by decide) hown
  clear HC hown
  replace hz := hz.keep hv
  replace h := h.keep hv
  replace hb := hb.trans (hv.mono hb.size)
  replace hr1 := hr1.at_size (Nat.le_refl _) hv
  clear hv
  go_wp2_with fail
  refine (alive_any _).mono ?_
  rintro e w4 ⟨rfl, hv⟩
  replace hz := hz.keep hv
  replace h := h.keep hv
  replace hb := hb.trans (hv.mono hb.size)
  replace hr1 := hr1.at_size (Nat.le_refl _) hv
  replace hr2 := hr2.at_size (Nat.le_refl _) hv
  clear hv
  go_wp2_with fail
  refine (stillOf_any G k cg g w4 hr1 HBF.out HST.out.1 HST.out.2).mono ?_
  rintro e w5 ⟨rfl, hv⟩
  replace hz := hz.keep hv
  replace h := h.keep hv
  replace hb := hb.trans (hv.mono hb.size)
  replace hr1 := hr1.at_size (Nat.le_refl _) hv
  replace hr2 := hr2.at_size (Nat.le_refl _) hv
  clear hv
  have hz2 := hz.z2
  go_wp2_with fail
  refine (same_lit' G A k cg n c g s.b true w5 hr1 h.b HSB.out).mono ?_
  rintro e w6 ⟨rfl, hv⟩
  replace hb := hb.trans (hv.mono hb.size)
  replace hr1 := hr1.at_size (Nat.le_refl _) hv
  replace hr2 := hr2.at_size (Nat.le_refl _) hv
  clear hv hz hz2 h
  go_wp2_with fail
  refine (sameNodes_any G G2 k cg cg2 w6.heap.size w6.heap.size g w6 hr1 hr2).mono ?_
  rintro e w7 ⟨rfl, hv⟩
  replace hb := hb.trans (hv.mono hb.size)
  clear hv
  go_wp2_with fail
  go_ret
  exact ⟨rfl, hb⟩

theorem own : ownKnob Try.prog.godebug = none := by kernel_rfl
theorem laidOut : laidOutB Try.prog = true := by kernel_rfl

set_option maxRecDepth 100000 in
theorem lifted (os : Os) (started : os.Started) (H : Type) (enc : TypeId × Value → H) :
    ReturnsInHanded {} Try.checked os 3 .any (Rows.schemesGroundSpec.pre6 enc Try.prog Try.f3 Rows.schemesGroundRow.domain false) (Rows.schemesGroundSpec.post enc Try.prog Try.f3 false true false false) := by
  refine returnsInHanded_of_change (C := Try.checked) own started (by kernel_rfl) Try.func3
    (ChangeSpec.witness6 (enc := enc) (C := Try.checked) false ⟨#[], #[.agg #[.int .i64 0, .int .i64 0, .slice none 0 0, .slice none 0 0, .slice none 0 0], .agg #[.slice none 0 0, .slice none 0 0]], []⟩ 8 (by kernel_rfl) (by kernel_rfl) (by kernel_rfl) (by kernel_rfl)) ?_
  intro W base args ds gs before hval0 hW hcnd _
  have hval : ∀ (j : Nat) t v, Try.f3.params[j]? = some t → args[j]? = some v → Value.okWide Try.prog W .any base t v := hval0
  have hW' := hW
  obtain ⟨p, q, hA0, hV, rfl, hfz, hnd⟩ := hW
  have hA : DataW.TrodAll enc Try.prog W 0 (fun _ => true) true Try.f3.params.toList args.toList ds p := hA0
  rw [Try.params3] at hA hval
  obtain ⟨v0, vs0, d0, ds0, p0, q0, hargs, rfl, rfl, h0, r0⟩ := trodAll_cons hA
  obtain ⟨v1, vs1, d1, ds1, p1, q1, rfl, rfl, rfl, h1, r1⟩ := trodAll_cons r0
  obtain ⟨rfl, rfl, rfl⟩ := trodAll_nil r1
  obtain rfl : args = #[v0, v1] := by cases args; simp_all
  obtain ⟨rfl, rfl⟩ := trodVars_none hV
  have lt0 : ∀ x ∈ p0, x.block < W.heap.size := by obtain ⟨m, hm⟩ := h0; exact DataW.trod_lt m _ _ _ hm
  have lt1 : ∀ x ∈ p1, x.block < W.heap.size := by obtain ⟨m, hm⟩ := h1; exact DataW.trod_lt m _ _ _ hm
  obtain ⟨s, A, n, c, A1, n1, c1, A2, n2, c2, rfl, hS, -, -⟩ := opened_scheme h0
  obtain ⟨A3, n3, c3, A4, n4, c4, u, x, rfl, hu, huf, hx, hxf⟩ := opened_values h1
  clear hA0 hval0
  refine (walk s A n c A1 n1 c1 A2 n2 c2 A3 n3 c3 A4 n4 c4 u x W hS hu huf hx hxf).mono fun e W' ⟨he, bel⟩ => ?_
  subst he
  exact ⟨_, rfl, _, _, _, [], _, [], hW', trodAll_mk1 (shut_bool Try.underlying4 _), (trodAll_cons_mk (Below.trod laidOut (by kernel_rfl) (of_decide_eq_true (by kernel_rfl)) h0 bel lt0) (trodAll_cons_mk (Below.trod laidOut (by kernel_rfl) (of_decide_eq_true (by kernel_rfl)) h1 bel lt1) trodAll_mk0)), rfl, bel.frame _, fun h => by cases h⟩

theorem over : Rows.schemesGroundRow.holds Try.pinned (OpenSpec.ofChange Rows.schemesGroundSpec) :=
  OpenClaim.holds_of_wide 3 Try.f3 rfl rfl rfl rfl rfl rfl rfl ⟨rfl, rfl, rfl, rfl, rfl⟩ rfl rfl rfl rfl rfl (by kernel_rfl) Try.func3 (by kernel_rfl)
    (of_decide_eq_true (by kernel_rfl)) (by unfold Func.isWrapper; first | (rw [if_pos (by decide +kernel)]; kernel_rfl) | (rw [if_neg (by decide +kernel)]; exact ⟨rfl, rfl⟩))
    (fun os started H enc _ => lifted os started H enc)

theorem proved : Rows.SchemesGroundSaid := over
#print axioms proved
end Go.Proofs.Ytmiconjmeaammaa.schemesGround
