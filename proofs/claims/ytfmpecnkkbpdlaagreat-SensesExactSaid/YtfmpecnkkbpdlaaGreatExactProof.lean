/- SensesExact is true: a type is one of a scheme's just if its spots fit both senses. Condition: none but those of the statement. -/
import Derived.Test.YtfmpecnkkbpdlaaGreatExA
import Derived.Test.YtfmpecnkkbpdlaaGreatFitA
import Derived.Test.YtfmpecnkkbpdlaaGreatLiv
import Derived.Test.YtfmpecnkkbpdlaaGreatRows
import Derived.SizedLaws
namespace Go.Proofs.YtfmpecnkkbpdlaaGreat.sensesExact
open Go.ChangeShapes Go.WideShapes Go.ChangeAt Go.RowKit

/-- What comes, and what fits. -/
theorem eq_and2 {a c : Bool} {P Q R : Prop} (h : P ↔ Q ∧ R) (ha : a = true ↔ P) (q : Q) (hc : c = true ↔ R) : a = c := by
  cases a with
  | true => exact (hc.2 (h.1 (ha.1 rfl)).2).symm
  | false =>
    cases c with
    | false => rfl
    | true => exact ha.2 (h.2 ⟨q, hc.1 rfl⟩)
theorem eq_and1 {a : Bool} {P Q R : Prop} (h : P ↔ Q ∧ R) (ha : a = true ↔ P) (hb : false = true ↔ Q) : a = false := by
  cases a with
  | false => rfl
  | true => exact absurd (hb.2 (h.1 (ha.1 rfl)).1) (by decide)

set_option maxRecDepth 100000 in
set_option maxHeartbeats 16000000 in
theorem walk (s : Sch) (A : Option Addr) (n c : Nat) (A1 : Option Addr) (n1 c1 : Nat) (A2 : Option Addr) (n2 c2 : Nat) (A3 : Option Addr) (n3 c3 : Nat) (k : Int) (rows : List Nat) (A4 : Option Addr) (n4 c4 : Nat) (t : List Nd) (w : World) (h : SchAt w s A n c A1 n1 c1 A2 n2 c2) (hr : Rd La.nm w w.heap.size A3 n3 c3 rows) (hrf : La.Fit rows) (ht : Ns w w.heap.size A4 n4 c4 t) (tf : ∀ x ∈ t, x.Fits) (tt : ∀ x ∈ t, x.TFits) (hn1 : n1 ≤ 4611686018427387903) (hn2 : n2 ≤ 4611686018427387903) :
    Calls Tryz.prog 4 #[zV A3 n3 c3 k, schV s A n c A1 n1 c1 A2 n2 c2, .slice A4 n4 c4] w fun e w' => e = .returned (.bool true) ∧ Below w.heap.size w w' := by
  have HLEN := Lib.hid hr.len
  have HSA : Hid (∀ W, Below w.heap.size w W → SchAt W s A n c A1 n1 c1 A2 n2 c2) := Lib.hid fun W hW => h.keep hW
  have HT : Hid (∀ W, Below w.heap.size w W → Ns W W.heap.size A4 n4 c4 t) := Lib.hid fun W hW => ht.at_size (Nat.le_refl _) hW
  have HTF := Lib.hid tf
  have HTT := Lib.hid tt
  have HR : Hid (∀ W, Below w.heap.size w W → Rd La.nm W W.heap.size A3 n3 c3 rows) := Lib.hid fun W hW => hr.at_size (Nat.le_refl _) hW
  have HRF := Lib.hid hrf
  have HSM : Hid (∀ W : World, Calls Tryz.prog 18 #[zV A3 n3 c3 k, schV s A n c A1 n1 c1 A2 n2 c2] W fun e w' => TellsB e (fun r => r = true → SmlIs s k n3 n n1 n2) ∧ Below W.heap.size W w') := Lib.hid fun W => small_any s A n c A1 n1 c1 A2 n2 c2 A3 n3 c3 k W hn1 hn2
  have HPC : Hid (∀ W, Below w.heap.size w W → Calls Tryz.prog 12 #[zV A3 n3 c3 k] W fun e w' => ∃ a b, e = .returned (.tuple #[.iface 52 (.pointer a), .iface 55 (.pointer b)]) ∧ Both w' a b (laOf rows) (efOf k) ∧ Below W.heap.size W w') := Lib.hid fun W hW => of_sorts A3 n3 c3 k rows W (HR.out W hW) hrf
  have HOC : Hid (∀ (a b : Option Addr) (W : World), Below w.heap.size w W → Both W a b (laOf rows) (efOf k) → Calls Tryz.prog 24 #[schV s A n c A1 n1 c1 A2 n2 c2, .iface 52 (.pointer a), .iface 55 (.pointer b)] W fun e w' => ∃ x p q, e = .returned (.tuple #[Q4.v p, Q4.v q, .int .i64 x]) ∧ OfIs (laOf rows) (efOf k) s w' x p q ∧ Below W.heap.size W w') := Lib.hid fun a b W hW hbo => senOf_any s A n c A1 n1 c1 A2 n2 c2 a b _ _ W (HSA.out W hW) hbo (laOf_ok _) (efOf_ok _)
  obtain ⟨ck, hck⟩ : ∃ x, s.check (laOf rows) (efOf k) = x := ⟨_, rfl⟩
  have HCK := Lib.hid hck
  have HCC : Hid (∀ (a b : Option Addr) (W : World), Below w.heap.size w W → Both W a b (laOf rows) (efOf k) → Calls Tryz.prog 19 #[schV s A n c A1 n1 c1 A2 n2 c2, .iface 52 (.pointer a), .iface 55 (.pointer b)] W fun e w' => e = .returned (.int .i64 ck) ∧ Below W.heap.size W w') := Lib.hid fun a b W hW hbo => schCheck_any s A n c A1 n1 c1 A2 n2 c2 _ _ _ _ W (HSA.out W hW) hbo.sl.into hbo.sx.into ck hck
  have HLN := Lib.hid fun W (hW : Below w.heap.size w W) => latNew_any A3 n3 c3 rows W (HR.out W hW) hrf
  have HEN := Lib.hid fun W => effNew_any k W
  have HSG : Hid (∀ (W : World) (p q : Option Addr), ((p = none ∧ (soOf rows 0).n = 0 ∧ (soOf rows 0).L = []) ∨ ∃ g us ds, p = some ⟨g, 0, none⟩ ∧ La.LatAt W g (soOf rows 0).n us ds ∧ us.take (soOf rows 0).n = (soOf rows 0).L) → Ef.EffP W q (soOf [] k).m (soOf [] k).t → SoAt W p q (soOf rows k)) := Lib.hid fun W p q h1 h2 => ⟨h1, h2⟩
  have HLK : Hid (∀ (W W' : World) (p : Option Addr), Below W.heap.size W W' → ((p = none ∧ (soOf rows 0).n = 0 ∧ (soOf rows 0).L = []) ∨ ∃ g us ds, p = some ⟨g, 0, none⟩ ∧ La.LatAt W g (soOf rows 0).n us ds ∧ us.take (soOf rows 0).n = (soOf rows 0).L) → (p = none ∧ (soOf rows 0).n = 0 ∧ (soOf rows 0).L = []) ∨ ∃ g us ds, p = some ⟨g, 0, none⟩ ∧ La.LatAt W' g (soOf rows 0).n us ds ∧ us.take (soOf rows 0).n = (soOf rows 0).L) := Lib.hid fun W W' p hb h => by
    rcases h with h | ⟨g, us, ds, e, h, e2⟩
    · exact .inl h
    · exact .inr ⟨g, us, ds, e, h.keep hb, e2⟩
  obtain ⟨rs, hrs⟩ : ∃ r, sameB s.b t = r := ⟨_, rfl⟩
  have HRS := Lib.hid hrs
  have HSB : Hid (∀ W, Below w.heap.size w W → Calls Tryz.prog 20 #[.slice A n c, .slice A4 n4 c4] W fun e w' => e = .returned (.bool rs) ∧ Below W.heap.size W w') := Lib.hid fun W hW => same_lit' A A4 n c n4 c4 s.b t rs W (HSA.out W hW).b (HT.out W hW) hrs
  obtain ⟨ge, hge⟩ : ∃ g, grE (soOf rows k) t t = g := ⟨_, rfl⟩
  obtain ⟨gb, hgb⟩ : ∃ g, grB (soOf rows k) t t = g := ⟨_, rfl⟩
  have HGE := Lib.hid hge
  have HGC : Hid (∀ (p q : Option Addr) (W : World), Below w.heap.size w W → SoAt W p q (soOf rows k) → Calls Tryz.prog 23 #[.slice A4 n4 c4, .slice A4 n4 c4, .pointer p, .pointer q] W fun e w' => e = .returned (.tuple #[.bool gb, .int .i64 (ge : Int)]) ∧ Below W.heap.size W w') := Lib.hid fun p q W hW hso => hge ▸ hgb ▸ grounds_any A4 A4 n4 c4 n4 c4 t t p q (soOf rows k) W (HT.out W hW) (HT.out W hW) tf tf tt tt hso
  clear hck hrs hge hgb hn1 hn2
  obtain ⟨x, hx⟩ : ∃ x, w.alloc (.cells #[.slice A3 n3 c3, .int .i64 k] 24) = x := ⟨_, rfl⟩
  obtain ⟨y, hy⟩ : ∃ y, x.alloc (.cells #[.int .i64 s.lv, .int .i64 s.ev, .slice A n c, .slice A1 n1 c1, .slice A2 n2 c2] 47) = y := ⟨_, rfl⟩
  have b0 : Below w.heap.size w x := hx ▸ (Below.refl _ _).alloc (Nat.le_refl _) _
  have sx : x.heap.size = w.heap.size + 1 := by rw [← hx, World.size_alloc]
  have b1 : Below x.heap.size x y := hy ▸ (Below.refl _ _).alloc (Nat.le_refl _) _
  have k0 : y.heap[w.heap.size]? = some (.cells #[.slice A3 n3 c3, .int .i64 k] 24 (0, 0)) := (b1.block _ (by rw [sx]; omega)).trans (hx ▸ heap_alloc_new w _)
  have hbx : Box y (w.heap.size + 1) s.lv s.ev A n c A1 n1 c1 A2 n2 c2 := by rw [← sx, ← hy]; exact Box.new x s.lv s.ev A n c A1 n1 c1 A2 n2 c2
  have hb : Below w.heap.size w y := b0.trans (b1.mono b0.size)
  have s0 := (cell_blk (i := 0) k0).trans rfl
  have s1 := (cell_blk (i := 1) k0).trans rfl
  have HB := Lib.hid hb
  have HBX := Lib.hid hbx
  have HZ : Hid (ZAt y w.heap.size A3 n3 c3 k) := Lib.hid ⟨s0, s1⟩
  have HY_0 := Lib.hid (Below.refl y.heap.size y)
  clear b0 b1 sx k0 hb hbx h hr hrf ht tf tt
  subst hx
  unfold schV at HSM HOC HCC ⊢
  unfold zV at HPC HSM ⊢
  go_enter Tryz.func4, Tryz.ntmps4
  go_wp2_with fail
  clear hy
  refine (HPC.out _ HB.out).mono ?_
  rintro e v1 ⟨a, b, rfl, hbo, hv⟩
  have HBO := Lib.hid hbo
  clear hbo HPC s0 s1
  have HY_1 := Lib.hid (HY_0.out.trans (hv.mono HY_0.out.size))
  have HO_1 := Lib.hid (Below.refl v1.heap.size v1)
  clear hv HY_0
  have hbx := HBX.out.keep HY_1.out
  have z0 := hbx.z0
  have z1 := hbx.z1
  have z2 := hbx.z2
  have z3 := hbx.z3
  have z4 := hbx.z4
  clear hbx
  have hza := HZ.out.keep HY_1.out
  have s0 := hza.s0
  have s1 := hza.s1
  clear hza
  go_wp2_with fail
  refine (HSM.out _).mono ?_
  rintro e v2 ⟨⟨gr, rfl, hgr⟩, hv⟩
  have HGR := Lib.hid hgr
  clear hgr HSM z0 z1 z2 z3 z4 s0 s1
  have HY_2 := Lib.hid (HY_1.out.trans (hv.mono HY_1.out.size))
  have HO_2 := Lib.hid (HO_1.out.trans (hv.mono HO_1.out.size))
  clear hv HY_1 HO_1
  cases gr with
  | false =>
    go_wp2_with fail
    have HBZ := Lib.hid (HB.out.trans (HY_2.out.mono HB.out.size))
    refine (lives_any _).mono ?_
    rintro e wz ⟨rfl, hv⟩
    have HZ := Lib.hid (HBZ.out.trans (hv.mono HBZ.out.size))
    clear hv
    go_wp2_with fail
    go_ret
    exact ⟨rfl, HZ.out⟩
  | true =>
  have HSI := Lib.hid (HGR.out rfl)
  clear HGR
  have hbx := HBX.out.keep HY_2.out
  have z0 := hbx.z0
  have z1 := hbx.z1
  have z2 := hbx.z2
  have z3 := hbx.z3
  have z4 := hbx.z4
  clear hbx
  have hcall := HCC.out a b _ (HB.out.trans (HY_2.out.mono HB.out.size)) (HBO.out.keep HO_2.out)
  have HCALL := Lib.hid hcall
  clear hcall HCC
  go_wp2_with fail
  refine HCALL.out.mono ?_
  rintro e v3 ⟨rfl, hv⟩
  clear HCALL z0 z1 z2 z3 z4
  have HY_3 := Lib.hid (HY_2.out.trans (hv.mono HY_2.out.size))
  have HO_3 := Lib.hid (HO_2.out.trans (hv.mono HO_2.out.size))
  clear hv HY_2 HO_2
  by_cases hc0 : ck = 0
  case neg =>
    have hne : (ck != 0) = true := by simpa using hc0
    clear hc0
    go_wp2_with fail
    have HBZ := Lib.hid (HB.out.trans (HY_3.out.mono HB.out.size))
    refine (lives_any _).mono ?_
    rintro e wz ⟨rfl, hv⟩
    have HZ := Lib.hid (HBZ.out.trans (hv.mono HBZ.out.size))
    clear hv
    go_wp2_with fail
    go_ret
    exact ⟨rfl, HZ.out⟩
  subst hc0
  by_cases hbig : 12 < n4
  · have hbig' : (12 : Int) < (n4 : Int) := by omega
    clear hbig
    go_wp2_with fail
    have HBZ := Lib.hid (HB.out.trans (HY_3.out.mono HB.out.size))
    refine (lives_any _).mono ?_
    rintro e wz ⟨rfl, hv⟩
    have HZ := Lib.hid (HBZ.out.trans (hv.mono HBZ.out.size))
    clear hv
    go_wp2_with fail
    go_ret
    exact ⟨rfl, HZ.out⟩
  have hbig' : ¬ (12 : Int) < (n4 : Int) := by omega
  clear hbig
  have hbx := HBX.out.keep HY_3.out
  have z2 := hbx.z2
  clear hbx
  have hcall := HSB.out _ (HB.out.trans (HY_3.out.mono HB.out.size))
  have HCALL := Lib.hid hcall
  clear hcall HSB
  go_wp2_with fail
  refine HCALL.out.mono ?_
  rintro e v4 ⟨rfl, hv⟩
  clear HCALL z2
  have HY_4 := Lib.hid (HY_3.out.trans (hv.mono HY_3.out.size))
  have HO_4 := Lib.hid (HO_3.out.trans (hv.mono HO_3.out.size))
  clear hv HY_3 HO_3
  cases rs with
  | false =>
    go_wp2_with fail
    have HBZ := Lib.hid (HB.out.trans (HY_4.out.mono HB.out.size))
    refine (lives_any _).mono ?_
    rintro e wz ⟨rfl, hv⟩
    have HZ := Lib.hid (HBZ.out.trans (hv.mono HBZ.out.size))
    clear hv
    go_wp2_with fail
    go_ret
    exact ⟨rfl, HZ.out⟩
  | true =>
  have hza := HZ.out.keep HY_4.out
  have s0 := hza.s0
  clear hza
  have hcall := HLN.out _ (HB.out.trans (HY_4.out.mono HB.out.size))
  have HCALL := Lib.hid hcall
  clear hcall HLN
  go_wp2_with fail
  refine HCALL.out.mono ?_
  rintro e v5 ⟨p, xp, rfl, -, hlat, hv⟩
  have HLAT := Lib.hid hlat
  clear hlat HCALL s0 hbig'
  have HY_5 := Lib.hid (HY_4.out.trans (hv.mono HY_4.out.size))
  have HO_5 := Lib.hid (HO_4.out.trans (hv.mono HO_4.out.size))
  have HL_5 := Lib.hid (Below.refl v5.heap.size v5)
  clear hv HY_4 HO_4
  have hza := HZ.out.keep HY_5.out
  have s1 := hza.s1
  clear hza
  go_wp2_with fail
  refine (HEN.out _).mono ?_
  rintro e v6 ⟨q, xq, rfl, -, heff, hv⟩
  have HSO := Lib.hid (HSG.out v6 p q (HLK.out _ _ p hv HLAT.out) heff)
  clear heff HEN s1 HLAT HSG HLK
  have HY_6 := Lib.hid (HY_5.out.trans (hv.mono HY_5.out.size))
  have HO_6 := Lib.hid (HO_5.out.trans (hv.mono HO_5.out.size))
  have HL_6 := Lib.hid (HL_5.out.trans (hv.mono HL_5.out.size))
  have HG_6 := Lib.hid (Below.refl v6.heap.size v6)
  clear hv HY_5 HO_5 HL_5
  have hcall := HGC.out p q _ (HB.out.trans (HY_6.out.mono HB.out.size)) HSO.out
  have HCALL := Lib.hid hcall
  clear hcall HGC
  go_wp2_with fail
  refine HCALL.out.mono ?_
  rintro e v7 ⟨rfl, hv⟩
  clear HCALL
  have HY_7 := Lib.hid (HY_6.out.trans (hv.mono HY_6.out.size))
  have HO_7 := Lib.hid (HO_6.out.trans (hv.mono HO_6.out.size))
  have HL_7 := Lib.hid (HL_6.out.trans (hv.mono HL_6.out.size))
  have HG_7 := Lib.hid (HG_6.out.trans (hv.mono HG_6.out.size))
  clear hv HY_6 HO_6 HL_6 HG_6
  by_cases hg0 : ge = 0
  case neg =>
    have hne : ((ge : Int) != 0) = true := by simp; omega
    clear hg0
    go_wp2_with fail
    have HBZ := Lib.hid (HB.out.trans (HY_7.out.mono HB.out.size))
    refine (lives_any _).mono ?_
    rintro e wz ⟨rfl, hv⟩
    have HZ := Lib.hid (HBZ.out.trans (hv.mono HBZ.out.size))
    clear hv
    go_wp2_with fail
    go_ret
    exact ⟨rfl, HZ.out⟩
  subst hg0
  have hbx := HBX.out.keep HY_7.out
  have z0 := hbx.z0
  have z1 := hbx.z1
  have z2 := hbx.z2
  have z3 := hbx.z3
  have z4 := hbx.z4
  clear hbx
  have hcall := HOC.out a b _ (HB.out.trans (HY_7.out.mono HB.out.size)) (HBO.out.keep HO_7.out)
  have HCALL := Lib.hid hcall
  clear hcall HOC
  go_wp2_with fail
  refine HCALL.out.mono ?_
  rintro e v8 ⟨er, p8, q8, rfl, hof, hv⟩
  have HOF := Lib.hid hof
  clear hof HCALL z0 z1 z2 z3 z4
  have HY_8 := Lib.hid (HY_7.out.trans (hv.mono HY_7.out.size))
  have HO_8 := Lib.hid (HO_7.out.trans (hv.mono HO_7.out.size))
  have HL_8 := Lib.hid (HL_7.out.trans (hv.mono HL_7.out.size))
  have HG_8 := Lib.hid (HG_7.out.trans (hv.mono HG_7.out.size))
  clear hv HY_7 HO_7 HL_7 HG_7
  obtain ⟨B1, m1, d1, B2, m2, d2, B3, m3, d3, B4, m4, d4⟩ := p8
  obtain ⟨C1, k1, f1, C2, k2, f2, C3, k3, f3, C4, k4, f4⟩ := q8
  simp only [Q4.v, senV]
  have h8 := B8.new v8 B1 m1 d1 B2 m2 d2 B3 m3 d3 B4 m4 d4 C1 k1 f1 C2 k2 f2 C3 k3 f3 C4 k4 f4
  have hv := two_below v8 (.cells #[.slice B1 m1 d1, .slice B2 m2 d2, .slice B3 m3 d3, .slice B4 m4 d4] 28) (.cells #[.slice C1 k1 f1, .slice C2 k2 f2, .slice C3 k3 f3, .slice C4 k4 f4] 28)
  obtain ⟨v9, hwa⟩ : ∃ wa, (v8.alloc (.cells #[.slice B1 m1 d1, .slice B2 m2 d2, .slice B3 m3 d3, .slice B4 m4 d4] 28)).alloc (.cells #[.slice C1 k1 f1, .slice C2 k2 f2, .slice C3 k3 f3, .slice C4 k4 f4] 28) = wa := ⟨_, rfl⟩
  rw [hwa] at h8 hv
  have H8 := Lib.hid h8
  have HVV := Lib.hid hv
  clear h8
  have HY_9 := Lib.hid (HY_8.out.trans (hv.mono HY_8.out.size))
  have HO_9 := Lib.hid (HO_8.out.trans (hv.mono HO_8.out.size))
  have HL_9 := Lib.hid (HL_8.out.trans (hv.mono HL_8.out.size))
  have HG_9 := Lib.hid (HG_8.out.trans (hv.mono HG_8.out.size))
  have HA_9 := Lib.hid (Below.refl v9.heap.size v9)
  clear hv HY_8 HO_8 HL_8 HG_8
  have hbx := HBX.out.keep HY_9.out
  have z0 := hbx.z0
  have z1 := hbx.z1
  have z2 := hbx.z2
  have z3 := hbx.z3
  have z4 := hbx.z4
  clear hbx
  have hza := HZ.out.keep HY_9.out
  have s0 := hza.s0
  have s1 := hza.s1
  clear hza
  obtain ⟨rc, hrc⟩ : ∃ P : Prop, P = CmOK (laOf rows) (efOf k) (soOf rows k) s t n3 (2 ^ k.toNat) s.lv.toNat s.ev.toNat := ⟨_, rfl⟩
  have HRC := Lib.hid hrc
  have hsi := so_is (k := k) (labels_rows HGE.out).1 (labels_rows HGE.out).2 HSI.out.k0 HSI.out.k2
  rw [HLEN.out] at hsi
  have HSI2 := Lib.hid hsi
  clear hsi
  have hcall := comes_call s A n c A1 n1 c1 A2 n2 c2 A3 n3 c3 k rows A4 n4 c4 t v9 (HSA.out _ (HB.out.trans (HY_9.out.mono HB.out.size))) (HR.out _ (HB.out.trans (HY_9.out.mono HB.out.size))) HRF.out (HT.out _ (HB.out.trans (HY_9.out.mono HB.out.size))) HTF.out HTT.out HCK.out HSI.out HSI2.out
  rw [← hrc] at hcall
  unfold schV zV at hcall
  have HCALL := Lib.hid hcall
  clear hcall hrc
  go_wp2_with fail
  clear hwa
  refine HCALL.out.mono ?_
  rintro e v10 ⟨⟨cm, rfl, hcm⟩, hv⟩
  have HCM := Lib.hid hcm
  clear hcm HCALL z0 z1 z2 z3 z4 s0 s1
  have HY_10 := Lib.hid (HY_9.out.trans (hv.mono HY_9.out.size))
  have HO_10 := Lib.hid (HO_9.out.trans (hv.mono HO_9.out.size))
  have HL_10 := Lib.hid (HL_9.out.trans (hv.mono HL_9.out.size))
  have HG_10 := Lib.hid (HG_9.out.trans (hv.mono HG_9.out.size))
  have HA_10 := Lib.hid (HA_9.out.trans (hv.mono HA_9.out.size))
  clear hv HY_9 HO_9 HL_9 HG_9 HA_9
  rcases HOF.out with ⟨hne0, -, -, hee⟩ | ⟨rfl, ql, qe, lo, hi, lo', hi', hok, hp, hq⟩
  · have he10 : er = 10 ∧ (NoVals (laOf rows) s.lv s.l ∨ NoVals (efOf k) s.ev s.e) := by
      rcases hee with e | ⟨-, e1, e2⟩
      · exact absurd (e.symm.trans HCK.out) hne0
      · exact ⟨e1, e2⟩
    obtain rfl : cm = false := by
      cases cm with
      | false => rfl
      | true =>
        have hc := HCM.out.1 rfl
        rw [HRC.out] at hc
        exact absurd hc (exact_no HSI2.out HCK.out (by have := HSI.out.l0; omega) (by have := HSI.out.e0; omega) HRS.out HGE.out he10.2)
    obtain rfl : er = 10 := he10.1
    clear hne0 hee he10
    go_wp2_with fail
    have HBZ := Lib.hid (HB.out.trans (HY_10.out.mono HB.out.size))
    refine (lives_any _).mono ?_
    rintro e wz ⟨rfl, hv⟩
    have HZ := Lib.hid (HBZ.out.trans (hv.mono HBZ.out.size))
    clear hv
    go_wp2_with fail
    go_ret
    exact ⟨rfl, HZ.out⟩
  obtain rfl : ql = s.lv.toNat := by have := hok.lv; omega
  obtain rfl : qe = s.ev.toNat := by have := hok.ev; omega
  have HEX := Lib.hid (exact_ok HSI2.out hok HRS.out HGE.out)
  have HSD := Lib.hid (labB_side (same_alks HRS.out (Sch.check_is.1 hok.chk).1 ((grE_zero _).1 HGE.out).1) (Sch.check_is.1 hok.chk).1 ((grE_zero _).1 HGE.out).1)
  replace hp : SenAt v8 (senS (laOf rows) lo hi (rcB s.lv.toNat s.l) (labB s.b)) B1 m1 d1 B2 m2 d2 B3 m3 d3 B4 m4 d4 := hp
  replace hq : SenAt v8 (senS (efOf k) lo' hi' (rcB s.ev.toNat s.e) (effB s.b)) C1 k1 f1 C2 k2 f2 C3 k3 f3 C4 k4 f4 := hq
  have HP := Lib.hid (hp.keep HVV.out)
  have HQ := Lib.hid (hq.keep HVV.out)
  rw [← HRC.out] at HEX
  obtain ⟨kl, hkl⟩ : ∃ k, (labB t).length = k := ⟨_, rfl⟩
  obtain ⟨ke, hke⟩ : ∃ k, (effB t).length = k := ⟨_, rfl⟩
  have HKL := Lib.hid hkl
  have HKE := Lib.hid hke
  have HL5 := Lib.hid (show kl ≤ 100000 by rw [← hkl]; exact Nat.le_trans (labB_len t) (by decide))
  have HE5 := Lib.hid (show ke ≤ 100000 by rw [← hke]; exact Nat.le_trans (effB_len t) (by decide))
  clear hp hq hok hkl hke HOF HVV HRC HSI2
  have hcall := of_len A4 n4 c4 t _ _ kl ke v10 (HT.out _ (HB.out.trans (HY_10.out.mono HB.out.size))) HTF.out rfl rfl HKL.out HKE.out
  have HCALL := Lib.hid hcall
  clear hcall
  go_wp2_with fail
  refine HCALL.out.mono ?_
  rintro e v11 ⟨P1, pc1, Q1, qc1, rfl, hT⟩
  have hv := hT.bel
  have HS := Lib.hid hT
  clear HCALL hT
  have HY_11 := Lib.hid (HY_10.out.trans (hv.mono HY_10.out.size))
  have HO_11 := Lib.hid (HO_10.out.trans (hv.mono HO_10.out.size))
  have HL_11 := Lib.hid (HL_10.out.trans (hv.mono HL_10.out.size))
  have HG_11 := Lib.hid (HG_10.out.trans (hv.mono HG_10.out.size))
  have HA_11 := Lib.hid (HA_10.out.trans (hv.mono HA_10.out.size))
  have HS_11 := Lib.hid (Below.refl v11.heap.size v11)
  clear hv HY_10 HO_10 HL_10 HG_10 HA_10
  have h8 := H8.out.keep HA_11.out
  have y0 := h8.p0
  have y1 := h8.p1
  have y2 := h8.p2
  have y3 := h8.p3
  have hcall := fitsz_any (.iface 52 (.pointer a)) (laOf rows) B1 m1 d1 B2 m2 d2 B3 m3 d3 B4 m4 d4 _ P1 kl pc1 (labB t) v11 (HBO.out.keep HO_11.out).sl (HP.out.keep HA_11.out) (HS.out.r1.at_size (Nat.le_refl _) HS_11.out) (labB_u64 HTT.out) (by simpa [senS] using side_len HSD.out.1) (by simpa [senS] using side_len HSD.out.1) (by simpa [senS] using side_len HSD.out.1) (by simpa [senS] using side_len HSD.out.1) (fun r hr => by
    obtain ⟨p, -, rfl⟩ := List.mem_map.1 hr
    simpa using side_len HSD.out.1) HL5.out
  unfold senV at hcall
  have HCALL := Lib.hid hcall
  clear hcall h8
  go_wp2_with fail
  refine HCALL.out.mono ?_
  rintro e v12 ⟨⟨ra, rfl, hra⟩, hv⟩
  have Hra := Lib.hid hra
  clear HCALL hra y0 y1 y2 y3
  have HY_12 := Lib.hid (HY_11.out.trans (hv.mono HY_11.out.size))
  have HO_12 := Lib.hid (HO_11.out.trans (hv.mono HO_11.out.size))
  have HL_12 := Lib.hid (HL_11.out.trans (hv.mono HL_11.out.size))
  have HG_12 := Lib.hid (HG_11.out.trans (hv.mono HG_11.out.size))
  have HA_12 := Lib.hid (HA_11.out.trans (hv.mono HA_11.out.size))
  have HS_12 := Lib.hid (HS_11.out.trans (hv.mono HS_11.out.size))
  clear hv HY_11 HO_11 HL_11 HG_11 HA_11 HS_11
  cases ra with
  | false =>
    obtain rfl : cm = false := eq_and1 HEX.out HCM.out Hra.out
    go_wp2_with fail
    have HBZ := Lib.hid (HB.out.trans (HY_12.out.mono HB.out.size))
    refine (lives_any _).mono ?_
    rintro e wz ⟨rfl, hv⟩
    have HZ := Lib.hid (HBZ.out.trans (hv.mono HBZ.out.size))
    clear hv
    go_wp2_with fail
    go_ret
    exact ⟨rfl, HZ.out⟩
  | true =>
  have HFI := Lib.hid (Hra.out.1 rfl)
  clear Hra
  have h8 := H8.out.keep HA_12.out
  have y0 := h8.q0
  have y1 := h8.q1
  have y2 := h8.q2
  have y3 := h8.q3
  have hcall := fitsz_any (.iface 55 (.pointer b)) (efOf k) C1 k1 f1 C2 k2 f2 C3 k3 f3 C4 k4 f4 _ Q1 ke qc1 (effB t) v12 (HBO.out.keep HO_12.out).sx (HQ.out.keep HA_12.out) (HS.out.r2.at_size (Nat.le_refl _) HS_12.out) (effB_u64 HTT.out) (by simpa [senS] using side_len HSD.out.2) (by simpa [senS] using side_len HSD.out.2) (by simpa [senS] using side_len HSD.out.2) (by simpa [senS] using side_len HSD.out.2) (fun r hr => by
    obtain ⟨p, -, rfl⟩ := List.mem_map.1 hr
    simpa using side_len HSD.out.2) HE5.out
  unfold senV at hcall
  have HCALL := Lib.hid hcall
  clear hcall h8
  go_wp2_with fail
  refine HCALL.out.mono ?_
  rintro e v13 ⟨⟨rb, rfl, hrb⟩, hv⟩
  have Hrb := Lib.hid hrb
  clear HCALL hrb y0 y1 y2 y3
  have HY_13 := Lib.hid (HY_12.out.trans (hv.mono HY_12.out.size))
  have HO_13 := Lib.hid (HO_12.out.trans (hv.mono HO_12.out.size))
  have HL_13 := Lib.hid (HL_12.out.trans (hv.mono HL_12.out.size))
  have HG_13 := Lib.hid (HG_12.out.trans (hv.mono HG_12.out.size))
  have HA_13 := Lib.hid (HA_12.out.trans (hv.mono HA_12.out.size))
  have HS_13 := Lib.hid (HS_12.out.trans (hv.mono HS_12.out.size))
  clear hv HY_12 HO_12 HL_12 HG_12 HA_12 HS_12
  obtain rfl : cm = rb := eq_and2 HEX.out HCM.out HFI.out Hrb.out
  have hrr : (cm == cm) = true := by simp
  clear Hrb HEX HCM
  go_wp2_with fail
  have HBZ := Lib.hid (HB.out.trans (HY_13.out.mono HB.out.size))
  refine (lives_any _).mono ?_
  rintro e wz ⟨rfl, hv⟩
  have HZ := Lib.hid (HBZ.out.trans (hv.mono HBZ.out.size))
  clear hv
  go_wp2_with fail
  go_ret
  exact ⟨rfl, HZ.out⟩

section
variable {Hx : Type} {enc : TypeId × Value → Hx} {W : World}
theorem bytes80 : Tryz.prog.bytesOf 80 = 32 := by kernel_rfl
/-- A row of bounds weighs what its length weighs. -/
theorem weigh_bds {m : Nat} {A : Option Addr} {n c : Nat} {y : DataW Hx × List MemPlace} (h : DataW.trod enc Tryz.prog W 0 (fun _ => true) true m 45 [.slice A n c] = some y) : n = 0 ∨ ∃ x ∈ y.1.weights Tryz.prog 45, n * 32 ≤ x := by
  rcases Go.Deep.open_slice Tryz.underlying45 h with ⟨hcs, _⟩ | ⟨x, l', c', m', k', D, Pl, hcs, _, hl, hm, hmm, hy, hx⟩
  · injection hcs with e _
    injection e with e1 e2 e3
    exact .inl e2
  · injection hcs with e _
    injection e with e1 e2 e3
    subst e1 e2 e3
    refine .inr ⟨(((List.range n).map D).length + ((List.range (m' - n)).map fun j => D (n + j)).length) * Tryz.prog.bytesOf 80, ?_, ?_⟩
    · rw [hy]
      simp [DataW.weights, Tryz.underlying45]
    · rw [bytes80]
      simp only [List.length_map, List.length_range]
      exact Nat.mul_le_mul_right 32 (Nat.le_add_right _ _)
/-- A scheme, and what it weighs. -/
theorem open_schW {m : Nat} {cs : List Value} {x : DataW Hx × List MemPlace} (h : DataW.trod enc Tryz.prog W 0 (fun _ => true) true m 47 cs = some x) :
    ∃ (s : Sch) (A : Option Addr) (n c : Nat) (A1 : Option Addr) (n1 c1 : Nat) (A2 : Option Addr) (n2 c2 : Nat), cs = [.int .i64 s.lv, .int .i64 s.ev, .slice A n c, .slice A1 n1 c1, .slice A2 n2 c2] ∧ SchAt W s A n c A1 n1 c1 A2 n2 c2 ∧ (n1 = 0 ∨ ∃ y ∈ x.1.weights Tryz.prog 47, n1 * 32 ≤ y) ∧ (n2 = 0 ∨ ∃ y ∈ x.1.weights Tryz.prog 47, n2 * 32 ≤ y) := by
  obtain ⟨s, A, n, c, A1, n1, c1, A2, n2, c2, e, hS, -, -⟩ := opened_scheme (v := .agg cs.toArray) (d := x.1) (p := x.2) ⟨m, by simpa [Value.cells] using h⟩
  unfold schV at e
  injection e with e
  have e2 := congrArg Array.toList e
  have ec : cs = [.int .i64 s.lv, .int .i64 s.ev, .slice A n c, .slice A1 n1 c1, .slice A2 n2 c2] := by simpa using e2
  refine ⟨s, A, n, c, A1, n1, c1, A2, n2, c2, ec, hS, ?_⟩
  obtain ⟨xs, m', _, hx, hl', hlen, hf⟩ := DataW.trod_struct Tryz.underlying47 h
  match xs, hlen with
  | [y0, y1, y2, y3, y4], _ =>
    have h3 : DataW.trod enc Tryz.prog W 0 (fun _ => true) true m' 45 (List.take (Tryz.prog.cellsOf 45) (List.drop 3 cs)) = some y3 := hf 3 _ rfl
    have h4 : DataW.trod enc Tryz.prog W 0 (fun _ => true) true m' 45 (List.take (Tryz.prog.cellsOf 45) (List.drop 4 cs)) = some y4 := hf 4 _ rfl
    rw [cBnds, ec] at h3 h4
    have mem : ∀ (j : Nat) (d : DataW Hx), ([y0.1, y1.1, y2.1, y3.1, y4.1] : List (DataW Hx))[j]? = some d → ([3, 3, 44, 45, 45] : List Nat)[j]? = some 45 → ∀ y ∈ d.weights Tryz.prog 45, y ∈ x.1.weights Tryz.prog 47 := fun j d hd ht y hy => by
      rw [show x.1 = .agg [y0.1, y1.1, y2.1, y3.1, y4.1] from by rw [hx]; rfl]
      simp only [DataW.weights, Tryz.underlying47]
      exact DataW.weights_mem_each (j := j) (t := 45) (d := d) ht hd _ hy
    constructor
    · rcases weigh_bds h3 with e | ⟨y, hy, hy2⟩
      · exact .inl e
      · exact .inr ⟨y, mem 3 _ rfl rfl y hy, hy2⟩
    · rcases weigh_bds h4 with e | ⟨y, hy, hy2⟩
      · exact .inl e
      · exact .inr ⟨y, mem 4 _ rfl rfl y hy, hy2⟩
theorem opened_schW {v : Value} {d : DataW Hx} {p : List MemPlace} (h : DataW.Trod enc Tryz.prog W 0 (fun _ => true) true 47 v d p) (hw : ∀ y ∈ d.weights Tryz.prog 47, y ≤ 140737488351232) : ∃ (s : Sch) (A : Option Addr) (n c : Nat) (A1 : Option Addr) (n1 c1 : Nat) (A2 : Option Addr) (n2 c2 : Nat), v = schV s A n c A1 n1 c1 A2 n2 c2 ∧ SchAt W s A n c A1 n1 c1 A2 n2 c2 ∧ n1 ≤ 4611686018427387903 ∧ n2 ≤ 4611686018427387903 := by
  obtain ⟨fuel, h⟩ := h
  obtain ⟨s, A, n, c, A1, n1, c1, A2, n2, c2, e, hS, g1, g2⟩ := open_schW h
  refine ⟨s, A, n, c, A1, n1, c1, A2, n2, c2, Bo.agg_of e, hS, ?_, ?_⟩
  · rcases g1 with e | ⟨y, hy, h⟩
    · omega
    · have := hw y hy
      omega
  · rcases g2 with e | ⟨y, hy, h⟩
    · omega
    · have := hw y hy
      omega
end

theorem own : ownKnob Tryz.prog.godebug = none := by kernel_rfl
theorem laidOut : laidOutB Tryz.prog = true := by kernel_rfl

set_option maxRecDepth 100000 in
theorem lifted (os : Os) (started : os.Started) (H : Type) (enc : TypeId × Value → H) :
    ReturnsInHanded {} Tryz.checked os 4 .any (Rows.sensesExactSpec.pre6 enc Tryz.prog Tryz.f4 Rows.sensesExactRow.domain false) (Rows.sensesExactSpec.post enc Tryz.prog Tryz.f4 false true false false) := by
  refine returnsInHanded_of_change_sized (C := Tryz.checked) own started (by kernel_rfl) Tryz.func4
    (ChangeSpec.witness6 (enc := enc) (C := Tryz.checked) false ⟨#[], #[.agg #[.slice none 0 0, .int .i64 0], .agg #[.int .i64 0, .int .i64 0, .slice none 0 0, .slice none 0 0, .slice none 0 0], .slice none 0 0], []⟩ 8 (by kernel_rfl) (by kernel_rfl) (by kernel_rfl) (by kernel_rfl)) ?_
  intro W base args ds gs before hval0 hW hcnd hsz0 _
  have hval : ∀ (j : Nat) t v, Tryz.f4.params[j]? = some t → args[j]? = some v → Value.okWide Tryz.prog W .any base t v := hval0
  have hW' := hW
  obtain ⟨p, q, hA0, hV, rfl, hfz, hnd⟩ := hW
  have hA : DataW.TrodAll enc Tryz.prog W 0 (fun _ => true) true Tryz.f4.params.toList args.toList ds p := hA0
  have hsz : (DataW.weightsEach Tryz.prog (Tryz.f4.params.toList ++ Rows.sensesExactSpec.plain.varTypes Tryz.prog) (ds ++ gs)).all (· ≤ reachBytes) = true := hsz0
  rw [Tryz.params4] at hA hval hsz
  obtain ⟨v0, vs0, d0, ds0, p0, q0, hargs, rfl, rfl, h0, r0⟩ := trodAll_cons hA
  obtain ⟨v1, vs1, d1, ds1, p1, q1, rfl, rfl, rfl, h1, r1⟩ := trodAll_cons r0
  obtain ⟨v2, vs2, d2, ds2, p2, q2, rfl, rfl, rfl, h2, r2⟩ := trodAll_cons r1
  obtain ⟨rfl, rfl, rfl⟩ := trodAll_nil r2
  obtain rfl : args = #[v0, v1, v2] := by cases args; simp_all
  obtain ⟨rfl, rfl⟩ := trodVars_none hV
  have lt0 : ∀ x ∈ p0, x.block < W.heap.size := by obtain ⟨m, hm⟩ := h0; exact DataW.trod_lt m _ _ _ hm
  have lt1 : ∀ x ∈ p1, x.block < W.heap.size := by obtain ⟨m, hm⟩ := h1; exact DataW.trod_lt m _ _ _ hm
  have lt2 : ∀ x ∈ p2, x.block < W.heap.size := by obtain ⟨m, hm⟩ := h2; exact DataW.trod_lt m _ _ _ hm
  have hw : ∀ y ∈ d1.weights Tryz.prog 47, y ≤ 140737488351232 := fun y hy => by
    have h1 := List.all_eq_true.1 hsz _ (DataW.weights_mem_each (j := 1) (t := 47) (d := d1) rfl rfl _ hy)
    simp only [reachBytes] at h1
    exact of_decide_eq_true h1
  obtain ⟨A4, n4, c4, rfl⟩ := okWide_slice Tryz.underlying44 (hval 2 44 v2 rfl rfl)
  obtain ⟨t, ht, tf, tt⟩ := opened_nodes h2
  obtain ⟨A3, n3, c3, k, rows, rfl, hr, hrf⟩ := opened_sorts h0
  obtain ⟨s, A, n, c, A1, n1, c1, A2, n2, c2, rfl, hS, hn1, hn2⟩ := opened_schW h1 hw
  clear hA0 hval0
  refine (walk s A n c A1 n1 c1 A2 n2 c2 A3 n3 c3 k rows A4 n4 c4 t W hS hr hrf ht tf tt hn1 hn2).mono fun e W' ⟨he, bel⟩ => ?_
  subst he
  exact ⟨_, rfl, _, _, _, [], _, [], hW', trodAll_mk1 (shut_bool Tryz.underlying4 _), (trodAll_cons_mk (Below.trod laidOut (by kernel_rfl) (of_decide_eq_true (by kernel_rfl)) h0 bel lt0) (trodAll_cons_mk (Below.trod laidOut (by kernel_rfl) (of_decide_eq_true (by kernel_rfl)) h1 bel lt1) (trodAll_cons_mk (Below.trod laidOut (by kernel_rfl) (of_decide_eq_true (by kernel_rfl)) h2 bel lt2) trodAll_mk0))), rfl, bel.frame _, fun h => by cases h⟩

theorem over : Rows.sensesExactRow.holds Tryz.pinned (OpenSpec.ofChange Rows.sensesExactSpec) :=
  OpenClaim.holds_of_wide 4 Tryz.f4 rfl rfl rfl rfl rfl rfl rfl ⟨rfl, rfl, rfl, rfl, rfl⟩ rfl rfl rfl rfl rfl (by kernel_rfl) Tryz.func4 (by kernel_rfl)
    (of_decide_eq_true (by kernel_rfl)) (by unfold Func.isWrapper; first | (rw [if_pos (by decide +kernel)]; kernel_rfl) | (rw [if_neg (by decide +kernel)]; exact ⟨rfl, rfl⟩))
    (fun os started H enc _ => lifted os started H enc)

theorem proved : Rows.SensesExactSaid := over
#print axioms proved
end Go.Proofs.YtfmpecnkkbpdlaaGreat.sensesExact
