/- SchemesOf answers true: the walk. Condition: what comes in can be read. -/
import Derived.Test.YtmiconjmeaammaaGreatDoorTwinS
import Derived.Test.YtmiconjmeaammaaGreatDoorCame
namespace Go.Proofs.YtmiconjmeaammaaGreatDoor
open Go.RowKit

theorem heldD {bk hb cap : Nat} {es : List Ent} {b : Nat} (hd : (heldOf bk hb cap es).D es.length b) : ∃ e ∈ es, ∃ a, e.A = some a ∧ b = a.block := by
  obtain ⟨j, hj, hn, hb⟩ := hd
  have hget : es.getD j zEnt = es[j] := by rw [List.getD_eq_getElem?_getD, List.getElem?_eq_getElem hj]; rfl
  have hn : (es.getD j zEnt).A.isNone = false := hn
  have hb : b = ((es.getD j zEnt).A.map Addr.block).getD 0 := hb
  rw [hget] at hn hb
  refine ⟨es[j], List.getElem_mem hj, ?_⟩
  cases hA : es[j].A with
  | none => rw [hA] at hn; cases hn
  | some a => exact ⟨a, rfl, by rw [hb, hA]; rfl⟩
theorem twinB_lone {w w' : World} {g n no : Nat} {l : List Bo.Bd} (h : Bo.TwinB w w' g n l) : Lone 91 4 w' ⟨some ⟨g, 0, none⟩, n, n + 1, no⟩ := by
  refine .inr ⟨g, _, rfl, h.blk, ?_, by show n ≤ n + 1; omega, by show n + 1 ≤ maxLen; have := h.top; unfold maxLen; omega, by show n ≤ 1000000; have := h.top; omega⟩
  have hl := flat_len Bo.bdc_len (l ++ [Bo.bMark])
  show ((l ++ [Bo.bMark]).flatMap Bo.bdc).toArray.size = (n + 1) * 4
  rw [List.size_toArray, hl, List.length_append, h.len]
  rfl
theorem twinNd_lone {w w' : World} {g n no : Nat} {l : List Nd} (h : TwinAt w w' g n l) : Lone 110 10 w' ⟨some ⟨g, 0, none⟩, n, n + 1, no⟩ := by
  refine .inr ⟨g, _, rfl, h.blk, ?_, by show n ≤ n + 1; omega, by show n + 1 ≤ maxLen; have := h.top; unfold maxLen; omega, by show n ≤ 1000000; have := h.top; omega⟩
  have hl := flat_len ndc_len (l ++ [nMark])
  show ((l ++ [nMark]).flatMap ndc).toArray.size = (n + 1) * 10
  rw [List.size_toArray, hl, List.length_append, h.len]
  rfl
theorem twinN_lone {w w' : World} {g n no : Nat} {l : List Nat} (h : La.TwinOf w w' g n l) (hn : n ≤ 1000) : Lone 80 1 w' ⟨some ⟨g, 0, none⟩, n, n + 1, no⟩ := by
  refine .inr ⟨g, _, rfl, h.blk, ?_, by show n ≤ n + 1; omega, by show n + 1 ≤ maxLen; have := h.top; unfold maxLen at *; omega, by show n ≤ 1000000; omega⟩
  show (La.cl (l ++ [77])).size = (n + 1) * 1
  simp [La.cl, h.len]
theorem grN_len (s : Sch) (u x : List Nat) : (s.grN u x).length ≤ s.b.length := by
  unfold Sch.grN
  split
  · exact Nat.le_of_eq (alks_putB _ _ _).len.symm
  · exact Nat.zero_le _

abbrev oBook : Obj := .cells (bookCells 0 (.slice none 0 0) (.slice none 0 0) (.slice none 0 0)) 66
theorem book0 (w : World) : BookK (w.alloc oBook) w.heap.size 0 (.slice none 0 0) 0 [] (.slice none 0 0) 0 [] (.slice none 0 0) 0 [] := ⟨heap_alloc_new w _, World.ownsRow_nil _ _ _ _, World.ownsRow_nil _ _ _ _, World.ownsRow_nil _ _ _ _⟩

set_option maxRecDepth 100000 in
set_option maxHeartbeats 16000000 in
theorem walk (s : Sch) (A : Option Addr) (n c : Nat) (A1 : Option Addr) (n1 c1 : Nat) (A2 : Option Addr) (n2 c2 : Nat) (A3 : Option Addr) (n3 c3 : Nat) (k : Int) (rows : List Nat) (A4 : Option Addr) (n4 c4 : Nat) (A5 : Option Addr) (n5 c5 : Nat) (u x : List Nat) (w : World) (h : SchAt w s A n c A1 n1 c1 A2 n2 c2) (hr : Rd La.nm w w.heap.size A3 n3 c3 rows) (hrf : La.Fit rows) (hu : Rd La.nm w w.heap.size A4 n4 c4 u) (hx : Rd La.nm w w.heap.size A5 n5 c5 x) :
    Calls Tryz.prog 3 #[schV s A n c A1 n1 c1 A2 n2 c2, zV A3 n3 c3 k, vV A4 n4 c4 A5 n5 c5] w fun e w' => e = .returned (.bool true) ∧ Below w.heap.size w w' := by
  have HGC := Lib.hid fun W r hr => great_any s A n c A1 n1 c1 A2 n2 c2 A3 n3 c3 k W r hr
  obtain ⟨gr, hgr⟩ : ∃ r, grt n3 n n1 n2 = r := ⟨_, rfl⟩
  have HGR := Lib.hid hgr
  have HOF := Lib.hid fun W (h : Rd La.nm W W.heap.size A3 n3 c3 rows) => of_sorts A3 n3 c3 k rows W h hrf
  have HLA := Lib.hid fun W (h : Rd La.nm W W.heap.size A3 n3 c3 rows) => Bo.labels_any A3 n3 c3 rows W W.heap.size (Nat.le_refl _) h hrf
  have HEF := Lib.hid fun W => Bo.effects_any k W
  have e1 : (if La.checkN rows = 0 then Bo.laS rows else Bo.dead) = laOf rows := rfl
  have e2 : (if 0 ≤ k ∧ k ≤ 64 then Bo.efS true (Ef.topN k.toNat) else Bo.dead) = efOf k := rfl
  rw [e1] at HLA
  rw [e2] at HEF
  clear e1 e2
  generalize laOf rows = S at HOF HLA
  generalize efOf k = X at HOF HEF
  obtain ⟨xc, hxc⟩ : ∃ y, s.check S X = y := ⟨_, rfl⟩
  obtain ⟨er, her⟩ : ∃ r, s.grE u x = r := ⟨_, rfl⟩
  have HXC := Lib.hid hxc
  have HER := Lib.hid her
  have HTS := Lib.hid fun W (h : SchAt W s A n c A1 n1 c1 A2 n2 c2) => twinSch_any s A n c A1 n1 c1 A2 n2 c2 W h
  have HRG := Lib.hid fun W (h : SchAt W s A n c A1 n1 c1 A2 n2 c2) (hu : Rd La.nm W W.heap.size A4 n4 c4 u) (hx : Rd La.nm W W.heap.size A5 n5 c5 x) => refSchGround_any s A n c A1 n1 c1 A2 n2 c2 A4 n4 c4 u A5 n5 c5 x W h hu hx er her
  have HLEN := Lib.hid (grN_len s u x)
  have HBL := Lib.hid h.b.len
  clear hgr hxc her hrf
  unfold schV zV at HGC
  unfold zV at HOF
  unfold schV at HTS HRG
  unfold schV zV vV
  have hal : Below w.heap.size w (w.alloc (.cells #[.int .i64 s.lv, .int .i64 s.ev, .slice A n c, .slice A1 n1 c1, .slice A2 n2 c2] 25)) := (Below.refl _ _).alloc (Nat.le_refl _) _
  have hz := Box.new w s.lv s.ev A n c A1 n1 c1 A2 n2 c2
  generalize hwa : w.alloc (.cells #[.int .i64 s.lv, .int .i64 s.ev, .slice A n c, .slice A1 n1 c1, .slice A2 n2 c2] 25) = wa at hal hz
  have hv : Below wa.heap.size wa (wa.alloc (.cells #[.slice A3 n3 c3, .int .i64 k] 28)) := (Below.refl _ _).alloc (Nat.le_refl _) _
  replace hz := hz.keep hv
  have hbx := heap_alloc_new wa (.cells #[.slice A3 n3 c3, .int .i64 k] 28)
  have y0 : _ = some (Value.slice A3 n3 c3) := (cell_blk (i := 0) hbx).trans rfl
  have y1 : _ = some (Value.int .i64 k) := (cell_blk (i := 1) hbx).trans rfl
  have hb : Below w.heap.size w (wa.alloc (.cells #[.slice A3 n3 c3, .int .i64 k] 28)) := hal.trans (hv.mono hal.size)
  clear hbx hv hal
  subst hwa
  generalize hwa : (w.alloc (.cells #[.int .i64 s.lv, .int .i64 s.ev, .slice A n c, .slice A1 n1 c1, .slice A2 n2 c2] 25)).alloc (.cells #[.slice A3 n3 c3, .int .i64 k] 28) = wa at *
  have hsz : wa.heap.size = w.heap.size + 1 + 1 := by rw [← hwa, World.size_alloc, World.size_alloc]
  have hv : Below wa.heap.size wa (wa.alloc (.cells #[.slice A4 n4 c4, .slice A5 n5 c5] 30)) := (Below.refl _ _).alloc (Nat.le_refl _) _
  replace hz := hz.keep hv
  replace y0 := cell_old y0 hv
  replace y1 := cell_old y1 hv
  have hbx := heap_alloc_new wa (.cells #[.slice A4 n4 c4, .slice A5 n5 c5] 30)
  have v0 : _ = some (Value.slice A4 n4 c4) := (cell_blk (i := 0) hbx).trans rfl
  have v1 : _ = some (Value.slice A5 n5 c5) := (cell_blk (i := 1) hbx).trans rfl
  replace hb := hb.trans (hv.mono hb.size)
  clear hbx hv
  rw [hsz] at v0 v1
  clear hsz
  subst hwa
  simp only [World.size_alloc] at y0 y1
  replace h := h.keep hb
  replace hr := hr.at_size (Nat.le_refl _) hb
  replace hu := hu.at_size (Nat.le_refl _) hb
  replace hx := hx.at_size (Nat.le_refl _) hb
  have hz0 := hz.z0
  have hz1 := hz.z1
  have hz2 := hz.z2
  have hz3 := hz.z3
  have hz4 := hz.z4
  go_enter Tryz.func3, Tryz.ntmps3
  go_wp2_with fail
  refine (HGC.out _ _ HGR.out).mono ?_
  rintro e w1 ⟨rfl, hv⟩
  clear HGC
  clear hz0 hz1 hz2 hz3 hz4
  replace hz := hz.keep hv
  replace h := h.keep hv
  replace hr := hr.at_size (Nat.le_refl _) hv
  replace hu := hu.at_size (Nat.le_refl _) hv
  replace hx := hx.at_size (Nat.le_refl _) hv
  replace y0 := cell_old y0 hv
  replace y1 := cell_old y1 hv
  replace v0 := cell_old v0 hv
  replace v1 := cell_old v1 hv
  replace hb := hb.trans (hv.mono hb.size)
  clear hv
  cases gr with
  | true =>
    go_wp2_with fail
    go_ret
    exact ⟨rfl, hb⟩
  | false =>
  obtain ⟨-, q2, q3, q4⟩ := grt_no HGR.out
  have HN := Lib.hid (And.intro q2 (And.intro q3 q4))
  clear q2 q3 q4 HGR
  by_cases g1 : (100 : Int) < (n4 : Int)
  · clear HLEN HBL
    go_wp2_with fail
    go_ret
    exact ⟨rfl, hb⟩
  by_cases g2 : (100 : Int) < (n5 : Int)
  · clear HLEN HBL
    go_wp2_with fail
    go_ret
    exact ⟨rfl, hb⟩
  have HM := Lib.hid (And.intro (show n4 ≤ 100 by omega) (show n5 ≤ 100 by omega))
  go_wp2_with fail
  clear g1 g2
  refine (HOF.out _ hr).mono ?_
  rintro e w2 ⟨a, b, rfl, hS, hv⟩
  clear HOF
  replace hz := hz.keep hv
  replace h := h.keep hv
  replace hr := hr.at_size (Nat.le_refl _) hv
  replace hu := hu.at_size (Nat.le_refl _) hv
  replace hx := hx.at_size (Nat.le_refl _) hv
  replace y0 := cell_old y0 hv
  replace y1 := cell_old y1 hv
  replace v0 := cell_old v0 hv
  replace v1 := cell_old v1 hv
  replace hb := hb.trans (hv.mono hb.size)
  clear hv
  have hz0 := hz.z0
  have hz1 := hz.z1
  have hz2 := hz.z2
  have hz3 := hz.z3
  have hz4 := hz.z4
  go_wp2_with fail
  refine (HTS.out _ h (by have := HN.out.1; omega) (by have := HN.out.2.1; omega) (by have := HN.out.2.2; omega)).mono ?_
  rintro e w3 ⟨t1, t2, t3, rfl, ht, hv⟩
  have HOT := Lib.hid (And.intro (Nat.le_trans hb.size ht.t1.old) (And.intro (Nat.le_trans hb.size ht.t2.old) (Nat.le_trans hb.size ht.t3.old)))
  clear HTS
  clear hz0 hz1 hz2 hz3 hz4
  replace hz := hz.keep hv
  replace h := h.keep hv
  replace hr := hr.at_size (Nat.le_refl _) hv
  replace hu := hu.at_size (Nat.le_refl _) hv
  replace hx := hx.at_size (Nat.le_refl _) hv
  replace y0 := cell_old y0 hv
  replace y1 := cell_old y1 hv
  replace v0 := cell_old v0 hv
  replace v1 := cell_old v1 hv
  replace hS := hS.keep hv
  replace hb := hb.trans (hv.mono hb.size)
  clear hv
  have hbt := Box.new w3 s.lv s.ev (some ⟨t1, 0, none⟩) n (n + 1) (some ⟨t2, 0, none⟩) n1 (n1 + 1) (some ⟨t3, 0, none⟩) n2 (n2 + 1)
  have hv : Below w3.heap.size w3 (w3.alloc (.cells #[.int .i64 s.lv, .int .i64 s.ev, .slice (some ⟨t1, 0, none⟩) n (n + 1), .slice (some ⟨t2, 0, none⟩) n1 (n1 + 1), .slice (some ⟨t3, 0, none⟩) n2 (n2 + 1)] 25)) := (Below.refl _ _).alloc (Nat.le_refl _) _
  replace hz := hz.keep hv
  replace h := h.keep hv
  replace hr := hr.at_size (Nat.le_refl _) hv
  replace hu := hu.at_size (Nat.le_refl _) hv
  replace hx := hx.at_size (Nat.le_refl _) hv
  replace y0 := cell_old y0 hv
  replace y1 := cell_old y1 hv
  replace v0 := cell_old v0 hv
  replace v1 := cell_old v1 hv
  replace hS := hS.keep hv
  replace ht := ht.keep hv
  replace hb := hb.trans (hv.mono hb.size)
  clear hv

  go_wp2_with fail
  generalize hgw : w3.alloc (.cells #[.int .i64 s.lv, .int .i64 s.ev, .slice (some ⟨t1, 0, none⟩) n (n + 1), .slice (some ⟨t2, 0, none⟩) n1 (n1 + 1), .slice (some ⟨t3, 0, none⟩) n2 (n2 + 1)] 25) = w4 at *
  clear hgw
  generalize w3.heap.size = gt at *
  refine (La.twin_any A4 n4 c4 u w4 hu (by have := HM.out.1; omega)).mono ?_
  rintro e w5 ⟨gL, rfl, tL, hv⟩
  have HOL := Lib.hid (Nat.le_trans hb.size tL.old)
  replace hz := hz.keep hv
  replace h := h.keep hv
  replace hr := hr.at_size (Nat.le_refl _) hv
  replace hu := hu.at_size (Nat.le_refl _) hv
  replace hx := hx.at_size (Nat.le_refl _) hv
  replace y0 := cell_old y0 hv
  replace y1 := cell_old y1 hv
  replace v0 := cell_old v0 hv
  replace v1 := cell_old v1 hv
  replace hS := hS.keep hv
  replace ht := ht.keep hv
  replace hbt := hbt.keep hv
  replace hb := hb.trans (hv.mono hb.size)
  clear hv
  have HLL := Lib.hid tL.lt
  go_wp2_with fail
  refine (La.twin_any A5 n5 c5 x w5 hx (by have := HM.out.2; omega)).mono ?_
  rintro e w6 ⟨gX, rfl, tX, hv⟩
  have HOX := Lib.hid (Nat.le_trans hb.size tX.old)
  have HLX : Hid (gL ≠ gX) := Lib.hid (by have := HLL.out; have := tX.old; omega)
  clear HLL
  replace hz := hz.keep hv
  replace h := h.keep hv
  replace hr := hr.at_size (Nat.le_refl _) hv
  replace hu := hu.at_size (Nat.le_refl _) hv
  replace hx := hx.at_size (Nat.le_refl _) hv
  replace y0 := cell_old y0 hv
  replace y1 := cell_old y1 hv
  replace v0 := cell_old v0 hv
  replace v1 := cell_old v1 hv
  replace hS := hS.keep hv
  replace ht := ht.keep hv
  replace hbt := hbt.keep hv
  replace tL := tL.keep hv
  replace hb := hb.trans (hv.mono hb.size)
  clear hv
  have ht0 := hbt.z0
  have ht1 := hbt.z1
  have ht2 := hbt.z2
  have ht3 := hbt.z3
  have ht4 := hbt.z4
  have hsT : SchAt w6 s (some ⟨t1, 0, none⟩) n (n + 1) (some ⟨t2, 0, none⟩) n1 (n1 + 1) (some ⟨t3, 0, none⟩) n2 (n2 + 1) := ht.at h.bf h.bt h.lf h.ef
  have hc := schCheck_any s (some ⟨t1, 0, none⟩) n (n + 1) (some ⟨t2, 0, none⟩) n1 (n1 + 1) (some ⟨t3, 0, none⟩) n2 (n2 + 1) _ _ S X w6 hsT hS.inl hS.inr xc HXC.out
  unfold schV at hc
  have HC := Lib.hid hc
  clear hc hsT
  go_wp2_with fail
  refine HC.out.mono ?_
  rintro e w7 ⟨rfl, hv⟩
  clear HC hS
  clear ht0 ht1 ht2 ht3 ht4
  replace hz := hz.keep hv
  replace h := h.keep hv
  replace hr := hr.at_size (Nat.le_refl _) hv
  replace hu := hu.at_size (Nat.le_refl _) hv
  replace hx := hx.at_size (Nat.le_refl _) hv
  replace y0 := cell_old y0 hv
  replace y1 := cell_old y1 hv
  replace v0 := cell_old v0 hv
  replace v1 := cell_old v1 hv
  replace ht := ht.keep hv
  replace hbt := hbt.keep hv
  replace tL := tL.keep hv
  replace tX := tX.keep hv
  replace hb := hb.trans (hv.mono hb.size)
  clear hv
  have ht0 := hbt.z0
  have ht1 := hbt.z1
  have ht2 := hbt.z2
  have ht3 := hbt.z3
  have ht4 := hbt.z4
  have hsT : SchAt w7 s (some ⟨t1, 0, none⟩) n (n + 1) (some ⟨t2, 0, none⟩) n1 (n1 + 1) (some ⟨t3, 0, none⟩) n2 (n2 + 1) := ht.at h.bf h.bt h.lf h.ef
  have hc := schGround_any s (some ⟨t1, 0, none⟩) n (n + 1) (some ⟨t2, 0, none⟩) n1 (n1 + 1) (some ⟨t3, 0, none⟩) n2 (n2 + 1) (some ⟨gL, 0, none⟩) n4 (n4 + 1) u (some ⟨gX, 0, none⟩) n5 (n5 + 1) x w7 hsT tL.rd tX.rd er HER.out
  unfold schV at hc
  have HC := Lib.hid hc
  clear hc hsT
  go_wp2_with fail
  refine HC.out.mono ?_
  rintro e w8 ⟨G, kg, cg, rfl, hown, hv⟩
  have HKG : Hid (kg ≤ 200) := Lib.hid (by
    have h1 := rs_own_len ndc_len (by decide) hown
    have := HLEN.out
    have := HBL.out
    have := HN.out.1
    omega)
  have HGE : Hid (∀ q, (Value.slice G kg cg).ownBlock = some q → t1 ≠ q) := Lib.hid fun q e => by
    have h1 := (own_block hown e).1
    have h2 := lt_blk ht.t1.blk
    omega
  have HGW : Hid (∀ q, (Value.slice G kg cg).ownBlock = some q → w.heap.size ≤ q) := Lib.hid fun q e => Nat.le_trans hb.size (own_block hown e).1
  have HLK := Lib.hid (rs_own_len ndc_len (by decide) hown)
  replace hown := own_baseN hown (Nat.zero_le _)
  clear HC
  clear ht0 ht1 ht2 ht3 ht4
  replace hz := hz.keep hv
  replace h := h.keep hv
  replace hr := hr.at_size (Nat.le_refl _) hv
  replace hu := hu.at_size (Nat.le_refl _) hv
  replace hx := hx.at_size (Nat.le_refl _) hv
  replace y0 := cell_old y0 hv
  replace y1 := cell_old y1 hv
  replace v0 := cell_old v0 hv
  replace v1 := cell_old v1 hv
  replace ht := ht.keep hv
  replace hbt := hbt.keep hv
  replace tL := tL.keep hv
  replace tX := tX.keep hv
  replace hb := hb.trans (hv.mono hb.size)
  clear hv
  have hz0 := hz.z0
  have hz1 := hz.z1
  have hz2 := hz.z2
  have hz3 := hz.z3
  have hz4 := hz.z4
  go_wp2_with fail
  refine (HRG.out w8 h hu hx).mono ?_
  rintro e w9 ⟨Gr, kr, cr, rfl, hown2, hv⟩
  obtain rfl : kg = kr := by
    have h1 := rs_own_len ndc_len (by decide) hown2
    have := HLK.out
    omega
  have rr : Ns w9 w9.heap.size Gr kg cr (s.grN u x) := Rs.of_own ndc_len (by decide) hown2
  clear HRG hown2
  clear hz0 hz1 hz2 hz3 hz4
  replace hz := hz.keep hv
  replace h := h.keep hv
  replace hr := hr.at_size (Nat.le_refl _) hv
  replace hu := hu.at_size (Nat.le_refl _) hv
  replace hx := hx.at_size (Nat.le_refl _) hv
  replace y0 := cell_old y0 hv
  replace y1 := cell_old y1 hv
  replace v0 := cell_old v0 hv
  replace v1 := cell_old v1 hv
  replace ht := ht.keep hv
  replace hbt := hbt.keep hv
  replace tL := tL.keep hv
  replace tX := tX.keep hv
  replace hown := own_behind hown hv
  replace hb := hb.trans (hv.mono hb.size)
  clear hv
  have hxx : (xc != xc) = false := by simp
  have hee : ((er : Int) != (er : Int)) = false := by simp
  go_wp2_with fail
  have hv : Below w9.heap.size w9 w9.drew := (Below.refl _ _).drew
  replace hz := hz.keep hv
  replace h := h.keep hv
  replace hr := hr.at_size (Nat.le_refl _) hv
  replace hu := hu.at_size (Nat.le_refl _) hv
  replace hx := hx.at_size (Nat.le_refl _) hv
  replace y0 := cell_old y0 hv
  replace y1 := cell_old y1 hv
  replace v0 := cell_old v0 hv
  replace v1 := cell_old v1 hv
  replace ht := ht.keep hv
  replace hbt := hbt.keep hv
  replace tL := tL.keep hv
  replace tX := tX.keep hv
  replace hown := own_behind hown hv
  replace rr := rr.at_size (Nat.le_refl _) hv
  replace hb := hb.trans (hv.mono hb.size)
  clear hv
  refine wp_region_ord [0, 1, 2, 3, 5, 6, 4, 7, 8, 9, 10, 11, 12, 13, 14, 15, 16, 17, 18, 19, 20, 21, 22, 23, 24, 25, 26, 27, 28, 29, 30, 31, 32, 33, 34, 35, 36, 37, 38, 39, 40] [4, 7, 8, 18, 24, 31, 38] 41 (fun w' => Box w' w.heap.size s.lv s.ev A n c A1 n1 c1 A2 n2 c2 ∧ w'.cell? ⟨w.heap.size + 1, 0, none⟩ = some (.slice A3 n3 c3) ∧ w'.cell? ⟨w.heap.size + 1, 1, none⟩ = some (.int .i64 k) ∧ w'.cell? ⟨w.heap.size + 1 + 1, 0, none⟩ = some (.slice A4 n4 c4) ∧ w'.cell? ⟨w.heap.size + 1 + 1, 1, none⟩ = some (.slice A5 n5 c5) ∧ Box w' gt s.lv s.ev (some ⟨t1, 0, none⟩) n (n + 1) (some ⟨t2, 0, none⟩) n1 (n1 + 1) (some ⟨t3, 0, none⟩) n2 (n2 + 1)) (by kernel_rfl) (by kernel_rfl) (by kernel_rfl) (by kernel_rfl) (fun _ _ _ _ _ h => h) ⟨hz, y0, y1, v0, v1, hbt⟩ ?_
  simp only [steps, List.getElem?_cons_zero, List.getElem?_cons_succ]
  repeat (first
    | (refine ord_no rfl ?_; simp only [Act.put, List.setIfInBounds_toArray, List.set_cons_zero, List.set_cons_succ])
    | (refine ord_yes (v := ?_) rfl rfl ?_ ?_; rotate_left; (focus (rintro w' ⟨⟨hS0, hS1, hS2, hS3, hS4⟩, hS5, hS6, hS7, hS8, ⟨hS9, hS10, hS11, hS12, hS13⟩⟩; go_simp; try with_reducible rfl)); simp only [Act.put, List.setIfInBounds_toArray, List.set_cons_zero, List.set_cons_succ]))
  generalize w9.drew = w10 at *
  refine ord_hard rfl rfl (fun K hK => ?_)
  go_simp
  refine (HLA.out w10 hr).mono ?_
  rintro e w11 ⟨r1, D1, m1, k1, u1, rfl, rS, hv⟩
  replace rS := rS.mono hv.size
  replace hz := hz.keep hv
  replace h := h.keep hv
  replace hr := hr.at_size (Nat.le_refl _) hv
  replace hu := hu.at_size (Nat.le_refl _) hv
  replace hx := hx.at_size (Nat.le_refl _) hv
  replace y0 := cell_old y0 hv
  replace y1 := cell_old y1 hv
  replace v0 := cell_old v0 hv
  replace v1 := cell_old v1 hv
  replace ht := ht.keep hv
  replace hbt := hbt.keep hv
  replace tL := tL.keep hv
  replace tX := tX.keep hv
  replace hown := own_behind hown hv
  replace rr := rr.at_size (Nat.le_refl _) hv
  replace hb := hb.trans (hv.mono hb.size)
  clear hv
  refine hK.out _ _ (fun _ => ⟨hz, y0, y1, v0, v1, hbt⟩) ?_
  clear hK K
  try simp only [Act.put, List.setIfInBounds_toArray, List.set_cons_zero, List.set_cons_succ]
  repeat (first
    | (refine ord_no rfl ?_; simp only [Act.put, List.setIfInBounds_toArray, List.set_cons_zero, List.set_cons_succ])
    | (refine ord_yes (v := ?_) rfl rfl ?_ ?_; rotate_left; (focus (rintro w' ⟨⟨hS0, hS1, hS2, hS3, hS4⟩, hS5, hS6, hS7, hS8, ⟨hS9, hS10, hS11, hS12, hS13⟩⟩; go_simp; try with_reducible rfl)); simp only [Act.put, List.setIfInBounds_toArray, List.set_cons_zero, List.set_cons_succ]))
  refine ord_hard rfl rfl (fun K hK => ?_)
  go_simp
  refine (HEF.out w11).mono ?_
  rintro e w12 ⟨r2, D2, m2, k2, u2, rfl, rX0, hv⟩
  have rX := rX0 w12.heap.size
  clear rX0
  replace hz := hz.keep hv
  replace h := h.keep hv
  replace hr := hr.at_size (Nat.le_refl _) hv
  replace hu := hu.at_size (Nat.le_refl _) hv
  replace hx := hx.at_size (Nat.le_refl _) hv
  replace y0 := cell_old y0 hv
  replace y1 := cell_old y1 hv
  replace v0 := cell_old v0 hv
  replace v1 := cell_old v1 hv
  replace ht := ht.keep hv
  replace hbt := hbt.keep hv
  replace tL := tL.keep hv
  replace tX := tX.keep hv
  replace hown := own_behind hown hv
  replace rr := rr.at_size (Nat.le_refl _) hv
  replace rS := rS.keep hv
  replace hb := hb.trans (hv.mono hb.size)
  clear hv
  refine hK.out _ _ (fun _ => ⟨hz, y0, y1, v0, v1, hbt⟩) ?_
  clear hK K
  try simp only [Act.put, List.setIfInBounds_toArray, List.set_cons_zero, List.set_cons_succ]
  repeat (first
    | (refine ord_no rfl ?_; simp only [Act.put, List.setIfInBounds_toArray, List.set_cons_zero, List.set_cons_succ])
    | (refine ord_yes (v := ?_) rfl rfl ?_ ?_; rotate_left; (focus (rintro w' ⟨⟨hS0, hS1, hS2, hS3, hS4⟩, hS5, hS6, hS7, hS8, ⟨hS9, hS10, hS11, hS12, hS13⟩⟩; go_simp; try with_reducible rfl)); simp only [Act.put, List.setIfInBounds_toArray, List.set_cons_zero, List.set_cons_succ]))
  refine ord_hard rfl rfl (fun K hK => ?_)
  go_simp
  have hc := refSchCheck_any s A n c A1 n1 c1 A2 n2 c2 r1 D1 m1 k1 u1 r2 D2 m2 k2 u2 S X w12 h rS rX xc HXC.out
  unfold schV at hc
  refine (hc).mono ?_
  rintro e w13 ⟨rfl, hv⟩
  clear hc rS rX
  replace hz := hz.keep hv
  replace h := h.keep hv
  replace hr := hr.at_size (Nat.le_refl _) hv
  replace hu := hu.at_size (Nat.le_refl _) hv
  replace hx := hx.at_size (Nat.le_refl _) hv
  replace y0 := cell_old y0 hv
  replace y1 := cell_old y1 hv
  replace v0 := cell_old v0 hv
  replace v1 := cell_old v1 hv
  replace ht := ht.keep hv
  replace hbt := hbt.keep hv
  replace tL := tL.keep hv
  replace tX := tX.keep hv
  replace hown := own_behind hown hv
  replace rr := rr.at_size (Nat.le_refl _) hv
  replace hb := hb.trans (hv.mono hb.size)
  clear hv
  refine hK.out _ _ (fun _ => ⟨hz, y0, y1, v0, v1, hbt⟩) ?_
  clear hK K
  try simp only [Act.put, List.setIfInBounds_toArray, List.set_cons_zero, List.set_cons_succ]
  repeat (first
    | (refine ord_no rfl ?_; simp only [Act.put, List.setIfInBounds_toArray, List.set_cons_zero, List.set_cons_succ])
    | (refine ord_yes (v := ?_) rfl rfl ?_ ?_; rotate_left; (focus (rintro w' ⟨⟨hS0, hS1, hS2, hS3, hS4⟩, hS5, hS6, hS7, hS8, ⟨hS9, hS10, hS11, hS12, hS13⟩⟩; go_simp; try with_reducible rfl)); simp only [Act.put, List.setIfInBounds_toArray, List.set_cons_zero, List.set_cons_succ]))
  refine ord_hard rfl rfl (fun K hK => ?_)
  go_simp
  refine (sameNodes_any G Gr kg cg cr _ _ (s.grN u x) w13 (Rs.of_own ndc_len (by decide) hown) rr).mono ?_
  rintro e w14 ⟨rfl, hv⟩
  replace hz := hz.keep hv
  replace h := h.keep hv
  replace hr := hr.at_size (Nat.le_refl _) hv
  replace hu := hu.at_size (Nat.le_refl _) hv
  replace hx := hx.at_size (Nat.le_refl _) hv
  replace y0 := cell_old y0 hv
  replace y1 := cell_old y1 hv
  replace v0 := cell_old v0 hv
  replace v1 := cell_old v1 hv
  replace ht := ht.keep hv
  replace hbt := hbt.keep hv
  replace tL := tL.keep hv
  replace tX := tX.keep hv
  replace hown := own_behind hown hv
  replace rr := rr.at_size (Nat.le_refl _) hv
  replace hb := hb.trans (hv.mono hb.size)
  clear hv
  refine hK.out _ _ (fun _ => ⟨hz, y0, y1, v0, v1, hbt⟩) ?_
  clear hK K
  try simp only [Act.put, List.setIfInBounds_toArray, List.set_cons_zero, List.set_cons_succ]
  repeat (first
    | (refine ord_no rfl ?_; simp only [Act.put, List.setIfInBounds_toArray, List.set_cons_zero, List.set_cons_succ])
    | (refine ord_yes (v := ?_) rfl rfl ?_ ?_; rotate_left; (focus (rintro w' ⟨⟨hS0, hS1, hS2, hS3, hS4⟩, hS5, hS6, hS7, hS8, ⟨hS9, hS10, hS11, hS12, hS13⟩⟩; go_simp; try with_reducible rfl)); simp only [Act.put, List.setIfInBounds_toArray, List.set_cons_zero, List.set_cons_succ]))
  refine ord_hard rfl rfl (fun K hK => ?_)
  go_simp
  have hc := leftSch_any _ t1 t2 t3 s A n c A1 n1 c1 A2 n2 c2 w14 ht h
  unfold schV at hc
  refine (hc).mono ?_
  rintro e w15 ⟨rfl, hv⟩
  clear hc
  replace hz := hz.keep hv
  replace h := h.keep hv
  replace hr := hr.at_size (Nat.le_refl _) hv
  replace hu := hu.at_size (Nat.le_refl _) hv
  replace hx := hx.at_size (Nat.le_refl _) hv
  replace y0 := cell_old y0 hv
  replace y1 := cell_old y1 hv
  replace v0 := cell_old v0 hv
  replace v1 := cell_old v1 hv
  replace ht := ht.keep hv
  replace hbt := hbt.keep hv
  replace tL := tL.keep hv
  replace tX := tX.keep hv
  replace hown := own_behind hown hv
  replace rr := rr.at_size (Nat.le_refl _) hv
  replace hb := hb.trans (hv.mono hb.size)
  clear hv
  refine hK.out _ _ (fun _ => ⟨hz, y0, y1, v0, v1, hbt⟩) ?_
  clear hK K
  try simp only [Act.put, List.setIfInBounds_toArray, List.set_cons_zero, List.set_cons_succ]
  repeat (first
    | (refine ord_no rfl ?_; simp only [Act.put, List.setIfInBounds_toArray, List.set_cons_zero, List.set_cons_succ])
    | (refine ord_yes (v := ?_) rfl rfl ?_ ?_; rotate_left; (focus (rintro w' ⟨⟨hS0, hS1, hS2, hS3, hS4⟩, hS5, hS6, hS7, hS8, ⟨hS9, hS10, hS11, hS12, hS13⟩⟩; go_simp; try with_reducible rfl)); simp only [Act.put, List.setIfInBounds_toArray, List.set_cons_zero, List.set_cons_succ]))
  refine ord_hard rfl rfl (fun K hK => ?_)
  go_simp
  refine (La.left_any _ w15.heap.size A4 gL n4 c4 u w15 tL hu).mono ?_
  rintro e w16 ⟨rfl, hdr⟩
  have hv : Below w15.heap.size w15 w16 := by
    obtain ⟨q, rfl⟩ := hdr
    exact below_drewN _ q
  clear hdr
  replace hz := hz.keep hv
  replace h := h.keep hv
  replace hr := hr.at_size (Nat.le_refl _) hv
  replace hu := hu.at_size (Nat.le_refl _) hv
  replace hx := hx.at_size (Nat.le_refl _) hv
  replace y0 := cell_old y0 hv
  replace y1 := cell_old y1 hv
  replace v0 := cell_old v0 hv
  replace v1 := cell_old v1 hv
  replace ht := ht.keep hv
  replace hbt := hbt.keep hv
  replace tL := tL.keep hv
  replace tX := tX.keep hv
  replace hown := own_behind hown hv
  replace rr := rr.at_size (Nat.le_refl _) hv
  replace hb := hb.trans (hv.mono hb.size)
  clear hv
  refine hK.out _ _ (fun _ => ⟨hz, y0, y1, v0, v1, hbt⟩) ?_
  clear hK K
  try simp only [Act.put, List.setIfInBounds_toArray, List.set_cons_zero, List.set_cons_succ]
  repeat (first
    | (refine ord_no rfl ?_; simp only [Act.put, List.setIfInBounds_toArray, List.set_cons_zero, List.set_cons_succ])
    | (refine ord_yes (v := ?_) rfl rfl ?_ ?_; rotate_left; (focus (rintro w' ⟨⟨hS0, hS1, hS2, hS3, hS4⟩, hS5, hS6, hS7, hS8, ⟨hS9, hS10, hS11, hS12, hS13⟩⟩; go_simp; try with_reducible rfl)); simp only [Act.put, List.setIfInBounds_toArray, List.set_cons_zero, List.set_cons_succ]))
  refine ord_hard rfl rfl (fun K hK => ?_)
  go_simp
  refine (La.left_any _ w16.heap.size A5 gX n5 c5 x w16 tX hx).mono ?_
  rintro e w17 ⟨rfl, hdr⟩
  have hv : Below w16.heap.size w16 w17 := by
    obtain ⟨q, rfl⟩ := hdr
    exact below_drewN _ q
  clear hdr
  replace hz := hz.keep hv
  replace h := h.keep hv
  replace hr := hr.at_size (Nat.le_refl _) hv
  replace hu := hu.at_size (Nat.le_refl _) hv
  replace hx := hx.at_size (Nat.le_refl _) hv
  replace y0 := cell_old y0 hv
  replace y1 := cell_old y1 hv
  replace v0 := cell_old v0 hv
  replace v1 := cell_old v1 hv
  replace ht := ht.keep hv
  replace hbt := hbt.keep hv
  replace tL := tL.keep hv
  replace tX := tX.keep hv
  replace hown := own_behind hown hv
  replace rr := rr.at_size (Nat.le_refl _) hv
  replace hb := hb.trans (hv.mono hb.size)
  clear hv
  refine hK.out _ _ (fun _ => ⟨hz, y0, y1, v0, v1, hbt⟩) ?_
  clear hK K
  try simp only [Act.put, List.setIfInBounds_toArray, List.set_cons_zero, List.set_cons_succ]
  repeat (first
    | (refine ord_no rfl ?_; simp only [Act.put, List.setIfInBounds_toArray, List.set_cons_zero, List.set_cons_succ])
    | (refine ord_yes (v := ?_) rfl rfl ?_ ?_; rotate_left; (focus (rintro w' ⟨⟨hS0, hS1, hS2, hS3, hS4⟩, hS5, hS6, hS7, hS8, ⟨hS9, hS10, hS11, hS12, hS13⟩⟩; go_simp; try with_reducible rfl)); simp only [Act.put, List.setIfInBounds_toArray, List.set_cons_zero, List.set_cons_succ]))
  refine ord_end ?_
  have hn := HN.out
  have hm := HM.out
  have K0 : Kept (fun b => w17.heap.size ≤ b) w17 (w17.alloc oBook) := (Kept.refl _ _).alloc _
  have hbt2 := hbt.keep ((Below.refl w17.heap.size w17).alloc (Nat.le_refl _) (.cells #[.int .i64 0, .slice none 0 0, .slice none 0 0, .slice none 0 0, .slice none 0 0, .slice none 0 0, .slice none 0 0, .slice none 0 0, .slice none 0 0, .slice none 0 0, .slice none 0 0, .slice none 0 0, .slice none 0 0, .slice none 0 0, .slice none 0 0, .slice none 0 0] 66))
  clear hz y0 y1 v0 v1 h hr hu hx rr hbt
  have ht0 := hbt2.z0
  have ht1 := hbt2.z1
  have ht2 := hbt2.z2
  have ht3 := hbt2.z3
  have ht4 := hbt2.z4
  clear hbt2
  have hcall := putSch_any w17.heap.size 0 _ 0 [] _ 0 [] _ 0 [] s (some ⟨t1, 0, none⟩) n (n + 1) (some ⟨t2, 0, none⟩) n1 (n1 + 1) (some ⟨t3, 0, none⟩) n2 (n2 + 1) _ (book0 w17) (by omega) (by omega) (by omega)
  unfold schV at hcall
  have HC := Lib.hid hcall
  clear hcall
  go_wp2_with fail
  clear ht0 ht1 ht2 ht3 ht4
  refine HC.out.mono ?_
  rintro e x1 ⟨rfl, vN1, vB1, K1, K1k⟩
  have K01 := K0.trans K1k
  clear K0 K1k HC
  go_wp2_with fail
  refine (putM_any w17.heap.size _ _ _ _ _ _ _ _ _ _ (some ⟨gL, 0, none⟩) n4 (n4 + 1) _ K1 (by omega) (by omega)).mono ?_
  rintro e x2 ⟨rfl, vM1, K2, K2k⟩
  have K02 := K01.trans (kept_bk K2k K1.oM)
  clear K1 K01 K2k
  go_wp2_with fail
  refine (putM_any w17.heap.size _ _ _ _ _ _ _ _ _ _ (some ⟨gX, 0, none⟩) n5 (n5 + 1) _ K2 (by omega) (by omega)).mono ?_
  rintro e x3 ⟨rfl, vM2, K3, K3k⟩
  have K03 := K02.trans (kept_bk K3k K2.oM)
  clear K2 K02 K3k
  go_wp2_with fail
  refine (putN_any w17.heap.size _ _ _ _ _ _ _ _ _ _ G kg cg _ K3 (by omega) (by omega)).mono ?_
  rintro e x4 ⟨rfl, vN2, K4, K4k⟩
  have K04 := K03.trans (kept_bk K4k K3.oN)
  clear K3 K03 K4k
  have hfar : ∀ b, b < w17.heap.size → ¬ w17.heap.size ≤ b := fun b h => by omega
  have l0 : Lone 110 10 x4 ⟨some ⟨t1, 0, none⟩, n, n + 1, 1⟩ := (twinNd_lone ht.t1).keep K04 hfar
  have l1 : Lone 91 4 x4 ⟨some ⟨t2, 0, none⟩, n1, n1 + 1, 2⟩ := (twinB_lone ht.t2).keep K04 hfar
  have l2 : Lone 91 4 x4 ⟨some ⟨t3, 0, none⟩, n2, n2 + 1, 3⟩ := (twinB_lone ht.t3).keep K04 hfar
  have l3 : Lone 80 1 x4 ⟨some ⟨gL, 0, none⟩, n4, n4 + 1, 4⟩ := (twinN_lone tL (by omega)).keep K04 hfar
  have l4 : Lone 80 1 x4 ⟨some ⟨gX, 0, none⟩, n5, n5 + 1, 5⟩ := (twinN_lone tX (by omega)).keep K04 hfar
  have l5 : Lone 110 10 x4 ⟨G, kg, cg, 6⟩ := (Lone.of_own hown (by have := HKG.out; omega)).keep K04 hfar
  have HGB : Hid (∀ y, G = some y → t1 ≠ y.block ∧ w.heap.size ≤ y.block) := Lib.hid fun y e => by
    have e2 : (Value.slice G kg cg).ownBlock = some y.block := by rw [e]; rfl
    exact ⟨HGE.out _ e2, HGW.out _ e2⟩
  have hb1 : ∃ B, x4.heap[w17.heap.size]? = some (.cells B 66 (0, 0)) := ⟨_, K4.blk⟩
  have two : ∀ (E sz : Nat) (a b : Ent), Lone E sz x4 a → Lone E sz x4 b → ∀ e ∈ ([a, b] : List Ent), Lone E sz x4 e := fun E sz a b ha hb e he => by
    simp only [List.mem_cons, List.not_mem_nil, or_false] at he
    rcases he with rfl | rfl
    · exact ha
    · exact hb
  obtain ⟨hbN, capN, gN, eN, bN⟩ := book_of (K := 8) (HT := 149) (E := 110) (sz := 10) (es := [⟨some ⟨t1, 0, none⟩, n, n + 1, 1⟩, ⟨G, kg, cg, 6⟩]) (by rw [cell_blk K4.blk]; rfl) hb1 K4.oN (by simp) (by simp) (two _ _ _ _ l0 l5)
    (by
      refine List.pairwise_cons.2 ⟨fun b hbm x y hx hy => ?_, by simp⟩
      simp only [List.mem_singleton] at hbm
      subst hbm
      injection hx with hx
      subst hx
      exact (HGB.out y hy).1) (by intro e he; simp only [List.mem_cons, List.not_mem_nil, or_false] at he; rcases he with rfl | rfl <;> simp)
  obtain ⟨hbB, capB, gB, eB, bB⟩ := book_of (K := 9) (HT := 177) (E := 91) (sz := 4) (es := [⟨some ⟨t2, 0, none⟩, n1, n1 + 1, 2⟩, ⟨some ⟨t3, 0, none⟩, n2, n2 + 1, 3⟩]) (by rw [cell_blk K4.blk]; rfl) hb1 K4.oB (by simp) (by simp) (two _ _ _ _ l1 l2)
    (by
      refine List.pairwise_cons.2 ⟨fun b hbm x y hx hy => ?_, by simp⟩
      simp only [List.mem_singleton] at hbm
      subst hbm
      injection hx with hx
      injection hy with hy
      subst hx
      subst hy
      exact ht.ne) (by intro e he; simp only [List.mem_cons, List.not_mem_nil, or_false] at he; rcases he with rfl | rfl <;> simp)
  obtain ⟨hbM, capM, gM, eM, bM⟩ := book_of (K := 4) (HT := 147) (E := 80) (sz := 1) (es := [⟨some ⟨gL, 0, none⟩, n4, n4 + 1, 4⟩, ⟨some ⟨gX, 0, none⟩, n5, n5 + 1, 5⟩]) (by rw [cell_blk K4.blk]; rfl) hb1 K4.oM (by simp) (by simp) (two _ _ _ _ l3 l4)
    (by
      refine List.pairwise_cons.2 ⟨fun b hbm x y hx hy => ?_, by simp⟩
      simp only [List.mem_singleton] at hbm
      subst hbm
      injection hx with hx
      injection hy with hy
      subst hx
      subst hy
      exact HLX.out) (by intro e he; simp only [List.mem_cons, List.not_mem_nil, or_false] at he; rcases he with rfl | rfl <;> simp)
  have HBN := Lib.hid bN
  have HBB := Lib.hid bB
  have HBM := Lib.hid bM
  have HBK := Lib.hid K4.blk
  have hsz := hb.size
  clear bN bB bM K4 l0 l1 l2 l3 l4 l5 ht tL tX hb1 hown two
  go_wp2_with fail
  refine (apart_any _ _ _ w17.heap.size _ _ _ _ _ HBN.out rfl HBB.out rfl HBM.out rfl HBK.out).mono ?_
  rintro e x5 ⟨rfl, K16⟩
  go_wp2_with fail
  go_ret
  refine ⟨rfl, hb.trans ((K04.below hsz (fun b h => by omega)).trans (K16.below (Nat.le_trans hsz K04.size) ?_))⟩
  have hot := HOT.out
  have hol := HOL.out
  have hox := HOX.out
  rintro b ((e | e) | (e | e) | e | e)
  · have e : b = hbN := e
    omega
  · obtain ⟨x, hx, a, ha, rfl⟩ := heldD e
    simp only [List.mem_cons, List.not_mem_nil, or_false] at hx
    rcases hx with rfl | rfl
    · injection ha with ha
      subst ha
      exact hot.1
    · exact (HGB.out a ha).2
  · have e : b = hbB := e
    omega
  · obtain ⟨x, hx, a, ha, rfl⟩ := heldD e
    simp only [List.mem_cons, List.not_mem_nil, or_false] at hx
    rcases hx with rfl | rfl
    · injection ha with ha
      subst ha
      exact hot.2.1
    · injection ha with ha
      subst ha
      exact hot.2.2
  · have e : b = hbM := e
    omega
  · obtain ⟨x, hx, a, ha, rfl⟩ := heldD e
    simp only [List.mem_cons, List.not_mem_nil, or_false] at hx
    rcases hx with rfl | rfl
    · injection ha with ha
      subst ha
      exact hol
    · injection ha with ha
      subst ha
      exact hox
end Go.Proofs.YtmiconjmeaammaaGreatDoor
