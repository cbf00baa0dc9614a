/- Proved: whatever the rows, the bounds and the values, ReachesBelow answers true: whatever values hold of bounds, a variable's is below those of all that it reaches. No condition. -/
import Derived.Test.YtomokkpfkhfemaaAlv
import Derived.Test.YtomokkpfkhfemaaApp
import Derived.Test.YtomokkpfkhfemaaGvn
import Derived.Test.YtomokkpfkhfemaaRows
namespace Go.Proofs.Ytomokkpfkhfemaa.reachesBelow
open Go.ChangeShapes Go.WideShapes Go.ChangeAt Go.RowKit

theorem own : ownKnob Try.prog.godebug = none := by kernel_rfl
theorem laidOut : laidOutB Try.prog = true := by kernel_rfl


theorem nm_size (w : World) : (Go.sizeOf 29).run Try.prog w = .ok 1 w := by kernel_rfl

/-- What came of Of, in one form. -/
theorem of_form {k : Int} {l : List Bd} {x : Int} {w w' : World} {e : Ending} (h : OfE k l x w e w') : ∃ A n c, e = .returned (.tuple #[.slice A n c, .int .i64 x]) ∧ Below w.heap.size w w' ∧
    (x = 0 → ∃ q g gs, k = ((q : Nat) : Int) ∧ A = some ⟨g, 0, none⟩ ∧ n = q ∧ c = q ∧ Sqr w' w.heap.size g q gs (La.bt (rchN q l))) := by
  rcases h with ⟨h0, rfl, hv⟩ | ⟨rfl, q, g, gs, rfl, rfl, hS, hv⟩
  · exact ⟨_, _, _, rfl, hv, fun h => absurd h h0⟩
  · exact ⟨_, _, _, rfl, hv, fun _ => ⟨q, g, gs, rfl, rfl, rfl, rfl, hS⟩⟩

theorem getD_at {l : List Nat} {i : Nat} (h : i < l.length) : l.getD i 0 = l[i] := by rw [List.getD_eq_getElem?_getD, List.getElem?_eq_getElem h]; rfl

/-- Values that hold lie below those of all that are reached. -/
theorem reach_below {rows vs : List Nat} {q : Nat} {l : List Bd} (hOK : La.LatOK rows) (hn : q ≤ 64) (hm : ∀ b ∈ l, mayB q b = true) (hh : holdS (laS rows) vs l = true) {i j : Nat} (hr : La.bt (rchN q l) i j = true) (hij : i ≠ j) : La.belowB rows (vs.getD i 0) (vs.getD j 0) = true := by
  refine (rch_least hn hm (T := fun i j => i = j ∨ La.belowB rows (vs.getD i 0) (vs.getD j 0) = true) (fun _ _ => .inl rfl) ?_ ?_ hr).resolve_left hij
  · rintro i j ⟨b, hb, h1, h2, rfl, rfl⟩
    have := List.all_eq_true.1 hh b hb
    rw [okB, Bool.and_eq_true, h1, h2] at this
    exact .inr this.2
  · rintro i j k (rfl | h1) h2
    · exact h2
    · rcases h2 with rfl | h2
      · exact .inr h1
      · exact .inr (la_on hOK h1 h2)

def BwRel (q : Nat) (w : World) (v : Value) (wr : World) : Prop := ∃ i : Nat, v = .int .i64 (i : Int) ∧ i ≤ q ∧ Below w.heap.size w wr

set_option maxRecDepth 100000 in
set_option maxHeartbeats 8000000 in
theorem walk (A : Option Addr) (n c : Nat) (A1 : Option Addr) (n1 c1 : Nat) (A2 : Option Addr) (n2 c2 : Nat) (rows : List Nat) (l : List Bd) (u : List Nat) (w : World) (hC : Came w A n c rows A1 n1 c1 l A2 n2 c2 u) :
    Calls Try.prog 4 #[gV A n c A1 n1 c1 A2 n2 c2] w fun e w' => e = .returned (.bool true) ∧ Below w.heap.size w w' := by
  have hb : Below w.heap.size w (w.alloc (.cells #[.slice A n c, .slice A1 n1 c1, .slice A2 n2 c2] 39)) := (Below.refl _ _).alloc (Nat.le_refl _) _
  have hbx := heap_alloc_new w (.cells #[.slice A n c, .slice A1 n1 c1, .slice A2 n2 c2] 39)
  have hz0 := (cell_blk (i := 0) hbx).trans rfl
  have hz1 := (cell_blk (i := 1) hbx).trans rfl
  have hz2 := (cell_blk (i := 2) hbx).trans rfl
  replace hz0 : _ = some (Value.slice A n c) := hz0
  replace hz1 : _ = some (Value.slice A1 n1 c1) := hz1
  replace hz2 : _ = some (Value.slice A2 n2 c2) := hz2
  replace hC := hC.keep hb
  clear hbx
  obtain ⟨m, hm⟩ : ∃ m, m = min 64 n2 := ⟨_, rfl⟩
  have hm64 : m ≤ 64 := by omega
  have hm2 : m ≤ n2 := by omega
  have hmi : min (64 : Int) (n2 : Int) = (m : Int) := by omega
  have HMI := Lib.hid hmi
  have HM64 := Lib.hid hm64
  have HM2 := Lib.hid hm2
  have HLN := Lib.hid hC.hu.len
  obtain ⟨x, hx⟩ : ∃ x, ofE (m : Int) l = x := ⟨_, rfl⟩
  have HX := Lib.hid hx
  have htop := hC.hu.top
  have hcap := hC.hu.cap
  unfold maxLen at htop
  have HCALL := Lib.hid (of_any (m : Int) A1 n1 c1 l _ x hC.hl hx)
  obtain ⟨f, hf⟩ : ∃ f, La.checkN rows = f := ⟨_, rfl⟩
  have HF := Lib.hid hf
  clear hm hx hmi hm64 hm2 hf
  unfold gV
  go_enter Try.func4, Try.ntmps4
  obtain ⟨Z, hZ⟩ : ∃ Z : Int, Z = 64 := ⟨_, rfl⟩
  have HZ := Lib.hid hZ
  clear hZ
  by_cases h64 : 64 ≤ n2
  · have h64' : (64 : Int) ≤ (n2 : Int) := by omega
    clear h64
    go_wp2_with fail
    rw [← HZ.out]
    obtain rfl : (m : Int) = Z := by rw [HZ.out, ← HMI.out]; omega
    clear h64' HZ HMI
    refine HCALL.out.mono ?_
    rintro e w1 hE
    obtain ⟨B1, m1, d1, rfl, hv, hS⟩ := of_form hE
    clear hE HCALL
    replace hC := hC.keep hv
    replace hz0 := cell_old hz0 hv
    replace hz1 := cell_old hz1 hv
    replace hz2 := cell_old hz2 hv
    replace hb := hb.trans (hv.mono hb.size)
    have HS0 := Lib.hid hS
    clear hv hS
    by_cases hf0 : f = 0
    case neg =>
      have hfn : ((f : Int) != 0) = true := by simpa using hf0
      go_wp2_with fail
      refine (La.new_no A n c rows _ hC.hr hC.hrf f HF.out hf0).mono ?_
      rintro e w2 ⟨rfl, hv⟩
      replace hC := hC.keep hv
      replace hz0 := cell_old hz0 hv
      replace hz1 := cell_old hz1 hv
      replace hz2 := cell_old hz2 hv
      replace hb := hb.trans (hv.mono hb.size)
      have hvv := hv
      clear hv hf0
      by_cases hx0 : x = 0
      case neg =>
        have hxn : ((x : Int) != 0) = true := by simpa using hx0
        clear hx0 HS0 hvv
        go_wp2
        refine wp_region_ord [0, 1, 2, 3, 4, 5, 6, 7, 8, 9, 10, 11, 12, 13, 14, 15, 16, 17, 18, 19, 20, 21, 22, 23, 24, 25, 26, 27, 28, 29] [15, 27] 30 (fun w' => w'.cell? ⟨w.heap.size, 1, none⟩ = some (.slice A1 n1 c1) ∧ w'.cell? ⟨w.heap.size, 2, none⟩ = some (.slice A2 n2 c2)) (by kernel_rfl) (by kernel_rfl) (by kernel_rfl) (by kernel_rfl) (fun _ _ _ _ _ h => h) ⟨hz1, hz2⟩ ?_
        simp only [steps, List.getElem?_cons_zero, List.getElem?_cons_succ]
        repeat (first
          | (refine ord_no rfl ?_; simp only [Act.put, List.setIfInBounds_toArray, List.set_cons_zero, List.set_cons_succ])
          | (refine ord_yes (v := ?_) rfl rfl ?_ ?_; rotate_left; (focus (rintro w' ⟨hS0, hS1⟩; go_simp; try with_reducible rfl)); simp only [Act.put, List.setIfInBounds_toArray, List.set_cons_zero, List.set_cons_succ]))
        refine ord_end ?_
        have hv : Below w2.heap.size w2 w2.drew := (Below.refl _ _).drew
        replace hC := hC.keep hv
        replace hz0 := cell_old hz0 hv
        replace hz1 := cell_old hz1 hv
        replace hz2 := cell_old hz2 hv
        replace hb := hb.trans (hv.mono hb.size)
        clear hv
        generalize w2.drew = w5 at *
        go_wp2_with fail
        refine (alive_any _).mono ?_
        rintro e wz ⟨rfl, hv⟩
        replace hb := hb.trans (hv.mono hb.size)
        clear hv
        go_wp2_with fail
        go_ret
        exact ⟨rfl, hb⟩
      case pos =>
        subst hx0
        obtain ⟨q, g, gs, e1, e2, e3, e4, hS⟩ := HS0.out rfl
        obtain rfl : m = q := by omega
        obtain rfl : m = m1 := e3.symm
        obtain rfl : m = d1 := e4.symm
        subst e2
        clear e3 e4
        replace hS := hS.keep hvv
        clear e1 HS0 hvv
        go_wp2
        refine wp_region_ord [0, 1, 2, 3, 4, 5, 6, 7, 8, 9, 10, 11, 12, 13, 14, 15, 16, 17, 18, 19, 20, 21, 22, 23, 24, 25, 26, 27, 28, 29] [15, 27] 30 (fun w' => w'.cell? ⟨w.heap.size, 1, none⟩ = some (.slice A1 n1 c1) ∧ w'.cell? ⟨w.heap.size, 2, none⟩ = some (.slice A2 n2 c2)) (by kernel_rfl) (by kernel_rfl) (by kernel_rfl) (by kernel_rfl) (fun _ _ _ _ _ h => h) ⟨hz1, hz2⟩ ?_
        simp only [steps, List.getElem?_cons_zero, List.getElem?_cons_succ]
        repeat (first
          | (refine ord_no rfl ?_; simp only [Act.put, List.setIfInBounds_toArray, List.set_cons_zero, List.set_cons_succ])
          | (refine ord_yes (v := ?_) rfl rfl ?_ ?_; rotate_left; (focus (rintro w' ⟨hS0, hS1⟩; go_simp; try with_reducible rfl)); simp only [Act.put, List.setIfInBounds_toArray, List.set_cons_zero, List.set_cons_succ]))
        refine ord_end ?_
        have hv : Below w2.heap.size w2 w2.drew := (Below.refl _ _).drew
        replace hC := hC.keep hv
        replace hz0 := cell_old hz0 hv
        replace hz1 := cell_old hz1 hv
        replace hz2 := cell_old hz2 hv
        replace hb := hb.trans (hv.mono hb.size)
        replace hS := hS.keep hv
        clear hv
        generalize w2.drew = w5 at *
        go_wp2_with fail
        refine (alive_any _).mono ?_
        rintro e wz ⟨rfl, hv⟩
        replace hb := hb.trans (hv.mono hb.size)
        replace hS := hS.keep hv
        clear hv
        go_wp2_with fail
        refine (square_any _ _ _ _ _ _ hS HM64.out).mono ?_
        rintro e wy ⟨rfl, hv⟩
        replace hb := hb.trans (hv.mono hb.size)
        clear hv
        go_wp2_with fail
        go_ret
        exact ⟨rfl, hb⟩
    case pos =>
      subst hf0
      go_wp2_with fail
      refine (La.new_yes A n c rows _ hC.hr hC.hrf HF.out).mono ?_
      rintro e w2 ⟨gl, rfl, -, hLat, hv⟩
      have hOK := La.latOK_of HF.out
      have HOK := Lib.hid hOK
      have HLR := Lib.hid hC.hr.len
      replace hC := hC.keep hv
      replace hz0 := cell_old hz0 hv
      replace hz1 := cell_old hz1 hv
      replace hz2 := cell_old hz2 hv
      replace hb := hb.trans (hv.mono hb.size)
      have hvv := hv
      clear hv hOK
      by_cases hx0 : x = 0
      case neg =>
        have hxn : ((x : Int) != 0) = true := by simpa using hx0
        clear hx0 HS0 hvv hLat
        go_wp2
        refine wp_region_ord [0, 1, 2, 3, 4, 5, 6, 7, 8, 9, 10, 11, 12, 13, 14, 15, 16, 17, 18, 19, 20, 21, 22, 23, 24, 25, 26, 27, 28, 29] [15, 27] 30 (fun w' => w'.cell? ⟨w.heap.size, 1, none⟩ = some (.slice A1 n1 c1) ∧ w'.cell? ⟨w.heap.size, 2, none⟩ = some (.slice A2 n2 c2)) (by kernel_rfl) (by kernel_rfl) (by kernel_rfl) (by kernel_rfl) (fun _ _ _ _ _ h => h) ⟨hz1, hz2⟩ ?_
        simp only [steps, List.getElem?_cons_zero, List.getElem?_cons_succ]
        repeat (first
          | (refine ord_no rfl ?_; simp only [Act.put, List.setIfInBounds_toArray, List.set_cons_zero, List.set_cons_succ])
          | (refine ord_yes (v := ?_) rfl rfl ?_ ?_; rotate_left; (focus (rintro w' ⟨hS0, hS1⟩; go_simp; try with_reducible rfl)); simp only [Act.put, List.setIfInBounds_toArray, List.set_cons_zero, List.set_cons_succ]))
        refine ord_end ?_
        have hv : Below w2.heap.size w2 w2.drew := (Below.refl _ _).drew
        replace hC := hC.keep hv
        replace hz0 := cell_old hz0 hv
        replace hz1 := cell_old hz1 hv
        replace hz2 := cell_old hz2 hv
        replace hb := hb.trans (hv.mono hb.size)
        clear hv
        generalize w2.drew = w5 at *
        go_wp2_with fail
        refine (alive_any _).mono ?_
        rintro e wz ⟨rfl, hv⟩
        replace hb := hb.trans (hv.mono hb.size)
        clear hv
        go_wp2_with fail
        go_ret
        exact ⟨rfl, hb⟩
      case pos =>
        subst hx0
        obtain ⟨q, g, gs, e1, e2, e3, e4, hS⟩ := HS0.out rfl
        obtain rfl : m = q := by omega
        obtain rfl : m = m1 := e3.symm
        obtain rfl : m = d1 := e4.symm
        subst e2
        clear e3 e4
        replace hS := hS.keep hvv
        obtain ⟨q2, e2, -, h256, hmay⟩ := ofE_ok HX.out
        obtain rfl : m = q2 := by omega
        have HMAY := Lib.hid hmay
        have h300 : decide ((300 : Int) < (n1 : Int)) = false := by have := hC.hl.len; simp; omega
        have hl' : La.LatAt w2 gl rows.length (La.pad rows) (La.pad (La.turnedN rows)) := by rw [HLR.out]; exact hLat
        clear e1 HS0 hvv e2 h256 hmay hLat
        obtain ⟨A3, n3, c3, hsl, hvs⟩ := rd_slice_h (P := Try.prog) 37 29 Try.underlying37 nm_size hC.hu (m : Int) (by omega) (by have := HM2.out; omega)
        rw [Int.toNat_natCast] at hvs
        have hvl : (u.take m).length = m := by have := HM2.out; have := HLN.out; rw [List.length_take]; omega
        have hvf : La.Fit (u.take m) := fun y hy => hC.huf y (List.mem_of_mem_take hy)
        have HVF := Lib.hid hvf
        obtain rfl : m = n3 := hvl.symm.trans hvs.len
        obtain ⟨r, hr⟩ : ∃ r, holdS (laS rows) (u.take m) l = r := ⟨_, rfl⟩
        have HR := Lib.hid hr
        clear hvl hvf hr
        go_wp2
        refine wp_region_ord [0, 1, 2, 3, 4, 5, 6, 7, 8, 9, 10, 11, 12, 13, 14, 15, 16, 17, 18, 19, 20, 21, 22, 23, 24, 25, 26, 27, 28, 29] [15, 27] 30 (fun w' => w'.cell? ⟨w.heap.size, 1, none⟩ = some (.slice A1 n1 c1) ∧ w'.cell? ⟨w.heap.size, 2, none⟩ = some (.slice A2 n2 c2)) (by kernel_rfl) (by kernel_rfl) (by kernel_rfl) (by kernel_rfl) (fun _ _ _ _ _ h => h) ⟨hz1, hz2⟩ ?_
        simp only [steps, List.getElem?_cons_zero, List.getElem?_cons_succ]
        repeat (first
          | (refine ord_no rfl ?_; simp only [Act.put, List.setIfInBounds_toArray, List.set_cons_zero, List.set_cons_succ])
          | (refine ord_yes (v := ?_) rfl rfl ?_ ?_; rotate_left; (focus (rintro w' ⟨hS0, hS1⟩; go_simp; try with_reducible rfl)); simp only [Act.put, List.setIfInBounds_toArray, List.set_cons_zero, List.set_cons_succ]))
        have hv : Below w2.heap.size w2 w2.drew := (Below.refl _ _).drew
        replace hC := hC.keep hv
        replace hz0 := cell_old hz0 hv
        replace hz1 := cell_old hz1 hv
        replace hz2 := cell_old hz2 hv
        replace hb := hb.trans (hv.mono hb.size)
        replace hS := hS.keep hv
        have HLAT := Lib.hid (hl'.keep hv)
        replace hvs := hvs.at_size (Nat.le_refl _) hv
        clear hv hl'
        generalize w2.drew = w5 at *
        refine ord_hard rfl rfl (fun K hK => ?_)
        go_simp
        refine (square_any _ _ _ _ _ _ hS HM64.out).mono ?_
        rintro e w6 ⟨rfl, hv⟩
        replace hC := hC.keep hv
        replace hz0 := cell_old hz0 hv
        replace hz1 := cell_old hz1 hv
        replace hz2 := cell_old hz2 hv
        replace hb := hb.trans (hv.mono hb.size)
        replace hS := hS.keep hv
        replace hvs := hvs.at_size (Nat.le_refl _) hv
        replace HLAT := Lib.hid (HLAT.out.keep hv)
        clear hv
        refine hK.out _ _ (fun _ => ⟨hz1, hz2⟩) ?_
        clear hK K
        try simp only [Act.put, List.setIfInBounds_toArray, List.set_cons_zero, List.set_cons_succ]
        repeat (first
          | (refine ord_no rfl ?_; simp only [Act.put, List.setIfInBounds_toArray, List.set_cons_zero, List.set_cons_succ])
          | (refine ord_yes (v := ?_) rfl rfl ?_ ?_; rotate_left; (focus (rintro w' ⟨hS0, hS1⟩; go_simp; try with_reducible rfl)); simp only [Act.put, List.setIfInBounds_toArray, List.set_cons_zero, List.set_cons_succ]))
        refine ord_hard rfl rfl (fun K hK => ?_)
        go_simp
        refine (hold_any _ A3 m c3 (u.take m) A1 n1 c1 l (laS rows) _ r ⟨_, rfl, ans_la HLAT.out⟩ hvs HVF.out hC.hl hC.hlf HR.out).mono ?_
        rintro e w7 ⟨rfl, hv⟩
        replace hC := hC.keep hv
        replace hz0 := cell_old hz0 hv
        replace hz1 := cell_old hz1 hv
        replace hz2 := cell_old hz2 hv
        replace hb := hb.trans (hv.mono hb.size)
        replace hS := hS.keep hv
        replace HLAT := Lib.hid (HLAT.out.keep hv)
        clear hv hvs hsl
        refine hK.out _ _ (fun _ => ⟨hz1, hz2⟩) ?_
        clear hK K
        try simp only [Act.put, List.setIfInBounds_toArray, List.set_cons_zero, List.set_cons_succ]
        cases r with
        | false =>
          repeat (first
            | (refine ord_no rfl ?_; simp only [Act.put, List.setIfInBounds_toArray, List.set_cons_zero, List.set_cons_succ])
            | (refine ord_yes (v := ?_) rfl rfl ?_ ?_; rotate_left; (focus (rintro w' ⟨hS0, hS1⟩; go_simp; try with_reducible rfl)); simp only [Act.put, List.setIfInBounds_toArray, List.set_cons_zero, List.set_cons_succ]))
          refine ord_end ?_
          clear HLAT HR
          go_wp2_with fail
          refine (alive_any _).mono ?_
          rintro e wz ⟨rfl, hv⟩
          replace hb := hb.trans (hv.mono hb.size)
          replace hS := hS.keep hv
          clear hv
          go_wp2_with fail
          refine (square_any _ _ _ _ _ _ hS HM64.out).mono ?_
          rintro e wy ⟨rfl, hv⟩
          replace hb := hb.trans (hv.mono hb.size)
          clear hv
          go_wp2_with fail
          go_ret
          exact ⟨rfl, hb⟩
        | true =>
          repeat (first
            | (refine ord_no rfl ?_; simp only [Act.put, List.setIfInBounds_toArray, List.set_cons_zero, List.set_cons_succ])
            | (refine ord_yes (v := ?_) rfl rfl ?_ ?_; rotate_left; (focus (rintro w' ⟨hS0, hS1⟩; go_simp; try with_reducible rfl)); simp only [Act.put, List.setIfInBounds_toArray, List.set_cons_zero, List.set_cons_succ]))
          refine ord_end ?_
          have HRB : Hid (∀ i j, La.bt (rchN m l) i j = true → i ≠ j → La.belowB rows ((u.take m).getD i 0) ((u.take m).getD j 0) = true) := Lib.hid fun i j h1 h2 => reach_below HOK.out HM64.out HMAY.out HR.out h1 h2
          have HS := Lib.hid hS
          have HC := Lib.hid hC
          generalize La.bt (rchN m l) = S at *
          clear hS hC HR HVF HX HF hz0 hz1
          have HZ2 := Lib.hid hz2
          clear hz2
          go_wp2_with fail
          go_loopw [8] (fun v8 wr => BwRel m w7 v8 wr) (fun v8 _ => m - (intOf v8).toNat)
          case atStart => exact ⟨0, rfl, Nat.zero_le _, Below.refl _ _⟩
          case round =>
            obtain ⟨i, rfl, hi, hb1⟩ := hrel
            have hm := HM64.out
            by_cases hlt : i < m
            · have HLT := Lib.hid hlt
              obtain ⟨wo, rfl⟩ : ∃ wo, wo = wr := ⟨_, rfl⟩
              go_wp2
              go_loopw [9] (fun v9 wr => BwRel m w7 v9 wr) (fun v9 _ => m - (intOf v9).toNat)
              case atStart => exact ⟨0, rfl, Nat.zero_le _, hb1⟩
              case round =>
                clear hb1
                obtain ⟨j, rfl, hj, hb1⟩ := hrel
                have hltx := HLT.out
                by_cases hlt2 : j < m
                · have hSk := HS.out.keep hb1
                  have d0 := (cell_blk (i := i) hSk.blk).trans (hdr_at hltx hltx)
                  have d1 := (cell_blk (i := j) (hSk.rows i hltx)).trans (bls_at hlt2)
                  rw [decide_eq_true hlt2, Bool.true_and] at d1
                  have hz2 := cell_old HZ2.out hb1
                  have hCu := (HC.out.keep hb1).hu
                  have hm2 := HM2.out
                  have hln := HLN.out
                  have hi1 : i < u.length := by omega
                  have hj1 : j < u.length := by omega
                  obtain ⟨bu, ou, rfl, -, hcu⟩ := hCu.spot (by omega)
                  have u1 := hcu i hi1
                  have u2 := hcu j hj1
                  have f1 := HC.out.huf.get i hi1
                  have f2 := HC.out.huf.get j hj1
                  have hrb := HRB.out i j
                  have ei : (u.take m).getD i 0 = u[i] := by
                    rw [List.getD_eq_getElem?_getD, List.getElem?_take_of_lt hltx, List.getElem?_eq_getElem hi1]; rfl
                  have ej : (u.take m).getD j 0 = u[j] := by
                    rw [List.getD_eq_getElem?_getD, List.getElem?_take_of_lt hlt2, List.getElem?_eq_getElem hj1]; rfl
                  rw [ei, ej] at hrb
                  clear hcu ei ej hSk hCu
                  have HAB := Lib.hid (ans_la (HLAT.out.keep hb1)).below
                  generalize u[i] = a1 at *
                  generalize u[j] = a2 at *
                  replace u1 : _ = some (Value.int .u64 (a1 : Int)) := u1
                  replace u2 : _ = some (Value.int .u64 (a2 : Int)) := u2
                  have HRBJ := Lib.hid hrb
                  have hjn : j < n2 := by omega
                  have hin : i < n2 := by omega
                  clear hrb hi1 hj1 hln hm2
                  have hv : Below wr.heap.size wr wr.drew := (Below.refl _ _).drew
                  have HB1 := Lib.hid (hb1.trans (hv.mono hb1.size))
                  generalize S i j = p at *
                  go_wp2
                  refine wp_region_ord [0, 1, 2, 3, 4, 5, 6, 7, 8, 9, 10, 11, 12, 13, 14, 15, 16, 17, 18, 19, 20, 21, 22, 23, 24, 25, 26] [24] 27 (fun w' => w'.cell? ⟨g, i, none⟩ = some (.slice (some ⟨gs i, 0, none⟩) m m) ∧ w'.cell? ⟨gs i, j, none⟩ = some (.bool p) ∧ w'.cell? ⟨w.heap.size, 2, none⟩ = some (.slice (some ⟨bu, ou, none⟩) n2 c2) ∧ w'.cell? ⟨bu, ou + i, none⟩ = some (.int .u64 (a1 : Int)) ∧ w'.cell? ⟨bu, ou + j, none⟩ = some (.int .u64 (a2 : Int))) (by kernel_rfl) (by kernel_rfl) (by kernel_rfl) (by kernel_rfl) (fun _ _ _ _ _ h => h) ⟨d0, d1, hz2, u1, u2⟩ ?_
                  simp only [steps, List.getElem?_cons_zero, List.getElem?_cons_succ]
                  cases p with
                  | false =>
                    repeat (first
                      | (refine ord_no rfl ?_; simp only [Act.put, List.setIfInBounds_toArray, List.set_cons_zero, List.set_cons_succ])
                      | (refine ord_yes (v := ?_) rfl rfl ?_ ?_; rotate_left; (focus (rintro w' ⟨hS0, hS1, hS2, hS3, hS4⟩; go_simp; try with_reducible rfl)); simp only [Act.put, List.setIfInBounds_toArray, List.set_cons_zero, List.set_cons_succ]))
                    refine ord_end ?_
                    clear d0 d1 hz2 u1 u2
                    go_wp2
                    go_roundw
                    case rel => exact ⟨j + 1, by go_num, by omega, HB1.out⟩
                    case measure => simp [intOf]; omega
                  | true =>
                    by_cases hij : i = j
                    · subst hij
                      have hne : ((i : Int) != (i : Int)) = false := by simp
                      repeat (first
                        | (refine ord_no rfl ?_; simp only [Act.put, List.setIfInBounds_toArray, List.set_cons_zero, List.set_cons_succ])
                        | (refine ord_yes (v := ?_) rfl rfl ?_ ?_; rotate_left; (focus (rintro w' ⟨hS0, hS1, hS2, hS3, hS4⟩; go_simp; try with_reducible rfl)); simp only [Act.put, List.setIfInBounds_toArray, List.set_cons_zero, List.set_cons_succ]))
                      refine ord_end ?_
                      clear d0 d1 hz2 u1 u2
                      go_wp2
                      go_roundw
                      case rel => exact ⟨i + 1, by go_num, by omega, HB1.out⟩
                      case measure => simp [intOf]; omega
                    · have hne : ((i : Int) != (j : Int)) = true := by simp; omega
                      have HTR : Hid ((laS rows).below a1 a2 = true) := Lib.hid (HRBJ.out rfl hij)
                      repeat (first
                        | (refine ord_no rfl ?_; simp only [Act.put, List.setIfInBounds_toArray, List.set_cons_zero, List.set_cons_succ])
                        | (refine ord_yes (v := ?_) rfl rfl ?_ ?_; rotate_left; (focus (rintro w' ⟨hS0, hS1, hS2, hS3, hS4⟩; go_simp; try with_reducible rfl)); simp only [Act.put, List.setIfInBounds_toArray, List.set_cons_zero, List.set_cons_succ]))
                      refine ord_hard rfl rfl (fun K hK => ?_)
                      go_simp
                      refine (HAB.out _ hv a1 a2 f1 f2).mono ?_
                      rintro e w8 ⟨rfl, hv8⟩
                      rw [HTR.out]
                      have hvv := hv.trans (hv8.mono hv.size)
                      refine hK.out _ _ (fun _ => ⟨cell_old d0 hvv, cell_old d1 hvv, cell_old hz2 hvv, cell_old u1 hvv, cell_old u2 hvv⟩) ?_
                      clear hK K
                      try simp only [Act.put, List.setIfInBounds_toArray, List.set_cons_zero, List.set_cons_succ]
                      repeat (first
                        | (refine ord_no rfl ?_; simp only [Act.put, List.setIfInBounds_toArray, List.set_cons_zero, List.set_cons_succ])
                        | (refine ord_yes (v := ?_) rfl rfl ?_ ?_; rotate_left; (focus (rintro w' ⟨hS0, hS1, hS2, hS3, hS4⟩; go_simp; try with_reducible rfl)); simp only [Act.put, List.setIfInBounds_toArray, List.set_cons_zero, List.set_cons_succ]))
                      refine ord_end ?_
                      have HB2 := Lib.hid (HB1.out.trans (hv8.mono HB1.out.size))
                      clear d0 d1 hz2 u1 u2 hv8 hvv
                      go_wp2
                      go_roundw
                      case rel => exact ⟨j + 1, by go_num, by omega, HB2.out⟩
                      case measure => simp [intOf]; omega
                · obtain rfl : j = m := by omega
                  go_wp2
                  go_roundw
                  case rel => exact ⟨i + 1, by go_num, by have := HLT.out; omega, hb1⟩
                  case measure =>
                    have := HLT.out
                    simp [intOf]
                    omega
            · obtain rfl : i = m := by omega
              replace hb := hb.trans (hb1.mono hb.size)
              clear hb1
              go_wp2_with fail
              refine (alive_any _).mono ?_
              rintro e wz ⟨rfl, hv⟩
              replace hb := hb.trans (hv.mono hb.size)
              clear hv
              go_wp2_with fail
              go_ret
              exact ⟨rfl, hb⟩
  · have h64' : ¬ (64 : Int) ≤ (n2 : Int) := by omega
    clear h64
    go_wp2_with fail
    obtain rfl : m = n2 := by have := HMI.out; omega
    clear h64' HZ HMI
    refine HCALL.out.mono ?_
    rintro e w1 hE
    obtain ⟨B1, m1, d1, rfl, hv, hS⟩ := of_form hE
    clear hE HCALL
    replace hC := hC.keep hv
    replace hz0 := cell_old hz0 hv
    replace hz1 := cell_old hz1 hv
    replace hz2 := cell_old hz2 hv
    replace hb := hb.trans (hv.mono hb.size)
    have HS0 := Lib.hid hS
    clear hv hS
    by_cases hf0 : f = 0
    case neg =>
      have hfn : ((f : Int) != 0) = true := by simpa using hf0
      go_wp2_with fail
      refine (La.new_no A n c rows _ hC.hr hC.hrf f HF.out hf0).mono ?_
      rintro e w2 ⟨rfl, hv⟩
      replace hC := hC.keep hv
      replace hz0 := cell_old hz0 hv
      replace hz1 := cell_old hz1 hv
      replace hz2 := cell_old hz2 hv
      replace hb := hb.trans (hv.mono hb.size)
      have hvv := hv
      clear hv hf0
      by_cases hx0 : x = 0
      case neg =>
        have hxn : ((x : Int) != 0) = true := by simpa using hx0
        clear hx0 HS0 hvv
        go_wp2
        refine wp_region_ord [0, 1, 2, 3, 4, 5, 6, 7, 8, 9, 10, 11, 12, 13, 14, 15, 16, 17, 18, 19, 20, 21, 22, 23, 24, 25, 26, 27, 28, 29] [15, 27] 30 (fun w' => w'.cell? ⟨w.heap.size, 1, none⟩ = some (.slice A1 n1 c1) ∧ w'.cell? ⟨w.heap.size, 2, none⟩ = some (.slice A2 m c2)) (by kernel_rfl) (by kernel_rfl) (by kernel_rfl) (by kernel_rfl) (fun _ _ _ _ _ h => h) ⟨hz1, hz2⟩ ?_
        simp only [steps, List.getElem?_cons_zero, List.getElem?_cons_succ]
        repeat (first
          | (refine ord_no rfl ?_; simp only [Act.put, List.setIfInBounds_toArray, List.set_cons_zero, List.set_cons_succ])
          | (refine ord_yes (v := ?_) rfl rfl ?_ ?_; rotate_left; (focus (rintro w' ⟨hS0, hS1⟩; go_simp; try with_reducible rfl)); simp only [Act.put, List.setIfInBounds_toArray, List.set_cons_zero, List.set_cons_succ]))
        refine ord_end ?_
        have hv : Below w2.heap.size w2 w2.drew := (Below.refl _ _).drew
        replace hC := hC.keep hv
        replace hz0 := cell_old hz0 hv
        replace hz1 := cell_old hz1 hv
        replace hz2 := cell_old hz2 hv
        replace hb := hb.trans (hv.mono hb.size)
        clear hv
        generalize w2.drew = w5 at *
        go_wp2_with fail
        refine (alive_any _).mono ?_
        rintro e wz ⟨rfl, hv⟩
        replace hb := hb.trans (hv.mono hb.size)
        clear hv
        go_wp2_with fail
        go_ret
        exact ⟨rfl, hb⟩
      case pos =>
        subst hx0
        obtain ⟨q, g, gs, e1, e2, e3, e4, hS⟩ := HS0.out rfl
        obtain rfl : m = q := by omega
        obtain rfl : m = m1 := e3.symm
        obtain rfl : m = d1 := e4.symm
        subst e2
        clear e3 e4
        replace hS := hS.keep hvv
        clear e1 HS0 hvv
        go_wp2
        refine wp_region_ord [0, 1, 2, 3, 4, 5, 6, 7, 8, 9, 10, 11, 12, 13, 14, 15, 16, 17, 18, 19, 20, 21, 22, 23, 24, 25, 26, 27, 28, 29] [15, 27] 30 (fun w' => w'.cell? ⟨w.heap.size, 1, none⟩ = some (.slice A1 n1 c1) ∧ w'.cell? ⟨w.heap.size, 2, none⟩ = some (.slice A2 m c2)) (by kernel_rfl) (by kernel_rfl) (by kernel_rfl) (by kernel_rfl) (fun _ _ _ _ _ h => h) ⟨hz1, hz2⟩ ?_
        simp only [steps, List.getElem?_cons_zero, List.getElem?_cons_succ]
        repeat (first
          | (refine ord_no rfl ?_; simp only [Act.put, List.setIfInBounds_toArray, List.set_cons_zero, List.set_cons_succ])
          | (refine ord_yes (v := ?_) rfl rfl ?_ ?_; rotate_left; (focus (rintro w' ⟨hS0, hS1⟩; go_simp; try with_reducible rfl)); simp only [Act.put, List.setIfInBounds_toArray, List.set_cons_zero, List.set_cons_succ]))
        refine ord_end ?_
        have hv : Below w2.heap.size w2 w2.drew := (Below.refl _ _).drew
        replace hC := hC.keep hv
        replace hz0 := cell_old hz0 hv
        replace hz1 := cell_old hz1 hv
        replace hz2 := cell_old hz2 hv
        replace hb := hb.trans (hv.mono hb.size)
        replace hS := hS.keep hv
        clear hv
        generalize w2.drew = w5 at *
        go_wp2_with fail
        refine (alive_any _).mono ?_
        rintro e wz ⟨rfl, hv⟩
        replace hb := hb.trans (hv.mono hb.size)
        replace hS := hS.keep hv
        clear hv
        go_wp2_with fail
        refine (square_any _ _ _ _ _ _ hS HM64.out).mono ?_
        rintro e wy ⟨rfl, hv⟩
        replace hb := hb.trans (hv.mono hb.size)
        clear hv
        go_wp2_with fail
        go_ret
        exact ⟨rfl, hb⟩
    case pos =>
      subst hf0
      go_wp2_with fail
      refine (La.new_yes A n c rows _ hC.hr hC.hrf HF.out).mono ?_
      rintro e w2 ⟨gl, rfl, -, hLat, hv⟩
      have hOK := La.latOK_of HF.out
      have HOK := Lib.hid hOK
      have HLR := Lib.hid hC.hr.len
      replace hC := hC.keep hv
      replace hz0 := cell_old hz0 hv
      replace hz1 := cell_old hz1 hv
      replace hz2 := cell_old hz2 hv
      replace hb := hb.trans (hv.mono hb.size)
      have hvv := hv
      clear hv hOK
      by_cases hx0 : x = 0
      case neg =>
        have hxn : ((x : Int) != 0) = true := by simpa using hx0
        clear hx0 HS0 hvv hLat
        go_wp2
        refine wp_region_ord [0, 1, 2, 3, 4, 5, 6, 7, 8, 9, 10, 11, 12, 13, 14, 15, 16, 17, 18, 19, 20, 21, 22, 23, 24, 25, 26, 27, 28, 29] [15, 27] 30 (fun w' => w'.cell? ⟨w.heap.size, 1, none⟩ = some (.slice A1 n1 c1) ∧ w'.cell? ⟨w.heap.size, 2, none⟩ = some (.slice A2 m c2)) (by kernel_rfl) (by kernel_rfl) (by kernel_rfl) (by kernel_rfl) (fun _ _ _ _ _ h => h) ⟨hz1, hz2⟩ ?_
        simp only [steps, List.getElem?_cons_zero, List.getElem?_cons_succ]
        repeat (first
          | (refine ord_no rfl ?_; simp only [Act.put, List.setIfInBounds_toArray, List.set_cons_zero, List.set_cons_succ])
          | (refine ord_yes (v := ?_) rfl rfl ?_ ?_; rotate_left; (focus (rintro w' ⟨hS0, hS1⟩; go_simp; try with_reducible rfl)); simp only [Act.put, List.setIfInBounds_toArray, List.set_cons_zero, List.set_cons_succ]))
        refine ord_end ?_
        have hv : Below w2.heap.size w2 w2.drew := (Below.refl _ _).drew
        replace hC := hC.keep hv
        replace hz0 := cell_old hz0 hv
        replace hz1 := cell_old hz1 hv
        replace hz2 := cell_old hz2 hv
        replace hb := hb.trans (hv.mono hb.size)
        clear hv
        generalize w2.drew = w5 at *
        go_wp2_with fail
        refine (alive_any _).mono ?_
        rintro e wz ⟨rfl, hv⟩
        replace hb := hb.trans (hv.mono hb.size)
        clear hv
        go_wp2_with fail
        go_ret
        exact ⟨rfl, hb⟩
      case pos =>
        subst hx0
        obtain ⟨q, g, gs, e1, e2, e3, e4, hS⟩ := HS0.out rfl
        obtain rfl : m = q := by omega
        obtain rfl : m = m1 := e3.symm
        obtain rfl : m = d1 := e4.symm
        subst e2
        clear e3 e4
        replace hS := hS.keep hvv
        obtain ⟨q2, e2, -, h256, hmay⟩ := ofE_ok HX.out
        obtain rfl : m = q2 := by omega
        have HMAY := Lib.hid hmay
        have h300 : decide ((300 : Int) < (n1 : Int)) = false := by have := hC.hl.len; simp; omega
        have hl' : La.LatAt w2 gl rows.length (La.pad rows) (La.pad (La.turnedN rows)) := by rw [HLR.out]; exact hLat
        clear e1 HS0 hvv e2 h256 hmay hLat
        obtain ⟨A3, n3, c3, hsl, hvs⟩ := rd_slice_h (P := Try.prog) 37 29 Try.underlying37 nm_size hC.hu (m : Int) (by omega) (by have := HM2.out; omega)
        rw [Int.toNat_natCast] at hvs
        have hvl : (u.take m).length = m := by have := HM2.out; have := HLN.out; rw [List.length_take]; omega
        have hvf : La.Fit (u.take m) := fun y hy => hC.huf y (List.mem_of_mem_take hy)
        have HVF := Lib.hid hvf
        obtain rfl : m = n3 := hvl.symm.trans hvs.len
        obtain ⟨r, hr⟩ : ∃ r, holdS (laS rows) (u.take m) l = r := ⟨_, rfl⟩
        have HR := Lib.hid hr
        clear hvl hvf hr
        go_wp2
        refine wp_region_ord [0, 1, 2, 3, 4, 5, 6, 7, 8, 9, 10, 11, 12, 13, 14, 15, 16, 17, 18, 19, 20, 21, 22, 23, 24, 25, 26, 27, 28, 29] [15, 27] 30 (fun w' => w'.cell? ⟨w.heap.size, 1, none⟩ = some (.slice A1 n1 c1) ∧ w'.cell? ⟨w.heap.size, 2, none⟩ = some (.slice A2 m c2)) (by kernel_rfl) (by kernel_rfl) (by kernel_rfl) (by kernel_rfl) (fun _ _ _ _ _ h => h) ⟨hz1, hz2⟩ ?_
        simp only [steps, List.getElem?_cons_zero, List.getElem?_cons_succ]
        repeat (first
          | (refine ord_no rfl ?_; simp only [Act.put, List.setIfInBounds_toArray, List.set_cons_zero, List.set_cons_succ])
          | (refine ord_yes (v := ?_) rfl rfl ?_ ?_; rotate_left; (focus (rintro w' ⟨hS0, hS1⟩; go_simp; try with_reducible rfl)); simp only [Act.put, List.setIfInBounds_toArray, List.set_cons_zero, List.set_cons_succ]))
        have hv : Below w2.heap.size w2 w2.drew := (Below.refl _ _).drew
        replace hC := hC.keep hv
        replace hz0 := cell_old hz0 hv
        replace hz1 := cell_old hz1 hv
        replace hz2 := cell_old hz2 hv
        replace hb := hb.trans (hv.mono hb.size)
        replace hS := hS.keep hv
        have HLAT := Lib.hid (hl'.keep hv)
        replace hvs := hvs.at_size (Nat.le_refl _) hv
        clear hv hl'
        generalize w2.drew = w5 at *
        refine ord_hard rfl rfl (fun K hK => ?_)
        go_simp
        refine (square_any _ _ _ _ _ _ hS HM64.out).mono ?_
        rintro e w6 ⟨rfl, hv⟩
        replace hC := hC.keep hv
        replace hz0 := cell_old hz0 hv
        replace hz1 := cell_old hz1 hv
        replace hz2 := cell_old hz2 hv
        replace hb := hb.trans (hv.mono hb.size)
        replace hS := hS.keep hv
        replace hvs := hvs.at_size (Nat.le_refl _) hv
        replace HLAT := Lib.hid (HLAT.out.keep hv)
        clear hv
        refine hK.out _ _ (fun _ => ⟨hz1, hz2⟩) ?_
        clear hK K
        try simp only [Act.put, List.setIfInBounds_toArray, List.set_cons_zero, List.set_cons_succ]
        repeat (first
          | (refine ord_no rfl ?_; simp only [Act.put, List.setIfInBounds_toArray, List.set_cons_zero, List.set_cons_succ])
          | (refine ord_yes (v := ?_) rfl rfl ?_ ?_; rotate_left; (focus (rintro w' ⟨hS0, hS1⟩; go_simp; try with_reducible rfl)); simp only [Act.put, List.setIfInBounds_toArray, List.set_cons_zero, List.set_cons_succ]))
        refine ord_hard rfl rfl (fun K hK => ?_)
        go_simp
        refine (hold_any _ A3 m c3 (u.take m) A1 n1 c1 l (laS rows) _ r ⟨_, rfl, ans_la HLAT.out⟩ hvs HVF.out hC.hl hC.hlf HR.out).mono ?_
        rintro e w7 ⟨rfl, hv⟩
        replace hC := hC.keep hv
        replace hz0 := cell_old hz0 hv
        replace hz1 := cell_old hz1 hv
        replace hz2 := cell_old hz2 hv
        replace hb := hb.trans (hv.mono hb.size)
        replace hS := hS.keep hv
        replace HLAT := Lib.hid (HLAT.out.keep hv)
        clear hv hvs hsl
        refine hK.out _ _ (fun _ => ⟨hz1, hz2⟩) ?_
        clear hK K
        try simp only [Act.put, List.setIfInBounds_toArray, List.set_cons_zero, List.set_cons_succ]
        cases r with
        | false =>
          repeat (first
            | (refine ord_no rfl ?_; simp only [Act.put, List.setIfInBounds_toArray, List.set_cons_zero, List.set_cons_succ])
            | (refine ord_yes (v := ?_) rfl rfl ?_ ?_; rotate_left; (focus (rintro w' ⟨hS0, hS1⟩; go_simp; try with_reducible rfl)); simp only [Act.put, List.setIfInBounds_toArray, List.set_cons_zero, List.set_cons_succ]))
          refine ord_end ?_
          clear HLAT HR
          go_wp2_with fail
          refine (alive_any _).mono ?_
          rintro e wz ⟨rfl, hv⟩
          replace hb := hb.trans (hv.mono hb.size)
          replace hS := hS.keep hv
          clear hv
          go_wp2_with fail
          refine (square_any _ _ _ _ _ _ hS HM64.out).mono ?_
          rintro e wy ⟨rfl, hv⟩
          replace hb := hb.trans (hv.mono hb.size)
          clear hv
          go_wp2_with fail
          go_ret
          exact ⟨rfl, hb⟩
        | true =>
          repeat (first
            | (refine ord_no rfl ?_; simp only [Act.put, List.setIfInBounds_toArray, List.set_cons_zero, List.set_cons_succ])
            | (refine ord_yes (v := ?_) rfl rfl ?_ ?_; rotate_left; (focus (rintro w' ⟨hS0, hS1⟩; go_simp; try with_reducible rfl)); simp only [Act.put, List.setIfInBounds_toArray, List.set_cons_zero, List.set_cons_succ]))
          refine ord_end ?_
          have HRB : Hid (∀ i j, La.bt (rchN m l) i j = true → i ≠ j → La.belowB rows ((u.take m).getD i 0) ((u.take m).getD j 0) = true) := Lib.hid fun i j h1 h2 => reach_below HOK.out HM64.out HMAY.out HR.out h1 h2
          have HS := Lib.hid hS
          have HC := Lib.hid hC
          generalize La.bt (rchN m l) = S at *
          clear hS hC HR HVF HX HF hz0 hz1
          have HZ2 := Lib.hid hz2
          clear hz2
          go_wp2_with fail
          go_loopw [8] (fun v8 wr => BwRel m w7 v8 wr) (fun v8 _ => m - (intOf v8).toNat)
          case atStart => exact ⟨0, rfl, Nat.zero_le _, Below.refl _ _⟩
          case round =>
            obtain ⟨i, rfl, hi, hb1⟩ := hrel
            have hm := HM64.out
            by_cases hlt : i < m
            · have HLT := Lib.hid hlt
              obtain ⟨wo, rfl⟩ : ∃ wo, wo = wr := ⟨_, rfl⟩
              go_wp2
              go_loopw [9] (fun v9 wr => BwRel m w7 v9 wr) (fun v9 _ => m - (intOf v9).toNat)
              case atStart => exact ⟨0, rfl, Nat.zero_le _, hb1⟩
              case round =>
                clear hb1
                obtain ⟨j, rfl, hj, hb1⟩ := hrel
                have hltx := HLT.out
                by_cases hlt2 : j < m
                · have hSk := HS.out.keep hb1
                  have d0 := (cell_blk (i := i) hSk.blk).trans (hdr_at hltx hltx)
                  have d1 := (cell_blk (i := j) (hSk.rows i hltx)).trans (bls_at hlt2)
                  rw [decide_eq_true hlt2, Bool.true_and] at d1
                  have hz2 := cell_old HZ2.out hb1
                  have hCu := (HC.out.keep hb1).hu
                  have hm2 := HM2.out
                  have hln := HLN.out
                  have hi1 : i < u.length := by omega
                  have hj1 : j < u.length := by omega
                  obtain ⟨bu, ou, rfl, -, hcu⟩ := hCu.spot (by omega)
                  have u1 := hcu i hi1
                  have u2 := hcu j hj1
                  have f1 := HC.out.huf.get i hi1
                  have f2 := HC.out.huf.get j hj1
                  have hrb := HRB.out i j
                  have ei : (u.take m).getD i 0 = u[i] := by
                    rw [List.getD_eq_getElem?_getD, List.getElem?_take_of_lt hltx, List.getElem?_eq_getElem hi1]; rfl
                  have ej : (u.take m).getD j 0 = u[j] := by
                    rw [List.getD_eq_getElem?_getD, List.getElem?_take_of_lt hlt2, List.getElem?_eq_getElem hj1]; rfl
                  rw [ei, ej] at hrb
                  clear hcu ei ej hSk hCu
                  have HAB := Lib.hid (ans_la (HLAT.out.keep hb1)).below
                  generalize u[i] = a1 at *
                  generalize u[j] = a2 at *
                  replace u1 : _ = some (Value.int .u64 (a1 : Int)) := u1
                  replace u2 : _ = some (Value.int .u64 (a2 : Int)) := u2
                  have HRBJ := Lib.hid hrb
                  have hjn : j < m := by omega
                  have hin : i < m := by omega
                  clear hrb hi1 hj1 hln hm2
                  have hv : Below wr.heap.size wr wr.drew := (Below.refl _ _).drew
                  have HB1 := Lib.hid (hb1.trans (hv.mono hb1.size))
                  generalize S i j = p at *
                  go_wp2
                  refine wp_region_ord [0, 1, 2, 3, 4, 5, 6, 7, 8, 9, 10, 11, 12, 13, 14, 15, 16, 17, 18, 19, 20, 21, 22, 23, 24, 25, 26] [24] 27 (fun w' => w'.cell? ⟨g, i, none⟩ = some (.slice (some ⟨gs i, 0, none⟩) m m) ∧ w'.cell? ⟨gs i, j, none⟩ = some (.bool p) ∧ w'.cell? ⟨w.heap.size, 2, none⟩ = some (.slice (some ⟨bu, ou, none⟩) m c2) ∧ w'.cell? ⟨bu, ou + i, none⟩ = some (.int .u64 (a1 : Int)) ∧ w'.cell? ⟨bu, ou + j, none⟩ = some (.int .u64 (a2 : Int))) (by kernel_rfl) (by kernel_rfl) (by kernel_rfl) (by kernel_rfl) (fun _ _ _ _ _ h => h) ⟨d0, d1, hz2, u1, u2⟩ ?_
                  simp only [steps, List.getElem?_cons_zero, List.getElem?_cons_succ]
                  cases p with
                  | false =>
                    repeat (first
                      | (refine ord_no rfl ?_; simp only [Act.put, List.setIfInBounds_toArray, List.set_cons_zero, List.set_cons_succ])
                      | (refine ord_yes (v := ?_) rfl rfl ?_ ?_; rotate_left; (focus (rintro w' ⟨hS0, hS1, hS2, hS3, hS4⟩; go_simp; try with_reducible rfl)); simp only [Act.put, List.setIfInBounds_toArray, List.set_cons_zero, List.set_cons_succ]))
                    refine ord_end ?_
                    clear d0 d1 hz2 u1 u2
                    go_wp2
                    go_roundw
                    case rel => exact ⟨j + 1, by go_num, by omega, HB1.out⟩
                    case measure => simp [intOf]; omega
                  | true =>
                    by_cases hij : i = j
                    · subst hij
                      have hne : ((i : Int) != (i : Int)) = false := by simp
                      repeat (first
                        | (refine ord_no rfl ?_; simp only [Act.put, List.setIfInBounds_toArray, List.set_cons_zero, List.set_cons_succ])
                        | (refine ord_yes (v := ?_) rfl rfl ?_ ?_; rotate_left; (focus (rintro w' ⟨hS0, hS1, hS2, hS3, hS4⟩; go_simp; try with_reducible rfl)); simp only [Act.put, List.setIfInBounds_toArray, List.set_cons_zero, List.set_cons_succ]))
                      refine ord_end ?_
                      clear d0 d1 hz2 u1 u2
                      go_wp2
                      go_roundw
                      case rel => exact ⟨i + 1, by go_num, by omega, HB1.out⟩
                      case measure => simp [intOf]; omega
                    · have hne : ((i : Int) != (j : Int)) = true := by simp; omega
                      have HTR : Hid ((laS rows).below a1 a2 = true) := Lib.hid (HRBJ.out rfl hij)
                      repeat (first
                        | (refine ord_no rfl ?_; simp only [Act.put, List.setIfInBounds_toArray, List.set_cons_zero, List.set_cons_succ])
                        | (refine ord_yes (v := ?_) rfl rfl ?_ ?_; rotate_left; (focus (rintro w' ⟨hS0, hS1, hS2, hS3, hS4⟩; go_simp; try with_reducible rfl)); simp only [Act.put, List.setIfInBounds_toArray, List.set_cons_zero, List.set_cons_succ]))
                      refine ord_hard rfl rfl (fun K hK => ?_)
                      go_simp
                      refine (HAB.out _ hv a1 a2 f1 f2).mono ?_
                      rintro e w8 ⟨rfl, hv8⟩
                      rw [HTR.out]
                      have hvv := hv.trans (hv8.mono hv.size)
                      refine hK.out _ _ (fun _ => ⟨cell_old d0 hvv, cell_old d1 hvv, cell_old hz2 hvv, cell_old u1 hvv, cell_old u2 hvv⟩) ?_
                      clear hK K
                      try simp only [Act.put, List.setIfInBounds_toArray, List.set_cons_zero, List.set_cons_succ]
                      repeat (first
                        | (refine ord_no rfl ?_; simp only [Act.put, List.setIfInBounds_toArray, List.set_cons_zero, List.set_cons_succ])
                        | (refine ord_yes (v := ?_) rfl rfl ?_ ?_; rotate_left; (focus (rintro w' ⟨hS0, hS1, hS2, hS3, hS4⟩; go_simp; try with_reducible rfl)); simp only [Act.put, List.setIfInBounds_toArray, List.set_cons_zero, List.set_cons_succ]))
                      refine ord_end ?_
                      have HB2 := Lib.hid (HB1.out.trans (hv8.mono HB1.out.size))
                      clear d0 d1 hz2 u1 u2 hv8 hvv
                      go_wp2
                      go_roundw
                      case rel => exact ⟨j + 1, by go_num, by omega, HB2.out⟩
                      case measure => simp [intOf]; omega
                · obtain rfl : j = m := by omega
                  go_wp2
                  go_roundw
                  case rel => exact ⟨i + 1, by go_num, by have := HLT.out; omega, hb1⟩
                  case measure =>
                    have := HLT.out
                    simp [intOf]
                    omega
            · obtain rfl : i = m := by omega
              replace hb := hb.trans (hb1.mono hb.size)
              clear hb1
              go_wp2_with fail
              refine (alive_any _).mono ?_
              rintro e wz ⟨rfl, hv⟩
              replace hb := hb.trans (hv.mono hb.size)
              clear hv
              go_wp2_with fail
              go_ret
              exact ⟨rfl, hb⟩

set_option maxRecDepth 100000 in
theorem lifted (os : Os) (started : os.Started) (H : Type) (enc : TypeId × Value → H) :
    ReturnsInHanded {} Try.checked os 4 .any (Rows.reachesBelowSpec.pre6 enc Try.prog Try.f4 Rows.reachesBelowRow.domain false) (Rows.reachesBelowSpec.post enc Try.prog Try.f4 false true false false) := by
  refine returnsInHanded_of_change (C := Try.checked) own started (by kernel_rfl) Try.func4
    (ChangeSpec.witness6 (enc := enc) (C := Try.checked) false ⟨#[], #[.agg #[.slice none 0 0, .slice none 0 0, .slice none 0 0]], []⟩ 8 (by kernel_rfl) (by kernel_rfl) (by kernel_rfl) (by kernel_rfl)) ?_
  intro W base args ds gs before hval0 hW hcnd _
  have hval : ∀ (j : Nat) t v, Try.f4.params[j]? = some t → args[j]? = some v → Value.okWide Try.prog W .any base t v := hval0
  have hW' := hW
  obtain ⟨p, q, hA0, hV, rfl, hfz, hnd⟩ := hW
  have hA : DataW.TrodAll enc Try.prog W 0 (fun _ => true) true Try.f4.params.toList args.toList ds p := hA0
  rw [Try.params4] at hA hval
  obtain ⟨v0, vs0, d0, ds0, p0, q0, hargs, rfl, rfl, h0, r0⟩ := trodAll_cons hA
  obtain ⟨rfl, rfl, rfl⟩ := trodAll_nil r0
  obtain rfl : args = #[v0] := by cases args; simp_all
  obtain ⟨rfl, rfl⟩ := trodVars_none hV
  have lt0 : ∀ x ∈ p0, x.block < W.heap.size := by obtain ⟨m, hm⟩ := h0; exact DataW.trod_lt m _ _ _ hm
  obtain ⟨A, n, c, A1, n1, c1, A2, n2, c2, rows, l, u, rfl, hC⟩ := opened_valued h0
  clear hA0 hval0
  refine (walk A n c A1 n1 c1 A2 n2 c2 rows l u W hC).mono fun e W' ⟨he, bel⟩ => ?_
  subst he
  exact ⟨_, rfl, _, _, _, [], _, [], hW', trodAll_mk1 (shut_bool Try.underlying4 _), (trodAll_cons_mk (Below.trod laidOut (by kernel_rfl) (of_decide_eq_true (by kernel_rfl)) h0 bel lt0) trodAll_mk0), rfl, bel.frame _, fun h => by cases h⟩

theorem over : Rows.reachesBelowRow.holds Try.pinned (OpenSpec.ofChange Rows.reachesBelowSpec) :=
  OpenClaim.holds_of_wide 4 Try.f4 rfl rfl rfl rfl rfl rfl rfl ⟨rfl, rfl, rfl, rfl, rfl⟩ rfl rfl rfl rfl rfl (by kernel_rfl) Try.func4 (by kernel_rfl)
    (of_decide_eq_true (by kernel_rfl)) (by unfold Func.isWrapper; first | (rw [if_pos (by decide +kernel)]; kernel_rfl) | (rw [if_neg (by decide +kernel)]; exact ⟨rfl, rfl⟩))
    (fun os started H enc _ => lifted os started H enc)

theorem proved : Rows.ReachesBelowSaid := over
#print axioms proved

end Go.Proofs.Ytomokkpfkhfemaa.reachesBelow
