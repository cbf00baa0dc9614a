/- What ends makes of spots: their least, or greatest, values. Condition: they can be read. -/
import Derived.Test.YtmejhedegmjboaaGreatIs
namespace Go.Proofs.YtmejhedegmjboaaGreat
open Go.RowKit

def EnRel' (f : Sp → Nat) (l : List Sp) (w : World) (v17 : Value) (wr : World) : Prop := ∃ i : Nat, v17 = .int .i64 (i : Int) ∧ i ≤ l.length ∧ Bo.NmAt wr w.heap.size (mkd f 0 l i) ∧ Below w.heap.size w wr

set_option maxRecDepth 100000 in
set_option maxHeartbeats 4000000 in
theorem lows_any (l : List Sp) (A : Option Addr) (n c : Nat) (S : Bo.Sr) (q : Nat) (lo hi : List Nat) (rc : Nat → Nat → Bool) (v : Value) (A1 : Option Addr) (n1 c1 : Nat) (A2 : Option Addr) (n2 c2 : Nat) (A3 : Option Addr) (n3 c3 : Nat) (w : World) (hs : SlvAt w S q lo hi rc v A1 n1 c1 A2 n2 c2 A3 n3 c3) (h : Rs spc 5 w w.heap.size A n c l) (hz : ∀ p ∈ l, U64 p.z) (hm : ∀ p ∈ l, okT q p.v p.z.toNat) (hn : n ≤ 256) :
    Calls Tryz.prog 80 #[.slice A n c, .int .u8 1, .func (.method "Bottom") #[v] #[], .func (.func 81) #[slvV v A1 n1 c1 A2 n2 c2 A3 n3 c3] #[]] w fun e w' => ∃ g, e = .returned (.slice (some ⟨g, 0, none⟩) n n) ∧ w.heap.size ≤ g ∧ Bo.NmAt w' g (l.map (lowS S lo)) ∧ Below w.heap.size w w' := by
  have hlen := h.len
  have hcap := h.cap
  have htop := h.top
  unfold maxLen at htop
  have hmk : ∀ W, (Instr.makeSlice 22 (.int .i64 (n : Int)) (.int .i64 (n : Int))).run Tryz.prog W = .ok (.slice (some ⟨W.heap.size, 0, none⟩) n n) (W.alloc (.cells (La.cl (mkd (lowS S lo) 0 l 0)) 60)) := fun W => by
    rw [La.make_nm n (by omega) W, mkd, hlen]
    rfl
  have hg0 : Bo.NmAt (w.alloc (.cells (La.cl (mkd (lowS S lo) 0 l 0)) 60)) w.heap.size (mkd (lowS S lo) 0 l 0) := heap_alloc_new w _
  have hb0 : Below w.heap.size w (w.alloc (.cells (La.cl (mkd (lowS S lo) 0 l 0)) 60)) := (Below.refl _ _).alloc (Nat.le_refl _) _
  have HR := Lib.hid h
  have HL := Lib.hid hlen
  have HG := Lib.hid hg0
  have HZ := Lib.hid hz
  have HM := Lib.hid hm
  have hsv := hs.s
  have HLEAST : Hid (∀ (av : Bool) (an : Nat), okT q av an → ∀ x, Bo.vl lo av an = x → ∀ W, Below w.heap.size w W → Calls Tryz.prog 81 #[slvV v A1 n1 c1 A2 n2 c2 A3 n3 c3, Bo.tmv av an] W fun e w' => e = .returned (.int .u64 (x : Int)) ∧ Below W.heap.size W w') :=
    Lib.hid fun av an ok x hx W hW => least_any av an S q lo hi rc v A1 n1 c1 A2 n2 c2 A3 n3 c3 W (hs.keep hW) ok x hx
  generalize La.cl (mkd (lowS S lo) 0 l 0) = cs at *
  clear h hg0 hlen hz hm hs
  unfold slvV Bo.tmv at HLEAST
  unfold slvV
  rcases hsv with ⟨pa, rfl, hA⟩ | ⟨pa, rfl, hA⟩
  all_goals (
    have HA := Lib.hid hA
    clear hA
    go_enter Tryz.func80, Tryz.ntmps80
    go_wp2
    clear hmk
    go_loopw [17] (fun v17 wr => EnRel' (lowS S lo) l w v17 wr) (fun v17 _ => n - (intOf v17).toNat)
    case atStart => exact ⟨0, rfl, by omega, HG.out, hb0⟩
    case round =>
      clear HG hb0
      obtain ⟨i, rfl, hik, hg, hb⟩ := hrel
      by_cases hlt : i < n
      · have hi' : i < l.length := by rw [HL.out]; exact hlt
        have hr := (HR.out.at_size (Nat.le_refl _) hb)
        obtain ⟨b, o, rfl, hbb, e0, e1, e2, e3, e4⟩ := spot_at hr hi'
        have hu := HZ.out _ (List.getElem_mem hi')
        have hk := HM.out _ (List.getElem_mem hi')
        have hgl : w.heap.size < wr.heap.size := lt_blk hg
        have hit : i < (mkd (lowS S lo) 0 l i).length := by rw [mkd_len hik]; exact hi'
        have HNX := Lib.hid (mkd_next (f := lowS S lo) (z := 0) hi')
        have HLT := Lib.hid hlt
        have hdk : decide ((i : Int) < (n : Int)) = true := decide_eq_true (by omega)
        generalize mkd (lowS S lo) 0 l i = L at *
        generalize l[i] = x at *
        obtain ⟨xn, xp, xs, xv, xz⟩ := x
        simp only at e0 e1 e2 e3 e4 hu hk
        obtain ⟨z, rfl, hzz⟩ := hu.nat
        obtain ⟨r, hr0⟩ : ∃ r, Bo.vl lo xv z = r := ⟨_, rfl⟩
        have hfx : lowS S lo ⟨xn, xp, xs, xv, (z : Int)⟩ = if xs = 1 then S.bot else r := by
          unfold lowS tmL
          subst hr0
          rfl
        rw [hfx] at HNX
        rw [Int.toNat_natCast] at hk
        have HC := Lib.hid (HLEAST.out xv z hk r hr0)
        clear hk hr0 hfx
        have hal : Below wr.heap.size wr (wr.alloc (.cells #[.int .i64 (xn : Int), .int .u8 (xp : Int), .int .u8 (xs : Int), .bool xv, .int .u64 (z : Int)] 67)) := (Below.refl _ _).alloc (Nat.le_refl _) _
        have HB := Lib.hid (hb.trans (hal.mono hb.size))
        have HG := Lib.hid (Bo.NmAt.keep hg hal)
        have HIT := Lib.hid hit
        clear hr hbb hg hit hi' hik hb hlt hal hu hzz hgl
        by_cases hxs : xs = 1
        · subst hxs
          rw [if_pos rfl] at HNX
          clear HC
          go_wp2_with fail
          refine (HA.out.bot _ HB.out).mono ?_
          rintro e w3 ⟨rfl, hb3⟩
          clear e0 e1 e2 e3 e4 hdk
          have hg3 := Bo.NmAt.keep HG.out hb3
          have HB3 := Lib.hid (HB.out.trans (hb3.mono HB.out.size))
          have hit := HIT.out
          have hgl3 : w.heap.size < w3.heap.size := lt_blk hg3
          have d0 := (cell_blk (i := i) hg3).trans (La.cl_at hit)
          have f0 : w3.frozen? ⟨w.heap.size, i, none⟩ = false := frozen_blk hg3
          have hst := hg3.set i S.bot
          rw [HNX.out] at hst
          have HST : Hid (Bo.NmAt (w3.setCell ⟨w.heap.size, i, none⟩ (.int .u64 (S.bot : Int))) w.heap.size (mkd (lowS S lo) 0 l (i + 1)) ∧ Below w.heap.size w (w3.setCell ⟨w.heap.size, i, none⟩ (.int .u64 (S.bot : Int)))) := Lib.hid ⟨hst, HB3.out.setCell (p := ⟨w.heap.size, i, none⟩) (Nat.le_refl _) _⟩
          generalize L[i] = y at *
          clear hst hg3 hit hb3 HB HG
          go_wp2_with fail
          go_roundw
          case rel => exact ⟨i + 1, by go_num, by have := HLT.out; have := HL.out; omega, HST.out.1, HST.out.2⟩
          case measure =>
            have := HLT.out
            simp [intOf]
            omega
        · have hne : ((xs : Int) == 1) = false := by
            rw [beq_eq_false_iff_ne]
            omega
          rw [if_neg hxs] at HNX
          clear hxs
          go_wp2_with fail
          refine (HC.out _ HB.out).mono ?_
          rintro e w3 ⟨rfl, hb3⟩
          clear HC e0 e1 e2 e3 e4 hdk
          have hg3 := Bo.NmAt.keep HG.out hb3
          have HB3 := Lib.hid (HB.out.trans (hb3.mono HB.out.size))
          have hit := HIT.out
          have hgl3 : w.heap.size < w3.heap.size := lt_blk hg3
          have d0 := (cell_blk (i := i) hg3).trans (La.cl_at hit)
          have f0 : w3.frozen? ⟨w.heap.size, i, none⟩ = false := frozen_blk hg3
          have hst := hg3.set i r
          rw [HNX.out] at hst
          have HST : Hid (Bo.NmAt (w3.setCell ⟨w.heap.size, i, none⟩ (.int .u64 (r : Int))) w.heap.size (mkd (lowS S lo) 0 l (i + 1)) ∧ Below w.heap.size w (w3.setCell ⟨w.heap.size, i, none⟩ (.int .u64 (r : Int)))) := Lib.hid ⟨hst, HB3.out.setCell (p := ⟨w.heap.size, i, none⟩) (Nat.le_refl _) _⟩
          generalize L[i] = y at *
          clear hst hg3 hit hb3 HB HG
          go_wp2_with fail
          go_roundw
          case rel => exact ⟨i + 1, by go_num, by have := HLT.out; have := HL.out; omega, HST.out.1, HST.out.2⟩
          case measure =>
            have := HLT.out
            simp [intOf]
            omega
      · obtain rfl : i = n := by have := HL.out; omega
        rw [← HL.out, mkd_end] at hg
        clear HLEAST
        go_wp2
        go_ret
        exact ⟨_, rfl, Nat.le_refl _, hg, hb⟩)

set_option maxRecDepth 100000 in
set_option maxHeartbeats 4000000 in
theorem highs_any (l : List Sp) (A : Option Addr) (n c : Nat) (S : Bo.Sr) (q : Nat) (lo hi : List Nat) (rc : Nat → Nat → Bool) (v : Value) (A1 : Option Addr) (n1 c1 : Nat) (A2 : Option Addr) (n2 c2 : Nat) (A3 : Option Addr) (n3 c3 : Nat) (w : World) (hs : SlvAt w S q lo hi rc v A1 n1 c1 A2 n2 c2 A3 n3 c3) (h : Rs spc 5 w w.heap.size A n c l) (hz : ∀ p ∈ l, U64 p.z) (hm : ∀ p ∈ l, okT q p.v p.z.toNat) (hn : n ≤ 256) :
    Calls Tryz.prog 80 #[.slice A n c, .int .u8 0, .func (.method "Top") #[v] #[], .func (.func 82) #[slvV v A1 n1 c1 A2 n2 c2 A3 n3 c3] #[]] w fun e w' => ∃ g, e = .returned (.slice (some ⟨g, 0, none⟩) n n) ∧ w.heap.size ≤ g ∧ Bo.NmAt w' g (l.map (highS S hi)) ∧ Below w.heap.size w w' := by
  have hlen := h.len
  have hcap := h.cap
  have htop := h.top
  unfold maxLen at htop
  have hmk : ∀ W, (Instr.makeSlice 22 (.int .i64 (n : Int)) (.int .i64 (n : Int))).run Tryz.prog W = .ok (.slice (some ⟨W.heap.size, 0, none⟩) n n) (W.alloc (.cells (La.cl (mkd (highS S hi) 0 l 0)) 60)) := fun W => by
    rw [La.make_nm n (by omega) W, mkd, hlen]
    rfl
  have hg0 : Bo.NmAt (w.alloc (.cells (La.cl (mkd (highS S hi) 0 l 0)) 60)) w.heap.size (mkd (highS S hi) 0 l 0) := heap_alloc_new w _
  have hb0 : Below w.heap.size w (w.alloc (.cells (La.cl (mkd (highS S hi) 0 l 0)) 60)) := (Below.refl _ _).alloc (Nat.le_refl _) _
  have HR := Lib.hid h
  have HL := Lib.hid hlen
  have HG := Lib.hid hg0
  have HZ := Lib.hid hz
  have HM := Lib.hid hm
  have hsv := hs.s
  have HLEAST : Hid (∀ (av : Bool) (an : Nat), okT q av an → ∀ x, Bo.vl hi av an = x → ∀ W, Below w.heap.size w W → Calls Tryz.prog 82 #[slvV v A1 n1 c1 A2 n2 c2 A3 n3 c3, Bo.tmv av an] W fun e w' => e = .returned (.int .u64 (x : Int)) ∧ Below W.heap.size W w') :=
    Lib.hid fun av an ok x hx W hW => greatest_any av an S q lo hi rc v A1 n1 c1 A2 n2 c2 A3 n3 c3 W (hs.keep hW) ok x hx
  generalize La.cl (mkd (highS S hi) 0 l 0) = cs at *
  clear h hg0 hlen hz hm hs
  unfold slvV Bo.tmv at HLEAST
  unfold slvV
  rcases hsv with ⟨pa, rfl, hA⟩ | ⟨pa, rfl, hA⟩
  all_goals (
    have HA := Lib.hid hA
    clear hA
    go_enter Tryz.func80, Tryz.ntmps80
    go_wp2
    clear hmk
    go_loopw [17] (fun v17 wr => EnRel' (highS S hi) l w v17 wr) (fun v17 _ => n - (intOf v17).toNat)
    case atStart => exact ⟨0, rfl, by omega, HG.out, hb0⟩
    case round =>
      clear HG hb0
      obtain ⟨i, rfl, hik, hg, hb⟩ := hrel
      by_cases hlt : i < n
      · have hi' : i < l.length := by rw [HL.out]; exact hlt
        have hr := (HR.out.at_size (Nat.le_refl _) hb)
        obtain ⟨b, o, rfl, hbb, e0, e1, e2, e3, e4⟩ := spot_at hr hi'
        have hu := HZ.out _ (List.getElem_mem hi')
        have hk := HM.out _ (List.getElem_mem hi')
        have hgl : w.heap.size < wr.heap.size := lt_blk hg
        have hit : i < (mkd (highS S hi) 0 l i).length := by rw [mkd_len hik]; exact hi'
        have HNX := Lib.hid (mkd_next (f := highS S hi) (z := 0) hi')
        have HLT := Lib.hid hlt
        have hdk : decide ((i : Int) < (n : Int)) = true := decide_eq_true (by omega)
        generalize mkd (highS S hi) 0 l i = L at *
        generalize l[i] = x at *
        obtain ⟨xn, xp, xs, xv, xz⟩ := x
        simp only at e0 e1 e2 e3 e4 hu hk
        obtain ⟨z, rfl, hzz⟩ := hu.nat
        obtain ⟨r, hr0⟩ : ∃ r, Bo.vl hi xv z = r := ⟨_, rfl⟩
        have hfx : highS S hi ⟨xn, xp, xs, xv, (z : Int)⟩ = if xs = 0 then S.top else r := by
          unfold highS tmL
          subst hr0
          rfl
        rw [hfx] at HNX
        rw [Int.toNat_natCast] at hk
        have HC := Lib.hid (HLEAST.out xv z hk r hr0)
        clear hk hr0 hfx
        have hal : Below wr.heap.size wr (wr.alloc (.cells #[.int .i64 (xn : Int), .int .u8 (xp : Int), .int .u8 (xs : Int), .bool xv, .int .u64 (z : Int)] 67)) := (Below.refl _ _).alloc (Nat.le_refl _) _
        have HB := Lib.hid (hb.trans (hal.mono hb.size))
        have HG := Lib.hid (Bo.NmAt.keep hg hal)
        have HIT := Lib.hid hit
        clear hr hbb hg hit hi' hik hb hlt hal hu hzz hgl
        by_cases hxs : xs = 0
        · subst hxs
          rw [if_pos rfl] at HNX
          clear HC
          go_wp2_with fail
          refine (HA.out.top _ HB.out).mono ?_
          rintro e w3 ⟨rfl, hb3⟩
          clear e0 e1 e2 e3 e4 hdk
          have hg3 := Bo.NmAt.keep HG.out hb3
          have HB3 := Lib.hid (HB.out.trans (hb3.mono HB.out.size))
          have hit := HIT.out
          have hgl3 : w.heap.size < w3.heap.size := lt_blk hg3
          have d0 := (cell_blk (i := i) hg3).trans (La.cl_at hit)
          have f0 : w3.frozen? ⟨w.heap.size, i, none⟩ = false := frozen_blk hg3
          have hst := hg3.set i S.top
          rw [HNX.out] at hst
          have HST : Hid (Bo.NmAt (w3.setCell ⟨w.heap.size, i, none⟩ (.int .u64 (S.top : Int))) w.heap.size (mkd (highS S hi) 0 l (i + 1)) ∧ Below w.heap.size w (w3.setCell ⟨w.heap.size, i, none⟩ (.int .u64 (S.top : Int)))) := Lib.hid ⟨hst, HB3.out.setCell (p := ⟨w.heap.size, i, none⟩) (Nat.le_refl _) _⟩
          generalize L[i] = y at *
          clear hst hg3 hit hb3 HB HG
          go_wp2_with fail
          go_roundw
          case rel => exact ⟨i + 1, by go_num, by have := HLT.out; have := HL.out; omega, HST.out.1, HST.out.2⟩
          case measure =>
            have := HLT.out
            simp [intOf]
            omega
        · have hne : ((xs : Int) == 0) = false := by
            rw [beq_eq_false_iff_ne]
            omega
          rw [if_neg hxs] at HNX
          clear hxs
          go_wp2_with fail
          refine (HC.out _ HB.out).mono ?_
          rintro e w3 ⟨rfl, hb3⟩
          clear HC e0 e1 e2 e3 e4 hdk
          have hg3 := Bo.NmAt.keep HG.out hb3
          have HB3 := Lib.hid (HB.out.trans (hb3.mono HB.out.size))
          have hit := HIT.out
          have hgl3 : w.heap.size < w3.heap.size := lt_blk hg3
          have d0 := (cell_blk (i := i) hg3).trans (La.cl_at hit)
          have f0 : w3.frozen? ⟨w.heap.size, i, none⟩ = false := frozen_blk hg3
          have hst := hg3.set i r
          rw [HNX.out] at hst
          have HST : Hid (Bo.NmAt (w3.setCell ⟨w.heap.size, i, none⟩ (.int .u64 (r : Int))) w.heap.size (mkd (highS S hi) 0 l (i + 1)) ∧ Below w.heap.size w (w3.setCell ⟨w.heap.size, i, none⟩ (.int .u64 (r : Int)))) := Lib.hid ⟨hst, HB3.out.setCell (p := ⟨w.heap.size, i, none⟩) (Nat.le_refl _) _⟩
          generalize L[i] = y at *
          clear hst hg3 hit hb3 HB HG
          go_wp2_with fail
          go_roundw
          case rel => exact ⟨i + 1, by go_num, by have := HLT.out; have := HL.out; omega, HST.out.1, HST.out.2⟩
          case measure =>
            have := HLT.out
            simp [intOf]
            omega
      · obtain rfl : i = n := by have := HL.out; omega
        rw [← HL.out, mkd_end] at hg
        clear HLEAST
        go_wp2
        go_ret
        exact ⟨_, rfl, Nat.le_refl _, hg, hb⟩)
end Go.Proofs.YtmejhedegmjboaaGreat
