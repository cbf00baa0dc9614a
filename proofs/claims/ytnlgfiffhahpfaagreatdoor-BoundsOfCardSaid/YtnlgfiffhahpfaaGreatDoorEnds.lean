/- What ends makes: the least values that bounds lead to, by whatever two method values of a sort. No condition but sizes. -/
import Derived.Test.YtnlgfiffhahpfaaGreatDoorEnd
import Derived.WalkMore
import Derived.ScopeJumps
import Derived.LoopTactic
namespace Go.Proofs.YtnlgfiffhahpfaaGreatDoor
open Go.RowKit

/-- The numbers of a block. -/
def numsAt (w : World) (g : Nat) : List Nat := match w.heap[g]? with
  | some (.cells cs _ _) => cs.toList.map fun v => (intOf v).toNat
  | _ => []

def NmAt (w : World) (g : Nat) (l : List Nat) : Prop := w.heap[g]? = some (.cells (La.cl l) 73 (0, 0))
theorem NmAt.nums {w : World} {g : Nat} {l : List Nat} (h : NmAt w g l) : numsAt w g = l := by
  unfold numsAt
  rw [show w.heap[g]? = _ from h]
  simp only [La.cl, List.map_map]
  conv => rhs; rw [← List.map_id l]
  apply List.map_congr_left
  intro x _
  simp [La.nm, intOf]

/-- A scope with a label behind its first part, to which it jumps back. -/
theorem wp_scope_mid {P : Program} {pre rest : Code} {Q : Exit → Act → World → Prop} {a : Act} {w : World} (J : Act → World → Prop) (μ : Act → World → Nat) (hf : findLabel (pre.seq ((Code.label 0).seq rest)) 0 = some (Code.skip.seq rest))
    (first : pre.wp P (Exit.then J fun _ _ _ => False) a w)
    (hp : ∀ a w, J a w → rest.wp P (Exit.jump 0 (fun a' w' => J a' w' ∧ μ a' w' < μ a w) Q) a w) : (Code.scope (pre.seq ((Code.label 0).seq rest))).wp P Q a w := by
  refine wp_scope_jumps 0 J μ hf (wp_seq (wp_mono first ?_)) (fun a w h => wp_seq (wp_skip (hp a w h)))
  intro e a' w' hh
  cases e with
  | normal =>
    refine wp_seq (wp_label ?_)
    refine wp_mono (hp a' w' hh) ?_
    intro e a2 w2 h2
    cases e with
    | goto l' => exact ⟨h2.1, h2.2.1⟩
    | normal => exact h2
    | exit id => exact h2
    | ret => exact h2
    | panic ch => exact h2
    | outgrown => exact h2
  | goto l' => exact False.elim hh
  | exit id => exact False.elim hh
  | ret => exact False.elim hh
  | panic ch => exact False.elim hh
  | outgrown => exact False.elim hh

/-- Two functions of p: what to begin with, and what merges two. -/
def Fm (w : World) (fb fj : Nat) (p : Value) (S : Sr) : Prop :=
  (∀ W, Below w.heap.size w W → Calls Tryz.prog fb #[p] W fun e w' => e = .returned (.int .u64 (S.bot : Int)) ∧ Below W.heap.size W w') ∧
  (∀ W, Below w.heap.size w W → ∀ x y : Nat, x < 18446744073709551616 → y < 18446744073709551616 → Calls Tryz.prog fj #[p, .int .u64 (x : Int), .int .u64 (y : Int)] W fun e w' => e = .returned (.int .u64 (S.join x y : Int)) ∧ Below W.heap.size W w')

/-- Two method values: Bottom and Join, or Top and Meet. -/
def Mts (w : World) (f g : Value) (S : Sr) : Prop :=
  (∃ a, f = .func (.method "Bottom") #[.iface 68 (.pointer a)] #[] ∧ g = .func (.method "Join") #[.iface 68 (.pointer a)] #[] ∧ Fm w 191 193 (.pointer a) S) ∨
  (∃ a, f = .func (.method "Bottom") #[.iface 65 (.pointer a)] #[] ∧ g = .func (.method "Join") #[.iface 65 (.pointer a)] #[] ∧ Fm w 181 183 (.pointer a) S) ∨
  (f = .func (.method "Bottom") #[.iface 101 (.agg #[])] #[] ∧ g = .func (.method "Join") #[.iface 101 (.agg #[])] #[] ∧ Fm w 202 204 (.agg #[]) S) ∨
  (∃ a, f = .func (.method "Top") #[.iface 68 (.pointer a)] #[] ∧ g = .func (.method "Meet") #[.iface 68 (.pointer a)] #[] ∧ Fm w 195 194 (.pointer a) S) ∨
  (∃ a, f = .func (.method "Top") #[.iface 65 (.pointer a)] #[] ∧ g = .func (.method "Meet") #[.iface 65 (.pointer a)] #[] ∧ Fm w 185 184 (.pointer a) S) ∨
  (f = .func (.method "Top") #[.iface 101 (.agg #[])] #[] ∧ g = .func (.method "Meet") #[.iface 101 (.agg #[])] #[] ∧ Fm w 206 205 (.agg #[]) S)

/-- What is held at the label: values stand in block q. -/
structure EnAt (S : Sr) (k : Nat) (l : List Bd) (w : World) (q : Nat) (wr : World) (v : List Nat) : Prop where
  new : w.heap.size ≤ q
  un : Under S k l v
  blk : NmAt wr q v
  kept : Below w.heap.size w wr

/-- The block that the tenth temporary points to. -/
def blkOf (a : Act) : Nat := match a.tmps.getD 9 undef with
  | .slice (some p) _ _ => p.block
  | _ => 0

def EnJ (S : Sr) (k : Nat) (l : List Bd) (w : World) (s1 s3 : Value) (a' : Act) (w' : World) : Prop :=
  ∃ (q : Nat) (v : List Nat) (u0 u2 u4 u5 u6 u7 u8 u10 u11 u12 u13 u14 u15 u16 u17 u18 u19 u20 u21 u22 u23 u24 u25 u26 u27 u28 u29 u30 u31 u32 u33 u34 u35 u36 u37 u38 u39 u40 u41 u42 u43 u44 u45 u46 u47 u48 u49 u50 u51 u52 u53 u54 u55 u56 u57 u58 u59 u60 u61 u62 u63 u64 : Value), EnAt S k l w q w' v ∧ a' = { tmps := #[u0, s1, u2, s3, u4, u5, u6, u7, u8, .slice (some ⟨q, 0, none⟩) k k, u10, u11, u12, u13, u14, u15, u16, u17, u18, u19, u20, u21, u22, u23, u24, u25, u26, u27, u28, u29, u30, u31, u32, u33, u34, u35, u36, u37, u38, u39, u40, u41, u42, u43, u44, u45, u46, u47, u48, u49, u50, u51, u52, u53, u54, u55, u56, u57, u58, u59, u60, u61, u62, u63, u64], defers := [] }

def EnRel (S : Sr) (r : Nat → Nat) (k : Nat) (l : List Bd) (w : World) (q : Nat) (v0 : List Nat) (v10 v24 : Value) (wr : World) : Prop :=
  ∃ (i : Nat) (b : Bool) (v : List Nat), v24 = .int .i64 (i : Int) ∧ i ≤ l.length ∧ v10 = .bool b ∧ Pass S r k l v0 i b v ∧ NmAt wr q v ∧ Below w.heap.size w wr

theorem NmAt.set {w : World} {q : Nat} {v : List Nat} (h : NmAt w q v) (i x : Nat) : NmAt (w.setCell ⟨q, i, none⟩ (.int .u64 (x : Int))) q (v.set i x) := by
  unfold NmAt at *
  rw [set_blk h, La.cl_set]
theorem NmAt.keep {w w' : World} {q : Nat} {v : List Nat} (h : NmAt w q v) (hb : Below w.heap.size w w') : NmAt w' q v := (hb.block q (lt_blk h)).trans h
theorem NmAt.rd {w : World} {q k : Nat} {v : List Nat} (h : NmAt w q v) (hk : v.length = k) (h6 : k ≤ 64) : Rd La.nm w w.heap.size (some ⟨q, 0, none⟩) k k v := La.rd_blk h hk (by omega)

/-- A list of numbers in a block of the call's own. -/
structure OwnAt (w0 w : World) (q k : Nat) (v : List Nat) : Prop where
  rd : Rd La.nm w w.heap.size (some ⟨q, 0, none⟩) k k v
  blk : NmAt w q v
  new : w0.heap.size ≤ q
theorem OwnAt.at_size {w0 w w' : World} {q k : Nat} {v : List Nat} (h : OwnAt w0 w q k v) (hB : w.heap.size ≤ w.heap.size) (hb : Below w.heap.size w w') : OwnAt w0 w' q k v :=
  ⟨h.rd.at_size hB hb, h.blk.keep hb, h.new⟩

set_option maxRecDepth 100000 in
set_option maxHeartbeats 8000000 in
theorem ends_any (f g : Value) (k : Nat) (A : Option Addr) (n c : Nat) (l : List Bd) (S : Sr) (w : World) (hS : S.Ok) (hm : Mts w f g S) (hk : k ≤ 64) (h : Rs bdc 4 w w.heap.size A n c l) (hf : ∀ b ∈ l, b.Fit) (hl : ∀ b ∈ l, mayB S k b = true) (hbot : 0 < k → S.has S.bot = true) :
    Calls Tryz.prog 26 #[.int .i64 (k : Int), .slice A n c, f, g] w fun e w' => ∃ q v, e = .returned (.slice (some ⟨q, 0, none⟩) k k) ∧ OwnAt w w' q k v ∧ IsLow S k l v ∧ Below w.heap.size w w' := by
  obtain ⟨r, hr1, hr2⟩ := hS.rk
  have HR1 := Lib.hid hr1
  have HR2 := Lib.hid hr2
  have HS := Lib.hid hS
  have HF := Lib.hid hf
  have HMB := Lib.hid hl
  have HK := Lib.hid hk
  have HL := Lib.hid h.len
  have hcap := h.cap
  have htop := h.top
  unfold maxLen at htop
  have HR := Lib.hid h
  have HU := Lib.hid (Under.start hS (l := l) hbot)
  clear hr1 hr2 hS hf hl hk h hbot
  rcases hm with ⟨a, rfl, hgv, hfm⟩ | ⟨a, rfl, hgv, hfm⟩ | ⟨rfl, hgv, hfm⟩ | ⟨a, rfl, hgv, hfm⟩ | ⟨a, rfl, hgv, hfm⟩ | ⟨rfl, hgv, hfm⟩
  all_goals (
    obtain ⟨hf1, hf2⟩ := hfm
    have HGV := Lib.hid hgv
    clear hgv
    have HM := Lib.hid hf2
    have hcb := hf1 w (Below.refl _ _)
    clear hf1 hf2
    go_enter Tryz.func26, Tryz.ntmps26
    go_wp2_with fail
    refine wp_scope_mid (EnJ S k l w (.slice A n c) g) (fun a' w' => room r (numsAt w' (blkOf a'))) rfl ?_ ?_
    focus (
      go_wp2_with fail
      refine hcb.mono ?_
      rintro e w1 ⟨rfl, hb1⟩
      clear hcb
      have hal : Below w1.heap.size w1 (w1.alloc (.cells #[.int .u64 (S.bot : Int)] 73)) := (Below.refl _ _).alloc (Nat.le_refl _) _
      have hrep := repeat_any w1.heap.size 0 1 (S.bot : Int) k (w1.alloc (.cells #[.int .u64 (S.bot : Int)] 73)) HK.out (by simp) ((cell_blk (i := 0) (heap_alloc_new w1 _)).trans rfl)
      have HB1 := Lib.hid (hb1.trans (hal.mono hb1.size))
      have HREP := Lib.hid hrep
      clear hal hrep hb1
      go_wp2_with fail
      refine HREP.out.mono ?_
      rintro e w2 ⟨q, rfl, hqn, hq, hb2⟩
      have HE : Hid (EnAt S k l w q w2 (List.replicate k S.bot)) := Lib.hid ⟨Nat.le_trans HB1.out.size hqn, HU.out, by unfold NmAt; rw [hq]; simp [La.cl, La.nm], HB1.out.trans (hb2.mono HB1.out.size)⟩
      clear hq hqn hb2 HREP HB1 HU
      go_wp2_with fail
      exact ⟨q, _, _, _, _, _, _, _, _, _, _, _, _, _, _, _, _, _, _, _, _, _, _, _, _, _, _, _, _, _, _, _, _, _, _, _, _, _, _, _, _, _, _, _, _, _, _, _, _, _, _, _, _, _, _, _, _, _, _, _, _, _, _, _, HE.out, rfl⟩)
    clear hcb HU
    obtain rfl := HGV.out
    clear HGV
    rintro a' w' ⟨q, v0, u0, u2, u4, u5, u6, u7, u8, u10, u11, u12, u13, u14, u15, u16, u17, u18, u19, u20, u21, u22, u23, u24, u25, u26, u27, u28, u29, u30, u31, u32, u33, u34, u35, u36, u37, u38, u39, u40, u41, u42, u43, u44, u45, u46, u47, u48, u49, u50, u51, u52, u53, u54, u55, u56, u57, u58, u59, u60, u61, u62, u63, u64, hE, rfl⟩
    have HN := Lib.hid hE.blk.nums
    have HEV := Lib.hid hE
    have HQ := Lib.hid hE.new
    clear hE
    go_wp2_with fail
    go_loopw [10, 24] (fun v10 v24 wr => EnRel S r k l w q v0 v10 v24 wr) (fun _ v24 _ => n - (intOf v24).toNat)
    case atStart => exact ⟨0, false, v0, rfl, by omega, rfl, Pass.start HEV.out.un, HEV.out.blk, HEV.out.kept⟩
    case round =>
      obtain ⟨i, grew, v, rfl, hi, rfl, hp, hblk, hb⟩ := hrel
      by_cases hlt : i < n
      · have hi' : i < l.length := by rw [HL.out]; exact hlt
        have hrr := (HR.out.at_size (Nat.le_refl _) hb)
        obtain ⟨b, o, rfl, hbb, e0, e1, e2, e3⟩ := bd_at hrr hi'
        have hu := HF.out _ (List.getElem_mem hi')
        have hmy := HMB.out _ (List.getElem_mem hi')
        have hvl := hp.un.has.1
        have hvf := all_fit HS.out hp.un.has
        have HSK := Lib.hid (fun e => hp.skip hi' e)
        have HSTP := Lib.hid (fun e x (hx : S.join _ _ = x) => hp.step HS.out HR1.out HR2.out hi' hmy e hx)
        have HAT := Lib.hid (fun e => may_at hmy e)
        generalize l[i] = y at *
        obtain ⟨av, an, bv, bn⟩ := y
        simp only at e0 e1 e2 e3 hu HSK HSTP HAT
        have HLT := Lib.hid hlt
        have hal : Below wr.heap.size wr (wr.alloc (.cells #[.bool av, .int .u64 (an : Int), .bool bv, .int .u64 (bn : Int)] 77)) := (Below.refl _ _).alloc (Nat.le_refl _) _
        have HB1 := Lib.hid (hb.trans (hal.mono hb.size))
        cases bv with
        | false =>
          have HSK := Lib.hid (HSK.out rfl)
          have HBL := Lib.hid (hblk.keep hal)
          clear hp hblk hb hrr hbb hu hmy hvl hvf hal hi' HSTP HAT
          go_wp2_with fail
          go_roundw
          case rel => exact ⟨i + 1, grew, v, by go_num, by have := HLT.out; have := HL.out; omega, rfl, HSK.out, HBL.out, HB1.out⟩
          case measure =>
            have := HLT.out
            simp [intOf]
            omega
        | true =>
          have hbk := HAT.out rfl
          have hbv : bn < v.length := by rw [hvl]; exact hbk
          have HSTP := Lib.hid (HSTP.out rfl)
          obtain ⟨x1, hx1⟩ : ∃ x, vl v av an = x := ⟨_, rfl⟩
          obtain ⟨y1, hy1⟩ : ∃ x, okT v av an = x := ⟨_, rfl⟩
          obtain ⟨x2, hx2⟩ : ∃ x, v.getD bn 0 = x := ⟨_, rfl⟩
          obtain ⟨x3, hx3⟩ : ∃ x, S.join x2 x1 = x := ⟨_, rfl⟩
          have hx1f : x1 < 18446744073709551616 := hx1 ▸ vl_fit hvf hu.1
          have hx2f : x2 < 18446744073709551616 := by rw [← hx2, getD_at hbv]; exact hvf.get bn hbv
          have HST := Lib.hid (HSTP.out x3 (by rw [hx1, hx2]; exact hx3))
          rw [hx2] at HST
          have HBK := Lib.hid (hblk.keep hal)
          have hval := value_any av an (some ⟨q, 0, none⟩) k k _ v _ (HBK.out.rd hvl HK.out) (Nat.le_refl _) hu.1 x1 y1 hx1 hy1
          have HVAL := Lib.hid hval
          have HVC : Hid ((La.cl v)[bn]? = some (.int .u64 (x2 : Int))) := Lib.hid (by rw [← hx2, getD_at hbv]; exact La.cl_at hbv)
          have hcx := fun (j : Nat) (hj : j < 4) => cell_blk (i := j) (heap_alloc_new wr (.cells #[.bool av, .int .u64 (an : Int), .bool true, .int .u64 (bn : Int)] 77))
          have HM3 := Lib.hid (fun W hW => hx3 ▸ HM.out W hW x2 x1 hx2f hx1f)
          have hbki : (bn : Int) < (k : Int) := by omega
          clear hp hblk hb hrr hbb hu hmy hvl hvf hal hi' HSTP HAT HSK hx1 hy1 hx2 hx3 hx1f hx2f hval hbv
          unfold tmv at HVAL
          go_wp2_with fail
          refine HVAL.out.mono ?_
          rintro e w2 ⟨rfl, hb2⟩
          have HB2 := Lib.hid (HB1.out.trans (hb2.mono HB1.out.size))
          have HK2 := Lib.hid (HBK.out.keep hb2)
          have hc2 := (cell_blk (i := bn) HK2.out).trans HVC.out
          clear hb2 hcx e0 e1 e2 e3 HVAL HBK HB1
          have hm3 := HM3.out _ HB2.out
          go_wp2_with fail
          refine hm3.mono ?_
          rintro e w3 ⟨rfl, hb3⟩
          have HB3 := Lib.hid (HB2.out.trans (hb3.mono HB2.out.size))
          have HK3 := Lib.hid (HK2.out.keep hb3)
          have hc3 := (cell_blk (i := bn) HK3.out).trans HVC.out
          have hfz : w3.frozen? ⟨q, bn, none⟩ = false := frozen_blk HK3.out
          have HKS := Lib.hid (HK3.out.set bn x3)
          have HBS : Hid (Below w.heap.size w (w3.setCell ⟨q, bn, none⟩ (.int .u64 (x3 : Int)))) := Lib.hid (HB3.out.setCell (p := ⟨q, bn, none⟩) HQ.out _)
          obtain ⟨d, hd⟩ : ∃ d, (x3 == x2) = d := ⟨_, rfl⟩
          rw [hd] at HST
          have hne : ((x3 : Int) != (x2 : Int)) = !d := by
            rw [← hd]
            by_cases e : x3 = x2
            · subst e
              simp
            · have e1 : ((x3 : Int) != (x2 : Int)) = true := by simp; omega
              have e2 : (x3 == x2) = false := by simpa using e
              rw [e1, e2]
              rfl
          clear hb3 hm3 hc2 HK2 HB2 HK3 HB3 hd HM3 HVC
          cases grew with
          | true =>
            clear hne
            go_wp2_with fail
            go_roundw
            case rel => exact ⟨i + 1, true, _, by go_num, by have := HLT.out; have := HL.out; omega, rfl, HST.out, HKS.out, HBS.out⟩
            case measure =>
              have := HLT.out
              simp [intOf]
              omega
          | false =>
            go_wp2_with fail
            go_roundw
            case rel => exact ⟨i + 1, !d, _, by go_num, by have := HLT.out; have := HL.out; omega, rfl, HST.out, HKS.out, HBS.out⟩
            case measure =>
              have := HLT.out
              simp [intOf]
              omega
      · have hin : i = l.length := by have := HL.out; omega
        subst hin
        have HE : Hid (EnAt S k l w q wr v) := Lib.hid ⟨HQ.out, hp.un, hblk, hb⟩
        cases grew with
        | true =>
          have HRM := Lib.hid (hp.yes rfl)
          clear hp hblk hb
          go_wp2
          go_step3
          refine ⟨rfl, ⟨q, v, _, _, _, _, _, _, _, _, _, _, _, _, _, _, _, _, _, _, _, _, _, _, _, _, _, _, _, _, _, _, _, _, _, _, _, _, _, _, _, _, _, _, _, _, _, _, _, _, _, _, _, _, _, _, _, _, _, _, _, _, _, _, HE.out, rfl⟩, ?_⟩
          show room r (numsAt wr q) < room r (numsAt _ q)
          rw [HN.out, HE.out.blk.nums]
          exact HRM.out
        | false =>
          have HD := Lib.hid hp.done
          clear hp hblk hb
          go_wp2
          simp only [Exit.jump]
          go_ret
          exact ⟨q, v, rfl, ⟨HE.out.blk.rd HD.out.has.1 HK.out, HE.out.blk, HE.out.new⟩, HD.out, HE.out.kept⟩)
end Go.Proofs.YtnlgfiffhahpfaaGreatDoor
