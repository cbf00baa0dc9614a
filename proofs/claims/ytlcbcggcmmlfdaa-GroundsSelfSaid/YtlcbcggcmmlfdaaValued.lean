/- What grounds.valued tells. Condition: the spots can be read, and what is asked of a value is answered. -/
import Derived.Test.YtlcbcggcmmlfdaaPut
namespace Go.Proofs.Ytlcbcggcmmlfdaa
open Go.RowKit

/-- A function value that tells H of any value, in every world behind w. -/
def Tells1 (w : World) (v : Value) (H : Nat → Bool) : Prop := ∃ F p, (F = 21 ∨ F = 27) ∧ v = .func (.func F) #[.pointer p] #[] ∧ ∀ W, Below w.heap.size w W → ∀ x : Nat, x < 18446744073709551616 →
  Calls Try.prog F #[.pointer p, .int .u64 (x : Int)] W fun e w' => e = .returned (.bool (H x)) ∧ Below W.heap.size W w'

/-- A spot has a value. -/
def okS (H : Nat → Bool) (p : Sp) : Bool := !p.v && H p.z.toNat
def valB (H : Nat → Bool) (l : List Sp) : Bool := l.all (okS H)
def valN (H : Nat → Bool) (ls ms : List Sp) (k : Nat) : Bool := if k = 0 then true else if k = 1 then valB H ls else valB H ls && valB H ms

/-- One of two lists. -/
structure Lst (w : World) (g k : Nat) (A : Option Addr) (n c : Nat) (l : List Sp) : Prop where
  cell : w.cell? ⟨g, k, none⟩ = some (.slice A n c)
  rs : Rs spc 5 w w.heap.size A n c l
  fit : ∀ p ∈ l, U64 p.z
theorem Lst.keep {w W : World} {g k n c : Nat} {A : Option Addr} {l : List Sp} (h : Lst w g k A n c l) (hb : Below w.heap.size w W) : Lst W g k A n c l :=
  ⟨(hb.cell (p := ⟨g, k, none⟩) (World.block_lt_of_cell? w _ h.cell)).trans h.cell, h.rs.at_size (Nat.le_refl _) hb, h.fit⟩

def VaRel (H : Nat → Bool) (ls ms : List Sp) (w : World) (v11 : Value) (wr : World) : Prop := ∃ k : Nat, v11 = .int .i64 (k : Int) ∧ k ≤ 2 ∧ valN H ls ms k = true ∧ Below w.heap.size w wr
def ViRel (H : Nat → Bool) (l : List Sp) (w : World) (v17 : Value) (wr : World) : Prop := ∃ i : Nat, v17 = .int .i64 (i : Int) ∧ i ≤ l.length ∧ valB H (l.take i) = true ∧ Below w.heap.size w wr

theorem valB_step {H : Nat → Bool} {l : List Sp} {i : Nat} (hi : i < l.length) (h : valB H (l.take i) = true) : valB H (l.take (i + 1)) = okS H l[i] := by
  unfold valB at *
  rw [List.take_succ_eq_append_getElem hi, List.all_append, h]
  simp
theorem valB_no {H : Nat → Bool} {l : List Sp} {i : Nat} (hi : i < l.length) (h : okS H l[i] = false) : valB H l = false := by
  refine Bool.eq_false_iff.2 fun e => ?_
  have := List.all_eq_true.1 e _ (List.getElem_mem hi)
  rw [h] at this
  cases this

set_option maxRecDepth 100000 in
set_option maxHeartbeats 2000000 in
theorem valued_any (rv : Value) (H : Nat → Bool) (g : Nat) (A A2 : Option Addr) (n c n2 c2 : Nat) (ls ms : List Sp) (w : World) (hH : Tells1 w rv H) (h1 : Lst w g 0 A n c ls) (h2 : Lst w g 1 A2 n2 c2 ms) :
    Calls Try.prog 26 #[rv, .slice (some ⟨g, 0, none⟩) 2 2] w fun e w' => e = .returned (.bool (valB H ls && valB H ms)) ∧ Below w.heap.size w w' := by
  obtain ⟨F, p, hF, rfl, hT⟩ := hH
  have HT := Lib.hid hT
  have HL1 := Lib.hid h1
  have HL2 := Lib.hid h2
  clear hT h1 h2
  rcases hF with rfl | rfl
  all_goals (
    go_enter Try.func26, Try.ntmps26
    go_wp2
    go_loopw [11] (fun v11 wr => VaRel H ls ms w v11 wr) (fun v11 _ => 2 - (intOf v11).toNat)
    case atStart => exact ⟨0, rfl, by omega, rfl, Below.refl _ _⟩
    case round =>
      obtain ⟨k, rfl, hk, hval, hb⟩ := hrel
      have HV := Lib.hid hval
      clear hval
      by_cases hlt : k < 2
      · obtain ⟨Ax, nx, cx, l, hx, hstep, hno⟩ : ∃ Ax nx cx l, Lst w g k Ax nx cx l ∧ Hid (valB H l = true → valN H ls ms (k + 1) = true) ∧ Hid (valB H l = false → (valB H ls && valB H ms) = false) := by
          have : k = 0 ∨ k = 1 := by omega
          rcases this with rfl | rfl
          · exact ⟨A, n, c, ls, HL1.out, Lib.hid fun h => h, Lib.hid fun h => by rw [h]; rfl⟩
          · refine ⟨A2, n2, c2, ms, HL2.out, Lib.hid fun h => ?_, Lib.hid fun h => by rw [h, Bool.and_false]⟩
            have h1 := HV.out
            unfold valN at h1 ⊢
            simp at h1 ⊢
            exact ⟨h1, h⟩
        clear HV
        have hx1 := hx.keep hb
        have hcell := hx1.cell
        have HL := Lib.hid hx1.rs.len
        have htop := hx1.rs.top
        have hcap := hx1.rs.cap
        unfold maxLen at htop
        have HX := Lib.hid hx
        clear hx hx1
        go_wp2
        have HK2 := Lib.hid hlt
        have hdk : decide ((k : Int) < 2) = true := decide_eq_true (by omega)
        simp only [hdk]
        clear hlt hdk
        go_loopw [17] (fun v17 wr => ViRel H l w v17 wr) (fun v17 _ => nx - (intOf v17).toNat)
        case atStart => exact ⟨0, rfl, by omega, rfl, hb⟩
        case round =>
          clear hcell hb
          obtain ⟨i, rfl, hi, hvi, hb⟩ := hrel
          by_cases hlti : i < nx
          · have hi' : i < l.length := by rw [HL.out]; exact hlti
            have hr := (HX.out.keep hb).rs
            obtain ⟨b, o, rfl, hbb, e0, e1, e2, e3, e4⟩ := spot_at hr hi'
            have hu := HX.out.fit _ (List.getElem_mem hi')
            obtain ⟨q, hq⟩ : ∃ q, okS H l[i] = q := ⟨_, rfl⟩
            have HST := Lib.hid (valB_step hi' hvi)
            have HNO := Lib.hid (fun e : okS H l[i] = false => valB_no hi' e)
            have hdef : okS H l[i] = (!l[i].v && H l[i].z.toNat) := rfl
            generalize okS H l[i] = okq at *
            generalize l[i] = x at *
            obtain ⟨xn, xp, xs, xv, xz⟩ := x
            simp only at e0 e1 e2 e3 e4 hu hdef
            obtain ⟨z, rfl, hzz⟩ := hu.nat
            rw [Int.toNat_natCast] at hdef
            have hal : Below wr.heap.size wr (wr.alloc (.cells #[.int .i64 (xn : Int), .int .u8 (xp : Int), .int .u8 (xs : Int), .bool xv, .int .u64 (z : Int)] 58)) := (Below.refl _ _).alloc (Nat.le_refl _) _
            have HB := Lib.hid (hb.trans (hal.mono hb.size))
            clear hvi hr hu hq hbb hal
            cases xv with
            | true =>
              obtain rfl : okq = false := by rw [hdef]; rfl
              have HN := Lib.hid (hno.out (HNO.out rfl))
              clear hdef HNO hno hstep HST
              go_wp2_with fail
              go_ret
              exact ⟨by rw [HN.out]; rfl, HB.out⟩
            | false =>
              obtain rfl : okq = H z := by rw [hdef]; rfl
              clear hdef
              have hcall := HT.out _ HB.out z hzz
              generalize H z = r at *
              clear hzz
              have HC := Lib.hid hcall
              clear hcall
              go_wp2_with fail
              refine HC.out.mono ?_
              rintro e w3 ⟨rfl, hb3⟩
              have HB3 := Lib.hid (HB.out.trans (hb3.mono HB.out.size))
              clear hb3
              cases r with
              | true =>
                have HST := Lib.hid HST.out
                clear HNO
                go_wp2_with fail
                go_roundw
                case rel => exact ⟨i + 1, by go_num, by omega, HST.out, HB3.out⟩
                case measure => simp [intOf]; omega
              | false =>
                have HN := Lib.hid (hno.out (HNO.out rfl))
                clear HNO hno hstep HST
                go_wp2_with fail
                go_ret
                exact ⟨by rw [HN.out]; rfl, HB3.out⟩
          · obtain rfl : i = nx := by have := HL.out; omega
            have HK := Lib.hid (hstep.out (by rw [List.take_of_length_le (by rw [HL.out]; omega)] at hvi; exact hvi))
            clear hvi
            go_wp2
            go_roundw
            case rel => exact ⟨k + 1, by go_num, HK2.out, HK.out, hb⟩
            case measure =>
              have := HK2.out
              simp [intOf]
              omega
      · obtain rfl : k = 2 := by omega
        have HE : Hid ((valB H ls && valB H ms) = true) := Lib.hid HV.out
        clear HV
        go_wp2
        go_ret
        exact ⟨by rw [HE.out]; rfl, hb⟩)
end Go.Proofs.Ytlcbcggcmmlfdaa
