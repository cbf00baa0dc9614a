/- What lack, slices.ContainsFunc with it, and fit tell. Condition: spots and values can be read. -/
import Derived.Test.YtmiconjmeaammaaSch
import Derived.LoopTactic
import Derived.Handy
namespace Go.Proofs.Ytmiconjmeaammaa
open Go.RowKit

theorem wrap_len {k : Nat} (h : k < 18446744073709551616) : IntKind.u64.wrap (k : Int) = (k : Int) := by rw [IntKind.wrap_u64]; omega

set_option maxRecDepth 100000 in
set_option maxHeartbeats 1000000 in
theorem lack_any (A : Option Addr) (n c B : Nat) (u : List Nat) (sn sp ss : Nat) (v : Bool) (z : Nat) (w : World) (hu : Rd La.nm w B A n c u) (r : Bool) (hr : lackS u ⟨sn, sp, ss, v, (z : Int)⟩ = r) :
    Calls Try.prog 39 #[.slice A n c, .agg #[.int .i64 (sn : Int), .int .u8 (sp : Int), .int .u8 (ss : Int), .bool v, .int .u64 (z : Int)]] w fun e w' => e = .returned (.bool r) ∧ Below w.heap.size w w' := by
  have hal : Below w.heap.size w (w.alloc (.cells #[.int .i64 (sn : Int), .int .u8 (sp : Int), .int .u8 (ss : Int), .bool v, .int .u64 (z : Int)] 56)) := (Below.refl _ _).alloc (Nat.le_refl _) _
  have hlen := hu.len
  have htop := hu.top
  have hcap := hu.cap
  unfold maxLen at htop
  have hw := wrap_len (k := n) (by omega)
  unfold lackS at hr
  subst hr
  clear hu
  cases v with
  | false =>
    simp only [Bool.false_and]
    go_enter Try.func39, Try.ntmps39
    go_wp2
    go_ret
    exact ⟨rfl, hal⟩
  | true =>
    simp only [Bool.true_and, Int.toNat_natCast, hlen]
    go_enter Try.func39, Try.ntmps39
    go_wp2
    go_ret
    exact ⟨rfl, hal⟩

/-- None of the first i lacks a value. -/
def LkRel (u : List Nat) (l : List Sp) (w : World) (v8 : Value) (wr : World) : Prop := ∃ i : Nat, v8 = .int .i64 (i : Int) ∧ i ≤ l.length ∧ (l.take i).any (lackS u) = false ∧ Below w.heap.size w wr
theorem lk_step {u : List Nat} {l : List Sp} {i : Nat} (hi : i < l.length) (h : (l.take i).any (lackS u) = false) : (l.take (i + 1)).any (lackS u) = lackS u l[i] := by
  rw [List.take_succ_eq_append_getElem hi, List.any_append, h]
  simp
theorem lk_on {u : List Nat} {l : List Sp} {i : Nat} (hi : i < l.length) (h : lackS u l[i] = true) : l.any (lackS u) = true :=
  List.any_eq_true.2 ⟨_, List.getElem_mem hi, h⟩

set_option maxRecDepth 100000 in
set_option maxHeartbeats 2000000 in
theorem index_any (A A2 : Option Addr) (m c n c2 : Nat) (l : List Sp) (u : List Nat) (w : World) (h : Rs spc 5 w w.heap.size A m c l) (hz : ∀ p ∈ l, U64 p.z) (hu : Rd La.nm w w.heap.size A2 n c2 u) :
    Calls Try.prog 51 #[.slice A m c, .func (.func 39) #[.slice A2 n c2] #[]] w fun e w' => (∃ k : Int, e = .returned (.int .i64 k) ∧ (l.any (lackS u) = true → 0 ≤ k) ∧ (l.any (lackS u) = false → k = -1)) ∧ Below w.heap.size w w' := by
  have HR := Lib.hid h
  have HU := Lib.hid hu
  have HZ := Lib.hid hz
  have HL := Lib.hid h.len
  have htop := h.top
  have hcap := h.cap
  unfold maxLen at htop
  clear h hu hz
  go_enter Try.func51, Try.ntmps51
  go_wp2
  go_loopw [8] (fun v8 wr => LkRel u l w v8 wr) (fun v8 _ => m - (intOf v8).toNat)
  case atStart => exact ⟨0, rfl, by omega, rfl, Below.refl _ _⟩
  case round =>
    obtain ⟨i, rfl, hi, hall, hb⟩ := hrel
    by_cases hlt : i < m
    · have hi' : i < l.length := by rw [HL.out]; exact hlt
      obtain ⟨b, o, rfl, hbb, e0, e1, e2, e3, e4⟩ := spot_at (HR.out.at_size (Nat.le_refl _) hb) hi'
      have hz := HZ.out _ (List.getElem_mem hi')
      obtain ⟨r, hr⟩ : ∃ r, lackS u l[i] = r := ⟨_, rfl⟩
      have HST := Lib.hid (lk_step hi' hall)
      have HON := Lib.hid (fun e : lackS u l[i] = true => lk_on hi' e)
      rw [hr] at HST HON
      generalize l[i] = x at *
      obtain ⟨xn, xp, xs, xv, xz⟩ := x
      simp only at e0 e1 e2 e3 e4 hz
      obtain ⟨z, rfl, hzz⟩ := hz.nat
      have HC := Lib.hid (lack_any A2 n c2 wr.heap.size u xn xp xs xv z wr (HU.out.at_size (Nat.le_refl _) hb) r hr)
      have HB := Lib.hid hb
      have HLT := Lib.hid hlt
      have hdk : decide ((i : Int) < (m : Int)) = true := decide_eq_true (by omega)
      clear hall hr hz hbb hb hi' hzz hlt
      go_wp2_with fail
      refine HC.out.mono ?_
      rintro e w1 ⟨rfl, hb1⟩
      have HB1 := Lib.hid (HB.out.trans (hb1.mono HB.out.size))
      clear hb1 HC e0 e1 e2 e3 e4 hdk
      cases r with
      | true =>
        have HA := Lib.hid (HON.out rfl)
        clear HON HST
        go_wp2_with fail
        go_ret
        exact ⟨⟨_, rfl, fun _ => by omega, fun e => by rw [HA.out] at e; cases e⟩, HB1.out⟩
      | false =>
        clear HON
        go_wp2_with fail
        go_roundw
        case rel => exact ⟨i + 1, by go_num, by have := HLT.out; have := HL.out; omega, HST.out, HB1.out⟩
        case measure =>
          have := HLT.out
          simp [intOf]
          omega
    · obtain rfl : i = m := by have := HL.out; omega
      have HE : Hid (l.any (lackS u) = false) := Lib.hid (by rw [← hall, List.take_of_length_le (by rw [HL.out]; omega)])
      clear hall hlt
      go_wp2
      go_ret
      exact ⟨⟨_, rfl, (fun e => by rw [HE.out] at e; cases e), fun _ => rfl⟩, hb⟩

set_option maxRecDepth 100000 in
set_option maxHeartbeats 1000000 in
theorem contains_any (A A2 : Option Addr) (m c n c2 : Nat) (l : List Sp) (u : List Nat) (w : World) (h : Rs spc 5 w w.heap.size A m c l) (hz : ∀ p ∈ l, U64 p.z) (hu : Rd La.nm w w.heap.size A2 n c2 u) :
    Calls Try.prog 38 #[.slice A m c, .func (.func 39) #[.slice A2 n c2] #[]] w fun e w' => e = .returned (.bool (l.any (lackS u))) ∧ Below w.heap.size w w' := by
  have hc := index_any A A2 m c n c2 l u w h hz hu
  clear h hz hu
  generalize l.any (lackS u) = r at *
  go_enter Try.func38, Try.ntmps38
  go_wp2_with fail
  refine hc.mono ?_
  rintro e w1 ⟨⟨k, rfl, h1, h2⟩, hb⟩
  have hd : decide ((0 : Int) ≤ k) = r := by
    cases r with
    | true => exact decide_eq_true (h1 rfl)
    | false => rw [h2 rfl]; rfl
  clear h1 h2 hc
  go_wp2_with fail
  go_ret
  exact ⟨rfl, hb⟩

set_option maxRecDepth 100000 in
set_option maxHeartbeats 1000000 in
theorem fit_any (A A2 : Option Addr) (m c n c2 : Nat) (k : Int) (l : List Sp) (u : List Nat) (w : World) (h : Rs spc 5 w w.heap.size A m c l) (hz : ∀ p ∈ l, U64 p.z) (hu : Rd La.nm w w.heap.size A2 n c2 u) (r : Bool) (hr : fitS u k l = r) :
    Calls Try.prog 20 #[.slice A2 n c2, .int .i64 k, .slice A m c] w fun e w' => e = .returned (.bool r) ∧ Below w.heap.size w w' := by
  have hc := contains_any A A2 m c n c2 l u w h hz hu
  have hlen := hu.len
  unfold fitS at hr
  rw [hlen] at hr
  clear h hz hu hlen
  generalize l.any (lackS u) = q at *
  subst hr
  by_cases hk : (n : Int) = k
  · subst hk
    have hd : ((n : Int) == (n : Int)) = true := by simp
    rw [decide_eq_true rfl, Bool.true_and]
    go_enter Try.func20, Try.ntmps20
    go_wp2_with fail
    refine hc.mono ?_
    rintro e w1 ⟨rfl, hb⟩
    go_wp2_with fail
    go_ret
    exact ⟨rfl, hb⟩
  · have hd : ((n : Int) == k) = false := by simpa using hk
    rw [decide_eq_false hk, Bool.false_and]
    clear hc
    go_enter Try.func20, Try.ntmps20
    go_wp2_with fail
    go_ret
    exact ⟨rfl, Below.refl _ _⟩
end Go.Proofs.Ytmiconjmeaammaa
