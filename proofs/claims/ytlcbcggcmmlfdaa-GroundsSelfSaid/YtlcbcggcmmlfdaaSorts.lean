/- Labels and effects, made of rows and a number; what follows of them. Condition: the rows can be read. -/
import Derived.Test.YtlcbcggcmmlfdaaGround
import Derived.Test.YtlcbcggcmmlfdaaLaLatNew
namespace Go.Proofs.Ytlcbcggcmmlfdaa
open Go.RowKit

/-- What is made of rows, and of a number. -/
def soOf (l : List Nat) (k : Int) : So := ⟨if La.checkN l = 0 then l.length else 0, if La.checkN l = 0 then l else [], decide (0 ≤ k ∧ k ≤ 64), if 0 ≤ k ∧ k ≤ 64 then Ef.topN k.toNat else 0⟩

abbrev zV (A : Option Addr) (n c : Nat) (k : Int) : Value := .agg #[.slice A n c, .int .i64 k]

set_option maxRecDepth 100000 in
set_option maxHeartbeats 1000000 in
theorem latNew_any (A : Option Addr) (n c : Nat) (l : List Nat) (w : World) (h : Rd La.nm w w.heap.size A n c l) (hf : La.Fit l) :
    Calls Try.prog 24 #[.slice A n c] w fun e w' => ∃ (p : Option Addr) (x : Int), e = .returned (.tuple #[.pointer p, .int .i64 x]) ∧ (p = none ↔ La.checkN l ≠ 0) ∧
      ((p = none ∧ (soOf l 0).n = 0 ∧ (soOf l 0).L = []) ∨ ∃ g us ds, p = some ⟨g, 0, none⟩ ∧ La.LatAt w' g (soOf l 0).n us ds ∧ us.take (soOf l 0).n = (soOf l 0).L) ∧ Below w.heap.size w w' := by
  by_cases hx : La.checkN l = 0
  · refine (La.new_yes A n c l w h hf hx).mono ?_
    rintro e w' ⟨g, rfl, hg, hl, hb⟩
    have e1 : (soOf l 0).n = n := by unfold soOf; simp only [if_pos hx]; exact h.len
    have e2 : (soOf l 0).L = l := by unfold soOf; simp only [if_pos hx]
    refine ⟨_, 0, rfl, ⟨(fun h => by cases h), fun h => absurd hx h⟩, .inr ⟨g, _, _, rfl, by rw [e1]; exact hl, ?_⟩, hb⟩
    rw [e1, e2, ← h.len]
    exact La.pad_take l
  · refine (La.new_no A n c l w h hf _ rfl hx).mono ?_
    rintro e w' ⟨rfl, hb⟩
    refine ⟨none, _, rfl, ⟨fun _ => hx, fun _ => rfl⟩, .inl ⟨rfl, ?_, ?_⟩, hb⟩
    · unfold soOf; simp only [if_neg hx]
    · unfold soOf; simp only [if_neg hx]

theorem effNew_any (k : Int) (w : World) : Calls Try.prog 25 #[.int .i64 k] w fun e w' => ∃ (q : Option Addr) (x : Int), e = .returned (.tuple #[.pointer q, .int .i64 x]) ∧ (q = none ↔ ¬ (0 ≤ k ∧ k ≤ 64)) ∧ Ef.EffP w' q (soOf [] k).m (soOf [] k).t ∧ Below w.heap.size w w' := by
  by_cases hk : 0 ≤ k ∧ k ≤ 64
  · obtain ⟨y, rfl⟩ : ∃ y : Nat, k = (y : Int) := ⟨k.toNat, by omega⟩
    refine (Ef.new_yes y (by omega) w).mono ?_
    rintro e w' ⟨g, rfl, he, hb⟩
    refine ⟨_, 0, rfl, ⟨(fun h => by cases h), fun h => absurd hk h⟩, .inr ⟨g, rfl, ?_⟩, hb⟩
    unfold soOf
    simp only [if_pos hk, decide_eq_true hk, Int.toNat_natCast]
    exact he
  · refine (Ef.new_no k hk w).mono ?_
    rintro e w' ⟨rfl, rfl⟩
    refine ⟨none, 1, rfl, ⟨fun _ => hk, fun _ => rfl⟩, .inl ⟨rfl, ?_, ?_⟩, Below.refl _ _⟩
    · unfold soOf
      simp only [decide_eq_false hk]
    · unfold soOf
      simp only [if_neg hk]

set_option maxRecDepth 100000 in
set_option maxHeartbeats 1000000 in
theorem made_any (A : Option Addr) (n c : Nat) (l : List Nat) (k : Int) (w : World) (h : Rd La.nm w w.heap.size A n c l) (hf : La.Fit l) :
    Calls Try.prog 9 #[zV A n c k] w fun e w' => ∃ p q, e = .returned (.tuple #[.pointer p, .pointer q]) ∧ SoAt w' p q (soOf l k) ∧ (p = none ↔ La.checkN l ≠ 0) ∧ (q = none ↔ ¬ (0 ≤ k ∧ k ≤ 64)) ∧ Below w.heap.size w w' := by
  have hal : Below w.heap.size w (w.alloc (.cells #[.slice A n c, .int .i64 k] 25)) := (Below.refl _ _).alloc (Nat.le_refl _) _
  have h1 := h.at_size (Nat.le_refl _) hal
  have hc0 : (w.alloc (.cells #[.slice A n c, .int .i64 k] 25)).cell? ⟨w.heap.size, 1, none⟩ = some (.int .i64 k) := (cell_blk (i := 1) (heap_alloc_new w _)).trans rfl
  clear h
  go_enter Try.func9, Try.ntmps9
  go_wp2_with fail
  refine (latNew_any A n c l _ h1 hf).mono ?_
  rintro e w1 ⟨p, x, rfl, hp, hlat, hb⟩
  have hc1 := (hb.cell (p := ⟨w.heap.size, 1, none⟩) (World.block_lt_of_cell? _ _ hc0)).trans hc0
  have HP := Lib.hid hp
  have HLAT := Lib.hid hlat
  clear hp hlat hc0 h1
  go_wp2_with fail
  refine (effNew_any k _).mono ?_
  rintro e w2 ⟨q, y, rfl, hq, heff, hb2⟩
  have HQ := Lib.hid hq
  have HEFF := Lib.hid heff
  clear hq heff
  go_wp2_with fail
  refine bodyPost_ret (v := .tuple #[.pointer p, .pointer q]) (by simp [results, Try.results9, go_sem]) rfl ⟨p, q, rfl, ⟨?_, HEFF.out⟩, HP.out, HQ.out, hal.trans ((hb.trans (hb2.mono hb.size)).mono hal.size)⟩
  rcases HLAT.out with h | ⟨g, us, ds, e, h, e2⟩
  · exact .inl h
  · exact .inr ⟨g, us, ds, e, h.keep hb2, e2⟩

/-- Too great. -/
theorem great_any (A : Option Addr) (n c : Nat) (k : Int) (A1 : Option Addr) (n1 c1 : Nat) (A2 : Option Addr) (n2 c2 : Nat) (w : World) (r : Bool) (hr : r = (decide (64 < n) || (decide (200 < n1) || decide (200 < n2)))) :
    Calls Try.prog 8 #[zV A n c k, .slice A1 n1 c1, .slice A2 n2 c2] w fun e w' => e = .returned (.bool r) ∧ Below w.heap.size w w' := by
  have HR := Lib.hid hr
  clear hr
  have hal : Below w.heap.size w (w.alloc (.cells #[.slice A n c, .int .i64 k] 25)) := (Below.refl _ _).alloc (Nat.le_refl _) _
  by_cases h0 : 64 < n
  · have h0' : (64 : Int) < (n : Int) := by omega
    rw [decide_eq_true h0, Bool.true_or] at HR
    obtain rfl := HR.out
    clear h0
    go_enter Try.func8, Try.ntmps8
    go_wp2_with fail
    go_ret
    exact ⟨rfl, hal⟩
  have h0' : ¬ (64 : Int) < (n : Int) := by omega
  rw [decide_eq_false h0, Bool.false_or] at HR
  clear h0
  by_cases h1 : 200 < n1
  · have h1' : (200 : Int) < (n1 : Int) := by omega
    rw [decide_eq_true h1, Bool.true_or] at HR
    obtain rfl := HR.out
    clear h1
    go_enter Try.func8, Try.ntmps8
    go_wp2_with fail
    go_ret
    exact ⟨rfl, hal⟩
  have h1' : ¬ (200 : Int) < (n1 : Int) := by omega
  rw [decide_eq_false h1, Bool.false_or] at HR
  clear h1
  by_cases h2 : 200 < n2
  · have h2' : (200 : Int) < (n2 : Int) := by omega
    rw [decide_eq_true h2] at HR
    obtain rfl := HR.out
    clear h2
    go_enter Try.func8, Try.ntmps8
    go_wp2_with fail
    go_ret
    exact ⟨rfl, hal⟩
  have h2' : ¬ (200 : Int) < (n2 : Int) := by omega
  rw [decide_eq_false h2] at HR
  obtain rfl := HR.out
  clear h2
  go_enter Try.func8, Try.ntmps8
  go_wp2_with fail
  go_ret
  exact ⟨rfl, hal⟩

/-! ### What follows -/
/-- Labels that are an order, effects that are sets. -/
structure So.Ok (S : So) : Prop where
  len : S.L.length = S.n
  ord : S.n = 0 ∨ La.LatOK S.L
theorem soOk (l : List Nat) (k : Int) : (soOf l k).Ok := by
  by_cases h : La.checkN l = 0
  · refine ⟨?_, .inr ?_⟩
    · unfold soOf
      simp only [if_pos h]
    · unfold soOf
      simp only [if_pos h]
      exact La.latOK_of h
  · refine ⟨?_, .inl ?_⟩
    · unfold soOf
      simp only [if_neg h]
      rfl
    · unfold soOf
      simp only [if_neg h]

section
variable {S : So} (h : S.Ok)
include h
theorem r1_bt {a b : Nat} (ha : S.h1 a = true) (hb : S.h1 b = true) : La.LatOK S.L ∧ a < S.L.length ∧ b < S.L.length ∧ S.r1 a b = La.bt S.L a b := by
  unfold So.h1 at ha hb
  rw [decide_eq_true_eq] at ha hb
  rcases h.ord with h0 | ho
  · omega
  · have h1 : a < S.L.length := by rw [h.len]; exact ha
    have h2 : b < S.L.length := by rw [h.len]; exact hb
    exact ⟨ho, h1, h2, La.belowB_bt ho.known.1.2 h1 h2⟩
theorem r1_refl {a : Nat} (ha : S.h1 a = true) : S.r1 a a = true := by
  obtain ⟨ho, h1, _, e⟩ := r1_bt h ha ha
  rw [e]
  exact ho.ord.refl a h1
theorem r1_trans {a b c : Nat} (ha : S.h1 a = true) (hb : S.h1 b = true) (hc : S.h1 c = true) (h1 : S.r1 a b = true) (h2 : S.r1 b c = true) : S.r1 a c = true := by
  obtain ⟨ho, ka, kb, e⟩ := r1_bt h ha hb
  obtain ⟨_, _, kc, e2⟩ := r1_bt h hb hc
  obtain ⟨_, _, _, e3⟩ := r1_bt h ha hc
  rw [e] at h1
  rw [e2] at h2
  rw [e3]
  exact ho.ord.on _ _ _ ka kb kc h1 h2
theorem r1_anti {a b : Nat} (ha : S.h1 a = true) (hb : S.h1 b = true) (h1 : S.r1 a b = true) (h2 : S.r1 b a = true) : a = b := by
  obtain ⟨ho, ka, kb, e⟩ := r1_bt h ha hb
  obtain ⟨_, _, _, e2⟩ := r1_bt h hb ha
  rw [e] at h1
  rw [e2] at h2
  exact ho.ord.anti _ _ ka kb h1 h2
end

section
variable {S : So}
theorem h2_iff (a : Nat) : S.h2 a = true ↔ S.m = true ∧ Ef.Sub a S.t := by
  unfold So.h2 Ef.hasE
  rw [Bool.and_eq_true, Ef.subB_iff]
theorem r2_iff (a b : Nat) : S.r2 a b = true ↔ S.h2 a = true ∧ S.h2 b = true ∧ Ef.Sub a b := by
  unfold So.r2 Ef.belowE Ef.bothE
  rw [h2_iff, h2_iff, Bool.and_eq_true, Bool.and_eq_true, Bool.and_eq_true, Ef.subB_iff, Ef.subB_iff, Ef.subB_iff]
  constructor
  · rintro ⟨⟨h1, h2, h3⟩, h4⟩
    exact ⟨⟨h1, h2⟩, ⟨h1, h3⟩, h4⟩
  · rintro ⟨⟨h1, h2⟩, ⟨_, h3⟩, h4⟩
    exact ⟨⟨h1, h2, h3⟩, h4⟩
theorem r2_refl {a : Nat} (ha : S.h2 a = true) : S.r2 a a = true := (r2_iff a a).2 ⟨ha, ha, fun _ h => h⟩
theorem r2_trans {a b c : Nat} (h1 : S.r2 a b = true) (h2 : S.r2 b c = true) : S.r2 a c = true := by
  obtain ⟨a1, _, a3⟩ := (r2_iff a b).1 h1
  obtain ⟨_, b2, b3⟩ := (r2_iff b c).1 h2
  exact (r2_iff a c).2 ⟨a1, b2, fun i hi => b3 i (a3 i hi)⟩
theorem r2_anti {a b : Nat} (h1 : S.r2 a b = true) (h2 : S.r2 b a = true) : a = b := by
  obtain ⟨_, _, a3⟩ := (r2_iff a b).1 h1
  obtain ⟨_, _, b3⟩ := (r2_iff b a).1 h2
  refine Nat.eq_of_testBit_eq fun i => ?_
  cases ha : a.testBit i with
  | true => rw [a3 i ha]
  | false =>
    cases hb : b.testBit i with
    | true => rw [b3 i hb] at ha; cases ha
    | false => rfl
end
end Go.Proofs.Ytlcbcggcmmlfdaa
