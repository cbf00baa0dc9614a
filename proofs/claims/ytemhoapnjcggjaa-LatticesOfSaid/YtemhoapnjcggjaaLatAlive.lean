/- The document's examples hold: what 'alive' answers; and what 'made' makes. No condition but sizes. -/
import Derived.Test.YtemhoapnjcggjaaLatNew
import Derived.Test.YtemhoapnjcggjaaLatC
import Derived.Test.YtemhoapnjcggjaaTwin
namespace Go.Proofs.Ytemhoapnjcggjaa
open Go.RowKit

set_option maxRecDepth 100000 in
set_option maxHeartbeats 400000 in
theorem made_yes (A : Option Addr) (n c : Nat) (l : List Nat) (w : World) (h : Rd nm w w.heap.size A n c l) (hf : Fit l) (hx : checkN l = 0) :
    Calls Try.prog 25 #[.slice A n c] w fun e w' => ∃ g, e = .returned (.tuple #[.pointer (some ⟨g, 0, none⟩), .int .u64 (n : Int)]) ∧ w.heap.size ≤ g ∧ LatAt w' g n (pad l) (pad (turnedN l)) ∧ Below w.heap.size w w' := by
  have hn : n ≤ 64 := by rw [← h.len]; exact (latOK_of hx).known.1.2
  go_enter Try.func25, Try.ntmps25
  go_wp2_with fail
  refine (new_yes A n c l w h hf hx).mono ?_
  rintro e w1 ⟨g, rfl, hg, hl, hb⟩
  clear h
  go_wp2_with fail
  exact bodyPost_ret (v := .tuple #[.pointer (some ⟨g, 0, none⟩), .int .u64 (n : Int)]) (by simp [results, Try.results25, go_sem]) rfl ⟨g, rfl, hg, hl, hb⟩

set_option maxRecDepth 100000 in
set_option maxHeartbeats 400000 in
theorem made_no (A : Option Addr) (n c : Nat) (l : List Nat) (w : World) (h : Rd nm w w.heap.size A n c l) (hf : Fit l) (hx : checkN l ≠ 0) :
    Calls Try.prog 25 #[.slice A n c] w fun e w' => e = .returned (.tuple #[.pointer none, .int .u64 0]) ∧ Below w.heap.size w w' := by
  by_cases hn : (64 : Int) < (n : Int)
  · clear h
    go_enter Try.func25, Try.ntmps25
    go_wp2_with fail
    exact bodyPost_ret (v := .tuple #[.pointer none, .int .u64 0]) (by simp [results, Try.results25, go_sem]) rfl ⟨rfl, Below.refl _ _⟩
  · have hnew := new_no A n c l w h hf _ rfl hx
    generalize checkN l = x at *
    have hne : (x != 0) = true := by simpa using hx
    go_enter Try.func25, Try.ntmps25
    go_wp2_with fail
    refine hnew.mono ?_
    rintro e w1 ⟨rfl, hb⟩
    clear h hnew
    go_wp2_with fail
    exact bodyPost_ret (v := .tuple #[.pointer none, .int .u64 0]) (by simp [results, Try.results25, go_sem]) rfl ⟨rfl, hb⟩

section
variable {w : World} {g n : Nat} {us ds : List Nat} (h : LatAt w g n us ds)
include h
theorem has_now (a : Nat) (x : Bool) (hx : decide (a < n) = x) : Calls Try.prog 12 #[.pointer (some ⟨g, 0, none⟩), .int .u64 (a : Int)] w fun e w' => e = .returned (.bool x) ∧ w = w' := hx ▸ hasL_any g n us ds a w h
theorem below_lat (a b : Nat) (x : Bool) (ha : a < 18446744073709551616) (hb : b < 18446744073709551616) (hx : belowB (us.take n) a b = x) : Calls Try.prog 14 #[.pointer (some ⟨g, 0, none⟩), .int .u64 (a : Int), .int .u64 (b : Int)] w fun e w' => e = .returned (.bool x) ∧ Drawn w w' := hx ▸ belowL_any g n us ds a b w h ha hb
theorem join_now (a b : Nat) (x : Int) (ha : a < 18446744073709551616) (hb : b < 18446744073709551616) (hx : (nearN us n a b : Int) = x) : Calls Try.prog 20 #[.pointer (some ⟨g, 0, none⟩), .int .u64 (a : Int), .int .u64 (b : Int)] w fun e w' => e = .returned (.int .u64 x) ∧ w = w' := hx ▸ joinL_any g n us ds a b w h ha hb
theorem meet_now (a b : Nat) (x : Int) (ha : a < 18446744073709551616) (hb : b < 18446744073709551616) (hx : (nearN ds n a b : Int) = x) : Calls Try.prog 22 #[.pointer (some ⟨g, 0, none⟩), .int .u64 (a : Int), .int .u64 (b : Int)] w fun e w' => e = .returned (.int .u64 x) ∧ w = w' := hx ▸ meetL_any g n us ds a b w h ha hb
theorem bottom_now (x : Int) (hx : (endN us n : Int) = x) : Calls Try.prog 16 #[.pointer (some ⟨g, 0, none⟩)] w fun e w' => e = .returned (.int .u64 x) ∧ w = w' := hx ▸ bottomL_any g n us ds w h
theorem top_now (x : Int) (hx : (endN ds n : Int) = x) : Calls Try.prog 18 #[.pointer (some ⟨g, 0, none⟩)] w fun e w' => e = .returned (.int .u64 x) ∧ w = w' := hx ▸ topL_any g n us ds w h
end

theorem two_new (w : World) (a b : Nat) : Rd nm (w.alloc (.cells #[.int .u64 (a : Int), .int .u64 (b : Int)] 23)) (w.alloc (.cells #[.int .u64 (a : Int), .int .u64 (b : Int)] 23)).heap.size (some ⟨w.heap.size, 0, none⟩) 2 2 [a, b] := Rd.new w _ 23 2 [a, b] rfl rfl (by decide)

theorem two_fit {a b : Nat} (ha : a < 18446744073709551616) (hb : b < 18446744073709551616) : Fit [a, b] := by
  intro x hx
  rcases List.mem_cons.1 hx with rfl | hx
  · exact ha
  · rw [List.mem_singleton.1 hx]
    exact hb

theorem Below.next {w w1 w2 : World} {o : Obj} (h : Below w.heap.size w w1) (k : Below (w1.alloc o).heap.size (w1.alloc o) w2) : Below w.heap.size w w2 := (h.alloc h.size _).trans (k.mono (by have := h.size; simp; omega))

theorem k1 : checkN [3, 2] = 0 := by decide +kernel
theorem k2 : checkN [1, 2] = 7 := by decide +kernel
theorem k3 : (nearN (pad [3, 2]) 2 0 1 : Int) = 1 := by decide +kernel
theorem k4 : (nearN (pad (turnedN [3, 2])) 2 0 1 : Int) = 0 := by decide +kernel
theorem k5 : (endN (pad [3, 2]) 2 : Int) = 0 := by decide +kernel
theorem k6 : (endN (pad (turnedN [3, 2])) 2 : Int) = 1 := by decide +kernel
theorem k7 : (nearN (pad [3, 2]) 2 0 2 : Int) = 0 := by decide +kernel

set_option maxRecDepth 100000 in
set_option maxHeartbeats 1000000 in
theorem alive_any (w : World) : Calls Try.prog 24 #[] w fun e w' => e = .returned (.bool true) ∧ Below w.heap.size w w' := by
  go_enter Try.func24, Try.ntmps24
  go_wp2_with fail
  refine (new_yes _ 2 2 [3, 2] _ (two_new w 3 2) (two_fit (by decide) (by decide)) k1).mono ?_
  rintro e w1 ⟨g, rfl, hg, hl, d1⟩
  replace d1 := Below.next (Below.refl _ w) d1
  clear hg
  go_wp2_with fail
  refine (new_no _ 2 2 [1, 2] _ (two_new w1 1 2) (two_fit (by decide) (by decide)) 7 k2 (by decide)).mono ?_
  rintro e w2 ⟨rfl, d2⟩
  have hl2 := hl.keep (Below.next (Below.refl _ w1) d2)
  replace d2 := Below.next d1 d2
  have h1 := has_now hl2 1 true rfl
  have h2 := has_now hl2 2 false rfl
  have h3 := join_now hl2 0 1 1 (by decide) (by decide) k3
  have h4 := meet_now hl2 0 1 0 (by decide) (by decide) k4
  have h5 := bottom_now hl2 0 k5
  have h6 := top_now hl2 1 k6
  have h7 := join_now hl2 0 2 0 (by decide) (by decide) k7
  clear hl hl2 d1
  go_wp2_with fail
  refine h1.mono ?_
  rintro e w' ⟨rfl, rfl⟩
  go_wp2_with fail
  refine h2.mono ?_
  rintro e w' ⟨rfl, rfl⟩
  go_wp2_with fail
  refine h3.mono ?_
  rintro e w' ⟨rfl, rfl⟩
  go_wp2_with fail
  refine h4.mono ?_
  rintro e w' ⟨rfl, rfl⟩
  go_wp2_with fail
  refine h5.mono ?_
  rintro e w' ⟨rfl, rfl⟩
  go_wp2_with fail
  refine h6.mono ?_
  rintro e w' ⟨rfl, rfl⟩
  go_wp2_with fail
  refine h7.mono ?_
  rintro e w' ⟨rfl, rfl⟩
  go_wp2_with fail
  go_ret
  exact ⟨rfl, d2⟩
end Go.Proofs.Ytemhoapnjcggjaa
