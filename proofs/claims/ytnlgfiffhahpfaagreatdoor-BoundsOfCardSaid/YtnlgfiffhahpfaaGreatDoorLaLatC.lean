/- What whose, nearest and end tell of a lattice, asked upwards and downwards; so Join, Meet, Bottom and Top. No condition but sizes. -/
import Derived.Test.YtnlgfiffhahpfaaGreatDoorLaLatB
namespace Go.Proofs.YtnlgfiffhahpfaaGreatDoor.La
open Go.RowKit

def WhRel (l : List Nat) (n t : Nat) (w : World) (v13 : Value) (wr : World) : Prop := ∃ k : Nat, v13 = .int .u64 (k : Int) ∧ k ≤ n ∧ (∀ i, i < k → l.getD i 0 ≠ t) ∧ wr = w

theorem all_bits {n : Nat} (h : n ≤ 64) : IntKind.u64.wrap (IntKind.u64.wrap ((2 : Int) ^ n) - 1) = ((2 ^ n - 1 : Nat) : Int) := by
  by_cases e : n = 64
  · subst e
    rfl
  · rw [two_pow (k := n) (by omega)]
    have h1 : 0 < 2 ^ n := Nat.two_pow_pos n
    have h2 : (2 : Nat) ^ n < 18446744073709551616 := Nat.pow_lt_pow_right (n := 64) (by decide) (by omega)
    generalize 2 ^ n = p at *
    show ((p : Int) - 1) % 18446744073709551616 = _
    omega

set_option maxRecDepth 100000 in
set_option maxHeartbeats 400000 in
theorem whose_up (g n : Nat) (us ds : List Nat) (t : Nat) (w : World) (h : LatAt w g n us ds) :
    Calls Tryz.prog 200 #[.pointer (some ⟨g, 0, none⟩), .int .u64 (t : Int), .func (.func 197) #[] #[]] w fun e w' => e = .returned (.int .u64 (whoN us n t : Int)) ∧ w = w' := by
  have hc := h.count
  have ht := h.top
  have H := Lib.hid h
  clear h
  go_enter Tryz.func200, Tryz.ntmps200
  go_wp2
  go_loopw [13] (fun v13 wr => WhRel us n t w v13 wr) (fun v13 _ => n - (intOf v13).toNat)
  case atStart => exact ⟨0, rfl, by omega, fun i hi => absurd hi (by omega), rfl⟩
  case round =>
    obtain ⟨k, rfl, hk, hno, rfl⟩ := hrel
    have HNO := Lib.hid hno
    clear hno
    by_cases hlt : k < n
    · have hcall := up_any g n us ds k wr H.out (by omega)
      have HX : Hid (us.getD k 0 = us.getD k 0) := Lib.hid rfl
      generalize hx : us.getD k 0 = x at hcall
      have HXX := Lib.hid hx
      clear hx HX
      by_cases he : x = t
      · subst he
        have hb : ((x : Int) == (x : Int)) = true := by simp
        go_wp2_with (go_at_call 197; refine hcall.mono ?_; rintro e w' ⟨rfl, rfl⟩)
        go_ret
        exact ⟨by rw [whoN_at HNO.out hlt HXX.out]; rfl, rfl⟩
      · have hb : ((x : Int) == (t : Int)) = false := by simp; omega
        go_wp2_with (go_at_call 197; refine hcall.mono ?_; rintro e w' ⟨rfl, rfl⟩)
        go_roundw
        case rel =>
          refine ⟨k + 1, by go_num, by omega, fun i hi => ?_, rfl⟩
          by_cases e : i = k
          · rw [e, HXX.out]
            exact he
          · exact HNO.out i (by omega)
        case measure => simp [intOf]; omega
    · obtain rfl : k = n := by omega
      go_wp2
      go_ret
      exact ⟨by rw [whoN_none HNO.out]; rfl, rfl⟩

set_option maxRecDepth 100000 in
set_option maxHeartbeats 400000 in
theorem near_up (g n : Nat) (us ds : List Nat) (a b : Nat) (w : World) (h : LatAt w g n us ds) (ha : a < 18446744073709551616) (hb : b < 18446744073709551616) :
    Calls Tryz.prog 198 #[.pointer (some ⟨g, 0, none⟩), .int .u64 (a : Int), .int .u64 (b : Int), .func (.func 197) #[] #[]] w fun e w' => e = .returned (.int .u64 (nearN us n a b : Int)) ∧ w = w' := by
  have ht := h.top
  have h1 := hasL_any g n us ds a w h
  have h2 := hasL_any g n us ds b w h
  by_cases hla : a < n
  · rw [decide_eq_true hla] at h1
    by_cases hlb : b < n
    · rw [decide_eq_true hlb] at h2
      have hn : nearN us n a b = whoN us n (us.getD a 0 &&& us.getD b 0) := by rw [nearN, if_pos ⟨hla, hlb⟩]
      have HN := Lib.hid hn
      have h3 := up_any g n us ds a w h (by omega)
      have h4 := up_any g n us ds b w h (by omega)
      have h5 := whose_up g n us ds (us.getD a 0 &&& us.getD b 0) w h
      have ha' : a < us.length := by rw [h.ul]; omega
      have hb' : b < us.length := by rw [h.ul]; omega
      have hx : us.getD a 0 < 18446744073709551616 := by rw [getD_at ha']; exact h.uf.get a ha'
      have hy : us.getD b 0 < 18446744073709551616 := by rw [getD_at hb']; exact h.uf.get b hb'
      have hand := u64_and_nat _ _ hx hy
      generalize us.getD a 0 &&& us.getD b 0 = z at *
      generalize us.getD a 0 = x at *
      generalize us.getD b 0 = y at *
      clear h hn ha' hb'
      go_enter Tryz.func198, Tryz.ntmps198
      go_wp2_with fail
      refine h1.mono ?_
      rintro e w' ⟨rfl, rfl⟩
      go_wp2_with fail
      refine h2.mono ?_
      rintro e w' ⟨rfl, rfl⟩
      go_wp2_with fail
      refine h3.mono ?_
      rintro e w' ⟨rfl, rfl⟩
      go_wp2_with fail
      refine h4.mono ?_
      rintro e w' ⟨rfl, rfl⟩
      go_wp2_with fail
      refine h5.mono ?_
      rintro e w' ⟨rfl, rfl⟩
      go_wp2_with fail
      go_ret
      exact ⟨by rw [HN.out]; rfl, rfl⟩
    · rw [decide_eq_false hlb] at h2
      have HN : Hid (nearN us n a b = 0) := Lib.hid (by rw [nearN, if_neg (fun h => hlb h.2)])
      clear h
      go_enter Tryz.func198, Tryz.ntmps198
      go_wp2_with fail
      refine h1.mono ?_
      rintro e w' ⟨rfl, rfl⟩
      go_wp2_with fail
      refine h2.mono ?_
      rintro e w' ⟨rfl, rfl⟩
      go_wp2_with fail
      go_ret
      exact ⟨by rw [HN.out]; rfl, rfl⟩
  · rw [decide_eq_false hla] at h1
    have HN : Hid (nearN us n a b = 0) := Lib.hid (by rw [nearN, if_neg (fun h => hla h.1)])
    clear h h2
    go_enter Tryz.func198, Tryz.ntmps198
    go_wp2_with fail
    refine h1.mono ?_
    rintro e w' ⟨rfl, rfl⟩
    go_wp2_with fail
    go_ret
    exact ⟨by rw [HN.out]; rfl, rfl⟩

set_option maxRecDepth 100000 in
set_option maxHeartbeats 400000 in
theorem near_up_nil (a b : Nat) (w : World) :
    Calls Tryz.prog 198 #[.pointer none, .int .u64 (a : Int), .int .u64 (b : Int), .func (.func 197) #[] #[]] w fun e w' => e = .returned (.int .u64 0) ∧ w = w' := by
  have h1 := hasL_nil a w
  go_enter Tryz.func198, Tryz.ntmps198
  go_wp2_with fail
  refine h1.mono ?_
  rintro e w' ⟨rfl, rfl⟩
  go_wp2_with fail
  go_ret
  exact ⟨rfl, rfl⟩

set_option maxRecDepth 100000 in
set_option maxHeartbeats 400000 in
theorem end_up (g n : Nat) (us ds : List Nat) (w : World) (h : LatAt w g n us ds) :
    Calls Tryz.prog 196 #[.pointer (some ⟨g, 0, none⟩), .func (.func 197) #[] #[]] w fun e w' => e = .returned (.int .u64 (endN us n : Int)) ∧ w = w' := by
  have hc := h.count
  have ht := h.top
  have h5 := whose_up g n us ds (2 ^ n - 1) w h
  have HN : Hid (endN us n = whoN us n (2 ^ n - 1)) := Lib.hid rfl
  have hm : IntKind.u64.wrap (IntKind.u64.wrap ((2 : Int) ^ n) - 1) = ((2 ^ n - 1 : Nat) : Int) := all_bits ht
  generalize 2 ^ n - 1 = z at *
  clear h
  go_enter Tryz.func196, Tryz.ntmps196
  go_wp2_with fail
  refine h5.mono ?_
  rintro e w' ⟨rfl, rfl⟩
  go_wp2_with fail
  go_ret
  exact ⟨by rw [HN.out]; rfl, rfl⟩

set_option maxRecDepth 100000 in
set_option maxHeartbeats 400000 in
theorem end_up_nil (w : World) :
    Calls Tryz.prog 196 #[.pointer none, .func (.func 197) #[] #[]] w fun e w' => e = .returned (.int .u64 0) ∧ w = w' := by
  go_enter Tryz.func196, Tryz.ntmps196
  go_wp2
  go_ret
  exact ⟨rfl, rfl⟩

theorem joinL_any (g n : Nat) (us ds : List Nat) (a b : Nat) (w : World) (h : LatAt w g n us ds) (ha : a < 18446744073709551616) (hb : b < 18446744073709551616) :
    Calls Tryz.prog 193 #[.pointer (some ⟨g, 0, none⟩), .int .u64 (a : Int), .int .u64 (b : Int)] w fun e w' => e = .returned (.int .u64 (nearN us n a b : Int)) ∧ w = w' := by
  have h1 := near_up g n us ds a b w h ha hb
  generalize nearN us n a b = x at *
  clear h
  go_enter Tryz.func193, Tryz.ntmps193
  go_wp2_with fail
  refine h1.mono ?_
  rintro e w' ⟨rfl, rfl⟩
  go_wp2_with fail
  go_ret
  exact ⟨rfl, rfl⟩

theorem joinL_nil (a b : Nat) (w : World) :
    Calls Tryz.prog 193 #[.pointer none, .int .u64 (a : Int), .int .u64 (b : Int)] w fun e w' => e = .returned (.int .u64 0) ∧ w = w' := by
  have h1 := near_up_nil a b w
  go_enter Tryz.func193, Tryz.ntmps193
  go_wp2_with fail
  refine h1.mono ?_
  rintro e w' ⟨rfl, rfl⟩
  go_wp2_with fail
  go_ret
  exact ⟨rfl, rfl⟩

theorem bottomL_any (g n : Nat) (us ds : List Nat) (w : World) (h : LatAt w g n us ds) :
    Calls Tryz.prog 191 #[.pointer (some ⟨g, 0, none⟩)] w fun e w' => e = .returned (.int .u64 (endN us n : Int)) ∧ w = w' := by
  have h1 := end_up g n us ds w h
  generalize endN us n = x at *
  clear h
  go_enter Tryz.func191, Tryz.ntmps191
  go_wp2_with fail
  refine h1.mono ?_
  rintro e w' ⟨rfl, rfl⟩
  go_wp2_with fail
  go_ret
  exact ⟨rfl, rfl⟩

theorem bottomL_nil (w : World) :
    Calls Tryz.prog 191 #[.pointer none] w fun e w' => e = .returned (.int .u64 0) ∧ w = w' := by
  have h1 := end_up_nil w
  go_enter Tryz.func191, Tryz.ntmps191
  go_wp2_with fail
  refine h1.mono ?_
  rintro e w' ⟨rfl, rfl⟩
  go_wp2_with fail
  go_ret
  exact ⟨rfl, rfl⟩

set_option maxRecDepth 100000 in
set_option maxHeartbeats 400000 in
theorem whose_down (g n : Nat) (us ds : List Nat) (t : Nat) (w : World) (h : LatAt w g n us ds) :
    Calls Tryz.prog 200 #[.pointer (some ⟨g, 0, none⟩), .int .u64 (t : Int), .func (.func 199) #[] #[]] w fun e w' => e = .returned (.int .u64 (whoN ds n t : Int)) ∧ w = w' := by
  have hc := h.count
  have ht := h.top
  have H := Lib.hid h
  clear h
  go_enter Tryz.func200, Tryz.ntmps200
  go_wp2
  go_loopw [13] (fun v13 wr => WhRel ds n t w v13 wr) (fun v13 _ => n - (intOf v13).toNat)
  case atStart => exact ⟨0, rfl, by omega, fun i hi => absurd hi (by omega), rfl⟩
  case round =>
    obtain ⟨k, rfl, hk, hno, rfl⟩ := hrel
    have HNO := Lib.hid hno
    clear hno
    by_cases hlt : k < n
    · have hcall := down_any g n us ds k wr H.out (by omega)
      have HX : Hid (ds.getD k 0 = ds.getD k 0) := Lib.hid rfl
      generalize hx : ds.getD k 0 = x at hcall
      have HXX := Lib.hid hx
      clear hx HX
      by_cases he : x = t
      · subst he
        have hb : ((x : Int) == (x : Int)) = true := by simp
        go_wp2_with (go_at_call 199; refine hcall.mono ?_; rintro e w' ⟨rfl, rfl⟩)
        go_ret
        exact ⟨by rw [whoN_at HNO.out hlt HXX.out]; rfl, rfl⟩
      · have hb : ((x : Int) == (t : Int)) = false := by simp; omega
        go_wp2_with (go_at_call 199; refine hcall.mono ?_; rintro e w' ⟨rfl, rfl⟩)
        go_roundw
        case rel =>
          refine ⟨k + 1, by go_num, by omega, fun i hi => ?_, rfl⟩
          by_cases e : i = k
          · rw [e, HXX.out]
            exact he
          · exact HNO.out i (by omega)
        case measure => simp [intOf]; omega
    · obtain rfl : k = n := by omega
      go_wp2
      go_ret
      exact ⟨by rw [whoN_none HNO.out]; rfl, rfl⟩

set_option maxRecDepth 100000 in
set_option maxHeartbeats 400000 in
theorem near_down (g n : Nat) (us ds : List Nat) (a b : Nat) (w : World) (h : LatAt w g n us ds) (ha : a < 18446744073709551616) (hb : b < 18446744073709551616) :
    Calls Tryz.prog 198 #[.pointer (some ⟨g, 0, none⟩), .int .u64 (a : Int), .int .u64 (b : Int), .func (.func 199) #[] #[]] w fun e w' => e = .returned (.int .u64 (nearN ds n a b : Int)) ∧ w = w' := by
  have ht := h.top
  have h1 := hasL_any g n us ds a w h
  have h2 := hasL_any g n us ds b w h
  by_cases hla : a < n
  · rw [decide_eq_true hla] at h1
    by_cases hlb : b < n
    · rw [decide_eq_true hlb] at h2
      have hn : nearN ds n a b = whoN ds n (ds.getD a 0 &&& ds.getD b 0) := by rw [nearN, if_pos ⟨hla, hlb⟩]
      have HN := Lib.hid hn
      have h3 := down_any g n us ds a w h (by omega)
      have h4 := down_any g n us ds b w h (by omega)
      have h5 := whose_down g n us ds (ds.getD a 0 &&& ds.getD b 0) w h
      have ha' : a < ds.length := by rw [h.dl]; omega
      have hb' : b < ds.length := by rw [h.dl]; omega
      have hx : ds.getD a 0 < 18446744073709551616 := by rw [getD_at ha']; exact h.df.get a ha'
      have hy : ds.getD b 0 < 18446744073709551616 := by rw [getD_at hb']; exact h.df.get b hb'
      have hand := u64_and_nat _ _ hx hy
      generalize ds.getD a 0 &&& ds.getD b 0 = z at *
      generalize ds.getD a 0 = x at *
      generalize ds.getD b 0 = y at *
      clear h hn ha' hb'
      go_enter Tryz.func198, Tryz.ntmps198
      go_wp2_with fail
      refine h1.mono ?_
      rintro e w' ⟨rfl, rfl⟩
      go_wp2_with fail
      refine h2.mono ?_
      rintro e w' ⟨rfl, rfl⟩
      go_wp2_with fail
      refine h3.mono ?_
      rintro e w' ⟨rfl, rfl⟩
      go_wp2_with fail
      refine h4.mono ?_
      rintro e w' ⟨rfl, rfl⟩
      go_wp2_with fail
      refine h5.mono ?_
      rintro e w' ⟨rfl, rfl⟩
      go_wp2_with fail
      go_ret
      exact ⟨by rw [HN.out]; rfl, rfl⟩
    · rw [decide_eq_false hlb] at h2
      have HN : Hid (nearN ds n a b = 0) := Lib.hid (by rw [nearN, if_neg (fun h => hlb h.2)])
      clear h
      go_enter Tryz.func198, Tryz.ntmps198
      go_wp2_with fail
      refine h1.mono ?_
      rintro e w' ⟨rfl, rfl⟩
      go_wp2_with fail
      refine h2.mono ?_
      rintro e w' ⟨rfl, rfl⟩
      go_wp2_with fail
      go_ret
      exact ⟨by rw [HN.out]; rfl, rfl⟩
  · rw [decide_eq_false hla] at h1
    have HN : Hid (nearN ds n a b = 0) := Lib.hid (by rw [nearN, if_neg (fun h => hla h.1)])
    clear h h2
    go_enter Tryz.func198, Tryz.ntmps198
    go_wp2_with fail
    refine h1.mono ?_
    rintro e w' ⟨rfl, rfl⟩
    go_wp2_with fail
    go_ret
    exact ⟨by rw [HN.out]; rfl, rfl⟩

set_option maxRecDepth 100000 in
set_option maxHeartbeats 400000 in
theorem near_down_nil (a b : Nat) (w : World) :
    Calls Tryz.prog 198 #[.pointer none, .int .u64 (a : Int), .int .u64 (b : Int), .func (.func 199) #[] #[]] w fun e w' => e = .returned (.int .u64 0) ∧ w = w' := by
  have h1 := hasL_nil a w
  go_enter Tryz.func198, Tryz.ntmps198
  go_wp2_with fail
  refine h1.mono ?_
  rintro e w' ⟨rfl, rfl⟩
  go_wp2_with fail
  go_ret
  exact ⟨rfl, rfl⟩

set_option maxRecDepth 100000 in
set_option maxHeartbeats 400000 in
theorem end_down (g n : Nat) (us ds : List Nat) (w : World) (h : LatAt w g n us ds) :
    Calls Tryz.prog 196 #[.pointer (some ⟨g, 0, none⟩), .func (.func 199) #[] #[]] w fun e w' => e = .returned (.int .u64 (endN ds n : Int)) ∧ w = w' := by
  have hc := h.count
  have ht := h.top
  have h5 := whose_down g n us ds (2 ^ n - 1) w h
  have HN : Hid (endN ds n = whoN ds n (2 ^ n - 1)) := Lib.hid rfl
  have hm : IntKind.u64.wrap (IntKind.u64.wrap ((2 : Int) ^ n) - 1) = ((2 ^ n - 1 : Nat) : Int) := all_bits ht
  generalize 2 ^ n - 1 = z at *
  clear h
  go_enter Tryz.func196, Tryz.ntmps196
  go_wp2_with fail
  refine h5.mono ?_
  rintro e w' ⟨rfl, rfl⟩
  go_wp2_with fail
  go_ret
  exact ⟨by rw [HN.out]; rfl, rfl⟩

set_option maxRecDepth 100000 in
set_option maxHeartbeats 400000 in
theorem end_down_nil (w : World) :
    Calls Tryz.prog 196 #[.pointer none, .func (.func 199) #[] #[]] w fun e w' => e = .returned (.int .u64 0) ∧ w = w' := by
  go_enter Tryz.func196, Tryz.ntmps196
  go_wp2
  go_ret
  exact ⟨rfl, rfl⟩

theorem meetL_any (g n : Nat) (us ds : List Nat) (a b : Nat) (w : World) (h : LatAt w g n us ds) (ha : a < 18446744073709551616) (hb : b < 18446744073709551616) :
    Calls Tryz.prog 194 #[.pointer (some ⟨g, 0, none⟩), .int .u64 (a : Int), .int .u64 (b : Int)] w fun e w' => e = .returned (.int .u64 (nearN ds n a b : Int)) ∧ w = w' := by
  have h1 := near_down g n us ds a b w h ha hb
  generalize nearN ds n a b = x at *
  clear h
  go_enter Tryz.func194, Tryz.ntmps194
  go_wp2_with fail
  refine h1.mono ?_
  rintro e w' ⟨rfl, rfl⟩
  go_wp2_with fail
  go_ret
  exact ⟨rfl, rfl⟩

theorem meetL_nil (a b : Nat) (w : World) :
    Calls Tryz.prog 194 #[.pointer none, .int .u64 (a : Int), .int .u64 (b : Int)] w fun e w' => e = .returned (.int .u64 0) ∧ w = w' := by
  have h1 := near_down_nil a b w
  go_enter Tryz.func194, Tryz.ntmps194
  go_wp2_with fail
  refine h1.mono ?_
  rintro e w' ⟨rfl, rfl⟩
  go_wp2_with fail
  go_ret
  exact ⟨rfl, rfl⟩

theorem topL_any (g n : Nat) (us ds : List Nat) (w : World) (h : LatAt w g n us ds) :
    Calls Tryz.prog 195 #[.pointer (some ⟨g, 0, none⟩)] w fun e w' => e = .returned (.int .u64 (endN ds n : Int)) ∧ w = w' := by
  have h1 := end_down g n us ds w h
  generalize endN ds n = x at *
  clear h
  go_enter Tryz.func195, Tryz.ntmps195
  go_wp2_with fail
  refine h1.mono ?_
  rintro e w' ⟨rfl, rfl⟩
  go_wp2_with fail
  go_ret
  exact ⟨rfl, rfl⟩

theorem topL_nil (w : World) :
    Calls Tryz.prog 195 #[.pointer none] w fun e w' => e = .returned (.int .u64 0) ∧ w = w' := by
  have h1 := end_down_nil w
  go_enter Tryz.func195, Tryz.ntmps195
  go_wp2_with fail
  refine h1.mono ?_
  rintro e w' ⟨rfl, rfl⟩
  go_wp2_with fail
  go_ret
  exact ⟨rfl, rfl⟩
end Go.Proofs.YtnlgfiffhahpfaaGreatDoor.La
