/- Proved: whatever the bytes, the sum that is to be hit and four other bytes, SumsHit answers true: each sum is hit by four bytes behind them, and by no other four. No condition. -/
import Derived.Test.YthimojebincheaaAlive
import Derived.Test.YthimojebincheaaAhead
import Derived.Test.YthimojebincheaaOpen
import Derived.Test.YthimojebincheaaRows
namespace Go.Proofs.Ythimojebincheaa.sumsHit
open Go.ChangeShapes Go.WideShapes Go.ChangeAt Go.RowKit

theorem own : ownKnob Try.prog.godebug = none := by kernel_rfl
theorem laidOut : laidOutB Try.prog = true := by kernel_rfl
theorem byte_info : (Try.prog.info? 5).map (fun i => (i.zero, i.size, i.bytes)) = some (some (.int .u8 0), 1, 1) := by kernel_rfl

theorem four_cells (x : Nat) (h : x < 4294967296) : (#[Value.int .u8 ((x : Int) % 256), .int .u8 ((x : Int) / 256 % 256), .int .u8 ((x : Int) / 65536 % 256), .int .u8 ((x : Int) / 16777216)] : Array Value).toList = Lib.byteCells (fourB x) := by
  simp only [fourB, Lib.byteCells, List.map_cons, List.map_nil]
  rw [u8_of (by omega), u8_of (by omega), u8_of (by omega), u8_of (by omega)]
  have e1 : ((x : Int) % 256) = ((x % 256 : Nat) : Int) := by omega
  have e2 : ((x : Int) / 256 % 256) = ((x / 256 % 256 : Nat) : Int) := by omega
  have e3 : ((x : Int) / 65536 % 256) = ((x / 65536 % 256 : Nat) : Int) := by omega
  have e4 : ((x : Int) / 16777216) = ((x / 16777216 % 256 : Nat) : Int) := by omega
  rw [e1, e2, e3, e4]

/-- What the plain side says: n hits t, and others do just if they are n. -/
structure HitBy (l : List UInt8) (x t r n o s1 s2 : Nat) : Prop where
  xl : x < 4294967296
  rl : r < 4294967296
  nl : n < 4294967296
  xr : (4294967295 - x) ^^^ r = n
  one : sumOf 0 (l ++ fourB n) = s1
  two : sumOf 0 (l ++ fourB o) = s2
  hit : s1 = t
  other : s2 = t ↔ n = o

theorem hit_by (l : List UInt8) (t o : Nat) (ht : t < 4294967296) (ho : o < 4294967296) : ∃ r n s1 s2, BkIs 32 (4294967295 - t) r ∧ HitBy l (sumOf 0 l) t r n o s1 s2 := by
  have hc : crc 4294967295 l < 4294967296 := crc_lt l (by omega)
  have hx : 4294967295 - sumOf 0 l = crc 4294967295 l := by unfold sumOf; rw [Nat.sub_zero]; omega
  have hb := bki_lt 32 (x := 4294967295 - t) (by omega)
  have hn := xor_lt hc hb
  have e : ∀ m, sumOf 0 (l ++ fourB m) = 4294967295 - crc (crc 4294967295 l) (fourB m) := fun m => by unfold sumOf; rw [crc_append]
  refine ⟨_, crc 4294967295 l ^^^ bki 32 (4294967295 - t), _, _, ⟨rfl⟩, sumOf_lt _ _, hb, hn, by rw [hx], rfl, rfl, ?_, ?_⟩
  · rw [e]
    exact (hit _ t _ hc ht hn).2 rfl
  · rw [e]
    exact hit _ t o hc ht ho

set_option maxRecDepth 100000 in
set_option maxHeartbeats 1000000 in
theorem walk_small (A : Option Addr) (m c : Nat) (l : List UInt8) (t o : Nat) (w : World) (ht : t < 4294967296) (ho : o < 4294967296) (hl : Rd w w.heap.size A m c l) (hm : m ≤ 50000) :
    Calls Try.prog 5 #[.slice A m c, .int .u32 (t : Int), .int .u32 (o : Int)] w fun e w' => e = .returned (.bool true) ∧ Below w.heap.size w w' := by
  obtain ⟨i0, hi0, hz0, hz1, hz2⟩ := info_parts byte_info
  obtain ⟨r, n, s1, s2, hbk, hh⟩ := hit_by l t o ht ho
  have hn : m ≤ 9223372036854775807 := by omega
  have b0 : Below w.heap.size w (w.alloc (.cells #[.slice A m c] 22)) := (Below.refl _ _).alloc (Nat.le_refl _) _
  have t1 : decide (50000 < (m : Int)) = false := by simp; omega
  have hsg : IntKind.u32.signed = false := rfl
  have nt := not_u32 t ht
  have hnl := hh.nl
  have HC1 := Lib.hid (four_cells n hh.nl)
  have HC2 := Lib.hid (four_cells o ho)
  go_enter Try.func5, Try.ntmps5
  go_wp2_with fail
  refine (great_one A m c _ _ hn (by simp)).mono ?_
  rintro e w1 ⟨rfl, rfl⟩
  go_wp2_with fail
  refine (of_any A m c l _ (hl.at_size (Nat.le_refl _) b0)).mono ?_
  rintro e w2 ⟨rfl, b2⟩
  replace b2 := Below.then b0 b2
  clear b0
  have nx := not_u32 _ hh.xl
  generalize sumOf 0 l = x at *
  go_wp2_with fail
  refine (ahead_at _ r _ (by omega) hbk).mono ?_
  rintro e w3 ⟨rfl, rfl⟩
  have hxr : bits .xor .u32 ((4294967295 - x : Nat) : Int) (r : Int) = (n : Int) := by
    rw [← hh.xr]
    exact u32_xor_nat _ r (by omega) hh.rl
  generalize 4294967295 - x = x' at *
  go_wp2_with (first
    | (at_builtin; refine wpList_append_rd _ rfl (.const (.slice none 0 0)) (.tmp 21) 22 rfl w.heap.size 5 i0 Try.underlying22 hi0 hz0 hz1 hz2 (.slice none 0 0) 0 [] rfl (World.ownsRow_nil _ _ _ _) _ A m c l rfl (hl.at_size (Nat.le_refl _) b2) (by omega) b2.size ?_; intro A1 k1 c1 w3 hk1 own1 hg1 ha1; have b3 : Below w.heap.size w w3 := b2.grown hg1 b2.size (by simp [Value.ownBlock]))
    | (at_builtin; refine wpList_append_rd _ rfl (.tmp 22) (.tmp 34) 22 rfl w.heap.size 5 i0 Try.underlying22 hi0 hz0 hz1 hz2 _ k1 ([] ++ l) rfl (own1.alloc _) _ _ 4 4 (fourB n) rfl (Rd.new w3 _ 5 4 _ HC1.out rfl (by decide)) (by have := hk1.out; omega) (Nat.le_trans b3.size (by simp)) ?_; intro A2 k2 c2 w4 hk2 own2 hg2 ha2; have b4 : Below w.heap.size w w4 := (b3.alloc b3.size _).grown hg2 (Nat.le_trans b3.size (by simp)) ha1)
    | (at_builtin; refine wpList_append_rd _ rfl (.const (.slice none 0 0)) (.tmp 36) 22 rfl w4.heap.size 5 i0 Try.underlying22 hi0 hz0 hz1 hz2 (.slice none 0 0) 0 [] rfl (World.ownsRow_nil _ _ _ _) _ A m c l rfl (hl.at_size (Nat.le_refl _) b4) (by omega) (Nat.le_refl _) ?_; intro A3 k3 c3 w5 hk3 own3 hg3 ha3; have b5 : Below w4.heap.size w4 w5 := (Below.refl _ _).grown hg3 (Nat.le_refl _) (by simp [Value.ownBlock]))
    | (at_builtin; refine wpList_append_rd _ rfl (.tmp 37) (.tmp 49) 22 rfl w4.heap.size 5 i0 Try.underlying22 hi0 hz0 hz1 hz2 _ k3 ([] ++ l) rfl (own3.alloc _) _ _ 4 4 (fourB o) rfl (Rd.new w5 _ 5 4 _ HC2.out rfl (by decide)) (by have := hk3.out; omega) (Nat.le_trans b5.size (by simp)) ?_; intro A4 k4 c4 w6 hk4 own4 hg4 ha4; have b6 : Below w4.heap.size w4 w6 := (b5.alloc b5.size _).grown hg4 (Nat.le_trans b5.size (by simp)) ha3))
  refine (alive_any _).mono ?_
  rintro e w7 ⟨rfl, b7⟩
  have r4 := (Rd.of_own own4).at_size (Nat.le_refl _) b7
  replace b7 := Below.then b6 b7
  have r2 := (Rd.of_own own2).at_size (Nat.le_refl _) b7
  clear own1 own2 own3 own4 hg1 hg2 hg3 hg4 ha1 ha2 ha3 ha4 b3 b5 b6 HC1 HC2 hk1 hk2 hk3 hk4
  go_wp2_with fail
  refine (of_now (r := s1) _ r2 (by rw [List.nil_append]; exact hh.one)).mono ?_
  rintro e w8 ⟨rfl, b8⟩
  have r5 := r4.at_size (Nat.le_refl _) b8
  replace b8 := Below.then b7 b8
  clear r4 r2 b7
  obtain rfl : s1 = t := hh.hit
  go_wp2_with fail
  refine (of_now (r := s2) _ r5 (by rw [List.nil_append]; exact hh.two)).mono ?_
  rintro e w9 ⟨rfl, b9⟩
  replace b9 := Below.then b8 b9
  by_cases he : n = o
  · have e1 : ((n : Int) == (o : Int)) = true := by simp [he]
    have e2 : ((s2 : Int) == (s1 : Int)) = true := by simp [hh.other.2 he]
    go_wp2_with fail
    go_ret
    exact ⟨rfl, Below.then b4 b9⟩
  · have e1 : ((n : Int) == (o : Int)) = false := by simp; omega
    have e2 : ((s2 : Int) == (s1 : Int)) = false := by
      have := mt hh.other.1 he
      simp
      omega
    go_wp2_with fail
    go_ret
    exact ⟨rfl, Below.then b4 b9⟩

set_option maxRecDepth 100000 in
set_option maxHeartbeats 400000 in
theorem walk_great (A : Option Addr) (m c : Nat) (l : List UInt8) (t o : Nat) (w : World) (hl : Rd w w.heap.size A m c l) (hm : ¬ m ≤ 50000) :
    Calls Try.prog 5 #[.slice A m c, .int .u32 (t : Int), .int .u32 (o : Int)] w fun e w' => e = .returned (.bool true) ∧ Below w.heap.size w w' := by
  have hn : m ≤ 9223372036854775807 := by have := hl.top; have := hl.cap; unfold maxLen at *; omega
  have b0 : Below w.heap.size w (w.alloc (.cells #[.slice A m c] 22)) := (Below.refl _ _).alloc (Nat.le_refl _) _
  have t1 : decide (50000 < (m : Int)) = true := by simp; omega
  go_enter Try.func5, Try.ntmps5
  go_wp2_with fail
  refine (great_one A m c _ _ hn (by simp)).mono ?_
  rintro e w1 ⟨rfl, rfl⟩
  go_wp2_with fail
  refine (alive_any _).mono ?_
  rintro e w2 ⟨rfl, b2⟩
  go_wp2_with fail
  go_ret
  exact ⟨rfl, Below.then b0 b2⟩

theorem walk (A : Option Addr) (m c : Nat) (l : List UInt8) (t o : Nat) (w : World) (ht : t < 4294967296) (ho : o < 4294967296) (hl : Rd w w.heap.size A m c l) :
    Calls Try.prog 5 #[.slice A m c, .int .u32 (t : Int), .int .u32 (o : Int)] w fun e w' => e = .returned (.bool true) ∧ Below w.heap.size w w' := by
  by_cases hm : m ≤ 50000
  · exact walk_small A m c l t o w ht ho hl hm
  · exact walk_great A m c l t o w hl hm

set_option maxRecDepth 100000 in
theorem lifted (os : Os) (started : os.Started) (H : Type) (enc : TypeId × Value → H) :
    ReturnsInHanded {} Try.checked os 5 .any (Rows.sumsHitSpec.pre6 enc Try.prog Try.f5 Rows.sumsHitRow.domain false) (Rows.sumsHitSpec.post enc Try.prog Try.f5 false true false false) := by
  refine returnsInHanded_of_change (C := Try.checked) own started (by kernel_rfl) Try.func5
    (ChangeSpec.witness6 (enc := enc) (C := Try.checked) false ⟨#[], #[.slice none 0 0, .int .u32 0, .int .u32 0], []⟩ 8 (by kernel_rfl) (by kernel_rfl) (by kernel_rfl) (by kernel_rfl)) ?_
  intro W base args ds gs before hval0 hW hcnd _
  have hval : ∀ (j : Nat) t v, Try.f5.params[j]? = some t → args[j]? = some v → Value.okWide Try.prog W .any base t v := hval0
  have hW' := hW
  obtain ⟨p, q, hA0, hV, rfl, hfz, hnd⟩ := hW
  have hA : DataW.TrodAll enc Try.prog W 0 (fun _ => true) true Try.f5.params.toList args.toList ds p := hA0
  rw [Try.params5] at hA hval
  obtain ⟨v0, vs0, d0, ds0, p0, q0, hargs, rfl, rfl, h0, r0⟩ := trodAll_cons hA
  obtain ⟨v1, vs1, d1, ds1, p1, q1, rfl, rfl, rfl, h1, r1⟩ := trodAll_cons r0
  obtain ⟨v2, vs2, d2, ds2, p2, q2, rfl, rfl, rfl, h2, r2⟩ := trodAll_cons r1
  obtain ⟨rfl, rfl, rfl⟩ := trodAll_nil r2
  obtain rfl : args = #[v0, v1, v2] := by cases args; simp_all
  obtain ⟨rfl, rfl⟩ := trodVars_none hV
  obtain ⟨A0, n0, c0, rfl⟩ := okWide_slice Try.underlying22 (hval 0 22 v0 rfl rfl)
  have lt0 : ∀ x ∈ p0, x.block < W.heap.size := by obtain ⟨m, hm⟩ := h0; exact DataW.trod_lt m _ _ _ hm
  obtain ⟨l0, hr0⟩ := opened_bytes Try.underlying22 Try.underlying5 (by kernel_rfl) h0
  obtain ⟨a1, rfl, rfl, rfl, w1⟩ := open_int Try.underlying23 (hval 1 23 v1 rfl rfl) h1
  obtain ⟨a2, rfl, rfl, rfl, w2⟩ := open_int Try.underlying23 (hval 2 23 v2 rfl rfl) h2
  clear hA0 hval0
  obtain ⟨x1, hx1, l1⟩ := u32_nat w1
  subst hx1
  obtain ⟨x2, hx2, l2⟩ := u32_nat w2
  subst hx2
  refine (walk A0 n0 c0 l0 x1 x2 W l1 l2 hr0).mono fun e W' ⟨he, bel⟩ => ?_
  subst he
  exact ⟨_, rfl, _, _, _, [], _, [], hW', trodAll_mk1 (shut_bool Try.underlying4 _), (trodAll_cons_mk (Below.trod laidOut (by kernel_rfl) (of_decide_eq_true (by kernel_rfl)) h0 bel lt0) (trodAll_cons_mk (shut_int Try.underlying23 w1) (trodAll_cons_mk (shut_int Try.underlying23 w2) trodAll_mk0))), rfl, bel.frame _, fun h => by cases h⟩

theorem over : Rows.sumsHitRow.holds Try.pinned (OpenSpec.ofChange Rows.sumsHitSpec) :=
  OpenClaim.holds_of_wide 5 Try.f5 rfl rfl rfl rfl rfl rfl rfl ⟨rfl, rfl, rfl, rfl, rfl⟩ rfl rfl rfl rfl rfl (by kernel_rfl) Try.func5 (by kernel_rfl)
    (of_decide_eq_true (by kernel_rfl)) (by unfold Func.isWrapper; first | (rw [if_pos (by decide +kernel)]; kernel_rfl) | (rw [if_neg (by decide +kernel)]; exact ⟨rfl, rfl⟩))
    (fun os started H enc _ => lifted os started H enc)

theorem proved : Rows.SumsHitSaid := over
#print axioms proved

end Go.Proofs.Ythimojebincheaa.sumsHit
