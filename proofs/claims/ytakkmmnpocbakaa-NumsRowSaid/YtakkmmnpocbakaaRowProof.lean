/- Proved: whatever the numbers, NumsRow answers true: numbers that are put one behind the other are got, one behind the other. No condition. -/
import Derived.Test.YtakkmmnpocbakaaAlive
import Derived.Test.YtakkmmnpocbakaaOpen
import Derived.Test.YtakkmmnpocbakaaRows
namespace Go.Proofs.Ytakkmmnpocbakaa.numsRow
open Go.ChangeShapes Go.WideShapes Go.ChangeAt Go.RowKit

theorem own : ownKnob Try.prog.godebug = none := by kernel_rfl
theorem laidOut : laidOutB Try.prog = true := by kernel_rfl

/-- Numbers' bytes, one behind the other. -/
def bytesAll (us : List Nat) : List UInt8 := us.flatMap Lib.uvarint

theorem bytesAll_snoc (us : List Nat) (k : Nat) (h : k < us.length) : bytesAll (us.take k) ++ Lib.uvarint us[k] = bytesAll (us.take (k + 1)) := by
  rw [List.take_succ_eq_append_getElem h, bytesAll, bytesAll, List.flatMap_append]
  simp

theorem bytesAll_cons (us : List Nat) (k : Nat) (h : k < us.length) : bytesAll (us.drop k) = Lib.uvarint us[k] ++ bytesAll (us.drop (k + 1)) := by
  rw [List.drop_eq_getElem_cons h, bytesAll, bytesAll, List.flatMap_cons]

/-- The first loop: k numbers are put. -/
def PRel (us : List Nat) (w : World) (v3 i4 : Value) (wr : World) : Prop :=
  ∃ (k : Nat) (A : Option Addr) (n c : Nat), i4 = .int .i64 (k : Int) ∧ v3 = .slice A n c ∧ k ≤ us.length ∧ n ≤ 10 * k ∧ Rd wr wr.heap.size A n c (bytesAll (us.take k)) ∧ Below w.heap.size w wr

/-- The second loop: k numbers are got. -/
def QRel (us : List Nat) (wr : World) (v3 i5 : Value) : Prop :=
  ∃ (k : Nat) (A : Option Addr) (n c : Nat), i5 = .int .i64 (k : Int) ∧ v3 = .slice A n c ∧ k ≤ us.length ∧ Rd wr wr.heap.size A n c (bytesAll (us.drop k))

set_option maxRecDepth 100000 in
set_option maxHeartbeats 400000 in
theorem walk (A0 : Option Addr) (n0 c0 : Nat) (us : List Nat) (w : World) (hl : us.length = n0) (hm : n0 ≤ 9223372036854775807) (hu : ∀ x ∈ us, x < 18446744073709551616)
    (hA : 0 < n0 → ∃ b o, A0 = some ⟨b, o, none⟩ ∧ b < w.heap.size ∧ ∀ j (h : j < us.length), w.cell? ⟨b, o + j, none⟩ = some (.int .u64 (us[j] : Int))) :
    Calls Try.prog 7 #[.slice A0 n0 c0] w fun e w' => e = .returned (.bool true) ∧ Below w.heap.size w w' := by
  have HL := Lib.hid hl
  have HU := Lib.hid hu
  have HA := Lib.hid hA
  clear hl hu hA
  by_cases hn : n0 ≤ 200
  · have hd : decide (200 < (n0 : Int)) = false := by simp; omega
    go_enter Try.func7, Try.ntmps7
    go_wp2_with fail
    refine (alive_any _).mono ?_
    rintro e w1 ⟨rfl, b1⟩
    go_wp2_with fail
    go_loopw [3, 4] (fun v3 i4 wr => PRel us w v3 i4 wr) (fun _ i4 _ => n0 - (intOf i4).toNat)
    case atStart => exact ⟨0, none, 0, 0, rfl, rfl, by omega, by omega, Rd.nil _ _, b1⟩
    case round =>
      obtain ⟨k, A, n, c, rfl, rfl, hk, hnk, hr, hb⟩ := hrel
      clear b1
      by_cases hlt : k < n0
      · obtain ⟨b, o, rfl, hbb, hc⟩ := HA.out (by omega)
        have hk' : k < us.length := by rw [HL.out]; exact hlt
        have hcell := hc k hk'
        have hcell' : wr.cell? ⟨b, o + k, none⟩ = some (.int .u64 (us[k] : Int)) := (hb.cell (p := ⟨b, o + k, none⟩) hbb).trans hcell
        have hx := HU.out us[k] (List.getElem_mem hk')
        have HS := Lib.hid (bytesAll_snoc us k hk')
        have HX := Lib.hid hx
        clear hc hcell hx
        generalize us[k] = x at *
        go_wp2_with fail
        refine (put_any A n c _ (x : Int) _ hr (by omega) (by have := HX.out; omega) (by omega)).mono ?_
        rintro e w2 ⟨A2, n2, c2, rfl, f2⟩
        have hn2 : n2 ≤ 10 * (k + 1) := by
          have h1 := f2.len
          have h2 := hr.len
          rw [List.length_append, h2] at h1
          have h3 := Lib.uvarint_length64 HX.out
          rw [Int.toNat_natCast] at h1
          omega
        go_wp2_with fail
        go_roundw
        case rel => exact ⟨k + 1, A2, n2, c2, by go_num, rfl, by omega, hn2, by have := f2.rd; rw [Int.toNat_natCast, HS.out] at this; exact this, Below.then hb f2.bel⟩
        case measure => simp [intOf]; omega
      · have hk2 : us.length ≤ k := by rw [HL.out]; omega
        have hr' : Rd wr wr.heap.size A n c (bytesAll (us.drop 0)) := by
          rw [List.drop_zero]
          rw [List.take_of_length_le (by omega)] at hr
          exact hr
        clear hr hk2
        go_wp2_with fail
        go_loop [3, 5] (fun v3 i5 => QRel us wr v3 i5) (fun _ i5 => n0 - (intOf i5).toNat)
        case atStart => exact ⟨0, A, n, c, rfl, rfl, by omega, hr'⟩
        case round =>
          clear hr' hnk hlt hk
          obtain ⟨j, A3, n3, c3, rfl, rfl, hj, hr3⟩ := hrel
          by_cases hlt : j < n0
          · obtain ⟨b, o, rfl, hbb, hc⟩ := HA.out (by omega)
            have hj' : j < us.length := by rw [HL.out]; exact hlt
            have hcell : wr.cell? ⟨b, o + j, none⟩ = some (.int .u64 (us[j] : Int)) := (hb.cell (p := ⟨b, o + j, none⟩) hbb).trans (hc j hj')
            have hx := HU.out us[j] (List.getElem_mem hj')
            rw [bytesAll_cons us j hj'] at hr3
            clear hc
            generalize us[j] = x at *
            have hg := getL_put x (bytesAll (us.drop (j + 1))) hx
            have hp := Lib.uvarint_pos x
            have hle : (Lib.uvarint x).length ≤ n3 := by rw [← hr3.len, List.length_append]; omega
            have HD : Hid ((Lib.uvarint x ++ bytesAll (us.drop (j + 1))).drop (Lib.uvarint x).length = bytesAll (us.drop (j + 1))) := List.drop_left
            have HG := Lib.hid hg
            clear hg hx
            have htop := hr3.top
            have hcap := hr3.cap
            unfold maxLen at htop
            generalize (Lib.uvarint x).length = q at *
            obtain ⟨A4, n4, c4, hsl, hr4⟩ := rd_slice_l (P := Try.prog) 22 5 Try.underlying22 byte_size hr3 (q : Int) (by omega) (by omega)
            rw [Int.toNat_natCast, HD.out] at hr4
            have hne : ((x : Int) != (x : Int)) = false := by simp
            go_wp2_with fail
            refine (get_at _ hr3 HG.out).mono ?_
            rintro e w2 ⟨rfl, rfl⟩
            go_wp2_with fail
            go_round
            case rel => exact ⟨j + 1, A4, n4, c4, by go_num, rfl, by omega, hr4⟩
            case measure => simp [intOf]; omega
          · have hl3 := hr3.len
            rw [List.drop_eq_nil_of_le (by rw [HL.out]; omega)] at hl3
            obtain rfl : n3 = 0 := hl3.symm
            clear hl3
            go_wp2_with fail
            go_ret
            exact ⟨rfl, hb⟩
  · have hd : decide (200 < (n0 : Int)) = true := by simp; omega
    go_enter Try.func7, Try.ntmps7
    go_wp2_with fail
    refine (alive_any _).mono ?_
    rintro e w1 ⟨rfl, b1⟩
    go_wp2_with fail
    refine (alive_any _).mono ?_
    rintro e w2 ⟨rfl, b2⟩
    go_wp2_with fail
    go_ret
    exact ⟨rfl, Below.then b1 b2⟩

set_option maxRecDepth 100000 in
theorem lifted (os : Os) (started : os.Started) (H : Type) (enc : TypeId × Value → H) :
    ReturnsInHanded {} Try.checked os 7 .any (Rows.numsRowSpec.pre6 enc Try.prog Try.f7 Rows.numsRowRow.domain false) (Rows.numsRowSpec.post enc Try.prog Try.f7 false true false false) := by
  refine returnsInHanded_of_change (C := Try.checked) own started (by kernel_rfl) Try.func7
    (ChangeSpec.witness6 (enc := enc) (C := Try.checked) false ⟨#[], #[.slice none 0 0], []⟩ 8 (by kernel_rfl) (by kernel_rfl) (by kernel_rfl) (by kernel_rfl)) ?_
  intro W base args ds gs before hval0 hW hcnd _
  have hval : ∀ (j : Nat) t v, Try.f7.params[j]? = some t → args[j]? = some v → Value.okWide Try.prog W .any base t v := hval0
  have hW' := hW
  obtain ⟨p, q, hA0, hV, rfl, hfz, hnd⟩ := hW
  have hA : DataW.TrodAll enc Try.prog W 0 (fun _ => true) true Try.f7.params.toList args.toList ds p := hA0
  rw [Try.params7] at hA hval
  obtain ⟨v0, vs0, d0, ds0, p0, q0, hargs, rfl, rfl, h0, r0⟩ := trodAll_cons hA
  obtain ⟨rfl, rfl, rfl⟩ := trodAll_nil r0
  obtain rfl : args = #[v0] := by cases args; simp_all
  obtain ⟨rfl, rfl⟩ := trodVars_none hV
  obtain ⟨a0, len0, cap0, rfl⟩ := okWide_slice Try.underlying43 (hval 0 43 v0 rfl rfl)
  have lt0 : ∀ x ∈ p0, x.block < W.heap.size := by obtain ⟨m, hm⟩ := h0; exact DataW.trod_lt m _ _ _ hm
  obtain ⟨us, hl, hm, hu, hA⟩ := opened_nats Try.underlying43 Try.underlying24 (by kernel_rfl) h0
  unfold maxLen at hm
  clear hA0 hval0
  refine (walk a0 len0 cap0 us W hl (by omega) hu hA).mono fun e W' ⟨he, bel⟩ => ?_
  subst he
  exact ⟨_, rfl, _, _, _, [], _, [], hW', trodAll_mk1 (shut_bool Try.underlying4 _), (trodAll_cons_mk (Below.trod laidOut (by kernel_rfl) (of_decide_eq_true (by kernel_rfl)) h0 bel lt0) trodAll_mk0), rfl, bel.frame _, fun h => by cases h⟩

theorem over : Rows.numsRowRow.holds Try.pinned (OpenSpec.ofChange Rows.numsRowSpec) :=
  OpenClaim.holds_of_wide 7 Try.f7 rfl rfl rfl rfl rfl rfl rfl ⟨rfl, rfl, rfl, rfl, rfl⟩ rfl rfl rfl rfl rfl (by kernel_rfl) Try.func7 (by kernel_rfl)
    (of_decide_eq_true (by kernel_rfl)) (by unfold Func.isWrapper; first | (rw [if_pos (by decide +kernel)]; kernel_rfl) | (rw [if_neg (by decide +kernel)]; exact ⟨rfl, rfl⟩))
    (fun os started H enc _ => lifted os started H enc)

theorem proved : Rows.NumsRowSaid := over
#print axioms proved

end Go.Proofs.Ytakkmmnpocbakaa.numsRow
