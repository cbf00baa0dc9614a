/- Proved: whatever the texts, and however far they are moved, TextsSort answers true: what is sorted rises, has just the texts that were handed in, each where Find tells, and is the same, sorted again, and in whatever order it was. No condition. -/
import Derived.Test.YtkjeejaecagbaaaAlive
import Derived.Test.YtkjeejaecagbaaaOpen
import Derived.Test.YtkjeejaecagbaaaOrder
import Derived.Test.YtkjeejaecagbaaaRows
import Derived.RegionTactic
import Derived.BigRegion
namespace Go.Proofs.Ytkjeejaecagbaaa.textsSort
open Go.ChangeShapes Go.WideShapes Go.ChangeAt Go.RowKit

theorem own : ownKnob Try.prog.godebug = none := by kernel_rfl
theorem laidOut : laidOutB Try.prog = true := by kernel_rfl
theorem text_size (w : World) : (Go.sizeOf 9).run Try.prog w = .ok 1 w := by kernel_rfl

/-- has, in a region that only reads. -/
theorem has_q {B : Nat} {A : Option Addr} {m c : Nat} {ss : List (List UInt8)} {s : List UInt8} {w : World} {b : Bool} {n : Nat} (h : Rd txt w B A m c ss) (hs : decide (s ∈ ss) = b) :
    Calls Try.prog 11 #[.slice A m c, .string (str s)] (w.drewN n) fun e w'' => e = .returned (.bool b) ∧ ∃ k, w'' = w.drewN k :=
  Calls.quiet_of_same ((has_any B A m c ss s (w.drewN n) (h.keep fun _ _ => rfl)).mono fun _ _ ⟨he, hw⟩ => ⟨hs ▸ he, hw.symm⟩)

/-- The first loop's relation: k have been looked at. -/
def ORel (m : Nat) (w1 : World) (i6 : Value) (wr : World) : Prop := ∃ k : Nat, i6 = .int .i64 (k : Int) ∧ k ≤ m ∧ Below w1.heap.size w1 wr

set_option maxRecDepth 100000 in
set_option maxHeartbeats 2000000 in
theorem walk (z : Nat) (A : Option Addr) (m c : Nat) (ss : List (List UInt8)) (w : World) (hz : z < 256) (hl : Rd txt w w.heap.size A m c ss) :
    Calls Try.prog 3 #[.slice A m c, .int .u8 (z : Int)] w fun e w' => e = .returned (.bool true) ∧ Below w.heap.size w w' := by
  obtain ⟨i0, hi0, hz0, hz1, hz2⟩ := info_parts text_info
  have HL := Lib.hid hl.len
  go_enter Try.func3, Try.ntmps3
  go_wp2_with fail
  refine (great_any _ A m c ss w hl).mono ?_
  rintro e w1 ⟨b, rfl, rfl, hm⟩
  cases b with
  | true =>
    go_wp2_with fail
    refine (alive_any _).mono ?_
    rintro e w2 ⟨rfl, b2⟩
    go_wp2_with fail
    go_ret
    exact ⟨rfl, b2⟩
  | false =>
    replace hm := hm rfl
    go_wp2_with fail
    refine (sort_any A m c ss w hl (by have := HL.out; omega)).mono ?_
    rintro e w1 ⟨A1, n1, c1, rfl, f1⟩
    have r1 := f1.rd
    have b1 := f1.bel
    have hn1 : n1 ≤ 150 := by have := su_length_le ss; have := f1.len; have := HL.out; omega
    have hc1 : n1 ≤ c1 := r1.cap
    have ht1 : c1 ≤ 9223372036854775807 := by have := r1.top; unfold maxLen at this; omega
    have hup := su_up ss
    clear f1
    have hmem := Lib.hid (su_mem ss)
    generalize hxs : su ss = xs at *
    have HX := Lib.hid hxs
    clear hxs
    have HLx := Lib.hid r1.len
    go_wp2_with fail
    refine (rises_now A1 n1 c1 xs _ true r1 (rises_iff.2 hup)).mono ?_
    rintro e w2 ⟨rfl, b2⟩
    go_wp2_with fail
    go_loopw [6] (fun i6 wr => ORel n1 w1 i6 wr) (fun i6 _ => n1 - (intOf i6).toNat)
    case atStart => exact ⟨0, rfl, Nat.zero_le _, b2⟩
    case round =>
      obtain ⟨k, rfl, hk, hbr⟩ := hrel
      by_cases hlt : k < n1
      · have hk' : k < xs.length := by rw [HLx.out]; exact hlt
        have rr := r1.at_size (Nat.le_refl _) hbr
        have rr' := r1.below hbr
        obtain ⟨b, o, rfl, hb, hc⟩ := rr'.spot (by omega)
        have hck : wr.cell? ⟨b, o + k, none⟩ = some (.string (str xs[k])) := hc k hk'
        have HFD := Lib.hid (fd_at hup k hk')
        have hlti : (k : Int) < (n1 : Int) := by omega
        have HC := Lib.hid hc
        clear hc
        go_wp2_with fail
        refine (find_now (some ⟨b, o, none⟩) n1 c1 xs xs[k] wr k true rr HFD.out.1 HFD.out.2).mono ?_
        rintro e w3 ⟨rfl, b3⟩
        have hx3 : w3.cell? ⟨b, o + k, none⟩ = some (.string (str xs[k])) := (b3.cell (p := ⟨b, o + k, none⟩) (Nat.lt_of_lt_of_le hb hbr.size)).trans hck
        have hr3 : Rd txt w3 w.heap.size A m c ss := hl.below ((b1.trans (hbr.mono b1.size)).trans (b3.mono (Nat.le_trans b1.size hbr.size)))
        have hin : decide (xs[k] ∈ ss) = true := decide_eq_true ((hmem.out _).1 (List.getElem_mem hk'))
        have hend : Below w1.heap.size w1 w3 := hbr.trans (b3.mono hbr.size)
        rcases k with _ | j
        · rw [Nat.add_zero] at hx3
          clear HC hck
          generalize xs[0] = s0 at *
          generalize hq : str s0 = q at *
          go_wp2
          go_quiet ((go_at_call 11; subst hq; exact has_q hr3 hin))
          go_wp2
          go_roundw
          case rel => exact ⟨1, rfl, by omega, hend.trans ⟨rfl, rfl, rfl, Nat.le_refl _, fun _ _ => rfl⟩⟩
          case measure => simp [intOf]; omega
        · have hx2 : w3.cell? ⟨b, o + j, none⟩ = some (.string (str xs[j])) := (b3.cell (p := ⟨b, o + j, none⟩) (Nat.lt_of_lt_of_le hb hbr.size)).trans (HC.out j (by omega))
          have hls := less_str xs[j] xs[j + 1]
          rw [decide_eq_true (List.pairwise_iff_getElem.1 hup j (j + 1) (by omega) hk' (by omega))] at hls
          have e1 : ((j + 1 : Nat) : Int) = (j : Int) + 1 := by omega
          rw [e1]
          have hltj : (j : Int) < (n1 : Int) := by omega
          have hw1 : IntKind.i64.wrap ((j : Int) + 1 - 1) = (j : Int) := by rw [IntKind.wrap_i64]; omega
          have hw2 : IntKind.i64.wrap (j : Int) = (j : Int) := by rw [IntKind.wrap_i64]; omega
          have hpos : (0 : Int) < (j : Int) + 1 := by omega
          generalize xs[j] = s0 at *
          generalize xs[j + 1] = s1 at *
          generalize str s0 = q0 at *
          generalize hq : str s1 = q1 at *
          go_wp2
          go_quiet ((go_at_call 11; subst hq; exact has_q hr3 hin))
          go_wp2
          go_roundw
          case rel => exact ⟨j + 1 + 1, by go_num, by omega, hend.trans ⟨rfl, rfl, rfl, Nat.le_refl _, fun _ _ => rfl⟩⟩
          case measure => simp [intOf]; omega
      · have hlti : ¬ (k : Int) < (n1 : Int) := by omega
        have hr : Rd txt wr w.heap.size A m c ss := hl.below (b1.trans (hbr.mono b1.size))
        have rx := r1.at_size (Nat.le_refl _) hbr
        have bw : Below w.heap.size w wr := b1.trans (hbr.mono b1.size)
        clear b2 hl r1 b1 hbr
        go_wp2
        go_loop [9] (fun i9 => ∃ k : Nat, i9 = .int .i64 (k : Int) ∧ k ≤ m) (fun i9 => m - (intOf i9).toNat)
        case atStart => exact ⟨0, rfl, Nat.zero_le _⟩
        case round =>
          obtain ⟨k, rfl, hk⟩ := hrel
          by_cases hlt : k < m
          · have hk' : k < ss.length := by rw [HL.out]; exact hlt
            obtain ⟨b, o, rfl, hb, hc⟩ := hr.spot (by omega)
            have hck : wr.cell? ⟨b, o + k, none⟩ = some (.string (str ss[k])) := hc k hk'
            have hin : decide (ss[k] ∈ xs) = true := decide_eq_true ((hmem.out _).2 (List.getElem_mem hk'))
            have hltm : (k : Int) < (m : Int) := by omega
            clear hc
            go_wp2_with fail
            refine (has_any _ A1 n1 c1 xs ss[k] wr rx).mono ?_
            rintro e w3 ⟨he, rfl⟩
            rw [hin] at he
            subst he
            go_wp2_with fail
            go_round
            case rel => exact ⟨k + 1, by go_num, by omega⟩
            case measure => simp [intOf]; omega
          · have hltm : ¬ (k : Int) < (m : Int) := by omega
            obtain ⟨y, hy, hym⟩ : ∃ y : Nat, y = (if m = 0 then 0 else z % m) ∧ y ≤ m := ⟨_, rfl, by split; omega; exact Nat.le_of_lt (Nat.mod_lt _ (by omega))⟩
            obtain ⟨A2, n2, c2, hs2, r2⟩ := rd_slice_l (P := Try.prog) 22 9 Try.underlying22 text_size hr (y : Int) (by omega) (by omega)
            obtain ⟨A3, n3, c3, hs3, r3⟩ := rd_slice_h (P := Try.prog) 22 9 Try.underlying22 text_size hr (y : Int) (by omega) (by omega)
            have hl2 := r2.len
            have hl3 := r3.len
            rw [List.length_drop, HL.out] at hl2
            rw [List.length_take, HL.out] at hl3
            rw [Int.toNat_natCast] at r2 r3
            have HP : Hid (∀ x, x ∈ ss.drop y ++ ss.take y ↔ x ∈ xs) := fun x => by
              show x ∈ ss.drop y ++ ss.take y ↔ x ∈ xs
              rw [hmem.out x, List.mem_append, or_comm, ← List.mem_append, List.take_append_drop]
            by_cases hm0 : m = 0
            (focus (
              subst hm0
              obtain rfl : y = 0 := by omega
              have hs2' : ∀ W, (Instr.slice 22 (.slice A 0 c) (some (.int .i64 0)) none none).run Try.prog W = .ok (.slice A2 n2 c2) W := hs2
              have hs3' : ∀ W, (Instr.slice 22 (.slice A 0 c) none (some (.int .i64 0)) none).run Try.prog W = .ok (.slice A3 n3 c3) W := hs3
              clear hs2 hs3 hy
              go_wp2))
            rotate_left
            (focus (
              have hmp : (0 : Int) < (m : Int) := by omega
              have hrem : (z : Int) % (m : Int) = (y : Int) := by rw [hy, if_neg hm0]; exact (Int.natCast_emod z m).symm
              clear hy
              go_wp2))
            all_goals (
              refine wp_region_ord [0, 1, 2, 4, 5, 6, 3, 7, 8] [3, 7] 9 (fun _ => True) (by kernel_rfl) (by kernel_rfl) (by kernel_rfl) (by kernel_rfl) (fun _ _ _ _ _ h => h) trivial ?_
              simp only [steps, List.getElem?_cons_zero, List.getElem?_cons_succ]
              repeat (first
                | (refine ord_no rfl ?_; simp only [Act.put, List.setIfInBounds_toArray, List.set_cons_zero, List.set_cons_succ])
                | (refine ord_yes (v := ?_) rfl rfl ?_ ?_; rotate_left; (focus (rintro w' _; go_simp; try with_reducible rfl)); simp only [Act.put, List.setIfInBounds_toArray, List.set_cons_zero, List.set_cons_succ]))
              refine ord_hard rfl rfl (fun K hK => ?_)
              refine wp_append_rd _ (.const (.slice none 0 0)) (.tmp 90) 22 rfl wr.heap.size 9 i0 (.string ByteArray.empty) 16 Try.underlying22 hi0 hz0 hz1 hz2 rfl txt_one (.slice none 0 0) 0 [] rfl (World.ownsRow_nil _ _ _ _) w.heap.size A2 n2 c2 _ rfl (r2.keep fun _ _ => rfl) (by unfold maxLen; omega) (by omega) (Nat.le_refl _) ?_
              intro A4 n4 c4 w4 hk4 own4 hg4 ha4
              have e4 : Below wr.heap.size wr w4 := ((Below.refl _ wr).drew).grown hg4 (Nat.le_refl _) (by simp [Value.ownBlock])
              refine hK.out _ _ (fun _ => trivial) ?_
              clear hK K
              simp only [Act.put, List.setIfInBounds_toArray, List.set_cons_zero, List.set_cons_succ]
              refine ord_hard rfl rfl (fun K hK => ?_)
              refine wp_append_rd _ (.tmp 91) (.tmp 94) 22 rfl wr.heap.size 9 i0 (.string ByteArray.empty) 16 Try.underlying22 hi0 hz0 hz1 hz2 rfl txt_one (.slice A4 n4 c4) n4 _ rfl own4 w.heap.size A3 n3 c3 _ rfl (r3.below (e4.mono bw.size)) (by have := hk4.out; unfold maxLen; omega) (by have := hk4.out; omega) e4.size ?_
              intro A5 n5 c5 w5 hk5 own5 hg5 _
              have e5 : Below wr.heap.size wr w5 := e4.grown hg5 e4.size ha4
              refine hK.out _ _ (fun _ => trivial) ?_
              clear hK K
              rw [List.nil_append] at own5
              have hn5 : n5 ≤ 150 := by have := hk4.out; have := hk5.out; omega
              have r5 := Rd.of_own own5
              have hl5 := r5.len
              have rx5 := rx.at_size (Nat.le_refl _) e5
              have b5 := Below.then bw e5
              clear own5 own4 hg5 hg4 ha4 e4 e5 hk4 hk5 r2 r3 rx hr bw
              simp only [Act.put, List.setIfInBounds_toArray, List.set_cons_zero, List.set_cons_succ]
              refine ord_yes (v := ?_) rfl rfl ?_ ?_
              rotate_left
              (focus (rintro w' _; go_simp; try with_reducible rfl))
              simp only [Act.put, List.setIfInBounds_toArray, List.set_cons_zero, List.set_cons_succ]
              refine ord_end ?_
              go_wp2_with fail
              refine (alive_any _).mono ?_
              rintro e w6 ⟨rfl, b6⟩
              have r6 := r5.at_size (Nat.le_refl _) b6
              have rx6 := rx5.at_size (Nat.le_refl _) b6
              replace b6 := Below.then b5 b6
              clear b5 r5 rx5
              go_wp2_with fail
              refine (sort_any A1 n1 c1 xs _ rx6 (by have := HLx.out; omega)).mono ?_
              rintro e w7 ⟨A7, n7, c7, rfl, f7⟩
              rw [su_eq hup fun _ => Iff.rfl] at f7
              have r7 := r6.at_size (Nat.le_refl _) f7.bel
              have rx7 := rx6.at_size (Nat.le_refl _) f7.bel
              have b7 := Below.then b6 f7.bel
              have q7 := f7.rd
              clear f7 b6 r6 rx6
              go_wp2_with fail
              refine (same_b _ _ _ _ _ _ _ _ xs _ q7 rx7).mono ?_
              rintro e w8 ⟨rfl, b8⟩
              have r8 := r7.at_size (Nat.le_refl _) b8
              have rx8 := rx7.at_size (Nat.le_refl _) b8
              replace b8 := Below.then b7 b8
              clear b7 r7 rx7 q7
              go_wp2_with fail
              refine (sort_any A5 n5 c5 _ _ r8 (by omega)).mono ?_
              rintro e w9 ⟨A9, n9, c9, rfl, f9⟩
              rw [su_eq hup HP.out] at f9
              have rx9 := rx8.at_size (Nat.le_refl _) f9.bel
              have b9 := Below.then b8 f9.bel
              have q9 := f9.rd
              clear f9 b8 r8 rx8
              go_wp2_with fail
              refine (same_b _ _ _ _ _ _ _ _ xs _ q9 rx9).mono ?_
              rintro e w10 ⟨rfl, b10⟩
              go_wp2_with fail
              go_ret
              exact ⟨rfl, Below.then b9 b10⟩)

theorem u8_nat {a : Int} (h : (Lit.int .u8 a).wf = true) : ∃ x : Nat, a = (x : Int) ∧ x < 256 := by
  have hb : IntKind.u8.min ≤ a ∧ a ≤ IntKind.u8.max := by simpa [Lit.wf] using h
  have e1 : IntKind.u8.min = 0 := by decide
  have e2 : IntKind.u8.max = 255 := by decide
  rw [e1, e2] at hb
  exact ⟨a.toNat, by omega, by omega⟩

theorem lifted (os : Os) (started : os.Started) (H : Type) (enc : TypeId × Value → H) :
    ReturnsInHanded {} Try.checked os 3 .any (Rows.textsSortSpec.pre6 enc Try.prog Try.f3 Rows.textsSortRow.domain false) (Rows.textsSortSpec.post enc Try.prog Try.f3 false true false false) := by
  refine returnsInHanded_of_change (C := Try.checked) own started (by kernel_rfl) Try.func3
    (ChangeSpec.witness6 (enc := enc) (C := Try.checked) false ⟨#[], #[.slice none 0 0, .int .u8 0], []⟩ 8 (by kernel_rfl) (by kernel_rfl) (by kernel_rfl) (by kernel_rfl)) ?_
  intro W base args ds gs before hval0 hW hcnd _
  have hval : ∀ (j : Nat) t v, Try.f3.params[j]? = some t → args[j]? = some v → Value.okWide Try.prog W .any base t v := hval0
  have hW' := hW
  obtain ⟨p, q, hA0, hV, rfl, hfz, hnd⟩ := hW
  have hA : DataW.TrodAll enc Try.prog W 0 (fun _ => true) true Try.f3.params.toList args.toList ds p := hA0
  rw [Try.params3] at hA hval
  obtain ⟨v0, vs0, d0, ds0, p0, q0, hargs, rfl, rfl, h0, r0⟩ := trodAll_cons hA
  obtain ⟨v1, vs1, d1, ds1, p1, q1, rfl, rfl, rfl, h1, r1⟩ := trodAll_cons r0
  obtain ⟨rfl, rfl, rfl⟩ := trodAll_nil r1
  obtain rfl : args = #[v0, v1] := by cases args; simp_all
  obtain ⟨rfl, rfl⟩ := trodVars_none hV
  obtain ⟨A0, n0, c0, rfl⟩ := okWide_slice Try.underlying22 (hval 0 22 v0 rfl rfl)
  have lt0 : ∀ x ∈ p0, x.block < W.heap.size := by obtain ⟨m, hm⟩ := h0; exact DataW.trod_lt m _ _ _ hm
  obtain ⟨l0, hr0, _⟩ := opened_texts Try.underlying22 Try.underlying9 (by kernel_rfl) h0
  obtain ⟨a1, rfl, rfl, rfl, w1⟩ := open_int Try.underlying5 (hval 1 5 v1 rfl rfl) h1
  clear hA0 hval0
  obtain ⟨x1, hx1, lx1⟩ := u8_nat w1
  subst hx1
  refine (walk x1 A0 n0 c0 l0 W lx1 hr0).mono fun e W' ⟨he, bel⟩ => ?_
  subst he
  exact ⟨_, rfl, _, _, _, [], _, [], hW', trodAll_mk1 (shut_bool Try.underlying4 _), (trodAll_cons_mk (Below.trod laidOut (by kernel_rfl) (of_decide_eq_true (by kernel_rfl)) h0 bel lt0) (trodAll_cons_mk (shut_int Try.underlying5 w1) trodAll_mk0)), rfl, bel.frame _, fun h => by cases h⟩

theorem over : Rows.textsSortRow.holds Try.pinned (OpenSpec.ofChange Rows.textsSortSpec) :=
  OpenClaim.holds_of_wide 3 Try.f3 rfl rfl rfl rfl rfl rfl rfl ⟨rfl, rfl, rfl, rfl, rfl⟩ rfl rfl rfl rfl rfl (by kernel_rfl) Try.func3 (by kernel_rfl)
    (of_decide_eq_true (by kernel_rfl)) (by unfold Func.isWrapper; first | (rw [if_pos (by decide +kernel)]; kernel_rfl) | (rw [if_neg (by decide +kernel)]; exact ⟨rfl, rfl⟩))
    (fun os started H enc _ => lifted os started H enc)

theorem proved : Rows.TextsSortSaid := over
#print axioms proved

end Go.Proofs.Ytkjeejaecagbaaa.textsSort
