/- Proved: whatever the texts, and whichever one, TextsFind answers true: in texts that rise all those ahead of one stand ahead of where it is found, and none behind; put there, if it is not there, they rise. No condition. -/
import Derived.Test.YtkjeejaecagbaaaAlive
import Derived.Test.YtkjeejaecagbaaaOpen
import Derived.Test.YtkjeejaecagbaaaFork
import Derived.Test.YtkjeejaecagbaaaRows
import Derived.RegionTactic
import Derived.BigRegion
namespace Go.Proofs.Ytkjeejaecagbaaa.textsFind
open Go.ChangeShapes Go.WideShapes Go.ChangeAt Go.RowKit
open Go.ChangeMaps (open_string shut_string)

theorem own : ownKnob Try.prog.godebug = none := by kernel_rfl
theorem laidOut : laidOutB Try.prog = true := by kernel_rfl
theorem text_size (w : World) : (Go.sizeOf 9).run Try.prog w = .ok 1 w := by kernel_rfl

/-- Put where it is found, they rise just if it was not there. -/
theorem rises_put {xs : List (List UInt8)} (h : Up xs) (s : List UInt8) : rises (xs.take (fd xs s) ++ [s] ++ xs.drop (fd xs s)) = !(isAt xs s) := by
  cases hs : isAt xs s with
  | true =>
    rw [Bool.not_true, Bool.eq_false_iff]
    intro hr
    have hu := rises_iff.1 hr
    have hat : xs[fd xs s]? = some s := by simpa [isAt] using hs
    have hlt : fd xs s < xs.length := (List.getElem?_eq_some_iff.1 hat).1
    have hmem : s ∈ xs.drop (fd xs s) := by
      rw [List.drop_eq_getElem_cons hlt]
      have : xs[fd xs s] = s := by rw [List.getElem?_eq_getElem hlt] at hat; exact Option.some.inj hat
      rw [this]
      exact List.mem_cons_self
    exact lt_irrefl' s ((List.pairwise_append.1 hu).2.2 s (List.mem_append.2 (.inr List.mem_cons_self)) s hmem)
  | false =>
    rw [Bool.not_false, rises_iff]
    have hno : s ∉ xs := by
      rw [isAt_mem h] at hs
      simpa using hs
    have hpa := h
    rw [← List.take_append_drop (fd xs s) xs] at hpa
    obtain ⟨h1, h2, h3⟩ := List.pairwise_append.1 hpa
    have ht : ∀ x ∈ xs.take (fd xs s), x < s := by
      intro x hx
      obtain ⟨j, hj, rfl⟩ := List.mem_iff_getElem.1 hx
      rw [List.length_take] at hj
      rw [List.getElem_take]
      exact (fd_up h s j (by omega)).2 (by omega)
    have hd : ∀ x ∈ xs.drop (fd xs s), s < x := by
      intro x hx
      obtain ⟨j, hj, rfl⟩ := List.mem_iff_getElem.1 hx
      rw [List.length_drop] at hj
      rw [List.getElem_drop]
      have hnl : ¬ xs[fd xs s + j] < s := fun h' => by
        have := (fd_up h s (fd xs s + j) (by omega)).1 h'
        omega
      rcases lt_or (a := xs[fd xs s + j]) (b := s) with h' | h' | h'
      · exact absurd h' hnl
      · exact absurd (by rw [← h']; exact List.getElem_mem _) hno
      · exact h'
    refine List.pairwise_append.2 ⟨List.pairwise_append.2 ⟨h1, by simp, fun x hx y hy => ?_⟩, h2, fun x hx y hy => ?_⟩
    · obtain rfl : y = s := by simpa using hy
      exact ht x hx
    · rcases List.mem_append.1 hx with hx | hx
      · exact h3 x hx y hy
      · obtain rfl : x = s := by simpa using hx
        exact hd y hy

theorem hard_end {P : Program} {o : Oper} {a : Act} {w : World} {Q : Exit → Act → World → Prop} {R : Act → World → Prop} (h : ∀ K : Act → World → Prop, Shut (∀ a' w', R a' w' → K a' w') → Oper.wp P o a w K Q) : Oper.wp P o a w R Q := h _ (fun _ _ h => h)

set_option maxRecDepth 100000 in
set_option maxHeartbeats 2000000 in
theorem walk (A : Option Addr) (m c : Nat) (ss : List (List UInt8)) (s : List UInt8) (w : World) (hs0 : s.length ≤ 9223372036854775807) (hl : Rd txt w w.heap.size A m c ss) :
    Calls Try.prog 4 #[.slice A m c, .string (str s)] w fun e w' => e = .returned (.bool true) ∧ Below w.heap.size w w' := by
  obtain ⟨i0, hi0, hz0, hz1, hz2⟩ := info_parts text_info
  have HL := Lib.hid hl.len
  have hsz := str_size s
  generalize hsl : s.length = sl at *
  clear hsl
  go_enter Try.func4, Try.ntmps4
  go_wp2_with fail
  refine (great_any _ A m c ss w hl).mono ?_
  rintro e w1 ⟨b, rfl, rfl, hm⟩
  cases b with
  | true =>
    go_wp2_with fail
    refine (alive_any _).mono ?_
    rintro e w2 ⟨rfl, b2⟩
    go_wp2_with fail
    go_ret
    exact ⟨rfl, b2⟩
  | false =>
    replace hm := hm rfl
    by_cases hgr : 20000 < sl
    · have hgr' : (20000 : Int) < (sl : Int) := by omega
      go_wp2_with fail
      refine (alive_any _).mono ?_
      rintro e w2 ⟨rfl, b2⟩
      go_wp2_with fail
      go_ret
      exact ⟨rfl, b2⟩
    have hgr' : ¬ (20000 : Int) < (sl : Int) := by omega
    go_wp2_with fail
    refine (sort_any A m c ss w hl (by have := HL.out; omega)).mono ?_
    rintro e w1 ⟨A1, n1, c1, rfl, f1⟩
    have r1 := f1.rd
    have b1 := f1.bel
    have hn1 : n1 ≤ 150 := by have := su_length_le ss; have := f1.len; have := HL.out; omega
    have hup := su_up ss
    clear f1
    have hmem := Lib.hid (su_mem ss)
    generalize su ss = xs at *
    have HLx := Lib.hid r1.len
    have HFU := Lib.hid (fd_up hup s)
    have HRP := Lib.hid (rises_put hup s)
    have HIA := Lib.hid (isAt_mem hup s)
    have hfl : fd xs s ≤ n1 := by have := fd_le xs s; have := HLx.out; omega
    have HFN := Lib.hid (find_any A1 n1 c1 xs s w1 r1)
    generalize fd xs s = y at *
    generalize isAt xs s = d at *
    go_wp2_with fail
    refine HFN.out.mono ?_
    clear HFN
    rintro e wr ⟨rfl, b2⟩
    have hr : Rd txt wr w.heap.size A m c ss := hl.below (b1.trans (b2.mono b1.size))
    have rx := r1.at_size (Nat.le_refl _) b2
    have bw : Below w.heap.size w wr := Below.then b1 b2
    clear b2 hl r1 b1
    have h0 : ¬ (y : Int) < 0 := by omega
    have h1 : ¬ (n1 : Int) < (y : Int) := by omega
    go_wp2_with fail
    go_loop [8] (fun i8 => ∃ k : Nat, i8 = .int .i64 (k : Int) ∧ k ≤ n1) (fun i8 => n1 - (intOf i8).toNat)
    case atStart => exact ⟨0, rfl, Nat.zero_le _⟩
    case round =>
      obtain ⟨k, rfl, hk⟩ := hrel
      by_cases hlt : k < n1
      · have hk' : k < xs.length := by rw [HLx.out]; exact hlt
        obtain ⟨b, o, rfl, hb, hc⟩ := rx.spot (by omega)
        have hck : wr.cell? ⟨b, o + k, none⟩ = some (.string (str xs[k])) := hc k hk'
        have hls := less_str xs[k] s
        have hdd : decide (xs[k] < s) = decide ((k : Int) < (y : Int)) := by
          have := HFU.out k hk'
          by_cases h : k < y
          · rw [decide_eq_true (this.2 h), decide_eq_true (by omega)]
          · rw [decide_eq_false (fun h' => h (this.1 h')), decide_eq_false (by omega)]
        rw [hdd] at hls
        clear hdd hc
        generalize str xs[k] = q at *
        have hltn : (k : Int) < (n1 : Int) := by omega
        by_cases hky : (k : Int) < (y : Int)
        all_goals (
          first | rw [decide_eq_true hky] at hls | rw [decide_eq_false hky] at hls
          go_wp2
          go_round
          case rel => exact ⟨k + 1, by go_num, by omega⟩
          case measure => simp [intOf]; omega)
      · have hltn : ¬ (k : Int) < (n1 : Int) := by omega
        obtain ⟨A2, n2, c2, hs2, r2⟩ := rd_slice_h (P := Try.prog) 22 9 Try.underlying22 text_size rx (y : Int) (by omega) (by omega)
        obtain ⟨A3, n3, c3, hs3, r3⟩ := rd_slice_l (P := Try.prog) 22 9 Try.underlying22 text_size rx (y : Int) (by omega) (by omega)
        have hl2 := r2.len
        have hl3 := r3.len
        rw [List.length_take, HLx.out] at hl2
        rw [List.length_drop, HLx.out] at hl3
        rw [Int.toNat_natCast] at r2 r3
        go_wp2
        refine wp_region_fork [0, 1, 2, 4, 7, 8, 9] 3 5 _ _ [5, 6, 10, 11] [3, 6, 10, 11] [3, 5, 6, 10] 12 (fun _ => True) (by kernel_rfl) (by kernel_rfl) rfl rfl rfl rfl (by kernel_rfl) (by kernel_rfl) (by kernel_rfl) (by kernel_rfl) (by kernel_rfl) (by kernel_rfl) (fun _ _ _ _ _ h => h) trivial ?_
        simp only [steps, List.getElem?_cons_zero, List.getElem?_cons_succ]
        repeat (
          refine soft_yes (v := ?_) rfl ?_ ?_
          rotate_left
          (focus (rintro w' _; go_simp; try with_reducible rfl))
          simp only [Act.put, List.setIfInBounds_toArray, List.set_cons_zero, List.set_cons_succ])
        refine soft_end ⟨?_, ?_⟩
        (focus (
          refine wp_append_rd _ (.const (.slice none 0 0)) (.tmp 52) 22 rfl wr.heap.size 9 i0 (.string ByteArray.empty) 16 Try.underlying22 hi0 hz0 hz1 hz2 rfl txt_one (.slice none 0 0) 0 [] rfl (World.ownsRow_nil _ _ _ _) _ A2 n2 c2 _ rfl (r2.keep fun _ _ => rfl) (by unfold maxLen; omega) (by omega) (Nat.le_refl _) ?_
          intro A4 n4 c4 w4 hk4 own4 hg4 ha4
          have e4 : Below wr.heap.size wr w4 := ((Below.refl _ wr).drew).grown hg4 (Nat.le_refl _) (by simp [Value.ownBlock])
          clear hg4
          refine ⟨trivial, ?_⟩
          simp only [Act.put, List.setIfInBounds_toArray, List.set_cons_zero, List.set_cons_succ]
          refine ord_hard rfl rfl (fun K hK => ?_)
          go_simp
          refine hK.out _ _ (fun _ => trivial) ?_
          clear hK K
          have o1 : Rd txt (w4.alloc (.cells #[.string (str s)] 9)) _ _ 1 1 [s] := Rd.new w4 #[.string (str s)] 9 1 [s] rfl rfl (by decide)
          have e5 : Below wr.heap.size wr (w4.alloc (.cells #[.string (str s)] 9)) := e4.alloc e4.size _
          have own5 := own4.alloc (.cells #[.string (str s)] 9)
          clear e4 own4
          generalize w4.alloc (.cells #[.string (str s)] 9) = w5 at *))
        rotate_left
        (focus (
          refine hard_end (fun K hK => ?_)
          go_simp
          refine hK.out _ _ ⟨trivial, ?_⟩
          clear hK K
          have o0 : Rd txt (wr.alloc (.cells #[.string (str s)] 9)).drew (wr.alloc (.cells #[.string (str s)] 9)).drew.heap.size (some ⟨wr.heap.size, 0, none⟩) 1 1 [s] := (Rd.new wr #[.string (str s)] 9 1 [s] rfl rfl (by decide)).keep fun _ _ => rfl
          have e0 : Below wr.heap.size wr (wr.alloc (.cells #[.string (str s)] 9)).drew := ((Below.refl _ wr).alloc (Nat.le_refl _) _).drew
          generalize (wr.alloc (.cells #[.string (str s)] 9)).drew = w4 at *
          try simp only [Act.put, List.setIfInBounds_toArray, List.set_cons_zero, List.set_cons_succ]
          refine ord_hard rfl rfl (fun K hK => ?_)
          refine wp_append_rd _ (.const (.slice none 0 0)) (.tmp 52) 22 rfl wr.heap.size 9 i0 (.string ByteArray.empty) 16 Try.underlying22 hi0 hz0 hz1 hz2 rfl txt_one (.slice none 0 0) 0 [] rfl (World.ownsRow_nil _ _ _ _) _ A2 n2 c2 _ rfl (r2.below e0) (by unfold maxLen; omega) (by omega) e0.size ?_
          intro A4 n4 c4 w5 hk4 own5 hg4 ha4
          have e5 : Below wr.heap.size wr w5 := e0.grown hg4 e0.size (by simp [Value.ownBlock])
          have o1 := o0.at_size (Nat.le_refl _) ((Below.refl _ w4).grown hg4 (Nat.le_refl _) (by simp [Value.ownBlock]))
          refine hK.out _ _ (fun _ => trivial) ?_
          clear hK K hg4 e0 o0))
        all_goals (
          try simp only [Act.put, List.setIfInBounds_toArray, List.set_cons_zero, List.set_cons_succ]
          refine ord_hard rfl rfl (fun K hK => ?_)
          refine wp_append_rd _ (.tmp 53) (.tmp 55) 22 rfl wr.heap.size 9 i0 (.string ByteArray.empty) 16 Try.underlying22 hi0 hz0 hz1 hz2 rfl txt_one (.slice A4 n4 c4) n4 _ rfl own5 _ _ 1 1 _ rfl o1 (by have := hk4.out; unfold maxLen; omega) (by have := hk4.out; omega) e5.size ?_
          intro A6 n6 c6 w6 hk6 own6 hg6 ha6
          have e6 : Below wr.heap.size wr w6 := e5.grown hg6 e5.size ha4
          refine hK.out _ _ (fun _ => trivial) ?_
          clear hK K hg6 ha4 o1 own5 e5
          simp only [Act.put, List.setIfInBounds_toArray, List.set_cons_zero, List.set_cons_succ]
          refine ord_hard rfl rfl (fun K hK => ?_)
          refine wp_append_rd _ (.tmp 56) (.tmp 59) 22 rfl wr.heap.size 9 i0 (.string ByteArray.empty) 16 Try.underlying22 hi0 hz0 hz1 hz2 rfl txt_one (.slice A6 n6 c6) n6 _ rfl own6 _ A3 n3 c3 _ rfl (r3.below e6) (by have := hk4.out; have := hk6.out; unfold maxLen; omega) (by have := hk4.out; have := hk6.out; omega) e6.size ?_
          intro A7 n7 c7 w7 hk7 own7 hg7 _
          have e7 : Below wr.heap.size wr w7 := e6.grown hg7 e6.size ha6
          refine hK.out _ _ (fun _ => trivial) ?_
          rw [List.nil_append] at own7
          have r7 := Rd.of_own own7
          have b7 := Below.then bw e7
          have hr7 := hr.below (e7.mono bw.size)
          clear hK K hg7 ha6 own6 own7 e6 e7 hk4 hk6 hk7 r2 r3 rx
          simp only [Act.put, List.setIfInBounds_toArray, List.set_cons_zero, List.set_cons_succ]
          refine ord_yes (v := ?_) rfl rfl ?_ ?_
          rotate_left
          (focus (rintro w' _; go_simp; try with_reducible rfl))
          simp only [Act.put, List.setIfInBounds_toArray, List.set_cons_zero, List.set_cons_succ]
          refine ord_end ?_
          go_wp2_with fail
          refine (alive_any _).mono ?_
          rintro e w8 ⟨rfl, b8⟩
          have r8 := r7.at_size (Nat.le_refl _) b8
          have hr8 := hr7.below (b8.mono b7.size)
          replace b8 := Below.then b7 b8
          clear b7 r7 hr7
          go_wp2_with fail
          refine (has_any _ A m c ss s _ hr8).mono ?_
          rintro e w9 ⟨he, rfl⟩
          have hd : decide (s ∈ ss) = d := by
            rw [HIA.out]
            by_cases h : s ∈ ss
            · rw [decide_eq_true h, decide_eq_true ((hmem.out s).2 h)]
            · rw [decide_eq_false h, decide_eq_false (fun h' => h ((hmem.out s).1 h'))]
          rw [hd] at he
          subst he
          clear HIA hd
          cases d
          all_goals (
            go_wp2_with fail
            refine (rises_now A7 n7 c7 _ _ _ r8 HRP.out).mono ?_
            rintro e w10 ⟨rfl, b10⟩
            go_wp2_with fail
            go_ret
            exact ⟨rfl, Below.then b8 b10⟩))

theorem lifted (os : Os) (started : os.Started) (H : Type) (enc : TypeId × Value → H) :
    ReturnsInHanded {} Try.checked os 4 .any (Rows.textsFindSpec.pre6 enc Try.prog Try.f4 Rows.textsFindRow.domain false) (Rows.textsFindSpec.post enc Try.prog Try.f4 false true false false) := by
  refine returnsInHanded_of_change (C := Try.checked) own started (by kernel_rfl) Try.func4
    (ChangeSpec.witness6 (enc := enc) (C := Try.checked) false ⟨#[], #[.slice none 0 0, .string ⟨#[]⟩], []⟩ 8 (by kernel_rfl) (by kernel_rfl) (by kernel_rfl) (by kernel_rfl)) ?_
  intro W base args ds gs before hval0 hW hcnd _
  have hval : ∀ (j : Nat) t v, Try.f4.params[j]? = some t → args[j]? = some v → Value.okWide Try.prog W .any base t v := hval0
  have hW' := hW
  obtain ⟨p, q, hA0, hV, rfl, hfz, hnd⟩ := hW
  have hA : DataW.TrodAll enc Try.prog W 0 (fun _ => true) true Try.f4.params.toList args.toList ds p := hA0
  rw [Try.params4] at hA hval
  obtain ⟨v0, vs0, d0, ds0, p0, q0, hargs, rfl, rfl, h0, r0⟩ := trodAll_cons hA
  obtain ⟨v1, vs1, d1, ds1, p1, q1, rfl, rfl, rfl, h1, r1⟩ := trodAll_cons r0
  obtain ⟨rfl, rfl, rfl⟩ := trodAll_nil r1
  obtain rfl : args = #[v0, v1] := by cases args; simp_all
  obtain ⟨rfl, rfl⟩ := trodVars_none hV
  obtain ⟨A0, n0, c0, rfl⟩ := okWide_slice Try.underlying22 (hval 0 22 v0 rfl rfl)
  have lt0 : ∀ x ∈ p0, x.block < W.heap.size := by obtain ⟨m, hm⟩ := h0; exact DataW.trod_lt m _ _ _ hm
  obtain ⟨l0, hr0, _⟩ := opened_texts Try.underlying22 Try.underlying9 (by kernel_rfl) h0
  obtain ⟨s1, rfl, rfl, rfl, w1⟩ := open_string Try.underlying9 (hval 1 9 v1 rfl rfl) h1
  clear hA0 hval0
  have hwk := walk A0 n0 c0 l0 s1.data.toList W (by unfold maxLen at w1; rw [Array.length_toList]; exact w1) hr0
  rw [str_of] at hwk
  refine hwk.mono fun e W' ⟨he, bel⟩ => ?_
  subst he
  exact ⟨_, rfl, _, _, _, [], _, [], hW', trodAll_mk1 (shut_bool Try.underlying4 _), (trodAll_cons_mk (Below.trod laidOut (by kernel_rfl) (of_decide_eq_true (by kernel_rfl)) h0 bel lt0) (trodAll_cons_mk (shut_string Try.underlying9 w1) trodAll_mk0)), rfl, bel.frame _, fun h => by cases h⟩

theorem over : Rows.textsFindRow.holds Try.pinned (OpenSpec.ofChange Rows.textsFindSpec) :=
  OpenClaim.holds_of_wide 4 Try.f4 rfl rfl rfl rfl rfl rfl rfl ⟨rfl, rfl, rfl, rfl, rfl⟩ rfl rfl rfl rfl rfl (by kernel_rfl) Try.func4 (by kernel_rfl)
    (of_decide_eq_true (by kernel_rfl)) (by unfold Func.isWrapper; first | (rw [if_pos (by decide +kernel)]; kernel_rfl) | (rw [if_neg (by decide +kernel)]; exact ⟨rfl, rfl⟩))
    (fun os started H enc _ => lifted os started H enc)

theorem proved : Rows.TextsFindSaid := over
#print axioms proved

end Go.Proofs.Ytkjeejaecagbaaa.textsFind
