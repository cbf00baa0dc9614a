/- What the document's Sort does: the texts, each once, rising, in new memory. Condition: the texts can be read, and are not many. -/
import Derived.Test.YtkjeejaecagbaaaGreatDoorRef
import Derived.Test.YtkjeejaecagbaaaGreatDoorFork
import Derived.RegionTactic
import Derived.BigRegion
namespace Go.Proofs.YtkjeejaecagbaaaGreatDoor
open Go.RowKit

/-- What was kept, behind more that is kept. -/
theorem Below.then {w w1 w2 : World} (h : Below w.heap.size w w1) (k : Below w1.heap.size w1 w2) : Below w.heap.size w w2 := h.trans (k.mono h.size)
theorem below_drewN (w : World) (q : Nat) : Below w.heap.size w (w.drewN q) := ⟨rfl, rfl, rfl, Nat.le_refl _, fun _ _ => rfl⟩

theorem text_siz (w : World) : (Go.sizeOf 9).run Tryz.prog w = .ok 1 w := by kernel_rfl

theorem fd_up {l : List (List UInt8)} (h : Up l) (s : List UInt8) (j : Nat) (hj : j < l.length) : l[j] < s ↔ j < fd l s := by
  have key : ∀ (l : List (List UInt8)), Up l → ∀ j (hj : j < l.length), l[j] < s ↔ j < fd l s := by
    intro l
    induction l with
    | nil => intro _ j hj; simp at hj
    | cons a l ih =>
      intro h j hj
      obtain ⟨h1, h2⟩ := List.pairwise_cons.1 h
      by_cases ha : a < s
      · have hf : fd (a :: l) s = fd l s + 1 := by simp [fd, ha]
        rw [hf]
        cases j with
        | zero => simp [ha]
        | succ j =>
          have := ih h2 j (by simpa using hj)
          simp only [List.getElem_cons_succ]
          rw [this]
          omega
      · have hf : fd (a :: l) s = 0 := by simp [fd, ha]
        rw [hf]
        constructor
        · intro hx
          cases j with
          | zero => exact absurd hx ha
          | succ j =>
            simp only [List.getElem_cons_succ] at hx
            exact absurd (lt_trans' (h1 _ (List.getElem_mem _)) hx) ha
        · intro hx
          omega
  exact key l h j hj

theorem fd_at {l : List (List UInt8)} (h : Up l) (k : Nat) (hk : k < l.length) : fd l l[k] = k ∧ isAt l l[k] = true := by
  have e : fd l l[k] = k := by
    refine fd_eq (Nat.le_of_lt hk) (fun j hj hjk => ?_) (fun _ => lt_irrefl' _)
    exact List.pairwise_iff_getElem.1 h j k hj hk hjk
  refine ⟨e, ?_⟩
  simp [isAt, e, hk]

theorem isAt_mem {l : List (List UInt8)} (h : Up l) (s : List UInt8) : isAt l s = decide (s ∈ l) := by
  by_cases hs : s ∈ l
  · obtain ⟨k, hk, rfl⟩ := List.mem_iff_getElem.1 hs
    rw [(fd_at h k hk).2, decide_eq_true hs]
  · rw [decide_eq_false hs]
    simp only [isAt, decide_eq_false_iff_not]
    intro h'
    exact hs (List.mem_of_getElem? h')

/-- Put where it is found, they rise just if it was not there. -/
theorem rises_put {xs : List (List UInt8)} (h : Up xs) (s : List UInt8) : rises (xs.take (fd xs s) ++ [s] ++ xs.drop (fd xs s)) = !(isAt xs s) := by
  cases hs : isAt xs s with
  | true =>
    rw [Bool.not_true, Bool.eq_false_iff]
    intro hr
    have hu := rises_iff.1 hr
    have hat : xs[fd xs s]? = some s := by simpa [isAt] using hs
    have hlt : fd xs s < xs.length := (List.getElem?_eq_some_iff.1 hat).1
    have hmem : s ∈ xs.drop (fd xs s) := by
      rw [List.drop_eq_getElem_cons hlt]
      have : xs[fd xs s] = s := by rw [List.getElem?_eq_getElem hlt] at hat; exact Option.some.inj hat
      rw [this]
      exact List.mem_cons_self
    exact lt_irrefl' s ((List.pairwise_append.1 hu).2.2 s (List.mem_append.2 (.inr List.mem_cons_self)) s hmem)
  | false =>
    rw [Bool.not_false, rises_iff]
    have hno : s ∉ xs := by
      rw [isAt_mem h] at hs
      simpa using hs
    have hpa := h
    rw [← List.take_append_drop (fd xs s) xs] at hpa
    obtain ⟨h1, h2, h3⟩ := List.pairwise_append.1 hpa
    have ht : ∀ x ∈ xs.take (fd xs s), x < s := by
      intro x hx
      obtain ⟨j, hj, rfl⟩ := List.mem_iff_getElem.1 hx
      rw [List.length_take] at hj
      rw [List.getElem_take]
      exact (fd_up h s j (by omega)).2 (by omega)
    have hd : ∀ x ∈ xs.drop (fd xs s), s < x := by
      intro x hx
      obtain ⟨j, hj, rfl⟩ := List.mem_iff_getElem.1 hx
      rw [List.length_drop] at hj
      rw [List.getElem_drop]
      have hnl : ¬ xs[fd xs s + j] < s := fun h' => by
        have := (fd_up h s (fd xs s + j) (by omega)).1 h'
        omega
      rcases lt_or (a := xs[fd xs s + j]) (b := s) with h' | h' | h'
      · exact absurd h' hnl
      · exact absurd (by rw [← h']; exact List.getElem_mem _) hno
      · exact h'
    refine List.pairwise_append.2 ⟨List.pairwise_append.2 ⟨h1, by simp, fun x hx y hy => ?_⟩, h2, fun x hx y hy => ?_⟩
    · obtain rfl : y = s := by simpa using hy
      exact ht x hx
    · rcases List.mem_append.1 hx with hx | hx
      · exact h3 x hx y hy
      · obtain rfl : x = s := by simpa using hx
        exact hd y hy

theorem hard_end {P : Program} {o : Oper} {a : Act} {w : World} {Q : Exit → Act → World → Prop} {R : Act → World → Prop} (h : ∀ K : Act → World → Prop, Shut (∀ a' w', R a' w' → K a' w') → Oper.wp P o a w K Q) : Oper.wp P o a w R Q := h _ (fun _ _ h => h)


theorem su_snoc_in {l : List (List UInt8)} {s : List UInt8} (h : isAt (su l) s = true) : su (l ++ [s]) = su l := by
  rw [isAt_mem (su_up l), decide_eq_true_eq] at h
  refine su_eq (su_up l) fun x => ?_
  rw [List.mem_append, su_mem]
  constructor
  · rintro (h' | h')
    · exact h'
    · obtain rfl := List.mem_singleton.1 h'
      exact (su_mem l x).1 h
  · exact .inl

theorem su_snoc_out {l : List (List UInt8)} {s : List UInt8} (h : isAt (su l) s = false) : su (l ++ [s]) = (su l).take (fd (su l) s) ++ [s] ++ (su l).drop (fd (su l) s) := by
  refine su_eq (rises_iff.1 (by rw [rises_put (su_up l), h]; rfl)) fun x => ?_
  rw [List.mem_append, List.mem_append, List.mem_append, ← su_mem l x]
  conv => lhs; lhs; rw [← List.take_append_drop (fd (su l) s) (su l), List.mem_append]
  constructor
  · rintro ((h1 | h1) | h1)
    · exact .inl (.inl h1)
    · exact .inr h1
    · exact .inl (.inr h1)
  · rintro ((h1 | h1) | h1)
    · exact .inl (.inl h1)
    · exact .inr h1
    · exact .inl (.inr h1)

def PRel (ss : List (List UInt8)) (w : World) (v3 i4 : Value) (wr : World) : Prop :=
  ∃ (k : Nat) (A : Option Addr) (n c : Nat), i4 = .int .i64 (k : Int) ∧ k ≤ ss.length ∧ v3 = .slice A n c ∧ wr.ownsRow w.heap.size 9 1 (.slice A n c) n ((su (ss.take k)).map txt) ∧ Below w.heap.size w wr

theorem su_nil : su [] = [] := su_eq (by simp) (by simp)

set_option maxRecDepth 100000 in
set_option maxHeartbeats 2000000 in
theorem refSort_any (A : Option Addr) (m c : Nat) (ss : List (List UInt8)) (w : World) (hl : Rd txt w w.heap.size A m c ss) (hm : m ≤ 1000) :
    Calls Tryz.prog 14 #[.slice A m c] w fun e w' => ∃ A' n' c', e = .returned (.slice A' n' c') ∧ Fresh txt 9 w w' A' n' c' (su ss) := by
  obtain ⟨i0, hi0, hz0, hz1, hz2⟩ := info_parts text_info
  have HL := Lib.hid hl.len
  go_enter Tryz.func14, Tryz.ntmps14
  go_wp2
  go_loopw [3, 4] (fun v3 i4 wr => PRel ss w v3 i4 wr) (fun _ i4 _ => m - (intOf i4).toNat)
  case atStart => exact ⟨0, none, 0, 0, rfl, Nat.zero_le _, rfl, by rw [List.take_zero, su_nil]; exact World.ownsRow_nil _ _ _ _, Below.refl _ _⟩
  case round =>
    obtain ⟨k, A1, n1, c1, rfl, hk, rfl, own1, b1⟩ := hrel
    by_cases hlt : k < m
    · have hk' : k < ss.length := by rw [HL.out]; exact hlt
      obtain ⟨b, o, rfl, hb, hc⟩ := hl.spot (by omega)
      have hck : wr.cell? ⟨b, o + k, none⟩ = some (.string (str ss[k])) := (b1.cell (p := ⟨b, o + k, none⟩) hb).trans (hc k hk')
      have hlti : (k : Int) < (m : Int) := by omega
      have HT := Lib.hid (List.take_succ_eq_append_getElem hk')
      have rx := Rd.of_own own1
      have hn1 : n1 ≤ 1000 := by have := su_length_le (ss.take k); have := rx.len; rw [List.length_take] at *; omega
      have HLx := Lib.hid rx.len
      have HIN := Lib.hid (@su_snoc_in (ss.take k) ss[k])
      have HOUT := Lib.hid (@su_snoc_out (ss.take k) ss[k])
      have hfl : fd (su (ss.take k)) ss[k] ≤ n1 := by have := fd_le (su (ss.take k)) ss[k]; have := HLx.out; omega
      have HFN := Lib.hid (refFind_any _ A1 n1 c1 (su (ss.take k)) ss[k] wr rx)
      have HO1 := Lib.hid own1
      clear hc own1
      generalize hxs : su (ss.take k) = xs at *
      generalize ss[k] = s at *
      generalize fd xs s = y at *
      generalize isAt xs s = d at *
      go_wp2_with fail
      refine HFN.out.mono ?_
      clear HFN
      rintro e w2 ⟨rfl, q, rfl⟩
      cases d with
      | true =>
        have hin := HIN.out rfl
        go_wp2_with fail
        go_roundw
        case rel => exact ⟨k + 1, A1, n1, c1, by go_num, by omega, rfl, by rw [HT.out, hin]; exact own_keep HO1.out ⟨rfl, rfl, rfl, Nat.le_refl _, fun _ _ => rfl⟩, b1.trans ⟨rfl, rfl, rfl, Nat.le_refl _, fun _ _ => rfl⟩⟩
        case measure => simp [intOf]; omega
      | false =>
        have HOU := Lib.hid (HOUT.out rfl)
        clear HIN HOUT
        have hck2 : (wr.drewN q).cell? ⟨b, o + k, none⟩ = some (.string (str s)) := hck
        have rx2 : Rd txt (wr.drewN q) (wr.drewN q).heap.size A1 n1 c1 xs := rx.keep fun _ _ => rfl
        have b2 : Below w.heap.size w (wr.drewN q) := b1.trans ⟨rfl, rfl, rfl, Nat.le_refl _, fun _ _ => rfl⟩
        clear hck rx b1 HO1
        generalize wr.drewN q = wq at *
        obtain ⟨A2, n2, c2, hs2, r2⟩ := rd_slice_h (P := Tryz.prog) 22 9 Tryz.underlying22 text_siz rx2 (y : Int) (by omega) (by omega)
        obtain ⟨A3, n3, c3, hs3, r3⟩ := rd_slice_l (P := Tryz.prog) 22 9 Tryz.underlying22 text_siz rx2 (y : Int) (by omega) (by omega)
        have hl2 := r2.len
        have hl3 := r3.len
        rw [List.length_take, HLx.out] at hl2
        rw [List.length_drop, HLx.out] at hl3
        rw [Int.toNat_natCast] at r2 r3
        have hbq : b < wq.heap.size := Nat.lt_of_lt_of_le hb b2.size
        go_wp2_with fail
        refine wp_region_fork [0, 1, 2, 4, 5, 6, 7, 10, 11, 12] 3 8 _ _ [8, 9, 13, 14] [3, 9, 13, 14] [3, 8, 9, 13] 15 (fun w' => w'.cell? ⟨b, o + k, none⟩ = some (.string (str s))) (by kernel_rfl) (by kernel_rfl) rfl rfl rfl rfl (by kernel_rfl) (by kernel_rfl) (by kernel_rfl) (by kernel_rfl) (by kernel_rfl) (by kernel_rfl) (fun _ _ _ _ _ h => h) hck2 ?_
        simp only [steps, List.getElem?_cons_zero, List.getElem?_cons_succ]
        repeat (
          refine soft_yes (v := ?_) rfl ?_ ?_
          rotate_left
          (focus (rintro w' hS0; go_simp; try with_reducible rfl))
          simp only [Act.put, List.setIfInBounds_toArray, List.set_cons_zero, List.set_cons_succ])
        refine soft_end ⟨?_, ?_⟩
        (focus (
          refine wp_append_rd _ (.const (.slice none 0 0)) (.tmp 26) 22 rfl wq.heap.size 9 i0 (.string ByteArray.empty) 16 Tryz.underlying22 hi0 hz0 hz1 hz2 rfl txt_one (.slice none 0 0) 0 [] rfl (World.ownsRow_nil _ _ _ _) _ A2 n2 c2 _ rfl (r2.keep fun _ _ => rfl) (by unfold maxLen; omega) (by omega) (Nat.le_refl _) ?_
          intro A4 n4 c4 w4 hk4 own4 hg4 ha4
          have e4 : Below wq.heap.size wq w4 := ((Below.refl _ wq).drew).grown hg4 (Nat.le_refl _) (by simp [Value.ownBlock])
          clear hg4
          refine ⟨(e4.cell (p := ⟨b, o + k, none⟩) hbq).trans hck2, ?_⟩
          simp only [Act.put, List.setIfInBounds_toArray, List.set_cons_zero, List.set_cons_succ]
          refine ord_hard rfl rfl (fun K hK => ?_)
          go_simp
          have o1 : Rd txt (w4.alloc (.cells #[.string (str s)] 9)) _ _ 1 1 [s] := Rd.new w4 #[.string (str s)] 9 1 [s] rfl rfl (by decide)
          have e5 : Below wq.heap.size wq (w4.alloc (.cells #[.string (str s)] 9)) := e4.alloc e4.size _
          have own5 := own4.alloc (.cells #[.string (str s)] 9)
          refine hK.out _ _ (fun _ => (e5.cell (p := ⟨b, o + k, none⟩) hbq).trans hck2) ?_
          clear hK K e4 own4
          generalize w4.alloc (.cells #[.string (str s)] 9) = w5 at *))
        rotate_left
        (focus (
          refine hard_end (fun K hK => ?_)
          go_simp
          have o0 : Rd txt (wq.alloc (.cells #[.string (str s)] 9)).drew (wq.alloc (.cells #[.string (str s)] 9)).drew.heap.size (some ⟨wq.heap.size, 0, none⟩) 1 1 [s] := (Rd.new wq #[.string (str s)] 9 1 [s] rfl rfl (by decide)).keep fun _ _ => rfl
          have e0 : Below wq.heap.size wq (wq.alloc (.cells #[.string (str s)] 9)).drew := ((Below.refl _ wq).alloc (Nat.le_refl _) _).drew
          refine hK.out _ _ ⟨(e0.cell (p := ⟨b, o + k, none⟩) hbq).trans hck2, ?_⟩
          clear hK K
          generalize (wq.alloc (.cells #[.string (str s)] 9)).drew = w4 at *
          try simp only [Act.put, List.setIfInBounds_toArray, List.set_cons_zero, List.set_cons_succ]
          refine ord_hard rfl rfl (fun K hK => ?_)
          refine wp_append_rd _ (.const (.slice none 0 0)) (.tmp 26) 22 rfl wq.heap.size 9 i0 (.string ByteArray.empty) 16 Tryz.underlying22 hi0 hz0 hz1 hz2 rfl txt_one (.slice none 0 0) 0 [] rfl (World.ownsRow_nil _ _ _ _) _ A2 n2 c2 _ rfl (r2.below e0) (by unfold maxLen; omega) (by omega) e0.size ?_
          intro A4 n4 c4 w5 hk4 own5 hg4 ha4
          have e5 : Below wq.heap.size wq w5 := e0.grown hg4 e0.size (by simp [Value.ownBlock])
          have o1 := o0.at_size (Nat.le_refl _) ((Below.refl _ w4).grown hg4 (Nat.le_refl _) (by simp [Value.ownBlock]))
          refine hK.out _ _ (fun _ => (e5.cell (p := ⟨b, o + k, none⟩) hbq).trans hck2) ?_
          clear hK K hg4 e0 o0))
        all_goals (
          try simp only [Act.put, List.setIfInBounds_toArray, List.set_cons_zero, List.set_cons_succ]
          refine ord_hard rfl rfl (fun K hK => ?_)
          refine wp_append_rd _ (.tmp 27) (.tmp 32) 22 rfl wq.heap.size 9 i0 (.string ByteArray.empty) 16 Tryz.underlying22 hi0 hz0 hz1 hz2 rfl txt_one (.slice A4 n4 c4) n4 _ rfl own5 _ _ 1 1 _ rfl o1 (by have := hk4.out; unfold maxLen; omega) (by have := hk4.out; omega) e5.size ?_
          intro A6 n6 c6 w6 hk6 own6 hg6 ha6
          have e6 : Below wq.heap.size wq w6 := e5.grown hg6 e5.size ha4
          refine hK.out _ _ (fun _ => (e6.cell (p := ⟨b, o + k, none⟩) hbq).trans hck2) ?_
          clear hK K hg6 ha4 o1 own5 e5
          simp only [Act.put, List.setIfInBounds_toArray, List.set_cons_zero, List.set_cons_succ]
          refine ord_hard rfl rfl (fun K hK => ?_)
          refine wp_append_rd _ (.tmp 33) (.tmp 36) 22 rfl wq.heap.size 9 i0 (.string ByteArray.empty) 16 Tryz.underlying22 hi0 hz0 hz1 hz2 rfl txt_one (.slice A6 n6 c6) n6 _ rfl own6 _ A3 n3 c3 _ rfl (r3.below e6) (by have := hk4.out; have := hk6.out; unfold maxLen; omega) (by have := hk4.out; have := hk6.out; omega) e6.size ?_
          intro A7 n7 c7 w7 hk7 own7 hg7 _
          have e7 : Below wq.heap.size wq w7 := e6.grown hg7 e6.size ha6
          refine hK.out _ _ (fun _ => (e7.cell (p := ⟨b, o + k, none⟩) hbq).trans hck2) ?_
          rw [List.nil_append, ← HOU.out, ← HT.out] at own7
          have OW7 := Lib.hid (own_base (base' := w.heap.size) own7 b2.size)
          have b7 := Below.then b2 e7
          clear hK K hg7 ha6 own6 own7 e6 e7 hk4 hk6 hk7 r2 r3 rx2
          simp only [Act.put, List.setIfInBounds_toArray, List.set_cons_zero, List.set_cons_succ]
          refine ord_yes (v := ?_) rfl rfl ?_ ?_
          rotate_left
          (focus (rintro w' _; go_simp; try with_reducible rfl))
          simp only [Act.put, List.setIfInBounds_toArray, List.set_cons_zero, List.set_cons_succ]
          refine ord_end ?_
          go_wp2_with fail
          go_roundw
          case rel => exact ⟨k + 1, A7, n7, c7, by go_num, by omega, rfl, OW7.out, b7⟩
          case measure => simp [intOf]; omega)
    · have hlti : ¬ (k : Int) < (m : Int) := by omega
      rw [List.take_of_length_le (by rw [HL.out]; omega)] at own1
      go_wp2
      go_ret
      exact ⟨A1, n1, c1, rfl, ⟨own1, b1⟩⟩
end Go.Proofs.YtkjeejaecagbaaaGreatDoor
