/- The book's lists are apart: Apart answers true. Condition: the lists lie in blocks of their own. -/
import Derived.Test.YtnoigcaapnjcgaaGreatDoorKeep
namespace Go.Proofs.YtnoigcaapnjcgaaGreatDoor
open Go.RowKit

theorem ne_type {w : World} {a b E F : Nat} {x y : Array Value} (h1 : w.heap[a]? = some (.cells x E (0, 0))) (h2 : w.heap[b]? = some (.cells y F (0, 0))) (hne : E ≠ F) : a ≠ b := by
  rintro rfl
  rw [h1] at h2
  injection h2 with h2
  injection h2 with _ h2
  exact hne h2

theorem off_type {E F sz q n c b : Nat} {us : List Value} {w : World} {A : Option Addr} {y : Array Value} (h : NL E sz us q w A n c) (h2 : w.heap[b]? = some (.cells y F (0, 0))) (hne : E ≠ F) : ¬ lies A b := by
  rintro ⟨a, ha, rfl⟩
  cases h with
  | no => cases ha
  | «at» g n c cur e1 e2 e3 e4 e5 e6 =>
    injection ha with ha
    subst ha
    exact ne_type e1 h2 hne rfl

theorem pairs_any (bk k : Nat) (oth : Value) (A : Option Addr) (n c : Nat) (w : World) (hB : w.heap[bk]? = some (.cells (bookCells (k : Int) oth (.slice none 0 0)) 46 (0, 0))) (hk : k ≤ 100) :
    Calls Tryz.prog 9 #[.pointer (some ⟨bk, 0, none⟩), .slice A n c] w fun e w' => e = .returned (.tuple #[]) ∧ ∃ hb cap H, bk < hb ∧ w'.heap[bk]? = some (.cells (bookCells ((k + 1 : Nat) : Int) oth (.slice (some ⟨hb, 0, none⟩) 1 cap)) 46 (0, 0)) ∧ w'.heap[hb]? = some (.cells H 61 (0, 0)) ∧ H[0]? = some (.slice A n c) ∧ H[1]? = some (.slice none 0 0) ∧ H[2]? = some (.int .i64 ((k + 1 : Nat) : Int)) ∧ w.heap.size ≤ hb ∧ Kept (fun b => b = bk) w w' := by
  go_enter Tryz.func9, Tryz.ntmps9
  go_wp2_with fail
  refine (keepPair_any bk k oth A n c _ hB hk).mono ?_
  rintro e w1 ⟨rfl, h⟩
  have H := Lib.hid h
  clear h
  go_wp2_with fail
  go_end0
  exact ⟨rfl, H.out⟩

theorem nums_any (bk k : Nat) (oth : Value) (A : Option Addr) (n c : Nat) (w : World) (hB : w.heap[bk]? = some (.cells (bookCells (k : Int) (.slice none 0 0) oth) 46 (0, 0))) (hk : k ≤ 100) :
    Calls Tryz.prog 10 #[.pointer (some ⟨bk, 0, none⟩), .slice A n c] w fun e w' => e = .returned (.tuple #[]) ∧ ∃ hb cap H, bk < hb ∧ w'.heap[bk]? = some (.cells (bookCells ((k + 1 : Nat) : Int) (.slice (some ⟨hb, 0, none⟩) 1 cap) oth) 46 (0, 0)) ∧ w'.heap[hb]? = some (.cells H 63 (0, 0)) ∧ H[0]? = some (.slice A n c) ∧ H[1]? = some (.slice none 0 0) ∧ H[2]? = some (.int .i64 ((k + 1 : Nat) : Int)) ∧ w.heap.size ≤ hb ∧ Kept (fun b => b = bk) w w' := by
  go_enter Tryz.func10, Tryz.ntmps10
  go_wp2_with fail
  refine (keepNum_any bk k oth A n c _ hB hk).mono ?_
  rintro e w1 ⟨rfl, h⟩
  have H := Lib.hid h
  clear h
  go_wp2_with fail
  go_end0
  exact ⟨rfl, H.out⟩

set_option maxRecDepth 100000 in
set_option maxHeartbeats 4000000 in
theorem apart_any (bk hbN capN hbP capP g nP cP nN cN noP noN : Nat) (A : Option Addr) (w : World) (vN vP : Value)
    (hbk : w.heap[bk]? = some (.cells (bookCells 2 vN vP) 46 (0, 0))) (BN : NB 4 63 bk hbN capN A nN cN noN none 0 0 w) (BP : NB 7 61 bk hbP capP (some ⟨g, 0, none⟩) nP cP noP none 0 0 w)
    (LN : NL 53 1 [.int .u64 (noN : Int)] 0 w A nN cN) (LP : NL 51 2 (pm noP) 0 w (some ⟨g, 0, none⟩) nP cP) (hN : noN ≤ 100) (hP : noP ≤ 100) :
    Calls Tryz.prog 11 #[.pointer (some ⟨bk, 0, none⟩)] w fun e w' => e = .returned (.bool true) ∧ Kept (fun b => b = hbN ∨ b = hbP ∨ lies A b ∨ b = g) w w' := by
  obtain ⟨HN, hHN, _⟩ := BN.hc
  obtain ⟨HP, hHP, _⟩ := BP.hc
  obtain ⟨cg, hcg, _⟩ := LP.blk
  have n1 : g ≠ bk := ne_type hcg hbk (by decide)
  have n2 : g ≠ hbP := ne_type hcg hHP (by decide)
  have n3 : g ≠ hbN := ne_type hcg hHN (by decide)
  have n4 : bk ≠ hbP := ne_type hbk hHP (by decide)
  have n5 : bk ≠ hbN := ne_type hbk hHN (by decide)
  have n6 : hbN ≠ hbP := ne_type hHN hHP (by decide)
  have o1 : ¬ lies A bk := off_type LN hbk (by decide)
  have o2 : ¬ lies A hbN := off_type LN hHN (by decide)
  have o3 : ¬ lies A hbP := off_type LN hHP (by decide)
  have o4 : ¬ lies A g := off_type LN hcg (by decide)
  have hbkl := lt_blk hbk
  have B0 := Lib.hid hbk
  have BN0 := Lib.hid BN
  have BP0 := Lib.hid BP
  have LN0 := Lib.hid LN
  have LP0 := Lib.hid LP
  clear hbk BN BP LN LP hHN hHP hcg
  go_enter Tryz.func11, Tryz.ntmps11
  go_wp2_with fail
  refine (fillByte_none bk _ (by rw [cell_blk B0.out]; rfl)).mono ?_
  rintro e w' ⟨rfl, rfl⟩
  go_wp2_with fail
  refine (fillInt_none bk _ (by rw [cell_blk B0.out]; rfl)).mono ?_
  rintro e w' ⟨rfl, rfl⟩
  go_wp2_with fail
  refine (fillText_none bk _ (by rw [cell_blk B0.out]; rfl)).mono ?_
  rintro e w' ⟨rfl, rfl⟩
  go_wp2_with fail
  refine (fillNum_any bk hbN capN A nN cN noN none 0 0 _ BN0.out LN0.out hN o1 o2).mono ?_
  rintro e w1 ⟨rfl, k1, ln1⟩
  have B1 := Lib.hid ((k1.block bk hbkl o1).trans B0.out)
  have BN1 := Lib.hid (BN0.out.keep k1 o1 o2)
  have BP1 := Lib.hid (BP0.out.keep k1 o1 o3)
  have LN1 := Lib.hid ln1
  have LP1 := Lib.hid (LP0.out.keep k1 (fun b hl e => o4 (by obtain ⟨a, ha, hb⟩ := hl; injection ha with ha; subst ha; rw [← show b = g from hb]; exact e)))
  have T1 := Lib.hid (k1.mono (D' := fun b => b = hbN ∨ b = hbP ∨ lies A b ∨ b = g) fun b h => .inr (.inr (.inl h)))
  have hbk1 := Nat.lt_of_lt_of_le hbkl k1.size
  clear k1 ln1 B0 BN0 BP0 LN0 LP0
  go_wp2_with fail
  refine (fillBool_none bk _ (by rw [cell_blk B1.out]; rfl)).mono ?_
  rintro e w' ⟨rfl, rfl⟩
  go_wp2_with fail
  refine (fillBoolList_none bk _ (by rw [cell_blk B1.out]; rfl)).mono ?_
  rintro e w' ⟨rfl, rfl⟩
  go_wp2_with fail
  refine (fillPair_any bk hbP capP g nP cP noP none 0 0 _ BP1.out LP1.out hP n1).mono ?_
  rintro e w2 ⟨rfl, k2, lp2⟩
  have B2 := Lib.hid ((k2.block bk hbk1 (fun e => n1 e.symm)).trans B1.out)
  have BN2 := Lib.hid (BN1.out.keep k2 (fun e => n1 e.symm) (fun e => n3 e.symm))
  have BP2 := Lib.hid (BP1.out.keep k2 (fun e => n1 e.symm) (fun e => n2 e.symm))
  have LN2 := Lib.hid (LN1.out.keep k2 (fun b hl e => o4 (by rw [← show b = g from e]; exact hl)))
  have LP2 := Lib.hid lp2
  have T2 := Lib.hid (T1.out.trans (k2.mono (D' := fun b => b = hbN ∨ b = hbP ∨ lies A b ∨ b = g) fun b h => .inr (.inr (.inr h))))
  have hbk2 := Nat.lt_of_lt_of_le hbk1 k2.size
  clear k2 lp2 B1 BN1 BP1 LN1 LP1 T1
  go_wp2_with fail
  refine (fillNode_none bk _ (by rw [cell_blk B2.out]; rfl)).mono ?_
  rintro e w' ⟨rfl, rfl⟩
  go_wp2_with fail
  refine (fillBound_none bk _ (by rw [cell_blk B2.out]; rfl)).mono ?_
  rintro e w' ⟨rfl, rfl⟩
  go_wp2_with fail
  refine (fillTerm_none bk _ (by rw [cell_blk B2.out]; rfl)).mono ?_
  rintro e w' ⟨rfl, rfl⟩
  go_wp2_with fail
  refine (fillSpot_none bk _ (by rw [cell_blk B2.out]; rfl)).mono ?_
  rintro e w' ⟨rfl, rfl⟩
  go_wp2_with fail
  refine (fillImport_none bk _ (by rw [cell_blk B2.out]; rfl)).mono ?_
  rintro e w' ⟨rfl, rfl⟩
  go_wp2_with fail
  refine (fillEntry_none bk _ (by rw [cell_blk B2.out]; rfl)).mono ?_
  rintro e w' ⟨rfl, rfl⟩
  go_wp2_with fail
  refine (fillItem_none bk _ (by rw [cell_blk B2.out]; rfl)).mono ?_
  rintro e w' ⟨rfl, rfl⟩
  go_wp2_with fail
  refine (fillWord_none bk _ (by rw [cell_blk B2.out]; rfl)).mono ?_
  rintro e w' ⟨rfl, rfl⟩
  go_wp2_with fail
  refine (growByte_none bk _ (by rw [cell_blk B2.out]; rfl)).mono ?_
  rintro e w' ⟨rfl, rfl⟩
  go_wp2_with fail
  refine (growInt_none bk _ (by rw [cell_blk B2.out]; rfl)).mono ?_
  rintro e w' ⟨rfl, rfl⟩
  go_wp2_with fail
  refine (growText_none bk _ (by rw [cell_blk B2.out]; rfl)).mono ?_
  rintro e w' ⟨rfl, rfl⟩
  go_wp2_with fail
  refine (growNum_any bk hbN capN A nN cN noN none 0 0 _ BN2.out LN2.out hN o1 o2 n5).mono ?_
  rintro e w3 ⟨rfl, L, cL, g3⟩
  have nn : ¬ (bk = hbN ∨ lies A bk) := fun h => h.elim n5 o1
  have B3 := Lib.hid ((g3.kept.block bk hbk2 nn).trans B2.out)
  have BP3 := Lib.hid (BP2.out.keep g3.kept nn (fun h => h.elim (fun e => n6 e.symm) o3))
  have LP3 := Lib.hid (LP2.out.keep g3.kept (fun b hl h => by
    obtain ⟨a, ha, hb⟩ := hl
    injection ha with ha
    subst ha
    have hb : b = g := hb
    rw [hb] at h
    exact h.elim n3 o4))
  have T3 := Lib.hid (T2.out.trans (g3.kept.mono (D' := fun b => b = hbN ∨ b = hbP ∨ lies A b ∨ b = g) fun b h => h.elim .inl fun h => .inr (.inr (.inl h))))
  have hbk3 := Nat.lt_of_lt_of_le hbk2 g3.kept.size
  have G3 := Lib.hid g3
  clear g3 nn B2 BN2 BP2 LN2 LP2 T2
  go_wp2_with fail
  refine (growBool_none bk _ (by rw [cell_blk B3.out]; rfl)).mono ?_
  rintro e w' ⟨rfl, rfl⟩
  go_wp2_with fail
  refine (growBoolList_none bk _ (by rw [cell_blk B3.out]; rfl)).mono ?_
  rintro e w' ⟨rfl, rfl⟩
  have q1 : ¬ lies (some ⟨g, 0, none⟩) bk := by
    rintro ⟨a, ha, hb⟩
    injection ha with ha
    subst ha
    exact n1 hb.symm
  have q2 : ¬ lies (some ⟨g, 0, none⟩) hbP := by
    rintro ⟨a, ha, hb⟩
    injection ha with ha
    subst ha
    exact n2 hb.symm
  have q3 : ∀ b, lies (some ⟨g, 0, none⟩) b → b = g := by
    rintro b ⟨a, ha, hb⟩
    injection ha with ha
    subst ha
    exact hb
  go_wp2_with fail
  refine (growPair_any bk hbP capP g nP cP noP none 0 0 _ BP3.out LP3.out hP q1 q2 n4).mono ?_
  rintro e w4 ⟨rfl, L4, cL4, g4⟩
  have nn : ¬ (bk = hbP ∨ lies (some ⟨g, 0, none⟩) bk) := fun h => h.elim n4 q1
  have B4 := Lib.hid ((g4.kept.block bk hbk3 nn).trans B3.out)
  have hLne : ¬ (L = hbP ∨ lies (some ⟨g, 0, none⟩) L) := by
    obtain ⟨cur, l1, _⟩ := G3.out.long
    obtain ⟨HP, hHP, _⟩ := BP3.out.hc
    obtain ⟨cg, hcg, _⟩ := LP3.out.blk
    rintro (h | h)
    · exact ne_type l1 hHP (by decide) h
    · exact ne_type l1 hcg (by decide) (q3 L h)
  have BN4 := Lib.hid (G3.out.book.keep g4.kept nn (fun h => h.elim n6 (fun h => n3 (q3 _ h).symm)))
  have LN4 := Lib.hid (G3.out.list.keep g4.kept (fun b hl h => h.elim (fun e => o3 (by rw [← e]; exact hl)) (fun h => o4 (by rw [← q3 _ h]; exact hl))))
  have LL4 := Lib.hid (G3.out.long.keep g4.kept hLne)
  have T4 := Lib.hid (T3.out.trans (g4.kept.mono (D' := fun b => b = hbN ∨ b = hbP ∨ lies A b ∨ b = g) fun b h => h.elim (fun h => .inr (.inl h)) fun h => .inr (.inr (.inr (q3 _ h)))))
  have hbk4 := Nat.lt_of_lt_of_le hbk3 g4.kept.size
  have G4 := Lib.hid g4
  clear g4 nn hLne B3 BP3 LP3 G3 T3
  go_wp2_with fail
  refine (growNode_none bk _ (by rw [cell_blk B4.out]; rfl)).mono ?_
  rintro e w' ⟨rfl, rfl⟩
  go_wp2_with fail
  refine (growBound_none bk _ (by rw [cell_blk B4.out]; rfl)).mono ?_
  rintro e w' ⟨rfl, rfl⟩
  go_wp2_with fail
  refine (growTerm_none bk _ (by rw [cell_blk B4.out]; rfl)).mono ?_
  rintro e w' ⟨rfl, rfl⟩
  go_wp2_with fail
  refine (growSpot_none bk _ (by rw [cell_blk B4.out]; rfl)).mono ?_
  rintro e w' ⟨rfl, rfl⟩
  go_wp2_with fail
  refine (growImport_none bk _ (by rw [cell_blk B4.out]; rfl)).mono ?_
  rintro e w' ⟨rfl, rfl⟩
  go_wp2_with fail
  refine (growEntry_none bk _ (by rw [cell_blk B4.out]; rfl)).mono ?_
  rintro e w' ⟨rfl, rfl⟩
  go_wp2_with fail
  refine (growItem_none bk _ (by rw [cell_blk B4.out]; rfl)).mono ?_
  rintro e w' ⟨rfl, rfl⟩
  go_wp2_with fail
  refine (growWord_none bk _ (by rw [cell_blk B4.out]; rfl)).mono ?_
  rintro e w' ⟨rfl, rfl⟩
  go_wp2_with fail
  refine (lookByte_none bk _ (by rw [cell_blk B4.out]; rfl)).mono ?_
  rintro e w' ⟨rfl, rfl⟩
  go_wp2_with fail
  refine (lookInt_none bk _ (by rw [cell_blk B4.out]; rfl)).mono ?_
  rintro e w' ⟨rfl, rfl⟩
  go_wp2_with fail
  refine (lookText_none bk _ (by rw [cell_blk B4.out]; rfl)).mono ?_
  rintro e w' ⟨rfl, rfl⟩
  go_wp2_with fail
  refine (lookNum_any bk hbN capN A nN cN noN L cL _ BN4.out LN4.out LL4.out hN).mono ?_
  rintro e w5 ⟨rfl, k5⟩
  have B5 := Lib.hid ((k5.block bk hbk4 (fun h => h)).trans B4.out)
  have BP5 := Lib.hid (G4.out.book.keep k5 (fun h => h) (fun h => h))
  have LP5 := Lib.hid (G4.out.list.keep k5 (fun _ _ h => h))
  have LL5 := Lib.hid (G4.out.long.keep k5 (fun h => h))
  have T5 := Lib.hid (T4.out.trans (k5.mono fun b h => h.elim))
  have hbk5 := Nat.lt_of_lt_of_le hbk4 k5.size
  clear k5 B4 BN4 LN4 LL4 G4 T4
  go_wp2_with fail
  refine (lookBool_none bk _ (by rw [cell_blk B5.out]; rfl)).mono ?_
  rintro e w' ⟨rfl, rfl⟩
  go_wp2_with fail
  refine (lookBoolList_none bk _ (by rw [cell_blk B5.out]; rfl)).mono ?_
  rintro e w' ⟨rfl, rfl⟩
  go_wp2_with fail
  refine (lookPair_any bk hbP capP g nP cP noP L4 cL4 _ BP5.out LP5.out LL5.out hP).mono ?_
  rintro e w6 ⟨rfl, k6⟩
  have B6 := Lib.hid ((k6.block bk hbk5 (fun h => h)).trans B5.out)
  have T6 := Lib.hid (T5.out.trans (k6.mono fun b h => h.elim))
  clear k6 B5 BP5 LP5 LL5 T5
  go_wp2_with fail
  refine (lookNode_none bk _ (by rw [cell_blk B6.out]; rfl)).mono ?_
  rintro e w' ⟨rfl, rfl⟩
  go_wp2_with fail
  refine (lookBound_none bk _ (by rw [cell_blk B6.out]; rfl)).mono ?_
  rintro e w' ⟨rfl, rfl⟩
  go_wp2_with fail
  refine (lookTerm_none bk _ (by rw [cell_blk B6.out]; rfl)).mono ?_
  rintro e w' ⟨rfl, rfl⟩
  go_wp2_with fail
  refine (lookSpot_none bk _ (by rw [cell_blk B6.out]; rfl)).mono ?_
  rintro e w' ⟨rfl, rfl⟩
  go_wp2_with fail
  refine (lookImport_none bk _ (by rw [cell_blk B6.out]; rfl)).mono ?_
  rintro e w' ⟨rfl, rfl⟩
  go_wp2_with fail
  refine (lookEntry_none bk _ (by rw [cell_blk B6.out]; rfl)).mono ?_
  rintro e w' ⟨rfl, rfl⟩
  go_wp2_with fail
  refine (lookItem_none bk _ (by rw [cell_blk B6.out]; rfl)).mono ?_
  rintro e w' ⟨rfl, rfl⟩
  go_wp2_with fail
  refine (lookWord_none bk _ (by rw [cell_blk B6.out]; rfl)).mono ?_
  rintro e w' ⟨rfl, rfl⟩
  go_wp2_with fail
  go_ret
  exact ⟨rfl, T6.out⟩
end Go.Proofs.YtnoigcaapnjcgaaGreatDoor
