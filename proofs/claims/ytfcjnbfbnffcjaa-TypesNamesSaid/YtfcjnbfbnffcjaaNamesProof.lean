/- Proved: whatever the name, and whatever the module, TypesNames answers true: a named type is one of a name, of here or an import; a base type one of the four names, of here; the arguments stay as they were. No condition. -/
import Derived.Test.YtfcjnbfbnffcjaaNdLaw
import Derived.Test.YtfcjnbfbnffcjaaOpenNd
import Derived.Test.YtfcjnbfbnffcjaaRows
import Derived.Deep.DeepCutAuto
namespace Go.Proofs.Ytfcjnbfbnffcjaa.typesNames
open Go.ChangeMaps (open_string shut_string)
open Go.ChangeShapes Go.WideShapes Go.ChangeAt Go.RowKit

theorem own : ownKnob Try.prog.godebug = none := by kernel_rfl
theorem laidOut : laidOutB Try.prog = true := by kernel_rfl

/-- The nodes of which the law asks. -/
def nm2 (k m : Int) (s : List UInt8) : Nd := ⟨k, m, s, 0, false, 0, false, 0, false, 0⟩

theorem check_one (x : Nd) (h : x.n = 0) : checkB [x] = if x.may = true then 0 else 4 := by
  unfold checkB
  rw [if_neg (by simp), if_neg (by simp), chk_one]
  simp [opens, h, chk]

theorem may_two (m : Int) (s : List UInt8) : (nm2 2 m s).may = (nameB s && (decide (0 ≤ m) && decide (m ≤ 16))) := by
  simp [Nd.may, nm2, Nd.still, Bool.and_assoc]
  try rfl
theorem may_one (m : Int) (s : List UInt8) : (nm2 1 m s).may = (baseB s && decide (m = 0)) := by
  simp [Nd.may, nm2, Nd.still]
  try rfl

abbrev oNm (k m : Int) (S : ByteArray) : Obj := .cells #[.int .u8 k, .int .i64 m, .string S, .int .i64 0, .bool false, .int .u64 0, .bool false, .int .u64 0, .bool false, .int .u64 0] 36

/-- Whether the letters ahead of place k may stand. -/
def mayK (s : List UInt8) (k : Nat) : Bool := decide (0 < s.length ∧ s.length ≤ 32) && decide (∀ i (h : i < s.length), i < k → okAt i s[i].toNat = true)
theorem mayK_all (s : List UInt8) (k : Nat) (h : s.length ≤ k) : mayK s k = nameB s := by
  unfold mayK nameB
  rw [← Bool.decide_and]
  congr 1
  apply propext
  constructor
  · rintro ⟨⟨h1, h2⟩, h3⟩
    exact ⟨h1, h2, fun i hi => h3 i hi (by omega)⟩
  · rintro ⟨h1, h2, h3⟩
    exact ⟨⟨h1, h2⟩, fun i hi _ => h3 i hi⟩
theorem mayK_succ (s : List UInt8) (k : Nat) (h : k < s.length) : mayK s (k + 1) = (mayK s k && okAt k s[k].toNat) := by
  unfold mayK
  rw [Bool.and_assoc]
  congr 1
  rw [Bool.eq_iff_iff]
  simp only [decide_eq_true_eq, Bool.and_eq_true]
  constructor
  · intro h1
    exact ⟨fun i hi hk => h1 i hi (by omega), h1 k h (by omega)⟩
  · rintro ⟨h1, h2⟩ i hi hk
    rcases Nat.lt_or_ge i k with h3 | h3
    · exact h1 i hi h3
    · obtain rfl : i = k := by omega
      exact h2
theorem mayK_one (s : List UInt8) (h : 0 < s.length) : mayK s 1 = (decide (s.length ≤ 32) && lett s[0].toNat) := by
  rw [mayK_succ s 0 h]
  unfold mayK okAt
  simp [h]

def NaRel (s : List UInt8) (w : World) (v5 v6 : Value) (wr : World) : Prop := ∃ k : Nat, v6 = .int .i64 (k : Int) ∧ 1 ≤ k ∧ (k ≤ s.length ∨ k = 1) ∧ v5 = .bool (mayK s k) ∧ wr = w

set_option maxRecDepth 100000 in
set_option maxHeartbeats 4000000 in
theorem walk (s : List UInt8) (m : Int) (w : World) (hs : s.length ≤ 9223372036854775807) (hm0 : -9223372036854775808 ≤ m) (hm1 : m ≤ 9223372036854775807) :
    Calls Try.prog 8 #[.string (str s), .int .i64 m] w fun e w' => e = .returned (.bool true) ∧ Below w.heap.size w w' := by
  have hsz := str_size s
  have HFA : Hid ((nm2 2 m s).Fits) := Lib.hid ⟨by show (0:Int) ≤ 2; omega, by show (2:Int) ≤ 255; omega, hm0, hm1, by show _ ≤ (0:Int); omega, by show (0:Int) ≤ _; omega, hs⟩
  have HFB : Hid ((nm2 1 m s).Fits) := Lib.hid ⟨by show (0:Int) ≤ 1; omega, by show (1:Int) ≤ 255; omega, hm0, hm1, by show _ ≤ (0:Int); omega, by show (0:Int) ≤ _; omega, hs⟩
  have HCA : Hid (checkB [nm2 2 m s] = if (nameB s && (decide (0 ≤ m) && decide (m ≤ 16))) = true then 0 else 4) := Lib.hid (by rw [check_one _ rfl, may_two])
  have HCB : Hid (checkB [nm2 1 m s] = if (baseB s && decide (m = 0)) = true then 0 else 4) := Lib.hid (by rw [check_one _ rfl, may_one])
  have HB4 : Hid (baseB s = (decide (s = [98, 111, 111, 108]) || (decide (s = [105, 110, 116]) || (decide (s = [116, 101, 120, 116]) || decide (s = [117, 110, 105, 116]))))) := Lib.hid rfl
  have HL1 := Lib.hid (same_lit s [98, 111, 111, 108])
  have HL2 := Lib.hid (same_lit s [105, 110, 116])
  have HL3 := Lib.hid (same_lit s [116, 101, 120, 116])
  have HL4 := Lib.hid (same_lit s [117, 110, 105, 116])
  have HMA := Lib.hid (fun k h => mayK_all s k h)
  have hobj : Obj → Obj → Prop := fun a b => a = b
  generalize hn : s.length = n at *
  have HL := Lib.hid hn
  clear hn hobj
  go_enter Try.func8, Try.ntmps8
  by_cases h1000 : 1000 < n
  · have h1000' : (1000 : Int) < (n : Int) := by omega
    go_wp2_with fail
    refine (alive_any _).mono ?_
    rintro e w1 ⟨rfl, hb⟩
    go_wp2_with fail
    go_ret
    exact ⟨rfl, hb⟩
  have h1000' : ¬ (1000 : Int) < (n : Int) := by omega
  generalize hb1 : decide (s = [98, 111, 111, 108]) = d1 at *
  generalize hb2 : decide (s = [105, 110, 116]) = d2 at *
  generalize hb3 : decide (s = [116, 101, 120, 116]) = d3 at *
  generalize hb4 : decide (s = [117, 110, 105, 116]) = d4 at *
  clear hb1 hb2 hb3 hb4
  have start : ∀ K : Prop, (K) → K := fun _ h => h
  clear start
  go_upto_region 3 with (fail)
  go_cut [5] (fun v5 wx => v5 = .bool (mayK s 1) ∧ w = wx)
  case first =>
    by_cases h1 : 1 ≤ n
    · have h1' : (1 : Int) ≤ (n : Int) := by omega
      by_cases h32 : n ≤ 32
      · have h32' : (n : Int) ≤ 32 := by omega
        have hl0 : 0 < s.length := by rw [HL.out]; exact h1
        have hx0 : ∀ W, (Instr.index 9 (.string (str s)) (.int .i64 0)).run Try.prog W = .ok (.int .u8 (s[0].toNat : Int)) W := index_at s 0 hl0
        have HK : Hid (mayK s 1 = lett s[0].toNat) := Lib.hid (by rw [mayK_one s hl0, decide_eq_true (by rw [HL.out]; exact h32), Bool.true_and])
        generalize s[0].toNat = q at *
        generalize hlt : lett q = b at *
        generalize str s = S at *
        go_wp2_with fail
        refine (lawLetter_any q _ _ hlt).mono ?_
        rintro e w1 ⟨rfl, rfl⟩
        go_wp2_with fail
        go_meet
        exact ⟨by rw [HK.out], rfl⟩
      · have h32' : ¬ (n : Int) ≤ 32 := by omega
        have HK : Hid (mayK s 1 = false) := Lib.hid (by rw [mayK_one s (by rw [HL.out]; exact h1), decide_eq_false (by rw [HL.out]; exact h32), Bool.false_and])
        go_wp2_with fail
        go_meet
        exact ⟨by rw [HK.out], rfl⟩
    · have h1' : ¬ (1 : Int) ≤ (n : Int) := by omega
      have HK : Hid (mayK s 1 = false) := Lib.hid (by unfold mayK; rw [decide_eq_false (by rw [HL.out]; omega), Bool.false_and])
      go_wp2_with fail
      go_meet
      exact ⟨by rw [HK.out], rfl⟩
  case rest =>
    obtain ⟨rfl, rfl⟩ := hcut
    generalize hb0 : mayK s 1 = bm at *
    have HB0 := Lib.hid hb0
    clear hb0
    go_wp2_with fail
    go_loopw [5, 6] (fun v5 v6 wr => NaRel s w v5 v6 wr) (fun _ v6 _ => n - (intOf v6).toNat)
    case atStart => exact ⟨1, rfl, Nat.le_refl _, .inr rfl, by rw [HB0.out], rfl⟩
    case round =>
      obtain ⟨k, rfl, hk1, hk, rfl, rfl⟩ := hrel
      by_cases hlt : k < n
      · have hk' : k < s.length := by rw [HL.out]; exact hlt
        have hxk := index_at s k hk'
        have hlti : (k : Int) < (n : Int) := by omega
        have hk0 : k ≠ 0 := by omega
        have HS : Hid (mayK s (k + 1) = (mayK s k && (lett s[k].toNat || (digi s[k].toNat || decide (s[k].toNat = 95))))) := Lib.hid (by rw [mayK_succ s k hk']; simp [okAt, hk0])
        generalize s[k].toNat = q at *
        generalize mayK s k = b0 at *
        cases b0 with
        | false =>
          go_wp2_with fail
          go_roundw
          case rel => exact ⟨k + 1, by go_num, by omega, .inl (by omega), by rw [HS.out]; rfl, rfl⟩
          case measure => simp [intOf]; omega
        | true =>
          generalize hlq : lett q = b1 at *
          have HLQ := Lib.hid hlq
          clear hlq
          cases b1 with
          | true =>
            go_wp2_with fail
            refine (lawLetter_any q _ _ HLQ.out).mono ?_
            rintro e w1 ⟨rfl, rfl⟩
            go_wp2_with fail
            go_roundw
            case rel => exact ⟨k + 1, by go_num, by omega, .inl (by omega), by rw [HS.out]; rfl, rfl⟩
            case measure => simp [intOf]; omega
          | false =>
            by_cases h1 : 48 ≤ q
            · by_cases h2 : q ≤ 57
              · have HD : Hid (digi q = true) := Lib.hid (by simp [digi, h1, h2])
                have d1 : decide ((48 : Int) ≤ (q : Int)) = true := by simp; omega
                have d2 : decide ((q : Int) ≤ 57) = true := by simp; omega
                go_wp2_with fail
                refine (lawLetter_any q _ _ HLQ.out).mono ?_
                rintro e w1 ⟨rfl, rfl⟩
                go_wp2_with fail
                go_roundw
                case rel => exact ⟨k + 1, by go_num, by omega, .inl (by omega), by rw [HS.out, HD.out]; rfl, rfl⟩
                case measure => simp [intOf]; omega
              · have HD : Hid (digi q = false) := Lib.hid (by simp [digi, h2])
                have d1 : decide ((48 : Int) ≤ (q : Int)) = true := by simp; omega
                have d2 : decide ((q : Int) ≤ 57) = false := by simp; omega
                have d3 : ((q : Int) == 95) = decide (q = 95) := by by_cases h : q = 95 <;> simp [h]; omega
                generalize decide (q = 95) = b3 at *
                go_wp2_with fail
                refine (lawLetter_any q _ _ HLQ.out).mono ?_
                rintro e w1 ⟨rfl, rfl⟩
                go_wp2_with fail
                go_roundw
                case rel => exact ⟨k + 1, by go_num, by omega, .inl (by omega), by rw [HS.out, HD.out]; cases b3 <;> rfl, rfl⟩
                case measure => simp [intOf]; omega
            · have HD : Hid (digi q = false) := Lib.hid (by simp [digi, h1])
              have d1 : decide ((48 : Int) ≤ (q : Int)) = false := by simp; omega
              have d3 : ((q : Int) == 95) = decide (q = 95) := by by_cases h : q = 95 <;> simp [h]; omega
              generalize decide (q = 95) = b3 at *
              go_wp2_with fail
              refine (lawLetter_any q _ _ HLQ.out).mono ?_
              rintro e w1 ⟨rfl, rfl⟩
              go_wp2_with fail
              go_roundw
              case rel => exact ⟨k + 1, by go_num, by omega, .inl (by omega), by rw [HS.out, HD.out]; cases b3 <;> rfl, rfl⟩
              case measure => simp [intOf]; omega
      · have hlti : ¬ (k : Int) < (n : Int) := by omega
        have HM := Lib.hid (HMA.out k (by omega))
        clear HMA hk1 hk
        generalize nameB s = bN at *
        generalize baseB s = bB at *
        rw [HM.out]
        clear HM
        have hA : Ns (wr.alloc (oNm 2 m (str s))) (wr.alloc (oNm 2 m (str s))).heap.size (some ⟨wr.heap.size, 0, none⟩) 1 1 [nm2 2 m s] := Rs.of_blk ndc_len (heap_alloc_new wr _) ⟨[], rfl⟩ rfl (Nat.le_refl _) (by unfold maxLen; omega)
        have hB := fun W : World => (Rs.of_blk (enc := ndc) (sz := 10) (l := [nm2 1 m s]) (n := 1) (c := 1) ndc_len (heap_alloc_new W (oNm 1 m (str s))) ⟨[], rfl⟩ rfl (Nat.le_refl _) (by unfold maxLen; omega))
        have HHA := Lib.hid hA
        have HHB := Lib.hid hB
        have hal : Below wr.heap.size wr (wr.alloc (oNm 2 m (str s))) := (Below.refl _ _).alloc (Nat.le_refl _) _
        have HA1 := Lib.hid (fun (r : Nat) (e : checkB [nm2 2 m s] = r) => check_lit _ 1 1 [nm2 2 m s] r _ hA (fits_cons HFA.out fits_nil) e)
        have HB1 := Lib.hid (fun (W : World) (r : Nat) (e : checkB [nm2 1 m s] = r) => check_lit _ 1 1 [nm2 1 m s] r _ (hB W) (fits_cons HFB.out fits_nil) e)
        clear hA hB HHA HHB HFA HFB
        have h1 := HL1.out
        have h2 := HL2.out
        have h3 := HL3.out
        have h4 := HL4.out
        have hB4 := HB4.out
        clear HL1 HL2 HL3 HL4 HB4
        generalize str s = S at *
        have five : (d1 = true ∧ bB = true) ∨ (d1 = false ∧ d2 = true ∧ bB = true) ∨ (d1 = false ∧ d2 = false ∧ d3 = true ∧ bB = true) ∨ (d1 = false ∧ d2 = false ∧ d3 = false ∧ d4 = true ∧ bB = true) ∨ (d1 = false ∧ d2 = false ∧ d3 = false ∧ d4 = false ∧ bB = false) := by
          rw [hB4]
          cases d1 <;> cases d2 <;> cases d3 <;> cases d4 <;> simp
        clear hB4
        have six : (bN = false ∧ m = 0) ∨ (bN = false ∧ m ≠ 0) ∨ (bN = true ∧ m < 0) ∨ (bN = true ∧ 16 < m) ∨ (bN = true ∧ m = 0) ∨ (bN = true ∧ 0 < m ∧ m ≤ 16) := by
          cases bN <;> simp <;> omega
        rcases five with ⟨rfl, rfl⟩ | ⟨rfl, rfl, rfl⟩ | ⟨rfl, rfl, rfl, rfl⟩ | ⟨rfl, rfl, rfl, rfl, rfl⟩ | ⟨rfl, rfl, rfl, rfl, rfl⟩
        · rcases six with ⟨rfl, rfl⟩ | ⟨rfl, hm⟩ | ⟨rfl, hm⟩ | ⟨rfl, hm⟩ | ⟨rfl, rfl⟩ | ⟨rfl, hm, hm2⟩
          · go_wp2_with fail
            refine (HA1.out 4 (by rw [HCA.out]; (simp; try omega))).mono ?_
            rintro e v1 ⟨rfl, hv1⟩
            have hb1 := hal.trans (hv1.mono hal.size)
            have hb2 := hb1.alloc hb1.size (oNm 1 0 S)
            go_wp2_with fail
            refine (HB1.out v1 0 (by rw [HCB.out]; (simp; try omega))).mono ?_
            rintro e v2 ⟨rfl, hv2⟩
            have hb3 := hb2.trans (hv2.mono hb2.size)
            clear hv1 hv2 hb1 hb2
            go_wp2_with fail
            refine (alive_any _).mono ?_
            rintro e v3 ⟨rfl, hv3⟩
            have hb4 := hb3.trans (hv3.mono hb3.size)
            clear hv3 hb3
            go_wp2_with fail
            go_ret
            exact ⟨rfl, hb4⟩
          · have e1 : (m == 0) = false := by simpa using hm
            go_wp2_with fail
            refine (HA1.out 4 (by rw [HCA.out]; (simp; try omega))).mono ?_
            rintro e v1 ⟨rfl, hv1⟩
            have hb1 := hal.trans (hv1.mono hal.size)
            have hb2 := hb1.alloc hb1.size (oNm 1 m S)
            go_wp2_with fail
            refine (HB1.out v1 4 (by rw [HCB.out]; (simp; try omega))).mono ?_
            rintro e v2 ⟨rfl, hv2⟩
            have hb3 := hb2.trans (hv2.mono hb2.size)
            clear hv1 hv2 hb1 hb2
            go_wp2_with fail
            refine (alive_any _).mono ?_
            rintro e v3 ⟨rfl, hv3⟩
            have hb4 := hb3.trans (hv3.mono hb3.size)
            clear hv3 hb3
            go_wp2_with fail
            go_ret
            exact ⟨rfl, hb4⟩
          · have e1 : (m == 0) = false := by simp; omega
            have e2 : decide (0 ≤ m) = false := by simp; omega
            go_wp2_with fail
            refine (HA1.out 4 (by rw [HCA.out]; (simp; try omega))).mono ?_
            rintro e v1 ⟨rfl, hv1⟩
            have hb1 := hal.trans (hv1.mono hal.size)
            have hb2 := hb1.alloc hb1.size (oNm 1 m S)
            go_wp2_with fail
            refine (HB1.out v1 4 (by rw [HCB.out]; (simp; try omega))).mono ?_
            rintro e v2 ⟨rfl, hv2⟩
            have hb3 := hb2.trans (hv2.mono hb2.size)
            clear hv1 hv2 hb1 hb2
            go_wp2_with fail
            refine (alive_any _).mono ?_
            rintro e v3 ⟨rfl, hv3⟩
            have hb4 := hb3.trans (hv3.mono hb3.size)
            clear hv3 hb3
            go_wp2_with fail
            go_ret
            exact ⟨rfl, hb4⟩
          · have e1 : (m == 0) = false := by simp; omega
            have e2 : decide (0 ≤ m) = true := by simp; omega
            have e3 : decide (m ≤ 16) = false := by simp; omega
            go_wp2_with fail
            refine (HA1.out 4 (by rw [HCA.out]; (simp; try omega))).mono ?_
            rintro e v1 ⟨rfl, hv1⟩
            have hb1 := hal.trans (hv1.mono hal.size)
            have hb2 := hb1.alloc hb1.size (oNm 1 m S)
            go_wp2_with fail
            refine (HB1.out v1 4 (by rw [HCB.out]; (simp; try omega))).mono ?_
            rintro e v2 ⟨rfl, hv2⟩
            have hb3 := hb2.trans (hv2.mono hb2.size)
            clear hv1 hv2 hb1 hb2
            go_wp2_with fail
            refine (alive_any _).mono ?_
            rintro e v3 ⟨rfl, hv3⟩
            have hb4 := hb3.trans (hv3.mono hb3.size)
            clear hv3 hb3
            go_wp2_with fail
            go_ret
            exact ⟨rfl, hb4⟩
          · go_wp2_with fail
            refine (HA1.out 0 (by rw [HCA.out]; (simp; try omega))).mono ?_
            rintro e v1 ⟨rfl, hv1⟩
            have hb1 := hal.trans (hv1.mono hal.size)
            have hb2 := hb1.alloc hb1.size (oNm 1 0 S)
            go_wp2_with fail
            refine (HB1.out v1 0 (by rw [HCB.out]; (simp; try omega))).mono ?_
            rintro e v2 ⟨rfl, hv2⟩
            have hb3 := hb2.trans (hv2.mono hb2.size)
            clear hv1 hv2 hb1 hb2
            go_wp2_with fail
            refine (alive_any _).mono ?_
            rintro e v3 ⟨rfl, hv3⟩
            have hb4 := hb3.trans (hv3.mono hb3.size)
            clear hv3 hb3
            go_wp2_with fail
            go_ret
            exact ⟨rfl, hb4⟩
          · have e1 : (m == 0) = false := by simp; omega
            have e2 : decide (0 ≤ m) = true := by simp; omega
            have e3 : decide (m ≤ 16) = true := by simp; omega
            go_wp2_with fail
            refine (HA1.out 0 (by rw [HCA.out]; (simp; try omega))).mono ?_
            rintro e v1 ⟨rfl, hv1⟩
            have hb1 := hal.trans (hv1.mono hal.size)
            have hb2 := hb1.alloc hb1.size (oNm 1 m S)
            go_wp2_with fail
            refine (HB1.out v1 4 (by rw [HCB.out]; (simp; try omega))).mono ?_
            rintro e v2 ⟨rfl, hv2⟩
            have hb3 := hb2.trans (hv2.mono hb2.size)
            clear hv1 hv2 hb1 hb2
            go_wp2_with fail
            refine (alive_any _).mono ?_
            rintro e v3 ⟨rfl, hv3⟩
            have hb4 := hb3.trans (hv3.mono hb3.size)
            clear hv3 hb3
            go_wp2_with fail
            go_ret
            exact ⟨rfl, hb4⟩
        · rcases six with ⟨rfl, rfl⟩ | ⟨rfl, hm⟩ | ⟨rfl, hm⟩ | ⟨rfl, hm⟩ | ⟨rfl, rfl⟩ | ⟨rfl, hm, hm2⟩
          · go_wp2_with fail
            refine (HA1.out 4 (by rw [HCA.out]; (simp; try omega))).mono ?_
            rintro e v1 ⟨rfl, hv1⟩
            have hb1 := hal.trans (hv1.mono hal.size)
            have hb2 := hb1.alloc hb1.size (oNm 1 0 S)
            go_wp2_with fail
            refine (HB1.out v1 0 (by rw [HCB.out]; (simp; try omega))).mono ?_
            rintro e v2 ⟨rfl, hv2⟩
            have hb3 := hb2.trans (hv2.mono hb2.size)
            clear hv1 hv2 hb1 hb2
            go_wp2_with fail
            refine (alive_any _).mono ?_
            rintro e v3 ⟨rfl, hv3⟩
            have hb4 := hb3.trans (hv3.mono hb3.size)
            clear hv3 hb3
            go_wp2_with fail
            go_ret
            exact ⟨rfl, hb4⟩
          · have e1 : (m == 0) = false := by simpa using hm
            go_wp2_with fail
            refine (HA1.out 4 (by rw [HCA.out]; (simp; try omega))).mono ?_
            rintro e v1 ⟨rfl, hv1⟩
            have hb1 := hal.trans (hv1.mono hal.size)
            have hb2 := hb1.alloc hb1.size (oNm 1 m S)
            go_wp2_with fail
            refine (HB1.out v1 4 (by rw [HCB.out]; (simp; try omega))).mono ?_
            rintro e v2 ⟨rfl, hv2⟩
            have hb3 := hb2.trans (hv2.mono hb2.size)
            clear hv1 hv2 hb1 hb2
            go_wp2_with fail
            refine (alive_any _).mono ?_
            rintro e v3 ⟨rfl, hv3⟩
            have hb4 := hb3.trans (hv3.mono hb3.size)
            clear hv3 hb3
            go_wp2_with fail
            go_ret
            exact ⟨rfl, hb4⟩
          · have e1 : (m == 0) = false := by simp; omega
            have e2 : decide (0 ≤ m) = false := by simp; omega
            go_wp2_with fail
            refine (HA1.out 4 (by rw [HCA.out]; (simp; try omega))).mono ?_
            rintro e v1 ⟨rfl, hv1⟩
            have hb1 := hal.trans (hv1.mono hal.size)
            have hb2 := hb1.alloc hb1.size (oNm 1 m S)
            go_wp2_with fail
            refine (HB1.out v1 4 (by rw [HCB.out]; (simp; try omega))).mono ?_
            rintro e v2 ⟨rfl, hv2⟩
            have hb3 := hb2.trans (hv2.mono hb2.size)
            clear hv1 hv2 hb1 hb2
            go_wp2_with fail
            refine (alive_any _).mono ?_
            rintro e v3 ⟨rfl, hv3⟩
            have hb4 := hb3.trans (hv3.mono hb3.size)
            clear hv3 hb3
            go_wp2_with fail
            go_ret
            exact ⟨rfl, hb4⟩
          · have e1 : (m == 0) = false := by simp; omega
            have e2 : decide (0 ≤ m) = true := by simp; omega
            have e3 : decide (m ≤ 16) = false := by simp; omega
            go_wp2_with fail
            refine (HA1.out 4 (by rw [HCA.out]; (simp; try omega))).mono ?_
            rintro e v1 ⟨rfl, hv1⟩
            have hb1 := hal.trans (hv1.mono hal.size)
            have hb2 := hb1.alloc hb1.size (oNm 1 m S)
            go_wp2_with fail
            refine (HB1.out v1 4 (by rw [HCB.out]; (simp; try omega))).mono ?_
            rintro e v2 ⟨rfl, hv2⟩
            have hb3 := hb2.trans (hv2.mono hb2.size)
            clear hv1 hv2 hb1 hb2
            go_wp2_with fail
            refine (alive_any _).mono ?_
            rintro e v3 ⟨rfl, hv3⟩
            have hb4 := hb3.trans (hv3.mono hb3.size)
            clear hv3 hb3
            go_wp2_with fail
            go_ret
            exact ⟨rfl, hb4⟩
          · go_wp2_with fail
            refine (HA1.out 0 (by rw [HCA.out]; (simp; try omega))).mono ?_
            rintro e v1 ⟨rfl, hv1⟩
            have hb1 := hal.trans (hv1.mono hal.size)
            have hb2 := hb1.alloc hb1.size (oNm 1 0 S)
            go_wp2_with fail
            refine (HB1.out v1 0 (by rw [HCB.out]; (simp; try omega))).mono ?_
            rintro e v2 ⟨rfl, hv2⟩
            have hb3 := hb2.trans (hv2.mono hb2.size)
            clear hv1 hv2 hb1 hb2
            go_wp2_with fail
            refine (alive_any _).mono ?_
            rintro e v3 ⟨rfl, hv3⟩
            have hb4 := hb3.trans (hv3.mono hb3.size)
            clear hv3 hb3
            go_wp2_with fail
            go_ret
            exact ⟨rfl, hb4⟩
          · have e1 : (m == 0) = false := by simp; omega
            have e2 : decide (0 ≤ m) = true := by simp; omega
            have e3 : decide (m ≤ 16) = true := by simp; omega
            go_wp2_with fail
            refine (HA1.out 0 (by rw [HCA.out]; (simp; try omega))).mono ?_
            rintro e v1 ⟨rfl, hv1⟩
            have hb1 := hal.trans (hv1.mono hal.size)
            have hb2 := hb1.alloc hb1.size (oNm 1 m S)
            go_wp2_with fail
            refine (HB1.out v1 4 (by rw [HCB.out]; (simp; try omega))).mono ?_
            rintro e v2 ⟨rfl, hv2⟩
            have hb3 := hb2.trans (hv2.mono hb2.size)
            clear hv1 hv2 hb1 hb2
            go_wp2_with fail
            refine (alive_any _).mono ?_
            rintro e v3 ⟨rfl, hv3⟩
            have hb4 := hb3.trans (hv3.mono hb3.size)
            clear hv3 hb3
            go_wp2_with fail
            go_ret
            exact ⟨rfl, hb4⟩
        · rcases six with ⟨rfl, rfl⟩ | ⟨rfl, hm⟩ | ⟨rfl, hm⟩ | ⟨rfl, hm⟩ | ⟨rfl, rfl⟩ | ⟨rfl, hm, hm2⟩
          · go_wp2_with fail
            refine (HA1.out 4 (by rw [HCA.out]; (simp; try omega))).mono ?_
            rintro e v1 ⟨rfl, hv1⟩
            have hb1 := hal.trans (hv1.mono hal.size)
            have hb2 := hb1.alloc hb1.size (oNm 1 0 S)
            go_wp2_with fail
            refine (HB1.out v1 0 (by rw [HCB.out]; (simp; try omega))).mono ?_
            rintro e v2 ⟨rfl, hv2⟩
            have hb3 := hb2.trans (hv2.mono hb2.size)
            clear hv1 hv2 hb1 hb2
            go_wp2_with fail
            refine (alive_any _).mono ?_
            rintro e v3 ⟨rfl, hv3⟩
            have hb4 := hb3.trans (hv3.mono hb3.size)
            clear hv3 hb3
            go_wp2_with fail
            go_ret
            exact ⟨rfl, hb4⟩
          · have e1 : (m == 0) = false := by simpa using hm
            go_wp2_with fail
            refine (HA1.out 4 (by rw [HCA.out]; (simp; try omega))).mono ?_
            rintro e v1 ⟨rfl, hv1⟩
            have hb1 := hal.trans (hv1.mono hal.size)
            have hb2 := hb1.alloc hb1.size (oNm 1 m S)
            go_wp2_with fail
            refine (HB1.out v1 4 (by rw [HCB.out]; (simp; try omega))).mono ?_
            rintro e v2 ⟨rfl, hv2⟩
            have hb3 := hb2.trans (hv2.mono hb2.size)
            clear hv1 hv2 hb1 hb2
            go_wp2_with fail
            refine (alive_any _).mono ?_
            rintro e v3 ⟨rfl, hv3⟩
            have hb4 := hb3.trans (hv3.mono hb3.size)
            clear hv3 hb3
            go_wp2_with fail
            go_ret
            exact ⟨rfl, hb4⟩
          · have e1 : (m == 0) = false := by simp; omega
            have e2 : decide (0 ≤ m) = false := by simp; omega
            go_wp2_with fail
            refine (HA1.out 4 (by rw [HCA.out]; (simp; try omega))).mono ?_
            rintro e v1 ⟨rfl, hv1⟩
            have hb1 := hal.trans (hv1.mono hal.size)
            have hb2 := hb1.alloc hb1.size (oNm 1 m S)
            go_wp2_with fail
            refine (HB1.out v1 4 (by rw [HCB.out]; (simp; try omega))).mono ?_
            rintro e v2 ⟨rfl, hv2⟩
            have hb3 := hb2.trans (hv2.mono hb2.size)
            clear hv1 hv2 hb1 hb2
            go_wp2_with fail
            refine (alive_any _).mono ?_
            rintro e v3 ⟨rfl, hv3⟩
            have hb4 := hb3.trans (hv3.mono hb3.size)
            clear hv3 hb3
            go_wp2_with fail
            go_ret
            exact ⟨rfl, hb4⟩
          · have e1 : (m == 0) = false := by simp; omega
            have e2 : decide (0 ≤ m) = true := by simp; omega
            have e3 : decide (m ≤ 16) = false := by simp; omega
            go_wp2_with fail
            refine (HA1.out 4 (by rw [HCA.out]; (simp; try omega))).mono ?_
            rintro e v1 ⟨rfl, hv1⟩
            have hb1 := hal.trans (hv1.mono hal.size)
            have hb2 := hb1.alloc hb1.size (oNm 1 m S)
            go_wp2_with fail
            refine (HB1.out v1 4 (by rw [HCB.out]; (simp; try omega))).mono ?_
            rintro e v2 ⟨rfl, hv2⟩
            have hb3 := hb2.trans (hv2.mono hb2.size)
            clear hv1 hv2 hb1 hb2
            go_wp2_with fail
            refine (alive_any _).mono ?_
            rintro e v3 ⟨rfl, hv3⟩
            have hb4 := hb3.trans (hv3.mono hb3.size)
            clear hv3 hb3
            go_wp2_with fail
            go_ret
            exact ⟨rfl, hb4⟩
          · go_wp2_with fail
            refine (HA1.out 0 (by rw [HCA.out]; (simp; try omega))).mono ?_
            rintro e v1 ⟨rfl, hv1⟩
            have hb1 := hal.trans (hv1.mono hal.size)
            have hb2 := hb1.alloc hb1.size (oNm 1 0 S)
            go_wp2_with fail
            refine (HB1.out v1 0 (by rw [HCB.out]; (simp; try omega))).mono ?_
            rintro e v2 ⟨rfl, hv2⟩
            have hb3 := hb2.trans (hv2.mono hb2.size)
            clear hv1 hv2 hb1 hb2
            go_wp2_with fail
            refine (alive_any _).mono ?_
            rintro e v3 ⟨rfl, hv3⟩
            have hb4 := hb3.trans (hv3.mono hb3.size)
            clear hv3 hb3
            go_wp2_with fail
            go_ret
            exact ⟨rfl, hb4⟩
          · have e1 : (m == 0) = false := by simp; omega
            have e2 : decide (0 ≤ m) = true := by simp; omega
            have e3 : decide (m ≤ 16) = true := by simp; omega
            go_wp2_with fail
            refine (HA1.out 0 (by rw [HCA.out]; (simp; try omega))).mono ?_
            rintro e v1 ⟨rfl, hv1⟩
            have hb1 := hal.trans (hv1.mono hal.size)
            have hb2 := hb1.alloc hb1.size (oNm 1 m S)
            go_wp2_with fail
            refine (HB1.out v1 4 (by rw [HCB.out]; (simp; try omega))).mono ?_
            rintro e v2 ⟨rfl, hv2⟩
            have hb3 := hb2.trans (hv2.mono hb2.size)
            clear hv1 hv2 hb1 hb2
            go_wp2_with fail
            refine (alive_any _).mono ?_
            rintro e v3 ⟨rfl, hv3⟩
            have hb4 := hb3.trans (hv3.mono hb3.size)
            clear hv3 hb3
            go_wp2_with fail
            go_ret
            exact ⟨rfl, hb4⟩
        · rcases six with ⟨rfl, rfl⟩ | ⟨rfl, hm⟩ | ⟨rfl, hm⟩ | ⟨rfl, hm⟩ | ⟨rfl, rfl⟩ | ⟨rfl, hm, hm2⟩
          · go_wp2_with fail
            refine (HA1.out 4 (by rw [HCA.out]; (simp; try omega))).mono ?_
            rintro e v1 ⟨rfl, hv1⟩
            have hb1 := hal.trans (hv1.mono hal.size)
            have hb2 := hb1.alloc hb1.size (oNm 1 0 S)
            go_wp2_with fail
            refine (HB1.out v1 0 (by rw [HCB.out]; (simp; try omega))).mono ?_
            rintro e v2 ⟨rfl, hv2⟩
            have hb3 := hb2.trans (hv2.mono hb2.size)
            clear hv1 hv2 hb1 hb2
            go_wp2_with fail
            refine (alive_any _).mono ?_
            rintro e v3 ⟨rfl, hv3⟩
            have hb4 := hb3.trans (hv3.mono hb3.size)
            clear hv3 hb3
            go_wp2_with fail
            go_ret
            exact ⟨rfl, hb4⟩
          · have e1 : (m == 0) = false := by simpa using hm
            go_wp2_with fail
            refine (HA1.out 4 (by rw [HCA.out]; (simp; try omega))).mono ?_
            rintro e v1 ⟨rfl, hv1⟩
            have hb1 := hal.trans (hv1.mono hal.size)
            have hb2 := hb1.alloc hb1.size (oNm 1 m S)
            go_wp2_with fail
            refine (HB1.out v1 4 (by rw [HCB.out]; (simp; try omega))).mono ?_
            rintro e v2 ⟨rfl, hv2⟩
            have hb3 := hb2.trans (hv2.mono hb2.size)
            clear hv1 hv2 hb1 hb2
            go_wp2_with fail
            refine (alive_any _).mono ?_
            rintro e v3 ⟨rfl, hv3⟩
            have hb4 := hb3.trans (hv3.mono hb3.size)
            clear hv3 hb3
            go_wp2_with fail
            go_ret
            exact ⟨rfl, hb4⟩
          · have e1 : (m == 0) = false := by simp; omega
            have e2 : decide (0 ≤ m) = false := by simp; omega
            go_wp2_with fail
            refine (HA1.out 4 (by rw [HCA.out]; (simp; try omega))).mono ?_
            rintro e v1 ⟨rfl, hv1⟩
            have hb1 := hal.trans (hv1.mono hal.size)
            have hb2 := hb1.alloc hb1.size (oNm 1 m S)
            go_wp2_with fail
            refine (HB1.out v1 4 (by rw [HCB.out]; (simp; try omega))).mono ?_
            rintro e v2 ⟨rfl, hv2⟩
            have hb3 := hb2.trans (hv2.mono hb2.size)
            clear hv1 hv2 hb1 hb2
            go_wp2_with fail
            refine (alive_any _).mono ?_
            rintro e v3 ⟨rfl, hv3⟩
            have hb4 := hb3.trans (hv3.mono hb3.size)
            clear hv3 hb3
            go_wp2_with fail
            go_ret
            exact ⟨rfl, hb4⟩
          · have e1 : (m == 0) = false := by simp; omega
            have e2 : decide (0 ≤ m) = true := by simp; omega
            have e3 : decide (m ≤ 16) = false := by simp; omega
            go_wp2_with fail
            refine (HA1.out 4 (by rw [HCA.out]; (simp; try omega))).mono ?_
            rintro e v1 ⟨rfl, hv1⟩
            have hb1 := hal.trans (hv1.mono hal.size)
            have hb2 := hb1.alloc hb1.size (oNm 1 m S)
            go_wp2_with fail
            refine (HB1.out v1 4 (by rw [HCB.out]; (simp; try omega))).mono ?_
            rintro e v2 ⟨rfl, hv2⟩
            have hb3 := hb2.trans (hv2.mono hb2.size)
            clear hv1 hv2 hb1 hb2
            go_wp2_with fail
            refine (alive_any _).mono ?_
            rintro e v3 ⟨rfl, hv3⟩
            have hb4 := hb3.trans (hv3.mono hb3.size)
            clear hv3 hb3
            go_wp2_with fail
            go_ret
            exact ⟨rfl, hb4⟩
          · go_wp2_with fail
            refine (HA1.out 0 (by rw [HCA.out]; (simp; try omega))).mono ?_
            rintro e v1 ⟨rfl, hv1⟩
            have hb1 := hal.trans (hv1.mono hal.size)
            have hb2 := hb1.alloc hb1.size (oNm 1 0 S)
            go_wp2_with fail
            refine (HB1.out v1 0 (by rw [HCB.out]; (simp; try omega))).mono ?_
            rintro e v2 ⟨rfl, hv2⟩
            have hb3 := hb2.trans (hv2.mono hb2.size)
            clear hv1 hv2 hb1 hb2
            go_wp2_with fail
            refine (alive_any _).mono ?_
            rintro e v3 ⟨rfl, hv3⟩
            have hb4 := hb3.trans (hv3.mono hb3.size)
            clear hv3 hb3
            go_wp2_with fail
            go_ret
            exact ⟨rfl, hb4⟩
          · have e1 : (m == 0) = false := by simp; omega
            have e2 : decide (0 ≤ m) = true := by simp; omega
            have e3 : decide (m ≤ 16) = true := by simp; omega
            go_wp2_with fail
            refine (HA1.out 0 (by rw [HCA.out]; (simp; try omega))).mono ?_
            rintro e v1 ⟨rfl, hv1⟩
            have hb1 := hal.trans (hv1.mono hal.size)
            have hb2 := hb1.alloc hb1.size (oNm 1 m S)
            go_wp2_with fail
            refine (HB1.out v1 4 (by rw [HCB.out]; (simp; try omega))).mono ?_
            rintro e v2 ⟨rfl, hv2⟩
            have hb3 := hb2.trans (hv2.mono hb2.size)
            clear hv1 hv2 hb1 hb2
            go_wp2_with fail
            refine (alive_any _).mono ?_
            rintro e v3 ⟨rfl, hv3⟩
            have hb4 := hb3.trans (hv3.mono hb3.size)
            clear hv3 hb3
            go_wp2_with fail
            go_ret
            exact ⟨rfl, hb4⟩
        · rcases six with ⟨rfl, rfl⟩ | ⟨rfl, hm⟩ | ⟨rfl, hm⟩ | ⟨rfl, hm⟩ | ⟨rfl, rfl⟩ | ⟨rfl, hm, hm2⟩
          · go_wp2_with fail
            refine (HA1.out 4 (by rw [HCA.out]; (simp; try omega))).mono ?_
            rintro e v1 ⟨rfl, hv1⟩
            have hb1 := hal.trans (hv1.mono hal.size)
            have hb2 := hb1.alloc hb1.size (oNm 1 0 S)
            go_wp2_with fail
            refine (HB1.out v1 4 (by rw [HCB.out]; (simp; try omega))).mono ?_
            rintro e v2 ⟨rfl, hv2⟩
            have hb3 := hb2.trans (hv2.mono hb2.size)
            clear hv1 hv2 hb1 hb2
            go_wp2_with fail
            refine (alive_any _).mono ?_
            rintro e v3 ⟨rfl, hv3⟩
            have hb4 := hb3.trans (hv3.mono hb3.size)
            clear hv3 hb3
            go_wp2_with fail
            go_ret
            exact ⟨rfl, hb4⟩
          · have e1 : (m == 0) = false := by simpa using hm
            go_wp2_with fail
            refine (HA1.out 4 (by rw [HCA.out]; (simp; try omega))).mono ?_
            rintro e v1 ⟨rfl, hv1⟩
            have hb1 := hal.trans (hv1.mono hal.size)
            have hb2 := hb1.alloc hb1.size (oNm 1 m S)
            go_wp2_with fail
            refine (HB1.out v1 4 (by rw [HCB.out]; (simp; try omega))).mono ?_
            rintro e v2 ⟨rfl, hv2⟩
            have hb3 := hb2.trans (hv2.mono hb2.size)
            clear hv1 hv2 hb1 hb2
            go_wp2_with fail
            refine (alive_any _).mono ?_
            rintro e v3 ⟨rfl, hv3⟩
            have hb4 := hb3.trans (hv3.mono hb3.size)
            clear hv3 hb3
            go_wp2_with fail
            go_ret
            exact ⟨rfl, hb4⟩
          · have e1 : (m == 0) = false := by simp; omega
            have e2 : decide (0 ≤ m) = false := by simp; omega
            go_wp2_with fail
            refine (HA1.out 4 (by rw [HCA.out]; (simp; try omega))).mono ?_
            rintro e v1 ⟨rfl, hv1⟩
            have hb1 := hal.trans (hv1.mono hal.size)
            have hb2 := hb1.alloc hb1.size (oNm 1 m S)
            go_wp2_with fail
            refine (HB1.out v1 4 (by rw [HCB.out]; (simp; try omega))).mono ?_
            rintro e v2 ⟨rfl, hv2⟩
            have hb3 := hb2.trans (hv2.mono hb2.size)
            clear hv1 hv2 hb1 hb2
            go_wp2_with fail
            refine (alive_any _).mono ?_
            rintro e v3 ⟨rfl, hv3⟩
            have hb4 := hb3.trans (hv3.mono hb3.size)
            clear hv3 hb3
            go_wp2_with fail
            go_ret
            exact ⟨rfl, hb4⟩
          · have e1 : (m == 0) = false := by simp; omega
            have e2 : decide (0 ≤ m) = true := by simp; omega
            have e3 : decide (m ≤ 16) = false := by simp; omega
            go_wp2_with fail
            refine (HA1.out 4 (by rw [HCA.out]; (simp; try omega))).mono ?_
            rintro e v1 ⟨rfl, hv1⟩
            have hb1 := hal.trans (hv1.mono hal.size)
            have hb2 := hb1.alloc hb1.size (oNm 1 m S)
            go_wp2_with fail
            refine (HB1.out v1 4 (by rw [HCB.out]; (simp; try omega))).mono ?_
            rintro e v2 ⟨rfl, hv2⟩
            have hb3 := hb2.trans (hv2.mono hb2.size)
            clear hv1 hv2 hb1 hb2
            go_wp2_with fail
            refine (alive_any _).mono ?_
            rintro e v3 ⟨rfl, hv3⟩
            have hb4 := hb3.trans (hv3.mono hb3.size)
            clear hv3 hb3
            go_wp2_with fail
            go_ret
            exact ⟨rfl, hb4⟩
          · go_wp2_with fail
            refine (HA1.out 0 (by rw [HCA.out]; (simp; try omega))).mono ?_
            rintro e v1 ⟨rfl, hv1⟩
            have hb1 := hal.trans (hv1.mono hal.size)
            have hb2 := hb1.alloc hb1.size (oNm 1 0 S)
            go_wp2_with fail
            refine (HB1.out v1 4 (by rw [HCB.out]; (simp; try omega))).mono ?_
            rintro e v2 ⟨rfl, hv2⟩
            have hb3 := hb2.trans (hv2.mono hb2.size)
            clear hv1 hv2 hb1 hb2
            go_wp2_with fail
            refine (alive_any _).mono ?_
            rintro e v3 ⟨rfl, hv3⟩
            have hb4 := hb3.trans (hv3.mono hb3.size)
            clear hv3 hb3
            go_wp2_with fail
            go_ret
            exact ⟨rfl, hb4⟩
          · have e1 : (m == 0) = false := by simp; omega
            have e2 : decide (0 ≤ m) = true := by simp; omega
            have e3 : decide (m ≤ 16) = true := by simp; omega
            go_wp2_with fail
            refine (HA1.out 0 (by rw [HCA.out]; (simp; try omega))).mono ?_
            rintro e v1 ⟨rfl, hv1⟩
            have hb1 := hal.trans (hv1.mono hal.size)
            have hb2 := hb1.alloc hb1.size (oNm 1 m S)
            go_wp2_with fail
            refine (HB1.out v1 4 (by rw [HCB.out]; (simp; try omega))).mono ?_
            rintro e v2 ⟨rfl, hv2⟩
            have hb3 := hb2.trans (hv2.mono hb2.size)
            clear hv1 hv2 hb1 hb2
            go_wp2_with fail
            refine (alive_any _).mono ?_
            rintro e v3 ⟨rfl, hv3⟩
            have hb4 := hb3.trans (hv3.mono hb3.size)
            clear hv3 hb3
            go_wp2_with fail
            go_ret
            exact ⟨rfl, hb4⟩

set_option maxRecDepth 100000 in
theorem lifted (os : Os) (started : os.Started) (H : Type) (enc : TypeId × Value → H) :
    ReturnsInHanded {} Try.checked os 8 .any (Rows.typesNamesSpec.pre6 enc Try.prog Try.f8 Rows.typesNamesRow.domain false) (Rows.typesNamesSpec.post enc Try.prog Try.f8 false true false false) := by
  refine returnsInHanded_of_change (C := Try.checked) own started (by kernel_rfl) Try.func8
    (ChangeSpec.witness6 (enc := enc) (C := Try.checked) false ⟨#[], #[.string ⟨#[]⟩, .int .i64 0], []⟩ 8 (by kernel_rfl) (by kernel_rfl) (by kernel_rfl) (by kernel_rfl)) ?_
  intro W base args ds gs before hval0 hW hcnd _
  have hval : ∀ (j : Nat) t v, Try.f8.params[j]? = some t → args[j]? = some v → Value.okWide Try.prog W .any base t v := hval0
  have hW' := hW
  obtain ⟨p, q, hA0, hV, rfl, hfz, hnd⟩ := hW
  have hA : DataW.TrodAll enc Try.prog W 0 (fun _ => true) true Try.f8.params.toList args.toList ds p := hA0
  rw [Try.params8] at hA hval
  obtain ⟨v0, vs0, d0, ds0, p0, q0, hargs, rfl, rfl, h0, r0⟩ := trodAll_cons hA
  obtain ⟨v1, vs1, d1, ds1, p1, q1, rfl, rfl, rfl, h1, r1⟩ := trodAll_cons r0
  obtain ⟨rfl, rfl, rfl⟩ := trodAll_nil r1
  obtain rfl : args = #[v0, v1] := by cases args; simp_all
  obtain ⟨rfl, rfl⟩ := trodVars_none hV
  obtain ⟨s0, rfl, rfl, rfl, w0⟩ := open_string Try.underlying9 (hval 0 9 v0 rfl rfl) h0
  obtain ⟨x1, rfl, rfl, rfl, w1⟩ := open_int Try.underlying3 (hval 1 3 v1 rfl rfl) h1
  clear hA0 hval0
  have w1' := w1
  obtain ⟨f0, f1⟩ := i64_fits w1
  have hwk := walk s0.data.toList x1 W (by unfold maxLen at w0; rw [Array.length_toList]; exact w0) f0 f1
  rw [str_of] at hwk
  refine hwk.mono fun e W' ⟨he, bel⟩ => ?_
  subst he
  exact ⟨_, rfl, _, _, _, [], _, [], hW', trodAll_mk1 (shut_bool Try.underlying4 _), (trodAll_cons_mk (shut_string Try.underlying9 w0) (trodAll_cons_mk (shut_int Try.underlying3 w1') trodAll_mk0)), rfl, bel.frame _, fun h => by cases h⟩

theorem over : Rows.typesNamesRow.holds Try.pinned (OpenSpec.ofChange Rows.typesNamesSpec) :=
  OpenClaim.holds_of_wide 8 Try.f8 rfl rfl rfl rfl rfl rfl rfl ⟨rfl, rfl, rfl, rfl, rfl⟩ rfl rfl rfl rfl rfl (by kernel_rfl) Try.func8 (by kernel_rfl)
    (of_decide_eq_true (by kernel_rfl)) (by unfold Func.isWrapper; first | (rw [if_pos (by decide +kernel)]; kernel_rfl) | (rw [if_neg (by decide +kernel)]; exact ⟨rfl, rfl⟩))
    (fun os started H enc _ => lifted os started H enc)

theorem proved : Rows.TypesNamesSaid := over
#print axioms proved

end Go.Proofs.Ytfcjnbfbnffcjaa.typesNames
