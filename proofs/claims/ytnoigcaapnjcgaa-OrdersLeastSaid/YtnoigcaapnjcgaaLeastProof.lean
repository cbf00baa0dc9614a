/- Proved: whatever the rows, OrdersLeast answers true: in an order that may be each two have just one above both that is below all others above both, and just one below both that all others below both are below; the rows stay as they were. No condition. -/
import Derived.Test.YtnoigcaapnjcgaaAlive
import Derived.Test.YtnoigcaapnjcgaaOpen
import Derived.Test.YtnoigcaapnjcgaaRows
import Derived.Deep.DeepCutAuto
namespace Go.Proofs.Ytnoigcaapnjcgaa.ordersLeast
open Go.ChangeShapes Go.WideShapes Go.ChangeAt Go.RowKit

theorem own : ownKnob Try.prog.godebug = none := by kernel_rfl
theorem laidOut : laidOutB Try.prog = true := by kernel_rfl

/-- How many below k meet p. -/
def cnt (p : Nat → Bool) : Nat → Nat
  | 0 => 0
  | k + 1 => cnt p k + (p k).toNat

theorem cnt_one {p : Nat → Bool} {n c : Nat} (hc : c < n) (h1 : p c = true) (h2 : ∀ x, x < n → p x = true → x = c) : cnt p n = 1 := by
  have key : ∀ k, k ≤ n → cnt p k = if c < k then 1 else 0 := by
    intro k
    induction k with
    | zero => intro _; rfl
    | succ k ih =>
      intro hk
      rw [cnt, ih (by omega)]
      by_cases e : k = c
      · subst e
        rw [h1, if_neg (by omega), if_pos (by omega)]
        rfl
      · have : p k = false := by
          cases hp : p k with
          | false => rfl
          | true => exact absurd (h2 k (by omega) hp) e
        rw [this]
        by_cases hck : c < k
        · rw [if_pos hck, if_pos (by omega)]; rfl
        · rw [if_neg hck, if_neg (by omega)]; rfl
  rw [key n (Nat.le_refl _), if_pos hc]

def upK (l : List Nat) (a b c d : Nat) : Bool := (belowB l a c && belowB l b c) && (List.range d).all fun x => !belowB l a x || !belowB l b x || belowB l c x
def downK (l : List Nat) (a b c d : Nat) : Bool := (belowB l c a && belowB l c b) && (List.range d).all fun x => !belowB l x a || !belowB l x b || belowB l x c

theorem upK_succ (l : List Nat) (a b c d : Nat) : upK l a b c (d + 1) = (upK l a b c d && (!belowB l a d || !belowB l b d || belowB l c d)) := by
  simp [upK, List.range_succ, Bool.and_assoc]
theorem downK_succ (l : List Nat) (a b c d : Nat) : downK l a b c (d + 1) = (downK l a b c d && (!belowB l d a || !belowB l d b || belowB l d c)) := by
  simp [downK, List.range_succ, Bool.and_assoc]

theorem upK_off {l : List Nat} {a b c d : Nat} (h : upK l a b c d = false) : ∀ k, upK l a b c (d + k) = false
  | 0 => h
  | k + 1 => by rw [← Nat.add_assoc, upK_succ, upK_off h k, Bool.false_and]
theorem downK_off {l : List Nat} {a b c d : Nat} (h : downK l a b c d = false) : ∀ k, downK l a b c (d + k) = false
  | 0 => h
  | k + 1 => by rw [← Nat.add_assoc, downK_succ, downK_off h k, Bool.false_and]

theorem ups_one {l : List Nat} {a b : Nat} (hn : l.length ≤ 64) (ho : IsOrd l.length (bt l)) (hu : Ups l.length (bt l)) (ha : a < l.length) (hb : b < l.length) : cnt (fun c => upK l a b c l.length) l.length = 1 := by
  have e : ∀ {a b}, a < l.length → b < l.length → belowB l a b = bt l a b := belowB_bt hn
  obtain ⟨c, hc, h1, h2, h3⟩ := hu a b ha hb
  have spec : ∀ x, x < l.length → (upK l a b x l.length = true ↔ (bt l a x = true ∧ bt l b x = true) ∧ ∀ d, d < l.length → bt l a d = true → bt l b d = true → bt l x d = true) := by
    intro x hx
    simp only [upK, Bool.and_eq_true, List.all_eq_true, List.mem_range, Bool.or_eq_true, Bool.not_eq_true', e ha hx, e hb hx]
    constructor
    · rintro ⟨g1, g2⟩
      refine ⟨g1, fun d hd k1 k2 => ?_⟩
      rcases g2 d hd with (g | g) | g
      · rw [e ha hd, k1] at g; cases g
      · rw [e hb hd, k2] at g; cases g
      · rwa [e hx hd] at g
    · rintro ⟨g1, g2⟩
      refine ⟨g1, fun d hd => ?_⟩
      rw [e ha hd, e hb hd, e hx hd]
      cases k1 : bt l a d with
      | false => exact .inl (.inl rfl)
      | true =>
        cases k2 : bt l b d with
        | false => exact .inl (.inr rfl)
        | true => exact .inr (g2 d hd k1 k2)
  refine cnt_one hc ((spec c hc).2 ⟨⟨h1, h2⟩, h3⟩) fun x hx hp => ?_
  obtain ⟨⟨g1, g2⟩, g3⟩ := (spec x hx).1 hp
  exact ho.anti x c hx hc (g3 c hc h1 h2) (h3 x hx g1 g2)

theorem downs_one {l : List Nat} {a b : Nat} (hn : l.length ≤ 64) (ho : IsOrd l.length (bt l)) (hu : Ups l.length (turn (bt l))) (ha : a < l.length) (hb : b < l.length) : cnt (fun c => downK l a b c l.length) l.length = 1 := by
  have e : ∀ {a b}, a < l.length → b < l.length → belowB l a b = bt l a b := belowB_bt hn
  obtain ⟨c, hc, h1, h2, h3⟩ := hu a b ha hb
  have h1 : bt l c a = true := h1
  have h2 : bt l c b = true := h2
  have h3 : ∀ d, d < l.length → bt l d a = true → bt l d b = true → bt l d c = true := h3
  have spec : ∀ x, x < l.length → (downK l a b x l.length = true ↔ (bt l x a = true ∧ bt l x b = true) ∧ ∀ d, d < l.length → bt l d a = true → bt l d b = true → bt l d x = true) := by
    intro x hx
    simp only [downK, Bool.and_eq_true, List.all_eq_true, List.mem_range, Bool.or_eq_true, Bool.not_eq_true', e hx ha, e hx hb]
    constructor
    · rintro ⟨g1, g2⟩
      refine ⟨g1, fun d hd k1 k2 => ?_⟩
      rcases g2 d hd with (g | g) | g
      · rw [e hd ha, k1] at g; cases g
      · rw [e hd hb, k2] at g; cases g
      · rwa [e hd hx] at g
    · rintro ⟨g1, g2⟩
      refine ⟨g1, fun d hd => ?_⟩
      rw [e hd ha, e hd hb, e hd hx]
      cases k1 : bt l d a with
      | false => exact .inl (.inl rfl)
      | true =>
        cases k2 : bt l d b with
        | false => exact .inl (.inr rfl)
        | true => exact .inr (g2 d hd k1 k2)
  refine cnt_one hc ((spec c hc).2 ⟨⟨h1, h2⟩, h3⟩) fun x hx hp => ?_
  obtain ⟨⟨g1, g2⟩, g3⟩ := (spec x hx).1 hp
  exact ho.anti x c hx hc (h3 x hx g1 g2) (g3 c hc h1 h2)

theorem cnt_le (p : Nat → Bool) : ∀ k, cnt p k ≤ k
  | 0 => Nat.le_refl _
  | k + 1 => by
    have := cnt_le p k
    rw [cnt]
    cases p k <;> simp <;> omega

def La (n : Nat) (w : World) (v : Value) (wr : World) : Prop := ∃ a : Nat, v = .int .u64 (a : Int) ∧ a ≤ n ∧ wr = w
def Lc (l : List Nat) (a b : Nat) (w : World) (v6 v7 v8 : Value) (wr : World) : Prop :=
  ∃ c : Nat, v8 = .int .u64 (c : Int) ∧ c ≤ l.length ∧ v6 = .int .i64 (cnt (fun c => upK l a b c l.length) c : Int) ∧ v7 = .int .i64 (cnt (fun c => downK l a b c l.length) c : Int) ∧ wr = w
def Ld (l : List Nat) (a b c : Nat) (w : World) (v9 v10 v11 : Value) (wr : World) : Prop :=
  ∃ d : Nat, v11 = .int .u64 (d : Int) ∧ d ≤ l.length ∧ v9 = .bool (upK l a b c d) ∧ v10 = .bool (downK l a b c d) ∧ wr = w

set_option maxRecDepth 100000 in
set_option maxHeartbeats 2000000 in
theorem walk (A : Option Addr) (n c0 : Nat) (l : List Nat) (w : World) (h : Rd nm w w.heap.size A n c0 l) (hf : Fit l) :
    Calls Try.prog 4 #[.slice A n c0] w fun e w' => e = .returned (.bool true) ∧ Below w.heap.size w w' := by
  have HL := Lib.hid h.len
  have htop := h.top
  have hcap := h.cap
  unfold maxLen at htop
  go_enter Try.func4, Try.ntmps4
  by_cases h64 : 64 < n
  · have d1 : decide (64 < (n : Int)) = true := by simp; omega
    go_wp2_with fail
    refine (alive_any _).mono ?_
    rintro e w1 ⟨rfl, b1⟩
    go_wp2_with fail
    go_ret
    exact ⟨rfl, b1⟩
  have d1 : decide (64 < (n : Int)) = false := by simp; omega
  by_cases hck : checkN l = 0
  case neg =>
    have hck' : (checkN l != 0) = true := by simpa using hck
    go_wp2_with fail
    refine (check_any A n c0 l w h hf).mono ?_
    rintro e w1 ⟨rfl, b1⟩
    clear hck
    generalize checkN l = y at *
    go_wp2_with fail
    refine (alive_any _).mono ?_
    rintro e w2 ⟨rfl, b2⟩
    go_wp2_with fail
    go_ret
    exact ⟨rfl, Below.then b1 b2⟩
  have hchk := checkN_is l
  rw [hck] at hchk
  have hgood : Known l ∧ IsOrd l.length (bt l) ∧ (Ups l.length (bt l) ∧ Ups l.length (turn (bt l))) := by
    rcases hchk with ⟨_, e⟩ | ⟨_, _, e⟩ | ⟨_, _, _, e⟩ | ⟨a, b, c, _⟩
    · cases e
    · cases e
    · cases e
    · exact ⟨a, b, c⟩
  have HG := Lib.hid hgood
  clear hgood hchk
  have hn64 : l.length ≤ 64 := by rw [HL.out]; omega
  have hcc := check_any A n c0 l w h hf
  rw [hck] at hcc
  clear hck
  go_wp2_with fail
  refine hcc.mono ?_
  rintro e w1 ⟨rfl, b1⟩
  clear hcc
  have hr := h.below b1
  have HCALL : Hid (∀ (a b : Nat), a < 64 → b < 64 → Calls Try.prog 10 #[.slice A n c0, .int .u64 (a : Int), .int .u64 (b : Int)] w1 fun e w' => e = .returned (.bool (belowB l a b)) ∧ w1 = w') := Lib.hid fun a b ha hb => below_any A n c0 _ l a b w1 hr hf (by omega) (by omega)
  clear hr
  go_wp2_with fail
  go_loopw [4] (fun v wr => La n w1 v wr) (fun v _ => n - (intOf v).toNat)
  case atStart => exact ⟨0, rfl, by omega, rfl⟩
  case round =>
    obtain ⟨a, rfl, ha, rfl⟩ := hrel
    by_cases hla : a < n
    · obtain ⟨wo, rfl⟩ : ∃ wo : World, wo = wr := ⟨_, rfl⟩
      go_wp2
      go_loopw [5] (fun v wr => La n wo v wr) (fun v _ => n - (intOf v).toNat)
      case atStart => exact ⟨0, rfl, by omega, rfl⟩
      case round =>
        obtain ⟨b, rfl, hb, rfl⟩ := hrel
        by_cases hlb : b < n
        · have H1 : Hid (cnt (fun c => upK l a b c l.length) n = 1) := Lib.hid (by have := ups_one hn64 HG.out.2.1 HG.out.2.2.1 (a := a) (b := b) (by rw [HL.out]; exact hla) (by rw [HL.out]; exact hlb); rwa [HL.out] at this ⊢)
          have H2 : Hid (cnt (fun c => downK l a b c l.length) n = 1) := Lib.hid (by have := downs_one hn64 HG.out.2.1 HG.out.2.2.2 (a := a) (b := b) (by rw [HL.out]; exact hla) (by rw [HL.out]; exact hlb); rwa [HL.out] at this ⊢)
          obtain ⟨wo, rfl⟩ : ∃ wo : World, wo = wr := ⟨_, rfl⟩
          go_wp2
          go_loopw [6, 7, 8] (fun v6 v7 v8 wr => Lc l a b wo v6 v7 v8 wr) (fun _ _ v8 _ => n - (intOf v8).toNat)
          case atStart => exact ⟨0, rfl, by omega, rfl, rfl, rfl⟩
          case round =>
            obtain ⟨c, rfl, hc, rfl, rfl, rfl⟩ := hrel
            by_cases hlc : c < n
            · have HUS := fun d => Lib.hid (upK_succ l a b c d)
              have HDS := fun d => Lib.hid (downK_succ l a b c d)
              have HUO : ∀ d, Hid (upK l a b c d = false → ∀ k, upK l a b c (d + k) = false) := fun d => Lib.hid upK_off
              have HDO : ∀ d, Hid (downK l a b c d = false → ∀ k, downK l a b c (d + k) = false) := fun d => Lib.hid downK_off
              have HU0 : Hid (upK l a b c 0 = (belowB l a c && belowB l b c)) := Lib.hid (by simp [upK])
              have HD0 : Hid (downK l a b c 0 = (belowB l c a && belowB l c b)) := Lib.hid (by simp [downK])
              have HCU : Hid (cnt (fun c => upK l a b c l.length) (c + 1) = cnt (fun c => upK l a b c l.length) c + (upK l a b c n).toNat) := Lib.hid (by rw [cnt, HL.out])
              have HCD : Hid (cnt (fun c => downK l a b c l.length) (c + 1) = cnt (fun c => downK l a b c l.length) c + (downK l a b c n).toNat) := Lib.hid (by rw [cnt, HL.out])
              have hcu := cnt_le (fun c => upK l a b c l.length) c
              have hcd := cnt_le (fun c => downK l a b c l.length) c
              generalize cnt (fun c => upK l a b c l.length) c = cu at *
              generalize cnt (fun c => downK l a b c l.length) c = cd at *
              have hc1 := HCALL.out a c (by omega) (by omega)
              have hc2 := HCALL.out b c (by omega) (by omega)
              have hc3 := HCALL.out c a (by omega) (by omega)
              have hc4 := HCALL.out c b (by omega) (by omega)
              obtain ⟨wo, rfl⟩ : ∃ wo : World, wo = wr := ⟨_, rfl⟩
              go_upto_region 15 with (fail)
              go_cut [9] (fun s9 wx => s9 = .bool (upK l a b c 0) ∧ wo = wx)
              case first =>
                generalize belowB l a c = r1 at *
                generalize belowB l b c = r2 at *
                cases r1
                · go_wp2_with (go_at_call 10; (with_reducible refine hc1.mono ?_); rintro e w' ⟨rfl, rfl⟩)
                  go_meet
                  exact ⟨by rw [HU0.out]; rfl, rfl⟩
                · go_wp2_with (go_at_call 10; (first | (with_reducible refine hc1.mono ?_) | (with_reducible refine hc2.mono ?_)); rintro e w' ⟨rfl, rfl⟩)
                  go_meet
                  exact ⟨by rw [HU0.out]; rfl, rfl⟩
              case rest =>
                obtain ⟨rfl, rfl⟩ := hcut
                go_upto_region 16 with (fail)
                go_cut [10] (fun s10 wx => s10 = .bool (downK l a b c 0) ∧ wo = wx)
                case first =>
                  generalize belowB l c a = r1 at *
                  generalize belowB l c b = r2 at *
                  cases r1
                  · go_wp2_with (go_at_call 10; (with_reducible refine hc3.mono ?_); rintro e w' ⟨rfl, rfl⟩)
                    go_meet
                    exact ⟨by rw [HD0.out]; rfl, rfl⟩
                  · go_wp2_with (go_at_call 10; (first | (with_reducible refine hc3.mono ?_) | (with_reducible refine hc4.mono ?_)); rintro e w' ⟨rfl, rfl⟩)
                    go_meet
                    exact ⟨by rw [HD0.out]; rfl, rfl⟩
                case rest =>
                  obtain ⟨rfl, rfl⟩ := hcut
                  clear hc1 hc2 hc3 hc4 HU0 HD0
                  go_wp2
                  go_loopw [9, 10, 11] (fun v9 v10 v11 wr => Ld l a b c wo v9 v10 v11 wr) (fun _ _ v11 _ => n - (intOf v11).toNat)
                  case atStart => exact ⟨0, rfl, by omega, rfl, rfl, rfl⟩
                  case round =>
                    obtain ⟨d, rfl, hd, rfl, rfl, rfl⟩ := hrel
                    by_cases hout : d < n ∧ (upK l a b c d || downK l a b c d) = true
                    · obtain ⟨hld, hon⟩ := hout
                      have hc1 := HCALL.out a d (by omega) (by omega)
                      have hc2 := HCALL.out b d (by omega) (by omega)
                      have hc3 := HCALL.out c d (by omega) (by omega)
                      have hc4 := HCALL.out d a (by omega) (by omega)
                      have hc5 := HCALL.out d b (by omega) (by omega)
                      have hc6 := HCALL.out d c (by omega) (by omega)
                      have HUS1 := HUS d
                      have HDS1 := HDS d
                      clear HUS HDS HUO HDO
                      have hld' : decide (d < n) = true := by simpa using hld
                      have HON := Lib.hid hon
                      clear hon
                      generalize upK l a b c d = u at *
                      generalize downK l a b c d = v at *
                      have hon : u = true ∨ (u = false ∧ v = true) := by
                        have := HON.out
                        cases u with
                        | true => exact .inl rfl
                        | false => exact .inr ⟨rfl, by simpa using this⟩
                      clear HON
                      obtain ⟨wo, rfl⟩ : ∃ wo : World, wo = wr := ⟨_, rfl⟩
                      rcases hon with rfl | ⟨rfl, rfl⟩
                      (focus go_upto_region 20 with (fail))
                      rotate_left
                      (focus go_upto_region 20 with (fail))
                      rotate_left
                      · go_cut [9] (fun s9 wx => s9 = .bool (upK l a b c (d + 1)) ∧ wo = wx)
                        case first =>
                          generalize belowB l a d = r1 at *
                          generalize belowB l b d = r2 at *
                          generalize belowB l c d = r3 at *
                          cases r1
                          · go_wp2_with (go_at_call 10; (first | (with_reducible refine hc1.mono ?_)); rintro e w' ⟨rfl, rfl⟩)
                            go_meet
                            exact ⟨by rw [HUS1.out]; rfl, rfl⟩
                          · cases r2
                            · go_wp2_with (go_at_call 10; (first | (with_reducible refine hc1.mono ?_) | (with_reducible refine hc2.mono ?_)); rintro e w' ⟨rfl, rfl⟩)
                              go_meet
                              exact ⟨by rw [HUS1.out]; rfl, rfl⟩
                            · go_wp2_with (go_at_call 10; (first | (with_reducible refine hc1.mono ?_) | (with_reducible refine hc2.mono ?_) | (with_reducible refine hc3.mono ?_)); rintro e w' ⟨rfl, rfl⟩)
                              go_meet
                              exact ⟨by rw [HUS1.out]; cases r3 <;> rfl, rfl⟩
                        case rest =>
                          obtain ⟨rfl, rfl⟩ := hcut
                          go_upto_region 21 with (fail)
                          generalize belowB l d a = r1 at *
                          generalize belowB l d b = r2 at *
                          generalize belowB l d c = r3 at *
                          cases v
                          · go_wp2_with fail
                            go_roundw
                            case rel => exact ⟨d + 1, by go_num, by have := HL.out; omega, rfl, by rw [HDS1.out]; rfl, rfl⟩
                            case measure => simp [intOf]; omega
                          · cases r1
                            · go_wp2_with (go_at_call 10; (first | (with_reducible refine hc4.mono ?_)); rintro e w' ⟨rfl, rfl⟩)
                              go_roundw
                              case rel => exact ⟨d + 1, by go_num, by have := HL.out; omega, rfl, by rw [HDS1.out]; rfl, rfl⟩
                              case measure => simp [intOf]; omega
                            · cases r2
                              · go_wp2_with (go_at_call 10; (first | (with_reducible refine hc4.mono ?_) | (with_reducible refine hc5.mono ?_)); rintro e w' ⟨rfl, rfl⟩)
                                go_roundw
                                case rel => exact ⟨d + 1, by go_num, by have := HL.out; omega, rfl, by rw [HDS1.out]; rfl, rfl⟩
                                case measure => simp [intOf]; omega
                              · go_wp2_with (go_at_call 10; (first | (with_reducible refine hc4.mono ?_) | (with_reducible refine hc5.mono ?_) | (with_reducible refine hc6.mono ?_)); rintro e w' ⟨rfl, rfl⟩)
                                go_roundw
                                case rel => exact ⟨d + 1, by go_num, by have := HL.out; omega, rfl, by rw [HDS1.out]; cases r3 <;> rfl, rfl⟩
                                case measure => simp [intOf]; omega
                      · go_cut [9] (fun s9 wx => s9 = .bool (upK l a b c (d + 1)) ∧ wo = wx)
                        case first =>
                          generalize belowB l a d = r1 at *
                          generalize belowB l b d = r2 at *
                          generalize belowB l c d = r3 at *
                          go_wp2_with fail
                          go_meet
                          exact ⟨by rw [HUS1.out]; rfl, rfl⟩
                        case rest =>
                          obtain ⟨rfl, rfl⟩ := hcut
                          go_upto_region 21 with (fail)
                          generalize belowB l d a = r1 at *
                          generalize belowB l d b = r2 at *
                          generalize belowB l d c = r3 at *
                          cases r1
                          · go_wp2_with (go_at_call 10; (first | (with_reducible refine hc4.mono ?_)); rintro e w' ⟨rfl, rfl⟩)
                            go_roundw
                            case rel => exact ⟨d + 1, by go_num, by have := HL.out; omega, rfl, by rw [HDS1.out]; rfl, rfl⟩
                            case measure => simp [intOf]; omega
                          · cases r2
                            · go_wp2_with (go_at_call 10; (first | (with_reducible refine hc4.mono ?_) | (with_reducible refine hc5.mono ?_)); rintro e w' ⟨rfl, rfl⟩)
                              go_roundw
                              case rel => exact ⟨d + 1, by go_num, by have := HL.out; omega, rfl, by rw [HDS1.out]; rfl, rfl⟩
                              case measure => simp [intOf]; omega
                            · go_wp2_with (go_at_call 10; (first | (with_reducible refine hc4.mono ?_) | (with_reducible refine hc5.mono ?_) | (with_reducible refine hc6.mono ?_)); rintro e w' ⟨rfl, rfl⟩)
                              go_roundw
                              case rel => exact ⟨d + 1, by go_num, by have := HL.out; omega, rfl, by rw [HDS1.out]; cases r3 <;> rfl, rfl⟩
                              case measure => simp [intOf]; omega
                    · have hfin : upK l a b c n = upK l a b c d ∧ downK l a b c n = downK l a b c d ∧ (d < n → upK l a b c d = false ∧ downK l a b c d = false) := by
                        by_cases e : d = n
                        · subst e
                          exact ⟨rfl, rfl, fun h => absurd h (by omega)⟩
                        · have hlt : d < n := by have := HL.out; omega
                          have h2 : upK l a b c d = false ∧ downK l a b c d = false := by
                            cases h1 : upK l a b c d with
                            | true => exact absurd ⟨hlt, by rw [h1]; rfl⟩ hout
                            | false =>
                              cases h2 : downK l a b c d with
                              | true => exact absurd ⟨hlt, by rw [h2]; simp⟩ hout
                              | false => exact ⟨rfl, rfl⟩
                          have e1 := (HUO d).out h2.1 (n - d)
                          have e2 := (HDO d).out h2.2 (n - d)
                          rw [show d + (n - d) = n by omega] at e1 e2
                          exact ⟨e1.trans h2.1.symm, e2.trans h2.2.symm, fun _ => h2⟩
                      obtain ⟨hf1, hf2, hf3⟩ := hfin
                      rw [hf1] at HCU
                      rw [hf2] at HCD
                      clear HUS HDS HUO HDO hout hf1 hf2
                      generalize upK l a b c d = u at *
                      generalize downK l a b c d = v at *
                      by_cases hld : d < n
                      · obtain ⟨rfl, rfl⟩ := hf3 hld
                        clear hf3
                        go_wp2_with fail
                        go_roundw
                        case rel => exact ⟨c + 1, by go_num, by have := HL.out; omega, by rw [HCU.out]; rfl, by rw [HCD.out]; rfl, rfl⟩
                        case measure => simp [intOf]; omega
                      · clear hf3
                        obtain rfl : d = n := by have := HL.out; omega
                        cases u <;> cases v
                        all_goals
                          go_wp2_with fail
                          go_roundw
                          case rel => exact ⟨c + 1, by go_num, by have := HL.out; omega, by rw [HCU.out]; first | rfl | simp, by rw [HCD.out]; first | rfl | simp, rfl⟩
                          case measure => simp [intOf]; omega
            · obtain rfl : c = n := by have := HL.out; omega
              rw [H1.out, H2.out]
              go_wp2
              go_roundw
              case rel => exact ⟨b + 1, by go_num, by omega, rfl⟩
              case measure => simp [intOf]; omega
        · obtain rfl : b = n := by omega
          go_wp2
          go_roundw
          case rel => exact ⟨a + 1, by go_num, by omega, rfl⟩
          case measure => simp [intOf]; omega
    · obtain rfl : a = n := by omega
      go_wp2_with fail
      refine (alive_any _).mono ?_
      rintro e w2 ⟨rfl, b2⟩
      go_wp2_with fail
      go_ret
      exact ⟨rfl, Below.then b1 b2⟩

set_option maxRecDepth 100000 in
theorem lifted (os : Os) (started : os.Started) (H : Type) (enc : TypeId × Value → H) :
    ReturnsInHanded {} Try.checked os 4 .any (Rows.ordersLeastSpec.pre6 enc Try.prog Try.f4 Rows.ordersLeastRow.domain false) (Rows.ordersLeastSpec.post enc Try.prog Try.f4 false true false false) := by
  refine returnsInHanded_of_change (C := Try.checked) own started (by kernel_rfl) Try.func4
    (ChangeSpec.witness6 (enc := enc) (C := Try.checked) false ⟨#[], #[.slice none 0 0], []⟩ 8 (by kernel_rfl) (by kernel_rfl) (by kernel_rfl) (by kernel_rfl)) ?_
  intro W base args ds gs before hval0 hW hcnd _
  have hval : ∀ (j : Nat) t v, Try.f4.params[j]? = some t → args[j]? = some v → Value.okWide Try.prog W .any base t v := hval0
  have hW' := hW
  obtain ⟨p, q, hA0, hV, rfl, hfz, hnd⟩ := hW
  have hA : DataW.TrodAll enc Try.prog W 0 (fun _ => true) true Try.f4.params.toList args.toList ds p := hA0
  rw [Try.params4] at hA hval
  obtain ⟨v0, vs0, d0, ds0, p0, q0, hargs, rfl, rfl, h0, r0⟩ := trodAll_cons hA
  obtain ⟨rfl, rfl, rfl⟩ := trodAll_nil r0
  obtain rfl : args = #[v0] := by cases args; simp_all
  obtain ⟨rfl, rfl⟩ := trodVars_none hV
  obtain ⟨a0, len0, cap0, rfl⟩ := okWide_slice Try.underlying22 (hval 0 22 v0 rfl rfl)
  have lt0 : ∀ x ∈ p0, x.block < W.heap.size := by obtain ⟨m, hm⟩ := h0; exact DataW.trod_lt m _ _ _ hm
  obtain ⟨us, hr, hu⟩ := opened_nums Try.underlying22 Try.underlying23 (by kernel_rfl) h0
  clear hA0 hval0
  refine (walk a0 len0 cap0 us W hr hu).mono fun e W' ⟨he, bel⟩ => ?_
  subst he
  exact ⟨_, rfl, _, _, _, [], _, [], hW', trodAll_mk1 (shut_bool Try.underlying4 _), (trodAll_cons_mk (Below.trod laidOut (by kernel_rfl) (of_decide_eq_true (by kernel_rfl)) h0 bel lt0) trodAll_mk0), rfl, bel.frame _, fun h => by cases h⟩

theorem over : Rows.ordersLeastRow.holds Try.pinned (OpenSpec.ofChange Rows.ordersLeastSpec) :=
  OpenClaim.holds_of_wide 4 Try.f4 rfl rfl rfl rfl rfl rfl rfl ⟨rfl, rfl, rfl, rfl, rfl⟩ rfl rfl rfl rfl rfl (by kernel_rfl) Try.func4 (by kernel_rfl)
    (of_decide_eq_true (by kernel_rfl)) (by unfold Func.isWrapper; first | (rw [if_pos (by decide +kernel)]; kernel_rfl) | (rw [if_neg (by decide +kernel)]; exact ⟨rfl, rfl⟩))
    (fun os started H enc _ => lifted os started H enc)

theorem proved : Rows.OrdersLeastSaid := over
#print axioms proved

end Go.Proofs.Ytnoigcaapnjcgaa.ordersLeast
