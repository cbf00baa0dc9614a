/- Proved: whatever the number of labels, the pairs, and the two labels, OrdersClosed answers true: what Close tells is reflexive, leads on, has all pairs, no two are below one another, and it is the least that does; the arguments stay as they were. No condition. -/
import Derived.Test.YtnoigcaapnjcgaaAlive
import Derived.Test.YtnoigcaapnjcgaaPairOwn
import Derived.Test.YtnoigcaapnjcgaaOpenPairs
import Derived.Test.YtnoigcaapnjcgaaRows
import Derived.Deep.DeepCutAuto
namespace Go.Proofs.Ytnoigcaapnjcgaa.ordersClosed
open Go.ChangeShapes Go.WideShapes Go.ChangeAt Go.RowKit

theorem own : ownKnob Try.prog.godebug = none := by kernel_rfl
theorem laidOut : laidOutB Try.prog = true := by kernel_rfl

theorem more_cases {m : Nat} {ps : List (Int × Int)} {rows rows2 : List Nat} {x2 : Int} {a b : Nat} (hm : 1 ≤ m ∧ m ≤ 64) (hW : Within m ps) (hway : Way m (bt (startN m ps)) rows) (hcl : Clos (bt (startN m ps)) (bt rows)) (hA : Anti (bt rows))
    (ha : a < m) (hb : b < m) (hC : CloseIs m (ps ++ [((a : Int), (b : Int))]) rows2 x2) :
    (bt rows a b = true ∧ rows2 = rows ∧ x2 = 0) ∨ (bt rows a b = false ∧ bt rows b a = true ∧ x2 = 9) ∨ (bt rows a b = false ∧ bt rows b a = false ∧ x2 = 0 ∧ rows2.length = m ∧ bt rows2 a b = true) := by
  have hW2 := within_snoc hW ha hb
  have hR := start_snoc hW ha hb
  have hrefl : ∀ i, i < m → bt rows i i = true := fun i hi => hcl.has i i (start_refl hW i hi)
  rcases hC with ⟨hno, _, _⟩ | ⟨_, _, S, hway2, hcl2, hor⟩
  · exact absurd ⟨⟨by omega, by omega⟩, by rw [Int.toNat_natCast]; exact hW2⟩ hno
  rw [Int.toNat_natCast] at hway2 hcl2
  cases hab : bt rows a b with
  | true =>
    have e : S = rows := bt_ext (hway2.len.trans hway.len.symm) (hcl.same hcl2 hR hab)
    subst e
    rcases hor with ⟨_, rfl, rfl⟩ | ⟨hn, _, _⟩
    · exact .inl ⟨rfl, rfl, rfl⟩
    · exact absurd hA hn
  | false =>
    have hSab : bt S a b = true := hcl2.has a b ((hR a b).2 (.inr ⟨rfl, rfl⟩))
    cases hba : bt rows b a with
    | true =>
      have hSba : bt S b a = true := hcl.least (fun i j => bt S i j = true) (fun i j g => hcl2.has i j ((hR i j).2 (.inl g))) hcl2.on b a hba
      rcases hor with ⟨hAS, _, _⟩ | ⟨_, _, rfl⟩
      · have := hAS a b hSab hSba
        subst this
        rw [hrefl a ha] at hab
        cases hab
      · exact .inr (.inl ⟨rfl, rfl, rfl⟩)
    | false =>
      have hAS := hcl.more hcl2 hR (fun i hi => by rcases hi with rfl | rfl <;> exact hrefl _ (by assumption)) hba hA
      rcases hor with ⟨_, rfl, rfl⟩ | ⟨hn, _, _⟩
      · exact .inr (.inr ⟨rfl, rfl, rfl, hway2.len, hSab⟩)
      · exact absurd hAS hn

/-- All that an answer of Close holds. -/
structure Good (m : Nat) (ps : List (Int × Int)) (rows : List Nat) : Prop where
  many : 1 ≤ m ∧ m ≤ 64
  within : Within m ps
  way : Way m (bt (startN m ps)) rows
  clos : Clos (bt (startN m ps)) (bt rows)
  anti : Anti (bt rows)

theorem good_of {N : Int} {ps : List (Int × Int)} {rows : List Nat} {x : Int} (h : CloseIs N ps rows x) : x = 1 ∨ x = 9 ∨ (x = 0 ∧ ∃ m : Nat, N = m ∧ Good m ps rows) := by
  rcases h with ⟨_, _, rfl⟩ | ⟨h1, h2, S, h3, h4, ⟨h5, rfl, rfl⟩ | ⟨_, _, rfl⟩⟩
  · exact .inl rfl
  · refine .inr (.inr ⟨rfl, N.toNat, by omega, ⟨by omega, h2, h3, h4, h5⟩⟩)
  · exact .inr (.inl rfl)

theorem Good.both {m : Nat} {ps : List (Int × Int)} {rows : List Nat} (h : Good m ps rows) {a b : Nat} (ha : a < m) (hb : b < m) : (a = b ↔ (belowB rows a b && belowB rows b a) = true) := by
  have hl := h.way.len
  have hn := h.many
  rw [belowB_bt (by omega) (by omega) (by omega), belowB_bt (by omega) (by omega) (by omega), Bool.and_eq_true]
  constructor
  · rintro rfl
    have := h.clos.has a a (start_refl h.within a ha)
    exact ⟨this, this⟩
  · rintro ⟨h1, h2⟩
    exact h.anti a b h1 h2

theorem Good.on {m : Nat} {ps : List (Int × Int)} {rows : List Nat} (h : Good m ps rows) {a b c : Nat} (ha : a < m) (hb : b < m) (hc : c < m) (h1 : belowB rows a b = true) (h2 : belowB rows b c = true) : belowB rows a c = true := by
  have hl := h.way.len
  have hn := h.many
  rw [belowB_bt (by omega) (by omega) (by omega)] at h1 h2 ⊢
  exact h.clos.on a b c h1 h2

theorem Good.pair {m : Nat} {ps : List (Int × Int)} {rows : List Nat} (h : Good m ps rows) {x y : Nat} (hp : ((x : Int), (y : Int)) ∈ ps) (hx : x < m) (hy : y < m) : belowB rows x y = true := by
  have hl := h.way.len
  have hn := h.many
  rw [belowB_bt (by omega) (by omega) (by omega)]
  exact h.clos.has x y ((startN_bt h.within x y).2 (.inr hp))

def C9 (n : Nat) (w : World) (v9 : Value) (wr : World) : Prop := ∃ k : Nat, v9 = .int .i64 (k : Int) ∧ k ≤ n ∧ Drawn w wr
def Ca (n : Nat) (w : World) (v : Value) (wr : World) : Prop := ∃ a : Nat, v = .int .u64 (a : Int) ∧ a ≤ n ∧ wr = w

theorem pair_inf : (Try.prog.info? 35).map (fun i => (i.zero, i.size, i.bytes)) = some (some (.agg #[.int .i64 0, .int .i64 0]), 2, 16) := by kernel_rfl

set_option maxRecDepth 100000 in
set_option maxHeartbeats 2000000 in
theorem walk (N : Int) (A : Option Addr) (n c0 : Nat) (ps : List (Int × Int)) (z0 z1 : Nat) (w : World) (h : Rp w w.heap.size A n c0 ps) (h0 : z0 < 256) (h1 : z1 < 256) :
    Calls Try.prog 5 #[.int .i64 N, .slice A n c0, .agg #[.int .u8 (z0 : Int), .int .u8 (z1 : Int)]] w fun e w' => e = .returned (.bool true) ∧ Below w.heap.size w w' := by
  have HL := Lib.hid h.len
  have htop := h.top
  have hcap := h.cap
  unfold maxLen at htop
  have hal := (Below.refl w.heap.size w).alloc (Nat.le_refl _) (.cells #[.int .u8 (z0 : Int), .int .u8 (z1 : Int)] 32)
  go_enter Try.func5, Try.ntmps5
  by_cases h300 : 300 < n
  · have d1 : decide (300 < (n : Int)) = true := by simp; omega
    go_wp2_with fail
    refine (alive_any _).mono ?_
    rintro e w1 ⟨rfl, b1⟩
    go_wp2_with fail
    go_ret
    exact ⟨rfl, Below.next (Below.refl _ w) b1⟩
  have d1 : decide (300 < (n : Int)) = false := by simp; omega
  go_wp2_with fail
  refine (close_any N A n c0 ps _ (h.at_size (Nat.le_refl _) hal)).mono ?_
  rintro e w1 ⟨rows, x, A1, n1, c1, rfl, hC, b1, hor⟩
  have b01 := Below.next (Below.refl _ w) b1
  rcases good_of hC with rfl | rfl | ⟨rfl, m, rfl, hG⟩
  · clear hC hor
    go_wp2_with fail
    refine (alive_any _).mono ?_
    rintro e w2 ⟨rfl, b2⟩
    go_wp2_with fail
    go_ret
    exact ⟨rfl, Below.then b01 b2⟩
  · clear hC hor
    go_wp2_with fail
    refine (alive_any _).mono ?_
    rintro e w2 ⟨rfl, b2⟩
    go_wp2_with fail
    go_ret
    exact ⟨rfl, Below.then b01 b2⟩
  clear hC
  have hm := hG.many
  have hrl := hG.way.len
  rcases hor with ⟨_, _, _, e⟩ | ⟨g, _, rfl, rfl, _, hrn, hfit, hblk⟩
  · rw [e] at hrl
    simp at hrl
    omega
  obtain rfl : n1 = m := by omega
  have hrd := rd_blk hblk hrl (by omega)
  have hz0 : w1.cell? ⟨w.heap.size, 0, none⟩ = some (.int .u8 (z0 : Int)) := by
    rw [b1.cell (p := ⟨w.heap.size, 0, none⟩) (by simp), cell_blk (heap_alloc_new w _)]
    rfl
  have hz1 : w1.cell? ⟨w.heap.size, 1, none⟩ = some (.int .u8 (z1 : Int)) := by
    rw [b1.cell (p := ⟨w.heap.size, 1, none⟩) (by simp), cell_blk (heap_alloc_new w _)]
    rfl
  have HC : Hid (∀ (a b : Nat) (W : World), a < 64 → b < 64 → W.heap = w1.heap → Calls Try.prog 10 #[.slice (some ⟨g, 0, none⟩) n1 n1, .int .u64 (a : Int), .int .u64 (b : Int)] W fun e w' => e = .returned (.bool (belowB rows a b)) ∧ w' = W) :=
    Lib.hid fun a b W ha hb hW => below_q _ n1 n1 _ rows a b W (hrd.keep fun _ _ => by rw [hW]) hfit (by omega) (by omega)
  have HZ0 := Lib.hid hz0
  have HZ1 := Lib.hid hz1
  have HG := Lib.hid hG
  have hrp := h.below b01
  have HBL := Lib.hid hblk
  clear hz0 hz1 hG hblk hrd b1
  have hmm : ((n1 : Int) != (n1 : Int)) = false := by simp
  have d2 : decide ((n1 : Int) < 1) = false := by simp; omega
  have d3 : decide (64 < (n1 : Int)) = false := by simp; omega
  go_wp2_with fail
  go_loopw [9] (fun v9 wr => C9 n w1 v9 wr) (fun v9 _ => n - (intOf v9).toNat)
  case atStart => exact ⟨0, rfl, by omega, Drawn.refl _⟩
  case round =>
    obtain ⟨k, rfl, hk, hd⟩ := hrel
    by_cases hlt : k < n
    · obtain ⟨b, o, rfl, hbb, hc⟩ := hrp.spot (by omega)
      have hk' : k < ps.length := by rw [HL.out]; exact hlt
      obtain ⟨hc1, hc2⟩ := hc k hk'
      have hin := HG.out.within ps[k] (List.getElem_mem hk')
      have hmem : ps[k] ∈ ps := List.getElem_mem hk'
      have HMEM := Lib.hid hmem
      clear hc hmem
      generalize ps[k] = q at *
      obtain ⟨x, y⟩ := q
      obtain ⟨⟨hx0, hx1⟩, hy0, hy1⟩ := hin
      have hx0 : (0 : Int) ≤ x := hx0
      have hx1 : x < (n1 : Int) := hx1
      have hy0 : (0 : Int) ≤ y := hy0
      have hy1 : y < (n1 : Int) := hy1
      obtain ⟨x, rfl⟩ : ∃ x' : Nat, x = x' := ⟨x.toNat, by omega⟩
      obtain ⟨y, rfl⟩ : ∃ y' : Nat, y = y' := ⟨y.toNat, by omega⟩
      have hc1 : wr.cell? ⟨b, o + k * 2, none⟩ = some (.int .i64 (x : Int)) := (hd.cell _).trans hc1
      have hc2 : wr.cell? ⟨b, o + k * 2 + 1, none⟩ = some (.int .i64 (y : Int)) := (hd.cell _).trans hc2
      have hxy := HG.out.pair HMEM.out (by omega) (by omega)
      have hcall : ∀ W, W.heap = w1.heap → Calls Try.prog 10 #[.slice (some ⟨g, 0, none⟩) n1 n1, .int .u64 (x : Int), .int .u64 (y : Int)] W fun e w' => e = .returned (.bool true) ∧ w' = W := fun W hW => hxy ▸ HC.out x y W (by omega) (by omega) hW
      have HCALL := Lib.hid hcall
      have d4 : decide ((x : Int) < 0) = false := by simp
      have d5 : decide ((y : Int) < 0) = false := by simp
      clear hcall hxy
      go_wp2
      go_quiet ((go_at_call 10; exact Calls.quiet_of_same (HCALL.out _ hd.heap)))
      go_wp2
      go_roundw
      case rel => exact ⟨k + 1, by go_num, by omega, hd.more _⟩
      case measure => simp [intOf]; omega
    · obtain rfl : k = n := by omega
      have HCW : Hid (∀ (a b : Nat), a < 64 → b < 64 → Calls Try.prog 10 #[.slice (some ⟨g, 0, none⟩) n1 n1, .int .u64 (a : Int), .int .u64 (b : Int)] wr fun e w' => e = .returned (.bool (belowB rows a b)) ∧ wr = w') :=
        Lib.hid fun a b ha hb => (HC.out a b wr ha hb hd.heap).mono fun _ _ ⟨he, hw⟩ => ⟨he, hw.symm⟩
      clear HC
      obtain ⟨wo, rfl⟩ : ∃ wo : World, wo = wr := ⟨_, rfl⟩
      go_wp2
      go_loopw [10] (fun v wr => Ca n1 wo v wr) (fun v _ => n1 - (intOf v).toNat)
      case atStart => exact ⟨0, rfl, by omega, rfl⟩
      case round =>
        obtain ⟨a, rfl, ha, rfl⟩ := hrel
        by_cases hla : a < n1
        · obtain ⟨wo, rfl⟩ : ∃ wo : World, wo = wr := ⟨_, rfl⟩
          go_wp2
          go_loopw [11] (fun v wr => Ca n1 wo v wr) (fun v _ => n1 - (intOf v).toNat)
          case atStart => exact ⟨0, rfl, by omega, rfl⟩
          case round =>
            obtain ⟨b, rfl, hb, rfl⟩ := hrel
            by_cases hlb : b < n1
            · have hc1 := HCW.out a b (by omega) (by omega)
              have hc2 := HCW.out b a (by omega) (by omega)
              have hboth := HG.out.both hla hlb
              have h3 : (((a : Int) == (b : Int)) = true ∧ belowB rows a b = true ∧ belowB rows b a = true) ∨ (((a : Int) == (b : Int)) = false ∧ belowB rows a b = false) ∨ (((a : Int) == (b : Int)) = false ∧ belowB rows a b = true ∧ belowB rows b a = false) := by
                by_cases e : a = b
                · have := hboth.1 e
                  rw [Bool.and_eq_true] at this
                  exact .inl ⟨by simp [e], this⟩
                · have d4 : ((a : Int) == (b : Int)) = false := by simp; omega
                  cases e1 : belowB rows a b with
                  | false => exact .inr (.inl ⟨d4, rfl⟩)
                  | true =>
                    cases e2 : belowB rows b a with
                    | false => exact .inr (.inr ⟨d4, rfl, rfl⟩)
                    | true => exact absurd (hboth.2 (by rw [e1, e2]; rfl)) e
              clear hboth
              obtain ⟨wo, rfl⟩ : ∃ wo : World, wo = wr := ⟨_, rfl⟩
              rcases h3 with ⟨d4, e1, e2⟩ | ⟨d4, e1⟩ | ⟨d4, e1, e2⟩
              (focus
                rw [e1] at hc1
                rw [e2] at hc2
                clear e1 e2
                go_wp2_with (go_at_call 10; (first | (with_reducible refine hc1.mono ?_) | (with_reducible refine hc2.mono ?_)); rintro e w' ⟨rfl, rfl⟩)
                clear hc1 hc2 d4)
              rotate_left
              (focus
                rw [e1] at hc1
                clear e1
                go_wp2_with (go_at_call 10; (with_reducible refine hc1.mono ?_); rintro e w' ⟨rfl, rfl⟩)
                clear hc1 hc2 d4)
              rotate_left
              (focus
                rw [e1] at hc1
                rw [e2] at hc2
                clear e1 e2
                go_wp2_with (go_at_call 10; (first | (with_reducible refine hc1.mono ?_) | (with_reducible refine hc2.mono ?_)); rintro e w' ⟨rfl, rfl⟩)
                clear hc1 hc2 d4)
              rotate_left
              all_goals
                go_loopw [12] (fun v wr => Ca n1 wo v wr) (fun v _ => n1 - (intOf v).toNat)
                case atStart => exact ⟨0, rfl, by omega, rfl⟩
                case round =>
                  obtain ⟨c, rfl, hc, rfl⟩ := hrel
                  by_cases hlc : c < n1
                  · have hc1 := HCW.out a b (by omega) (by omega)
                    have hc2 := HCW.out b c (by omega) (by omega)
                    have hc3 := HCW.out a c (by omega) (by omega)
                    have hon := HG.out.on hla hlb hlc
                    have HON := Lib.hid hon
                    clear hon
                    generalize belowB rows a b = r1 at *
                    generalize belowB rows b c = r2 at *
                    generalize belowB rows a c = r3 at *
                    cases r1 with
                    | false =>
                      go_wp2_with (go_at_call 10; (with_reducible refine hc1.mono ?_); rintro e w' ⟨rfl, rfl⟩)
                      go_roundw
                      case rel => exact ⟨c + 1, by go_num, by omega, rfl⟩
                      case measure => simp [intOf]; omega
                    | true =>
                      cases r2 with
                      | false =>
                        go_wp2_with (go_at_call 10; (first | (with_reducible refine hc1.mono ?_) | (with_reducible refine hc2.mono ?_)); rintro e w' ⟨rfl, rfl⟩)
                        go_roundw
                        case rel => exact ⟨c + 1, by go_num, by omega, rfl⟩
                        case measure => simp [intOf]; omega
                      | true =>
                        obtain rfl : r3 = true := HON.out rfl rfl
                        clear HON
                        go_wp2_with (go_at_call 10; (first | (with_reducible refine hc1.mono ?_) | (with_reducible refine hc2.mono ?_) | (with_reducible refine hc3.mono ?_)); rintro e w' ⟨rfl, rfl⟩)
                        go_roundw
                        case rel => exact ⟨c + 1, by go_num, by omega, rfl⟩
                        case measure => simp [intOf]; omega
                  · obtain rfl : c = n1 := by omega
                    go_wp2
                    go_roundw
                    case rel => exact ⟨b + 1, by go_num, by omega, rfl⟩
                    case measure => simp [intOf]; omega
            · obtain rfl : b = n1 := by omega
              go_wp2
              go_roundw
              case rel => exact ⟨a + 1, by go_num, by omega, rfl⟩
              case measure => simp [intOf]; omega
        · obtain rfl : a = n1 := by omega
          have hz0 : wr.cell? ⟨w.heap.size, 0, none⟩ = some (.int .u8 (z0 : Int)) := (hd.cell _).trans HZ0.out
          have hz1 : wr.cell? ⟨w.heap.size, 1, none⟩ = some (.int .u8 (z1 : Int)) := (hd.cell _).trans HZ1.out
          have b02 : Below w.heap.size w wr := b01.trans (hd.below (B := w.heap.size))
          have hrp2 := hrp.below (hd.below (B := w.heap.size))
          have hblk2 : wr.heap[g]? = some (.cells (cl rows) 23 (0, 0)) := by rw [hd.heap]; exact HBL.out
          have HBL2 := Lib.hid hblk2
          have hm0 : (z0 : Int) % (a : Int) = ((z0 % a : Nat) : Int) := by rw [Int.natCast_emod]
          have hm1 : (z1 : Int) % (a : Int) = ((z1 % a : Nat) : Int) := by rw [Int.natCast_emod]
          have hl0 : z0 % a < a := Nat.mod_lt _ (by omega)
          have hl1 : z1 % a < a := Nat.mod_lt _ (by omega)
          generalize z0 % a = y0 at *
          generalize z1 % a = y1 at *
          clear HZ0 HZ1 hrp hblk2 HBL hd b01
          obtain ⟨i0, hi0, hq0, hq1, hq2⟩ := info_parts pair_inf
          go_upto_region 28 with (fail)
          rw [hm0, hm1]
          clear hm0 hm1
          go_wp2_with (first
            | (at_builtin; refine wpList_append_rp _ rfl (.const (.slice none 0 0)) (.tmp 150) 31 rfl wr.heap.size 35 i0 _ Try.underlying31 hi0 hq0 hq1 hq2 rfl (.slice none 0 0) 0 [] rfl (World.ownsRow_nil _ _ _ _) w.heap.size A k c0 ps rfl hrp2 (by unfold maxLen; omega) (by omega) (Nat.le_refl _) ?_; intro A2 k2 c2 w2 hk2 own2 hg2)
            | (at_builtin; refine wpList_append_rp _ rfl (.tmp 151) (.tmp 155) 31 rfl wr.heap.size 35 i0 _ Try.underlying31 hi0 hq0 hq1 hq2 rfl (.slice A2 k2 c2) k2 _ rfl (own2.alloc _) _ _ 1 1 _ rfl (pairs_one w2 (y0 : Int) (y1 : Int)) (by have := hk2.out; unfold maxLen; omega) (by have := hk2.out; omega) (by have := hg2.size; simp; omega) ?_; intro A3 k3 c3 w3 hk3 own3 hg3))
          have own3' : w3.ownsRow wr.heap.size 35 2 (.slice A3 k3 c3) k3 (flat (ps ++ [((y0 : Int), (y1 : Int))])) := own3
          have hrp3 := Rp.of_own own3'
          have d2 : Below wr.heap.size wr w2 := (Below.refl _ _).grown hg2 (Nat.le_refl _) (by simp [Value.ownBlock])
          have d3 : Below wr.heap.size wr w3 := (d2.alloc d2.size _).grown hg3 (Nat.le_trans d2.size (by simp)) (fun j hj => (own2.lt j hj).1)
          clear own3 own3' own2 hg2 hg3 d2 hrp2 hi0 hq0 hq1 hq2
          refine (close_any (a : Int) A3 k3 c3 (ps ++ [((y0 : Int), (y1 : Int))]) w3 hrp3).mono ?_
          rintro e w4 ⟨rows2, x2, A4, n4, c4, rfl, hC2, b4, hor2⟩
          have d4 := Below.then d3 b4
          have hG := HG.out
          have hcases := more_cases hm hG.within hG.way hG.clos hG.anti hl0 hl1 hC2
          have hrd4 := rd_blk ((d4.block g (lt_blk HBL2.out)).trans HBL2.out) hrl (by omega)
          have hbe : belowB rows y0 y1 = bt rows y0 y1 := belowB_bt (by omega) (by omega) (by omega)
          have hbe2 : belowB rows y1 y0 = bt rows y1 y0 := belowB_bt (by omega) (by omega) (by omega)
          clear hC2 b4 hrp3 d3 hG
          rcases hcases with ⟨e1, e2, rfl⟩ | ⟨e1, e2, rfl⟩ | ⟨e1, e2, rfl, e4, e5⟩
          · subst e2
            have hbn := below_now _ a a rows2 y0 y1 w4 true hrd4 hfit (by omega) (by omega) (hbe.trans e1)
            rcases hor2 with ⟨_, _, _, e⟩ | ⟨g4, _, rfl, rfl, _, hrn4, _, hblk4⟩
            · rw [e] at hrl
              simp at hrl
              omega
            have hrd42 := rd_blk hblk4 hrn4 (by omega)
            clear hbe hbe2 e1 hblk4
            go_wp2_with fail
            refine hbn.mono ?_
            rintro e w5 ⟨rfl, b5⟩
            go_wp2_with fail
            refine (alive_any _).mono ?_
            rintro e w6 ⟨rfl, b6⟩
            have b46 := Below.then b5 b6
            go_wp2_with fail
            refine (same_now _ _ _ _ _ _ _ _ rows2 w6 (hrd42.at_size (Nat.le_refl _) b46) (hrd4.at_size (Nat.le_refl _) b46)).mono ?_
            rintro e w7 ⟨rfl, b7⟩
            go_wp2_with fail
            go_ret
            exact ⟨rfl, Below.then b02 (Below.then d4 (Below.then b46 b7))⟩
          · have hbn := below_now _ a a rows y0 y1 w4 false hrd4 hfit (by omega) (by omega) (hbe.trans e1)
            have hbn2 : ∀ W, Below w4.heap.size w4 W → Calls Try.prog 10 #[.slice (some ⟨g, 0, none⟩) a a, .int .u64 (y1 : Int), .int .u64 (y0 : Int)] W fun e w' => e = .returned (.bool true) ∧ Below W.heap.size W w' := fun W hW => below_now _ a a rows y1 y0 W true (hrd4.at_size (Nat.le_refl _) hW) hfit (by omega) (by omega) (hbe2.trans e2)
            have HB2 := Lib.hid hbn2
            clear hbe hbe2 e1 e2 hbn2 hor2
            go_wp2_with fail
            refine hbn.mono ?_
            rintro e w5 ⟨rfl, b5⟩
            go_wp2_with fail
            refine (HB2.out w5 b5).mono ?_
            rintro e w6 ⟨rfl, b6⟩
            go_wp2_with fail
            refine (alive_any _).mono ?_
            rintro e w7 ⟨rfl, b7⟩
            go_wp2_with fail
            go_ret
            exact ⟨rfl, Below.then b02 (Below.then d4 (Below.then (Below.then b5 b6) b7))⟩
          · have hbn := below_now _ a a rows y0 y1 w4 false hrd4 hfit (by omega) (by omega) (hbe.trans e1)
            have hbn2 : ∀ W, Below w4.heap.size w4 W → Calls Try.prog 10 #[.slice (some ⟨g, 0, none⟩) a a, .int .u64 (y1 : Int), .int .u64 (y0 : Int)] W fun e w' => e = .returned (.bool false) ∧ Below W.heap.size W w' := fun W hW => below_now _ a a rows y1 y0 W false (hrd4.at_size (Nat.le_refl _) hW) hfit (by omega) (by omega) (hbe2.trans e2)
            have HB2 := Lib.hid hbn2
            rcases hor2 with ⟨_, _, _, e⟩ | ⟨g4, _, rfl, rfl, _, hrn4, hfit4, hblk4⟩
            · rw [e] at e4
              simp at e4
              omega
            have hbe3 : belowB rows2 y0 y1 = bt rows2 y0 y1 := belowB_bt (by omega) (by omega) (by omega)
            have hrd42 := rd_blk hblk4 hrn4 (by omega)
            have hbn3 : ∀ W, Below w4.heap.size w4 W → Calls Try.prog 10 #[.slice (some ⟨g4, 0, none⟩) n4 n4, .int .u64 (y0 : Int), .int .u64 (y1 : Int)] W fun e w' => e = .returned (.bool true) ∧ Below W.heap.size W w' := fun W hW => below_now _ n4 n4 rows2 y0 y1 W true (hrd42.at_size (Nat.le_refl _) hW) hfit4 (by omega) (by omega) (hbe3.trans e5)
            have HB3 := Lib.hid hbn3
            clear hbe hbe2 hbe3 e1 e2 e5 hbn2 hbn3 hblk4
            go_wp2_with fail
            refine hbn.mono ?_
            rintro e w5 ⟨rfl, b5⟩
            go_wp2_with fail
            refine (HB2.out w5 b5).mono ?_
            rintro e w6 ⟨rfl, b6⟩
            go_wp2_with fail
            refine (alive_any _).mono ?_
            rintro e w7 ⟨rfl, b7⟩
            have b47 := Below.then (Below.then b5 b6) b7
            go_wp2_with fail
            refine (HB3.out w7 b47).mono ?_
            rintro e w8 ⟨rfl, b8⟩
            go_wp2_with fail
            go_ret
            exact ⟨rfl, Below.then b02 (Below.then d4 (Below.then b47 b8))⟩

theorem u8_nat {a : Int} (h : (Lit.int .u8 a).wf = true) : ∃ b : Nat, a = b ∧ b < 256 := by
  have hb : IntKind.u8.min ≤ a ∧ a ≤ IntKind.u8.max := by simpa [Lit.wf] using h
  have e1 : IntKind.u8.min = 0 := by decide
  have e2 : IntKind.u8.max = 255 := by decide
  rw [e1, e2] at hb
  exact ⟨a.toNat, by omega, by omega⟩

set_option maxRecDepth 100000 in
theorem lifted (os : Os) (started : os.Started) (H : Type) (enc : TypeId × Value → H) :
    ReturnsInHanded {} Try.checked os 5 .any (Rows.ordersClosedSpec.pre6 enc Try.prog Try.f5 Rows.ordersClosedRow.domain false) (Rows.ordersClosedSpec.post enc Try.prog Try.f5 false true false false) := by
  refine returnsInHanded_of_change (C := Try.checked) own started (by kernel_rfl) Try.func5
    (ChangeSpec.witness6 (enc := enc) (C := Try.checked) false ⟨#[], #[.int .i64 0, .slice none 0 0, .agg #[.int .u8 0, .int .u8 0]], []⟩ 8 (by kernel_rfl) (by kernel_rfl) (by kernel_rfl) (by kernel_rfl)) ?_
  intro W base args ds gs before hval0 hW hcnd _
  have hval : ∀ (j : Nat) t v, Try.f5.params[j]? = some t → args[j]? = some v → Value.okWide Try.prog W .any base t v := hval0
  have hW' := hW
  obtain ⟨p, q, hA0, hV, rfl, hfz, hnd⟩ := hW
  have hA : DataW.TrodAll enc Try.prog W 0 (fun _ => true) true Try.f5.params.toList args.toList ds p := hA0
  rw [Try.params5] at hA hval
  obtain ⟨v0, vs0, d0, ds0, p0, q0, hargs, rfl, rfl, h0, r0⟩ := trodAll_cons hA
  obtain ⟨v1, vs1, d1, ds1, p1, q1, rfl, rfl, rfl, h1, r1⟩ := trodAll_cons r0
  obtain ⟨v2, vs2, d2, ds2, p2, q2, rfl, rfl, rfl, h2, r2⟩ := trodAll_cons r1
  obtain ⟨rfl, rfl, rfl⟩ := trodAll_nil r2
  obtain rfl : args = #[v0, v1, v2] := by cases args; simp_all
  obtain ⟨rfl, rfl⟩ := trodVars_none hV
  obtain ⟨x0, rfl, rfl, rfl, w0⟩ := open_int Try.underlying3 (hval 0 3 v0 rfl rfl) h0
  obtain ⟨a1, len1, cap1, rfl⟩ := okWide_slice Try.underlying31 (hval 1 31 v1 rfl rfl)
  have lt1 : ∀ x ∈ p1, x.block < W.heap.size := by obtain ⟨m, hm⟩ := h1; exact DataW.trod_lt m _ _ _ hm
  have lt2 : ∀ x ∈ p2, x.block < W.heap.size := by obtain ⟨m, hm⟩ := h2; exact DataW.trod_lt m _ _ _ hm
  obtain ⟨ps, hr⟩ := opened_pairs Try.underlying31 Try.underlying35 Try.underlying3 (by kernel_rfl) (by kernel_rfl) h1
  obtain ⟨z0, z1, rfl, wz0, wz1⟩ := opened_two Try.underlying32 Try.underlying5 (by kernel_rfl) (by kernel_rfl) h2
  clear hA0 hval0
  obtain ⟨y0, rfl, hy0⟩ := u8_nat wz0
  obtain ⟨y1, rfl, hy1⟩ := u8_nat wz1
  refine (walk x0 a1 len1 cap1 ps y0 y1 W hr hy0 hy1).mono fun e W' ⟨he, bel⟩ => ?_
  subst he
  exact ⟨_, rfl, _, _, _, [], _, [], hW', trodAll_mk1 (shut_bool Try.underlying4 _), (trodAll_cons_mk (shut_int Try.underlying3 w0) (trodAll_cons_mk (Below.trod laidOut (by kernel_rfl) (of_decide_eq_true (by kernel_rfl)) h1 bel lt1) (trodAll_cons_mk (Below.trod laidOut (by kernel_rfl) (of_decide_eq_true (by kernel_rfl)) h2 bel lt2) trodAll_mk0))), rfl, bel.frame _, fun h => by cases h⟩

theorem over : Rows.ordersClosedRow.holds Try.pinned (OpenSpec.ofChange Rows.ordersClosedSpec) :=
  OpenClaim.holds_of_wide 5 Try.f5 rfl rfl rfl rfl rfl rfl rfl ⟨rfl, rfl, rfl, rfl, rfl⟩ rfl rfl rfl rfl rfl (by kernel_rfl) Try.func5 (by kernel_rfl)
    (of_decide_eq_true (by kernel_rfl)) (by unfold Func.isWrapper; first | (rw [if_pos (by decide +kernel)]; kernel_rfl) | (rw [if_neg (by decide +kernel)]; exact ⟨rfl, rfl⟩))
    (fun os started H enc _ => lifted os started H enc)

theorem proved : Rows.OrdersClosedSaid := over
#print axioms proved

end Go.Proofs.Ytnoigcaapnjcgaa.ordersClosed
