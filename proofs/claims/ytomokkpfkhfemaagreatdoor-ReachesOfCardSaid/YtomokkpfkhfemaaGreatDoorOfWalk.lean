/- ReachesOf answers true: the walk. Condition: the bounds can be read. -/
import Derived.Test.YtomokkpfkhfemaaGreatDoorApart
import Derived.Test.YtomokkpfkhfemaaGreatDoorApart2
import Derived.Test.YtomokkpfkhfemaaGreatDoorRefOf
import Derived.Test.YtomokkpfkhfemaaGreatDoorTwinB
namespace Go.Proofs.YtomokkpfkhfemaaGreatDoor
open Go.RowKit
open La (bt)

theorem cell_old {w w' : World} {p : Addr} {v : Value} (h : w.cell? p = some v) (hb : Below w.heap.size w w') : w'.cell? p = some v := (hb.cell (World.block_lt_of_cell? w p h)).trans h

theorem heldD {bk hb cap : Nat} {es : List Ent} {b : Nat} (hd : (heldOf bk hb cap es).D es.length b) : ∃ e ∈ es, ∃ a, e.A = some a ∧ b = a.block := by
  obtain ⟨j, hj, hn, hb⟩ := hd
  have hget : es.getD j zEnt = es[j] := by rw [List.getD_eq_getElem?_getD, List.getElem?_eq_getElem hj]; rfl
  have hn : (es.getD j zEnt).A.isNone = false := hn
  have hb : b = ((es.getD j zEnt).A.map Addr.block).getD 0 := hb
  rw [hget] at hn hb
  refine ⟨es[j], List.getElem_mem hj, ?_⟩
  cases hA : es[j].A with
  | none => rw [hA] at hn; cases hn
  | some a => exact ⟨a, rfl, by rw [hb, hA]; rfl⟩

theorem twinB_lone {w w' : World} {g n no : Nat} {l : List Bd} (h : TwinB w w' g n l) : Lone 55 4 w' ⟨some ⟨g, 0, none⟩, n, n + 1, no⟩ := by
  refine .inr ⟨g, _, rfl, h.blk, ?_, by show n ≤ n + 1; omega, by show n + 1 ≤ maxLen; have := h.top; unfold maxLen; omega, by show n ≤ 1000000; have := h.top; omega⟩
  have hl := flat_len bdc_len (l ++ [bMark])
  show ((l ++ [bMark]).flatMap bdc).toArray.size = (n + 1) * 4
  rw [List.size_toArray, hl, List.length_append, h.len]
  rfl

/-! ### Answers in one form -/
def Own (w0 w : World) (A : Option Addr) (q c : Nat) (gs : Nat → Nat) (P : Nat → Nat → Bool) : Prop :=
  (A = none ∧ q = 0 ∧ c = 0) ∨ ∃ g, A = some ⟨g, 0, none⟩ ∧ c = q ∧ Sqr w w0.heap.size g q gs P
theorem Own.keep {w0 w w' : World} {A : Option Addr} {q c : Nat} {gs : Nat → Nat} {P : Nat → Nat → Bool} (h : Own w0 w A q c gs P) (hb : Below w.heap.size w w') : Own w0 w' A q c gs P :=
  h.imp id fun ⟨g, e1, e2, h⟩ => ⟨g, e1, e2, h.keep hb⟩
theorem Own.rows {w0 w : World} {A : Option Addr} {q c : Nat} {gs : Nat → Nat} {P : Nat → Nat → Bool} (h : Own w0 w A q c gs P) : RowsAt w A q gs P := by
  rcases h with ⟨_, rfl, _⟩ | ⟨g, rfl, _, h⟩
  · exact fun i hi => absurd hi (Nat.not_lt_zero i)
  · exact fun i hi => ⟨g, rfl, (cell_blk h.blk).trans (hdr_at hi hi), h.rows i hi⟩

theorem of_form {k : Int} {l : List Bd} {x : Int} {w w' : World} {e : Ending} (hx : ofE k l = x) (h : OfE k l x w e w') : ∃ A q c gs, e = .returned (.tuple #[.slice A q c, .int .i64 x]) ∧ Below w.heap.size w w' ∧ q ≤ 64 ∧ (x ≠ 0 → q = 0) ∧ (x = 0 → k = ((q : Nat) : Int)) ∧ Own w w' A q c gs (bt (rchN q l)) := by
  rcases h with ⟨h0, rfl, hv⟩ | ⟨rfl, q, g, gs, rfl, rfl, hS, hv⟩
  · exact ⟨none, 0, 0, fun _ => 0, rfl, hv, by omega, fun _ => rfl, fun e => absurd e h0, .inl ⟨rfl, rfl, rfl⟩⟩
  · obtain ⟨q2, e2, h64, -⟩ := ofE_ok hx
    exact ⟨some ⟨g, 0, none⟩, q, q, gs, rfl, hv, by omega, fun h => absurd rfl h, fun _ => rfl, .inr ⟨g, rfl, rfl, hS⟩⟩
theorem ref_form {k : Int} {l : List Bd} {x : Int} {w w' : World} {e : Ending} (h : RefE k l x w e w') : ∃ A q c gs, e = .returned (.tuple #[.slice A q c, .int .i64 x]) ∧ Below w.heap.size w w' ∧ (x ≠ 0 → q = 0) ∧ (x = 0 → k = ((q : Nat) : Int)) ∧ RowsAt w' A q gs (bt (rchN q l)) := by
  rcases h with ⟨h0, rfl, hv⟩ | ⟨rfl, q, A, c, gs, rfl, rfl, hR, hv⟩
  · exact ⟨none, 0, 0, fun _ => 0, rfl, hv, fun _ => rfl, fun e => absurd e h0, fun i hi => absurd hi (Nat.not_lt_zero i)⟩
  · exact ⟨A, q, c, gs, rfl, hv, fun h => absurd rfl h, fun _ => rfl, hR⟩

/-! ### What is kept -/
abbrev oBook : Obj := .cells (bookCells 0 (.slice none 0 0) (.slice none 0 0) (.slice none 0 0)) 46
theorem book0 (w : World) : BookK (w.alloc oBook) w.heap.size 0 (.slice none 0 0) 0 [] (.slice none 0 0) 0 [] (.slice none 0 0) 0 [] := ⟨heap_alloc_new w _, World.ownsRow_nil _ _ _ _, World.ownsRow_nil _ _ _ _, World.ownsRow_nil _ _ _ _⟩

/-- A row, as it is held. -/
def entO (gs : Nat → Nat) (n k j : Nat) : Ent := ⟨some ⟨gs j, 0, none⟩, n, n, k + j + 1⟩
def esO (gs : Nat → Nat) (n k i : Nat) : List Ent := (List.range i).map (entO gs n k)
theorem esO_next (gs : Nat → Nat) (n k i : Nat) : (esO gs n k i).flatMap entc ++ [.slice (some ⟨gs i, 0, none⟩) n n, .slice none 0 0, .int .i64 (((k + i : Nat) : Int) + 1)] = (esO gs n k (i + 1)).flatMap entc := by
  rw [esO, esO, List.range_succ, List.map_append, List.flatMap_append]
  simp [entO, entc]

def KbRel (bk k n : Nat) (gs : Nat → Nat) (vL vB : Value) (kB : Nat) (xB : List Value) (w : World) (v4 : Value) (wr : World) : Prop :=
  ∃ (i : Nat) (vO : Value), v4 = .int .i64 (i : Int) ∧ i ≤ n ∧ BookK wr bk (k + i) vO i ((esO gs n k i).flatMap entc) vL 0 [] vB kB xB ∧ (i = 0 → vO = .slice none 0 0) ∧ Kept (fun b => bk ≤ b) w wr

set_option maxRecDepth 100000 in
set_option maxHeartbeats 2000000 in
theorem boolLists_any (bk k n c : Nat) (A : Option Addr) (gs : Nat → Nat) (P : Nat → Nat → Bool) (vL vB : Value) (kB : Nat) (xB : List Value) (w0 w : World) (hbk : bk = w0.heap.size) (hR : RowsAt w0 A n gs P) (h0 : Kept (fun b => bk ≤ b) w0 w) (hB : BookK w bk k (.slice none 0 0) 0 [] vL 0 [] vB kB xB) (hn : n ≤ 64) (hk : k ≤ 5) :
    Calls Tryz.prog 10 #[.pointer (some ⟨bk, 0, none⟩), .slice A n c] w fun e w' => e = .returned (.tuple #[]) ∧ ∃ vO v', BookK w' bk (k + n + 1) vO n ((esO gs n k n).flatMap entc) v' 1 [.slice A n c, .slice none 0 0, .int .i64 (((k + n : Nat) : Int) + 1)] vB kB xB ∧ (n = 0 → vO = .slice none 0 0) ∧ Kept (fun b => bk ≤ b) w w' := by
  have HR := Lib.hid hR
  have H0 := Lib.hid h0
  have HBK := Lib.hid hbk
  have HB := Lib.hid hB
  clear hR h0 hbk hB
  go_enter Tryz.func10, Tryz.ntmps10
  go_wp2
  go_loopw [4] (fun v4 wr => KbRel bk k n gs vL vB kB xB w v4 wr) (fun v4 _ => n - (intOf v4).toNat)
  case atStart => exact ⟨0, _, rfl, Nat.zero_le _, HB.out, fun _ => rfl, Kept.refl _ _⟩
  case round =>
    obtain ⟨i, vO, rfl, hi, hBk, hnil, hK⟩ := hrel
    have HBk := Lib.hid hBk
    have HNIL := Lib.hid hnil
    have HK := Lib.hid hK
    clear hBk hnil hK
    by_cases hlt : i < n
    · obtain ⟨g, rfl, c0, r0⟩ := HR.out i hlt
      have hgl := World.block_lt_of_cell? _ _ c0
      have hne : ¬ (fun b => bk ≤ b) g := fun h => by have h : bk ≤ g := h; have := HBK.out; have hgl : g < w0.heap.size := hgl; omega
      have c1 : wr.cell? ⟨g, i, none⟩ = some (.slice (some ⟨gs i, 0, none⟩) n n) := ((H0.out.trans HK.out).cell (p := ⟨g, i, none⟩) hgl hne).trans c0
      clear r0 c0 hgl hne
      go_wp2_with fail
      refine (putO_any bk (k + i) vO i _ vL 0 [] vB kB xB (some ⟨gs i, 0, none⟩) n n _ HBk.out (by omega) (by omega)).mono ?_
      rintro e w1 ⟨rfl, v1, B1, K1⟩
      have HREL : Hid (KbRel bk k n gs vL vB kB xB w (.int .i64 ((i : Int) + 1)) w1) := Lib.hid ⟨i + 1, v1, by go_num, hlt, by
        rw [esO_next] at B1
        exact B1, fun h => absurd h (Nat.succ_ne_zero i), HK.out.trans K1⟩
      clear B1 K1 c1
      go_wp2_with fail
      go_roundw
      case rel => exact HREL.out
      case measure => simp [intOf]; omega
    · obtain rfl : n = i := by omega
      go_wp2_with fail
      refine (keepL_any bk (k + n) vO n _ vL 0 [] vB kB xB A n c _ HBk.out (by omega) (by omega)).mono ?_
      rintro e w1 ⟨rfl, v1, B1, K1⟩
      go_wp2_with fail
      go_end0
      exact ⟨rfl, vO, v1, B1, HNIL.out, HK.out.trans K1⟩
/-! ### The walk -/
theorem esO_lone {w0 w W : World} {A : Option Addr} {q c k : Nat} {gs : Nat → Nat} {P : Nat → Nat → Bool} (h : Own w0 w A q c gs P) (hq : q ≤ 64) {D : Nat → Prop} (hk : Kept D w W) (hd : ∀ b, b < w.heap.size → ¬ D b) : ∀ e ∈ esO gs q k q, Lone 4 1 W e := by
  intro e he
  obtain ⟨j, hj, rfl⟩ := List.mem_map.1 he
  have hj := List.mem_range.1 hj
  rcases h with ⟨_, rfl, _⟩ | ⟨g, _, _, hS⟩
  · exact absurd hj (Nat.not_lt_zero j)
  · have hr := hS.rows j hj
    exact Lone.keep (.inr ⟨gs j, _, rfl, hr, by show (bls (P j) q q).size = q * 1; simp [bls], Nat.le_refl _, by show q ≤ maxLen; unfold maxLen; omega, by show q ≤ 1000000; omega⟩) hk hd
theorem esO_apart {w0 w : World} {A : Option Addr} {q c k : Nat} {gs : Nat → Nat} {P : Nat → Nat → Bool} (h : Own w0 w A q c gs P) : (esO gs q k q).Pairwise fun a b => ∀ x y, a.A = some x → b.A = some y → x.block ≠ y.block := by
  refine List.pairwise_map.2 ((List.pairwise_lt_range (n := q)).imp_of_mem fun {i j} hi hj hlt x y hx hy => ?_)
  have hi := List.mem_range.1 hi
  have hj := List.mem_range.1 hj
  injection hx with hx
  injection hy with hy
  subst hx hy
  show gs i ≠ gs j
  rcases h with ⟨_, rfl, _⟩ | ⟨g, _, _, hS⟩
  · exact absurd hj (Nat.not_lt_zero j)
  · exact hS.apart i j hi hj (by omega)
theorem own_lone {w0 w W : World} {A : Option Addr} {q c no : Nat} {gs : Nat → Nat} {P : Nat → Nat → Bool} (h : Own w0 w A q c gs P) (hq : q ≤ 64) {D : Nat → Prop} (hk : Kept D w W) (hd : ∀ b, b < w.heap.size → ¬ D b) : Lone 62 1 W ⟨A, q, c, no⟩ := by
  rcases h with ⟨rfl, rfl, rfl⟩ | ⟨g, rfl, rfl, hS⟩
  · exact .inl ⟨rfl, rfl, rfl⟩
  · exact Lone.keep (.inr ⟨g, _, rfl, hS.blk, by show (hdr gs c c).size = c * 1; simp [hdr], Nat.le_refl _, by show c ≤ maxLen; unfold maxLen; omega, by show c ≤ 1000000; omega⟩) hk hd
theorem own_ge {w0 w : World} {A : Option Addr} {q c : Nat} {gs : Nat → Nat} {P : Nat → Nat → Bool} (h : Own w0 w A q c gs P) : (∀ a, A = some a → w0.heap.size ≤ a.block) ∧ ∀ j, j < q → w0.heap.size ≤ gs j := by
  rcases h with ⟨rfl, rfl, rfl⟩ | ⟨g, rfl, rfl, hS⟩
  · exact ⟨fun a e => (by cases e), fun j hj => absurd hj (Nat.not_lt_zero j)⟩
  · exact ⟨fun a e => by
      injection e with e
      subst e
      exact hS.gbase, hS.bases⟩

set_option maxRecDepth 100000 in
set_option maxHeartbeats 8000000 in
theorem walk (k : Int) (A : Option Addr) (n c : Nat) (l : List Bd) (w : World) (h : Rs bdc 4 w w.heap.size A n c l) (_hf : ∀ b ∈ l, b.Fit) :
    Calls Tryz.prog 3 #[.int .i64 k, .slice A n c] w fun e w' => e = .returned (.bool true) ∧ Below w.heap.size w w' := by
  by_cases h300 : 300 < n
  · have h301 : (300 : Int) < (n : Int) := by omega
    clear h h300
    go_enter Tryz.func3, Tryz.ntmps3
    go_wp2
    go_ret
    exact ⟨rfl, Below.refl _ _⟩
  have h301 : ¬ (300 : Int) < (n : Int) := by omega
  have HN : Hid (n ≤ 300) := Lib.hid (by omega)
  clear h300
  obtain ⟨x, hx⟩ : ∃ x, ofE k l = x := ⟨_, rfl⟩
  have HX := Lib.hid hx
  clear hx
  go_enter Tryz.func3, Tryz.ntmps3
  go_wp2_with fail
  refine (twinB_any A n c l w h (by have := HN.out; omega)).mono ?_
  rintro e w1 ⟨g0, rfl, htB, hv⟩
  clear h301
  replace h := h.at_size (Nat.le_refl _) hv
  have hb := hv
  have HOLD := Lib.hid htB.old
  clear hv
  go_wp2_with fail
  refine (of_any k (some ⟨g0, 0, none⟩) n (n + 1) l w1 x htB.rs HX.out).mono ?_
  rintro e w2 hE
  obtain ⟨A1, q, c1, gs, rfl, hv, hq, hq0, hk0, hO⟩ := of_form HX.out hE
  have HS1 := Lib.hid hb.size
  replace h := h.at_size (Nat.le_refl _) hv
  replace htB := htB.keep hv
  replace hb := hb.trans (hv.mono hb.size)
  have HQ := Lib.hid hq
  have HQ0 := Lib.hid hq0
  have HK0 := Lib.hid hk0
  clear hE hv hq hq0 hk0
  go_wp2_with fail
  refine (refOf_any k A n c l w2 x h HX.out).mono ?_
  rintro e w3 hE
  obtain ⟨A2, q2, c2, gs2, rfl, hv, hq0, hk0, hR⟩ := ref_form hE
  obtain rfl : q = q2 := by
    by_cases hx0 : x = 0
    · have := HK0.out hx0
      have := hk0 hx0
      omega
    · rw [HQ0.out hx0, hq0 hx0]
  replace h := h.at_size (Nat.le_refl _) hv
  replace htB := htB.keep hv
  replace hO := hO.keep hv
  replace hb := hb.trans (hv.mono hb.size)
  clear hE hv hq0 hk0
  have hne : (x != x) = false := by simp
  go_wp2_with fail
  refine (same_any q A1 c1 A2 c2 gs gs2 (bt (rchN q l)) (bt (rchN q l)) _ hO.rows hR HQ.out true (sameSq_iff.2 fun _ _ _ _ => rfl)).mono ?_
  rintro e w4 ⟨rfl, hv⟩
  replace h := h.at_size (Nat.le_refl _) hv
  replace htB := htB.keep hv
  replace hO := hO.keep hv
  replace hb := hb.trans (hv.mono hb.size)
  clear hv hR
  go_wp2_with fail
  refine (leftB_any _ w4.heap.size A g0 n c l w4 htB h).mono ?_
  rintro e w5 ⟨rfl, hv⟩
  replace h := h.at_size (Nat.le_refl _) hv
  replace htB := htB.keep hv
  replace hO := hO.keep hv
  replace hb := hb.trans (hv.mono hb.size)
  clear hv h hne
  have hn300 := HN.out
  have hq64 := HQ.out
  have K0 : Kept (fun b => w5.heap.size ≤ b) w5 (w5.alloc oBook) := (Kept.refl _ _).alloc _
  generalize bt (rchN q l) = S at hO
  go_wp2_with fail
  refine (putB_any w5.heap.size 0 _ 0 [] _ 0 [] _ 0 [] _ n (n + 1) _ (book0 w5) (by omega) (by omega)).mono ?_
  rintro e w6 ⟨rfl, vB, K1, K1k⟩
  have K01 := K0.trans K1k
  clear K0 K1k
  go_wp2_with fail
  refine (boolLists_any w5.heap.size _ q c1 A1 gs S _ _ _ _ w5 _ rfl hO.rows K01 K1 HQ.out (by omega)).mono ?_
  rintro e w7 ⟨rfl, vO, vL, K2, hnil, K2k⟩
  have K02 := K01.trans K2k
  clear K01 K1 K2k
  have hfar : ∀ b, b < w5.heap.size → ¬ w5.heap.size ≤ b := fun b h => by omega
  have lB : Lone 55 4 w7 ⟨some ⟨g0, 0, none⟩, n, n + 1, 1⟩ := (twinB_lone htB).keep K02 hfar
  have lL : Lone 62 1 w7 ⟨A1, q, c1, 1 + q + 1⟩ := own_lone hO HQ.out K02 hfar
  have lO : ∀ e ∈ esO gs q 1 q, Lone 4 1 w7 e := esO_lone hO HQ.out K02 hfar
  have hb1 : ∃ B, w7.heap[w5.heap.size]? = some (.cells B 46 (0, 0)) := ⟨_, K2.blk⟩
  obtain ⟨hbL, capL, gL, eL, bL⟩ := book_of (K := 6) (HT := 70) (E := 62) (sz := 1) (es := [⟨A1, q, c1, 1 + q + 1⟩]) (by rw [cell_blk K2.blk]; rfl) hb1 K2.oL (by simp) (by simp) (by intro e he; simp only [List.mem_singleton] at he; subst he; exact lL) (by simp) (by intro e he; simp only [List.mem_singleton] at he; subst he; show 1 + q + 1 ≤ 100; omega)
  obtain ⟨hbB, capB, gBb, eB, bB⟩ := book_of (K := 9) (HT := 68) (E := 55) (sz := 4) (es := [⟨some ⟨g0, 0, none⟩, n, n + 1, 1⟩]) (by rw [cell_blk K2.blk]; rfl) hb1 K2.oB (by simp) (by simp) (by intro e he; simp only [List.mem_singleton] at he; subst he; exact lB) (by simp) (by intro e he; simp only [List.mem_singleton] at he; subst he; show 1 ≤ 100; omega)
  have hsz := hb.size
  obtain ⟨hgA, hgR⟩ := own_ge hO
  have HGA := Lib.hid hgA
  have HGR := Lib.hid hgR
  have HL := Lib.hid bL
  have HB := Lib.hid bB
  have HBK := Lib.hid K2.blk
  clear lB lL bL bB hgA hgR
  by_cases hq1 : q = 0
  · obtain rfl := hnil hq1
    clear lO hb1 K2 htB hO hnil
    go_wp2_with fail
    refine (apart2_any _ _ w5.heap.size _ _ _ _ HL.out rfl HB.out rfl HBK.out).mono ?_
    rintro e w8 ⟨rfl, K16⟩
    go_wp2_with fail
    go_ret
    refine ⟨rfl, hb.trans ((K02.below hsz (fun b h => by omega)).trans (K16.below (Nat.le_trans hsz K02.size) ?_))⟩
    have hs1 := HS1.out
    have hold := HOLD.out
    rintro b ((e | e) | (e | e))
    · have e : b = hbL := e
      omega
    · obtain ⟨y, hy, a, ha, rfl⟩ := heldD e
      simp only [List.mem_singleton] at hy
      subst hy
      have := HGA.out a ha
      omega
    · have e : b = hbB := e
      omega
    · obtain ⟨y, hy, a, ha, rfl⟩ := heldD e
      simp only [List.mem_singleton] at hy
      subst hy
      injection ha with ha
      subst ha
      exact hold
  · have hlen : (esO gs q 1 q).length = q := by simp [esO]
    obtain ⟨hbO, capO, gO, eO, bO⟩ := book_of (K := 5) (HT := 88) (E := 4) (sz := 1) (es := esO gs q 1 q) (by rw [cell_blk K2.blk]; rfl) hb1 (by rw [hlen]; exact K2.oO) (by omega) (by omega) lO (esO_apart hO) (by
      intro e he
      obtain ⟨j, hj, rfl⟩ := List.mem_map.1 he
      have hj := List.mem_range.1 hj
      show 1 + j + 1 ≤ 100
      omega)
    have HO := Lib.hid bO
    clear lO hb1 K2 htB hO hnil bO
    go_wp2_with fail
    refine (apart_any _ _ _ w5.heap.size _ _ _ _ _ HO.out rfl HL.out rfl HB.out rfl HBK.out).mono ?_
    rintro e w8 ⟨rfl, K16⟩
    go_wp2_with fail
    go_ret
    refine ⟨rfl, hb.trans ((K02.below hsz (fun b h => by omega)).trans (K16.below (Nat.le_trans hsz K02.size) ?_))⟩
    have hs1 := HS1.out
    have hold := HOLD.out
    rintro b ((e | e) | (e | e) | (e | e))
    · have e : b = hbO := e
      omega
    · obtain ⟨y, hy, a, ha, rfl⟩ := heldD e
      obtain ⟨j, hj, rfl⟩ := List.mem_map.1 hy
      have hj := List.mem_range.1 hj
      injection ha with ha
      subst ha
      have := HGR.out j hj
      show w.heap.size ≤ gs j
      omega
    · have e : b = hbL := e
      omega
    · obtain ⟨y, hy, a, ha, rfl⟩ := heldD e
      simp only [List.mem_singleton] at hy
      subst hy
      have := HGA.out a ha
      omega
    · have e : b = hbB := e
      omega
    · obtain ⟨y, hy, a, ha, rfl⟩ := heldD e
      simp only [List.mem_singleton] at hy
      subst hy
      injection ha with ha
      subst ha
      exact hold
end Go.Proofs.YtomokkpfkhfemaaGreatDoor
