/- NumsPut answers true: the walk. -/
import Derived.Test.YtakkmmnpocbakaaGreatDoorApart
import Derived.Test.YtakkmmnpocbakaaGreatDoorRefPut
namespace Go.Proofs.YtakkmmnpocbakaaGreatDoor
open Go.RowKit

theorem Below.then {w a a' : World} (h : Below w.heap.size w a) (k : Below a.heap.size a a') : Below w.heap.size w a' := h.trans (k.mono h.size)

theorem below_drewN (w : World) (k : Nat) : Below w.heap.size w (w.drewN k) := ⟨rfl, rfl, rfl, Nat.le_refl _, fun _ _ => rfl⟩

theorem same_now (B1 B2 : Nat) (A1 A2 : Option Addr) (n1 c1 n2 c2 : Nat) (l : List UInt8) (w : World) (h1 : Rd w B1 A1 n1 c1 l) (h2 : Rd w B2 A2 n2 c2 l) : Calls Tryz.prog 8 #[.slice A1 n1 c1, .slice A2 n2 c2] w fun e w' => e = .returned (.bool true) ∧ Below w.heap.size w w' :=
  (same_any B1 B2 A1 A2 n1 c1 n2 c2 l w h1 h2).mono fun _ _ ⟨he, k, hw⟩ => ⟨he, hw ▸ below_drewN w k⟩

theorem left_now (w0 : World) (B : Nat) (A : Option Addr) (g n c : Nat) (l : List UInt8) (w : World) (ht : TwinOf w0 w g n l) (h : Rd w B A n c l) :
    Calls Tryz.prog 12 #[.slice (some ⟨g, 0, none⟩) n (n + 1), .slice A n c] w fun e w' => e = .returned (.bool true) ∧ Below w.heap.size w w' :=
  (left_any w0 B A g n c l w ht h).mono fun _ _ ⟨he, k, hw⟩ => ⟨he, hw ▸ below_drewN w k⟩

/-- A list's block, known whole. -/
structure Lies (w : World) (g n c : Nat) : Prop where
  blk : ∃ cur, w.heap[g]? = some (.cells cur 5 (0, 0)) ∧ cur.size = c
  fit : n ≤ c
  top : c ≤ maxLen
  small : n ≤ 1000000

theorem Lies.keep {w w' : World} {g n c : Nat} {D : Nat → Prop} (h : Lies w g n c) (hk : Kept D w w') (hn : ¬ D g) : Lies w' g n c := by
  obtain ⟨cur, e1, e2⟩ := h.blk
  exact ⟨⟨cur, (hk.block g (lt_blk e1) hn).trans e1, e2⟩, h.fit, h.top, h.small⟩

theorem Lies.lt {w : World} {g n c : Nat} (h : Lies w g n c) : g < w.heap.size := by
  obtain ⟨cur, e1, _⟩ := h.blk
  exact lt_blk e1

theorem fresh_lies {w w' : World} {A : Option Addr} {n c : Nat} {l : List UInt8} (h : Fresh 5 w w' A n c l) (hn : 0 < n) (hs : n ≤ 1000000) : ∃ g, A = some ⟨g, 0, none⟩ ∧ w.heap.size ≤ g ∧ Lies w' g n c := by
  rcases h.own.2 with ⟨_, e⟩ | ⟨g, cap, cur, hv, hb, hg, hnc, hcm, hcs, _⟩
  · omega
  · injection hv with h1 h2 h3
    subst h3
    exact ⟨g, h1, hb, ⟨cur, hg, by simpa using hcs⟩, hnc, hcm, hs⟩

theorem twin_lies {w w' : World} {g n : Nat} {l : List UInt8} (h : TwinOf w w' g n l) (hs : n ≤ 1000000) : Lies w' g n (n + 1) :=
  ⟨⟨_, h.blk, by simp [Lib.byteCells_length, h.len]⟩, by omega, by have := h.top; omega, hs⟩

/-- The four lists as a book holds them. -/
def held4 (bk hb cap g0 n0 c0 g1 n1 c1 g2 n2 c2 g3 n3 c3 : Nat) : Held :=
  { bk := bk, hb := hb, cap := cap, m := 4, g := fun i => if i = 0 then g0 else if i = 1 then g1 else if i = 2 then g2 else g3, n := fun i => if i = 0 then n0 else if i = 1 then n1 else if i = 2 then n2 else n3, c := fun i => if i = 0 then c0 else if i = 1 then c1 else if i = 2 then c2 else c3 }

theorem book4 {w : World} {bk g0 n0 c0 g1 n1 c1 g2 n2 c2 g3 n3 c3 : Nat} {v : Value}
    (hB : BookK w bk 4 v ([] ++ [.slice (some ⟨g0, 0, none⟩) n0 c0, .slice none 0 0, .int .i64 (((0 : Nat) : Int) + 1)] ++ [.slice (some ⟨g1, 0, none⟩) n1 c1, .slice none 0 0, .int .i64 (((1 : Nat) : Int) + 1)] ++ [.slice (some ⟨g2, 0, none⟩) n2 c2, .slice none 0 0, .int .i64 (((2 : Nat) : Int) + 1)] ++ [.slice (some ⟨g3, 0, none⟩) n3 c3, .slice none 0 0, .int .i64 (((3 : Nat) : Int) + 1)]))
    (l0 : Lies w g0 n0 c0) (l1 : Lies w g1 n1 c1) (l2 : Lies w g2 n2 c2) (l3 : Lies w g3 n3 c3) (h01 : g0 < g1) (h12 : g1 < g2) (h23 : g2 < g3) (h3b : g3 < bk) :
    ∃ hb cap, bk < hb ∧ BookAt (held4 bk hb cap g0 n0 c0 g1 n1 c1 g2 n2 c2 g3 n3 c3) w := by
  rcases hB.own.2 with ⟨_, e⟩ | ⟨hb, cap, cur, hv, hbb, hH, hnc, hcm, hcs, htake⟩
  · cases e
  · subst hv
    have hcell : ∀ j u, ([] ++ [.slice (some ⟨g0, 0, none⟩) n0 c0, .slice none 0 0, .int .i64 (((0 : Nat) : Int) + 1)] ++ [.slice (some ⟨g1, 0, none⟩) n1 c1, .slice none 0 0, .int .i64 (((1 : Nat) : Int) + 1)] ++ [.slice (some ⟨g2, 0, none⟩) n2 c2, .slice none 0 0, .int .i64 (((2 : Nat) : Int) + 1)] ++ [.slice (some ⟨g3, 0, none⟩) n3 c3, .slice none 0 0, .int .i64 (((3 : Nat) : Int) + 1)])[j]? = some u → w.cell? ⟨hb, j, none⟩ = some u := by
      intro j u hu
      have := hB.own.cells (g := hb) rfl j u hu
      rwa [Addr.add_lit, Nat.zero_add] at this
    have four : ∀ i, i < 4 → i = 0 ∨ i = 1 ∨ i = 2 ∨ i = 3 := by omega
    refine ⟨hb, cap, by omega, ⟨(show 4 ≤ 100 by decide), ?_, fun i hi => ?_, fun i hi => ?_, fun i hi => ?_, ⟨lt_blk hB.blk, lt_blk hH⟩, ⟨cur, hH⟩, ?_, fun i hi => ?_, fun i hi => ?_, fun i j hi hj hne => ?_, fun i hi => ?_⟩⟩
    · show w.cell? ⟨bk, 1, none⟩ = _
      rw [cell_blk hB.blk]
      rfl
    · rcases four i hi with rfl | rfl | rfl | rfl <;> exact hcell _ _ rfl
    · rcases four i hi with rfl | rfl | rfl | rfl <;> exact ⟨none, 0, 0, hcell _ _ rfl⟩
    · rcases four i hi with rfl | rfl | rfl | rfl <;> exact hcell _ _ rfl
    · show bk ≠ hb
      omega
    · rcases four i hi with rfl | rfl | rfl | rfl
      · exact l0.small
      · exact l1.small
      · exact l2.small
      · exact l3.small
    · rcases four i hi with rfl | rfl | rfl | rfl
      · obtain ⟨cu, e1, e2⟩ := l0.blk; exact ⟨cu, e1, e2, l0.fit, l0.top⟩
      · obtain ⟨cu, e1, e2⟩ := l1.blk; exact ⟨cu, e1, e2, l1.fit, l1.top⟩
      · obtain ⟨cu, e1, e2⟩ := l2.blk; exact ⟨cu, e1, e2, l2.fit, l2.top⟩
      · obtain ⟨cu, e1, e2⟩ := l3.blk; exact ⟨cu, e1, e2, l3.fit, l3.top⟩
    · rcases four i hi with rfl | rfl | rfl | rfl <;> rcases four j hj with rfl | rfl | rfl | rfl <;> simp [held4] <;> omega
    · rcases four i hi with rfl | rfl | rfl | rfl <;> simp [held4] <;> omega

theorem rputFour_int (A : Option Addr) (n c : Nat) (bs : List UInt8) (z : Int) (y : Nat) (w : World) (h : Rd w w.heap.size A n c bs) (hz : z = (y : Int)) (hy : y < 4294967296) (hb : n ≤ 140737488351232) :
    Calls Tryz.prog 10 #[.slice A n c, .int .u32 z] w fun e w' => ∃ A n c, e = .returned (.slice A n c) ∧ Fresh 5 w w' A n c (bs ++ four y) := by
  subst hz
  exact rputFour_any A n c bs y w h hy hb

set_option maxRecDepth 100000 in
set_option maxHeartbeats 4000000 in
theorem walk_small (A : Option Addr) (n c : Nat) (l : List UInt8) (x : Nat) (s : ByteArray) (w : World) (h : Rd w w.heap.size A n c l) (hx : x < 18446744073709551616) (hn : n ≤ 20000) (hs : s.size ≤ 20000) :
    Calls Tryz.prog 3 #[.slice A n c, .int .u64 (x : Int), .string s] w fun e w' => e = .returned (.bool true) ∧ Below w.heap.size w w' := by
  have HX := Lib.hid hx
  clear hx
  have t1 : decide (20000 < (n : Int)) = false := by simp; omega
  have t2 : decide (20000 < (s.size : Int)) = false := by simp; omega
  go_enter Tryz.func3, Tryz.ntmps3
  go_wp2_with fail
  refine (twin_any A n c l _ h (by omega)).mono ?_
  rintro e w1 ⟨g, rfl, ht1, b1⟩
  have r1 := ht1.rd
  go_wp2_with fail
  refine (put_any _ n (n + 1) l (x : Int) _ r1 (by omega) (by have := HX.out; omega) (by omega)).mono ?_
  rintro e w2 ⟨Ax, nx, cx, rfl, fx⟩
  rw [Int.toNat_natCast] at fx
  have b2 := Below.then b1 fx.bel
  go_wp2_with fail
  refine (putFour_any _ n (n + 1) l ((x : Int) % 4294967296) _ (r1.at_size (Nat.le_refl _) fx.bel) (by omega) (by omega) (by omega)).mono ?_
  rintro e w3 ⟨Ay, ny, cy, rfl, fy⟩
  have hy4 : ((x : Int) % 4294967296).toNat = x % 4294967296 := by omega
  rw [hy4] at fy
  clear hy4
  have b3 := Below.then b2 fy.bel
  have d13 := Below.then fx.bel fy.bel
  go_wp2_with fail
  refine (putText_any _ n (n + 1) l s _ (r1.at_size (Nat.le_refl _) d13) (by omega) (by omega)).mono ?_
  rintro e w4 ⟨Az, nz, cz, rfl, fz⟩
  have b4 := Below.then b3 fz.bel
  have rx := fx.rd.at_size (Nat.le_refl _) (Below.then fy.bel fz.bel)
  have ry := fy.rd.at_size (Nat.le_refl _) fz.bel
  have rz := fz.rd
  have r4 := h.at_size (Nat.le_refl _) b4
  have ht4 := ht1.keep (Below.then d13 fz.bel)
  -- where the lists lie
  have lx : l.length + (Lib.uvarint x).length = nx := by rw [← fx.len, List.length_append]
  have ly : l.length + 4 = ny := by rw [← fy.len, List.length_append]; rfl
  have lz : l.length + (Lib.uvarint s.size ++ s.data.toList).length = nz := by have e := fz.len; rw [List.length_append] at e; exact e
  have lz2 : (Lib.uvarint s.size ++ s.data.toList).length = (Lib.uvarint s.size).length + s.size := by rw [List.length_append]; rfl
  have hlen := h.len
  have px := Lib.uvarint_pos x
  have px2 := Lib.uvarint_length64 HX.out
  have pz := Lib.uvarint_pos s.size
  have pz2 := Lib.uvarint_length64 (x := s.size) (by omega)
  obtain ⟨gx, rfl, gx1, Lx⟩ := fresh_lies fx (by omega) (by omega)
  obtain ⟨gy, rfl, gy1, Ly⟩ := fresh_lies fy (by omega) (by omega)
  obtain ⟨gz, rfl, gz1, Lz⟩ := fresh_lies fz (by omega) (by omega)
  have Lt := twin_lies ht1 (by omega)
  have k12 : Kept (fun _ => False) w1 w2 := Kept.of_below fx.bel
  have k23 : Kept (fun _ => False) w2 w3 := Kept.of_below fy.bel
  have k34 : Kept (fun _ => False) w3 w4 := Kept.of_below fz.bel
  have Lt4 := Lt.keep ((k12.trans k23).trans k34) (by simp)
  have Lx4 := Lx.keep (k23.trans k34) (by simp)
  have Ly4 := Ly.keep k34 (by simp)
  have o0 := ht1.old
  have o1 := Lt.lt
  have o2 := Lx.lt
  have o3 := Ly.lt
  clear lx ly lz lz2 hlen px px2 pz pz2 Lt Lx Ly k12 k23 k34 fx fy fz r1 d13 b1 b2 b3 ht1
  have g01 : g < gx := by omega
  have g12 : gx < gy := by omega
  have g23 : gy < gz := by omega
  have gw : w.heap.size ≤ g := o0
  clear o0 o1 o2 o3 gx1 gy1 gz1
  go_wp2_with fail
  refine (rput_any A n c l x _ r4 HX.out (by omega)).mono ?_
  rintro e w5 ⟨A5, n5, c5, rfl, f5⟩
  go_wp2_with fail
  refine (same_now _ _ _ _ _ _ _ _ _ _ (rx.at_size (Nat.le_refl _) f5.bel) f5.rd).mono ?_
  rintro e w6 ⟨rfl, b6⟩
  have d6 := Below.then f5.bel b6
  clear f5 b6
  go_wp2_with fail
  refine (rputFour_int A n c l ((x : Int) % 4294967296) (x % 4294967296) _ (r4.at_size (Nat.le_refl _) d6) (by omega) (by omega) (by omega)).mono ?_
  rintro e w7 ⟨A7, n7, c7, rfl, f7⟩
  have d7 := Below.then d6 f7.bel
  go_wp2_with fail
  refine (same_now _ _ _ _ _ _ _ _ _ _ (ry.at_size (Nat.le_refl _) d7) f7.rd).mono ?_
  rintro e w8 ⟨rfl, b8⟩
  have d8 := Below.then d7 b8
  clear f7 b8 d7 d6
  go_wp2_with fail
  refine (rputText_any A n c l s _ (r4.at_size (Nat.le_refl _) d8) (by omega) (by omega)).mono ?_
  rintro e w9 ⟨A9, n9, c9, rfl, f9⟩
  have d9 := Below.then d8 f9.bel
  go_wp2_with fail
  refine (same_now _ _ _ _ _ _ _ _ _ _ (rz.at_size (Nat.le_refl _) d9) f9.rd).mono ?_
  rintro e w10 ⟨rfl, b10⟩
  have d10 := Below.then d9 b10
  clear f9 b10 d9 d8
  go_wp2_with fail
  refine (left_now w _ A g n c l _ (ht4.keep d10) (r4.at_size (Nat.le_refl _) d10)).mono ?_
  rintro e w11 ⟨rfl, b11⟩
  have d11 := Below.then d10 b11
  have k11 : Kept (fun _ => False) w4 w11 := Kept.of_below d11
  have Lt11 := Lt4.keep k11 (by simp)
  have Lx11 := Lx4.keep k11 (by simp)
  have Ly11 := Ly4.keep k11 (by simp)
  have Lz11 := Lz.keep k11 (by simp)
  have b12 := Below.then b4 d11
  clear d10 b11 d11 k11 Lt4 Lx4 Ly4 Lz rx ry rz r4 ht4 b4
  go_wp2_with fail
  have B0 : BookK (w11.alloc (.cells (bookCells 0 (.slice none 0 0)) 46)) w11.heap.size 0 (.slice none 0 0) [] := ⟨heap_alloc_new w11 _, World.ownsRow_nil _ _ _ _⟩
  have K0 : Kept (fun b => w11.heap.size ≤ b) w11 (w11.alloc (.cells (bookCells 0 (.slice none 0 0)) 46)) := (Kept.refl _ _).alloc _
  refine (bytes_any w11.heap.size 0 _ [] _ n (n + 1) _ B0 (by omega)).mono ?_
  rintro e w12 ⟨rfl, v1, B1, K1⟩
  have K01 := K0.trans K1
  clear B0 K0 K1
  go_wp2_with fail
  refine (bytes_any w11.heap.size 1 _ _ _ nx cx _ B1 (by omega)).mono ?_
  rintro e w13 ⟨rfl, v2, B2, K2⟩
  have K02 := K01.trans K2
  clear B1 K01 K2
  go_wp2_with fail
  refine (bytes_any w11.heap.size 2 _ _ _ ny cy _ B2 (by omega)).mono ?_
  rintro e w14 ⟨rfl, v3, B3, K3⟩
  have K03 := K02.trans K3
  clear B2 K02 K3
  go_wp2_with fail
  refine (bytes_any w11.heap.size 3 _ _ _ nz cz _ B3 (by omega)).mono ?_
  rintro e w15 ⟨rfl, v4, B4, K4⟩
  have K04 := K03.trans K4
  clear B3 K03 K4
  have hlt := Lz11.lt
  have lt0 := Lt11.lt
  have lt1 := Lx11.lt
  have lt2 := Ly11.lt
  obtain ⟨hb, cap, hbk, hBook⟩ := book4 B4 (Lt11.keep K04 (by omega)) (Lx11.keep K04 (by omega)) (Ly11.keep K04 (by omega)) (Lz11.keep K04 (by omega)) g01 g12 g23 hlt
  have hblk := Lib.hid B4.blk
  clear B4 lt0 lt1 lt2
  go_wp2_with fail
  refine (apart_any _ v4 _ hBook hblk.out).mono ?_
  rintro e w16 ⟨rfl, K16⟩
  go_wp2_with fail
  go_ret
  refine ⟨rfl, b12.trans ((K04.below b12.size (fun b hb => by have := b12.size; omega)).trans (K16.below ?_ ?_))⟩
  · exact Nat.le_trans b12.size K04.size
  · rintro b (e | ⟨j, hj, e⟩)
    · have e : b = hb := e
      have := b12.size
      omega
    · rw [e]
      show w.heap.size ≤ (if j = 0 then g else if j = 1 then gx else if j = 2 then gy else gz)
      split
      · omega
      · split
        · omega
        · split <;> omega

set_option maxRecDepth 100000 in
theorem walk_out (A : Option Addr) (n c : Nat) (z : Int) (s : ByteArray) (w : World) (m1 : n ≤ 9223372036854775807) (m2 : s.size ≤ 9223372036854775807) (hout : ¬ (n ≤ 20000 ∧ s.size ≤ 20000)) :
    Calls Tryz.prog 3 #[.slice A n c, .int .u64 z, .string s] w fun e w' => e = .returned (.bool true) ∧ Below w.heap.size w w' := by
  have hcase : (decide (20000 < (n : Int)) = true) ∨ (decide (20000 < (n : Int)) = false ∧ decide (20000 < (s.size : Int)) = true) := by
    by_cases h1 : n ≤ 20000
    · have h2 : ¬ s.size ≤ 20000 := fun h => hout ⟨h1, h⟩
      exact .inr ⟨by simp; omega, by simp; omega⟩
    · exact .inl (by simp; omega)
  clear hout
  rcases hcase with t1 | ⟨t1, t2⟩
  all_goals
    go_enter Tryz.func3, Tryz.ntmps3
    go_wp2_with fail
    go_ret
    exact ⟨rfl, Below.refl _ _⟩

end Go.Proofs.YtakkmmnpocbakaaGreatDoor
