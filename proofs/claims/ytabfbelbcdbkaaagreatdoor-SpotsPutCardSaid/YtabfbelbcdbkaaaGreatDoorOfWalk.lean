/- SpotsOf answers true: the walk. Condition: the nodes can be read. -/
import Derived.Test.YtabfbelbcdbkaaaGreatDoorApartS
import Derived.Test.YtabfbelbcdbkaaaGreatDoorRefPut
import Derived.Test.YtabfbelbcdbkaaaGreatDoorTwinNd
namespace Go.Proofs.YtabfbelbcdbkaaaGreatDoor
open Go.RowKit

theorem heldD {bk hb cap : Nat} {es : List Ent} {b : Nat} (hd : (heldOf bk hb cap es).D es.length b) : ∃ e ∈ es, ∃ a, e.A = some a ∧ b = a.block := by
  obtain ⟨j, hj, hn, hb⟩ := hd
  have hget : es.getD j zEnt = es[j] := by rw [List.getD_eq_getElem?_getD, List.getElem?_eq_getElem hj]; rfl
  have hn : (es.getD j zEnt).A.isNone = false := hn
  have hb : b = ((es.getD j zEnt).A.map Addr.block).getD 0 := hb
  rw [hget] at hn hb
  refine ⟨es[j], List.getElem_mem hj, ?_⟩
  cases hA : es[j].A with
  | none => rw [hA] at hn; cases hn
  | some a => exact ⟨a, rfl, by rw [hb, hA]; rfl⟩

theorem slice_own {a : Addr} {n c : Nat} : (Value.slice (some a) n c).ownBlock = some a.block := by simp [Value.ownBlock]

theorem twin_lone {w w' : World} {g n no : Nat} {l : List Nd} (h : TwinAt w w' g n l) : Lone 63 10 w' ⟨some ⟨g, 0, none⟩, n, n + 1, no⟩ := by
  refine .inr ⟨g, _, rfl, h.blk, ?_, by show n ≤ n + 1; omega, by show n + 1 ≤ maxLen; have := h.top; unfold maxLen; omega, by show n ≤ 1000000; have := h.top; omega⟩
  have hl := flat_len ndc_len (l ++ [nMark])
  show ((l ++ [nMark]).flatMap ndc).toArray.size = (n + 1) * 10
  rw [List.size_toArray, hl, List.length_append, h.len]
  rfl

/-- Of, its rows' lengths named. -/
theorem of_told (A : Option Addr) (m c : Nat) (l : List Nd) (ls es : List Sp) (kl ke : Nat) (w : World) (hr : Ns w w.heap.size A m c l) (hf : ∀ x ∈ l, x.Fits) (e1 : labB l = ls) (e2 : effB l = es) (e3 : ls.length = kl) (e4 : es.length = ke) :
    Calls Tryz.prog 6 #[.slice A m c] w fun e w' => ∃ A1 c1 A2 c2, e = .returned (.tuple #[.slice A1 kl c1, .slice A2 ke c2]) ∧ Told w w' (.slice A1 kl c1) (.slice A2 ke c2) ls es := by
  subst e1
  subst e2
  refine (of_any A m c l w hr hf).mono ?_
  rintro e w1 ⟨v, u, rfl, hT⟩
  obtain ⟨A1, c1, rfl⟩ := rs_own_form hT.o2
  obtain ⟨A2, c2, rfl⟩ := rs_own_form hT.o3
  rw [e3, e4] at hT ⊢
  exact ⟨A1, c1, A2, c2, rfl, hT⟩
theorem refOf_told (A : Option Addr) (m c : Nat) (l : List Nd) (ls es : List Sp) (kl ke : Nat) (w : World) (hr : Ns w w.heap.size A m c l) (hf : ∀ x ∈ l, x.Fits) (e1 : labB l = ls) (e2 : effB l = es) (e3 : ls.length = kl) (e4 : es.length = ke) :
    Calls Tryz.prog 7 #[.slice A m c] w fun e w' => ∃ A1 c1 A2 c2, e = .returned (.tuple #[.slice A1 kl c1, .slice A2 ke c2]) ∧ Told w w' (.slice A1 kl c1) (.slice A2 ke c2) ls es := by
  subst e1
  subst e2
  refine (refOf_any A m c l w hr hf).mono ?_
  rintro e w1 ⟨v, u, rfl, hT⟩
  obtain ⟨A1, c1, rfl⟩ := rs_own_form hT.o2
  obtain ⟨A2, c2, rfl⟩ := rs_own_form hT.o3
  rw [e3, e4] at hT ⊢
  exact ⟨A1, c1, A2, c2, rfl, hT⟩

abbrev oBook : Obj := .cells (bookCells 0 (.slice none 0 0) (.slice none 0 0) (.slice none 0 0)) 45
theorem book0 (w : World) : BookK (w.alloc oBook) w.heap.size 0 (.slice none 0 0) 0 [] (.slice none 0 0) 0 [] (.slice none 0 0) 0 [] :=
  ⟨heap_alloc_new w _, World.ownsRow_nil _ _ _ _, World.ownsRow_nil _ _ _ _, World.ownsRow_nil _ _ _ _⟩

set_option maxRecDepth 100000 in
set_option maxHeartbeats 4000000 in
theorem walkOf (A : Option Addr) (n c : Nat) (l : List Nd) (w : World) (h : Ns w w.heap.size A n c l) (hf : ∀ x ∈ l, x.Fits) :
    Calls Tryz.prog 3 #[.slice A n c] w fun e w' => e = .returned (.bool true) ∧ Below w.heap.size w w' := by
  by_cases h300 : 300 < n
  · have h300' : (300 : Int) < (n : Int) := by omega
    clear h hf
    go_enter Tryz.func3, Tryz.ntmps3
    go_wp2
    go_ret
    exact ⟨rfl, Below.refl _ _⟩
  have h300' : ¬ (300 : Int) < (n : Int) := by omega
  have HF := Lib.hid hf
  have HH := Lib.hid h
  obtain ⟨ls, hls⟩ : ∃ x, labB l = x := ⟨_, rfl⟩
  obtain ⟨es, hes⟩ : ∃ x, effB l = x := ⟨_, rfl⟩
  obtain ⟨kl, hkl⟩ : ∃ x, ls.length = x := ⟨_, rfl⟩
  obtain ⟨ke, hke⟩ : ∃ x, es.length = x := ⟨_, rfl⟩
  have hk256 : kl ≤ 256 := by have := labB_len l; rw [hls, hkl] at this; exact this
  have he256 : ke ≤ 128 := by have := effB_len l; rw [hes, hke] at this; exact this
  have HLS := Lib.hid hls
  have HES := Lib.hid hes
  have HKL := Lib.hid hkl
  have HKE := Lib.hid hke
  have htw := twin_any A n c l w h (by omega)
  clear hls hes hkl hke hf h
  go_enter Tryz.func3, Tryz.ntmps3
  go_wp2_with fail
  refine htw.mono ?_
  rintro e w1 ⟨g, rfl, ht, hb⟩
  clear htw
  have hold := ht.old
  go_wp2_with fail
  refine (of_told _ n (n + 1) l ls es kl ke w1 ht.rs HF.out HLS.out HES.out HKL.out HKE.out).mono ?_
  rintro e w2 ⟨A1, c1, A2, c2, rfl, hT⟩
  have hb1 := hb.size
  have hgl : g < w1.heap.size := lt_blk ht.blk
  have o1 := hT.o2
  have o2 := hT.o3
  rw [HKL.out] at o1
  rw [HKE.out] at o2
  have AP := Lib.hid hT.ap
  replace ht := ht.keep hT.bel
  replace hb := hb.trans (hT.bel.mono hb.size)
  clear hT
  go_wp2_with fail
  refine (refOf_told A n c l ls es kl ke w2 ((HH.out.below hb).mono hb.size) HF.out HLS.out HES.out HKL.out HKE.out).mono ?_
  rintro e w3 ⟨A3, c3, A4, c4, rfl, hT⟩
  have o3 := hT.o2
  have o4 := hT.o3
  rw [HKL.out] at o3
  rw [HKE.out] at o4
  replace ht := ht.keep hT.bel
  replace o1 := own_behind o1 hT.bel
  replace o2 := own_behind o2 hT.bel
  replace hb := hb.trans (hT.bel.mono hb.size)
  clear hT
  go_wp2_with fail
  refine (sameSpots_any _ _ _ _ _ _ _ ls _ (Rs.of_own spc_len (by decide) o1) (Rs.of_own spc_len (by decide) o3)).mono ?_
  rintro e w4 ⟨rfl, hv⟩
  replace ht := ht.keep hv
  replace o1 := own_behind o1 hv
  replace o2 := own_behind o2 hv
  replace o4 := own_behind o4 hv
  replace hb := hb.trans (hv.mono hb.size)
  clear hv o3
  go_wp2_with fail
  refine (sameSpots_any _ _ _ _ _ _ _ es _ (Rs.of_own spc_len (by decide) o2) (Rs.of_own spc_len (by decide) o4)).mono ?_
  rintro e w5 ⟨rfl, hv⟩
  replace ht := ht.keep hv
  replace o1 := own_behind o1 hv
  replace o2 := own_behind o2 hv
  replace hb := hb.trans (hv.mono hb.size)
  clear hv o4
  go_wp2_with fail
  refine (left_any w w5.heap.size A g n c l w5 ht ((HH.out.below hb).mono hb.size)).mono ?_
  rintro e w6 ⟨rfl, hv⟩
  replace ht := ht.keep hv
  replace o1 := own_behind o1 hv
  replace o2 := own_behind o2 hv
  replace hb := hb.trans (hv.mono hb.size)
  clear hv
  have K0 : Kept (fun b => w6.heap.size ≤ b) w6 (w6.alloc oBook) := (Kept.refl _ _).alloc _
  go_wp2_with fail
  refine (putN_any w6.heap.size 0 _ 0 [] _ 0 [] _ 0 [] _ n (n + 1) _ (book0 w6) (by omega) (by omega)).mono ?_
  rintro e w7 ⟨rfl, vn, B1, K1⟩
  have K01 := K0.trans K1
  clear K0 K1
  go_wp2_with fail
  refine (putS_any w6.heap.size _ _ _ _ _ _ _ _ _ _ A1 kl c1 _ B1 (by omega) (by omega)).mono ?_
  rintro e w8 ⟨rfl, vs1, B2, K2⟩
  have K02 := K01.trans K2
  clear B1 K01 K2
  go_wp2_with fail
  refine (putS_any w6.heap.size _ _ _ _ _ _ _ _ _ _ A2 ke c2 _ B2 (by omega) (by omega)).mono ?_
  rintro e w9 ⟨rfl, vs2, B3, K3⟩
  have K03 := K02.trans K3
  clear B2 K02 K3
  have hfar : ∀ b, b < w6.heap.size → ¬ w6.heap.size ≤ b := fun b h => by omega
  have l0 : Lone 63 10 w9 ⟨some ⟨g, 0, none⟩, n, n + 1, 1⟩ := (twin_lone (ht)).keep K03 hfar
  have l1 : Lone 71 5 w9 ⟨A1, kl, c1, 2⟩ := (Lone.of_own (no := 2) o1 (by omega)).keep K03 hfar
  have l2 : Lone 71 5 w9 ⟨A2, ke, c2, 3⟩ := (Lone.of_own (no := 3) o2 (by omega)).keep K03 hfar
  have hb1 : ∃ B, w9.heap[w6.heap.size]? = some (.cells B 45 (0, 0)) := ⟨_, B3.blk⟩
  obtain ⟨hbN, capN, gN, eN, bN⟩ := book_of (K := 8) (HT := 91) (E := 63) (sz := 10) (es := [⟨some ⟨g, 0, none⟩, n, n + 1, 1⟩]) (by rw [cell_blk B3.blk]; rfl) hb1 B3.on (by simp) (by simp) (by intro e he; simp only [List.mem_singleton] at he; subst he; exact l0) (by simp) (by intro e he; simp only [List.mem_singleton] at he; subst he; show (1 : Nat) ≤ 100; omega)
  have hall : ∀ e ∈ ([⟨A1, kl, c1, 2⟩, ⟨A2, ke, c2, 3⟩] : List Ent), Lone 71 5 w9 e := by
    intro e he
    simp only [List.mem_cons, List.not_mem_nil, or_false] at he
    rcases he with rfl | rfl
    · exact l1
    · exact l2
  obtain ⟨hbS, capS, gS, eS, bS⟩ := book_of (K := 11) (HT := 93) (E := 71) (sz := 5) (es := [⟨A1, kl, c1, 2⟩, ⟨A2, ke, c2, 3⟩]) (by rw [cell_blk B3.blk]; rfl) hb1 B3.os (by simp) (by simp) hall
    (by
      refine List.pairwise_cons.2 ⟨fun b hbm x y hx hy e => ?_, by simp⟩
      simp only [List.mem_singleton] at hbm
      subst hbm
      have hx : A1 = some x := hx
      have hy : A2 = some y := hy
      subst hx
      subst hy
      exact AP.out x.block slice_own (by rw [slice_own, e])) (by intro e he; simp only [List.mem_cons, List.not_mem_nil, or_false] at he; rcases he with rfl | rfl <;> simp)
  have HN := Lib.hid bN
  have HS := Lib.hid bS
  have HB3 := Lib.hid B3.blk
  have hge1 : ∀ a, A1 = some a → w.heap.size ≤ a.block := fun a e => by subst e; have := (own_block o1 slice_own).1; omega
  have hge2 : ∀ a, A2 = some a → w.heap.size ≤ a.block := fun a e => by subst e; have := (own_block o2 slice_own).1; omega
  have hsz6 := hb.size
  clear bN bS B3 l0 l1 l2 o1 o2 ht hb1
  go_wp2_with fail
  refine (apartNS_any _ _ w6.heap.size _ _ _ _ HN.out HS.out rfl rfl HB3.out).mono ?_
  rintro e w10 ⟨rfl, K16⟩
  go_wp2_with fail
  go_ret
  refine ⟨rfl, hb.trans ((K03.below hsz6 (fun b h => by omega)).trans (K16.below (Nat.le_trans hsz6 K03.size) ?_))⟩
  rintro b (e | e | e | e)
  · have e : b = hbN := e
    omega
  · obtain ⟨x, hx, a, ha, rfl⟩ := heldD e
    simp only [List.mem_singleton] at hx
    subst hx
    injection ha with ha
    subst ha
    exact hold
  · have e : b = hbS := e
    omega
  · obtain ⟨x, hx, a, ha, rfl⟩ := heldD e
    simp only [List.mem_cons, List.not_mem_nil, or_false] at hx
    rcases hx with rfl | rfl
    · exact hge1 a ha
    · exact hge2 a ha
end Go.Proofs.YtabfbelbcdbkaaaGreatDoor
