/- RefWalk; RefTell: merged. -/
import Derived.Test.YtmiconjmeaammaaGreatDoorAlive
import Derived.Test.YtmiconjmeaammaaGreatDoorNdRef
import Derived.Test.YtmiconjmeaammaaGreatDoorNdLaw

/- What the document's walk, Check, End and Deep tell. No condition but sizes. -/
namespace Go.Proofs.YtmiconjmeaammaaGreatDoor
open Go.RowKit

/-- What the walk tells of the nodes from place a on, in depth d: the place behind one tree, the greatest depth; or an error, which the check tells, too, whatever else is open. -/
def WalkIs (l : List Nd) (a d : Nat) (nx dp er : Nat) : Prop :=
  (er = 0 ∧ a < nx ∧ ∃ (x : Nd) (ks : F), (F.cons x ks .nil).wf ∧ d + (F.cons x ks .nil).ht ≤ 17 ∧ l.drop a = (F.cons x ks .nil).flat ++ l.drop nx ∧ nx ≤ l.length ∧ dp + 1 = d + (F.cons x ks .nil).ht) ∨
  (er ≠ 0 ∧ ∀ st, chk (l.drop a) (d :: st) = er)

/-- Where the loop over those below a node stands. -/
def KidRel (l : List Nd) (a d q n : Nat) (xn : Int) (g : Nat) (w : World) (v1 v10 v11 : Value) (wr : World) : Prop := ∃ (i p : Nat) (f : F),
  v1 = .int .i64 (p : Int) ∧ v11 = .int .i64 (i : Int) ∧ v10 = .int .i64 ((d + f.ht : Nat) : Int) ∧ i ≤ q ∧ a < p ∧ p ≤ n ∧ f.num = i ∧ f.wf ∧ d + 1 + f.ht ≤ 17 ∧ l.drop (a + 1) = f.flat ++ l.drop p ∧
  wr.cell? ⟨g, 3, none⟩ = some (.int .i64 xn) ∧ g < wr.heap.size ∧ Below w.heap.size w wr

set_option maxRecDepth 100000 in
set_option maxHeartbeats 4000000 in
theorem walk_any (A : Option Addr) (n c B : Nat) (l : List Nd) (hf : ∀ x ∈ l, x.Fits) : ∀ (m a d : Nat) (w : World), n - a ≤ m → a ≤ n → n ≤ 1000 → d ≤ 17 → Ns w B A n c l → B ≤ w.heap.size →
    Calls Tryz.prog 105 #[.slice A n c, .int .i64 (a : Int), .int .i64 (d : Int)] w fun e w' => ∃ nx dp er : Nat, e = .returned (.tuple #[.int .i64 (nx : Int), .int .i64 (dp : Int), .int .i64 (er : Int)]) ∧ WalkIs l a d nx dp er ∧ Below w.heap.size w w' := by
  intro m
  induction m with
  | zero =>
    intro a d w hm ha hn hd h hB
    have HL := Lib.hid h.len
    obtain rfl : a = n := by omega
    have HW : Hid (WalkIs l a d a 0 4) := by
      refine Lib.hid (.inr ⟨by decide, fun st => ?_⟩)
      rw [List.drop_eq_nil_of_le (by rw [HL.out]; exact Nat.le_refl _)]
      rfl
    go_enter Tryz.func105, Tryz.ntmps105
    go_wp2
    exact bodyPost_ret (v := .tuple #[.int .i64 (a : Int), .int .i64 0, .int .i64 4]) (by simp [results, Tryz.results105, go_sem]) rfl ⟨a, 0, 4, rfl, HW.out, Below.refl _ _⟩
  | succ m ih =>
    intro a d w hm ha hn hd h hB
    have HL := Lib.hid h.len
    by_cases hlt : a < n
    case neg =>
      obtain rfl : a = n := by omega
      exact ih a d w (by omega) ha hn hd h hB
    have ha' : a < l.length := by rw [HL.out]; exact hlt
    obtain ⟨b, o, rfl, hbb, c0, c1, c2, c3, c4, c5, c6, c7, c8, c9⟩ := h.node ha'
    have hnode := fun (W : World) (hb : Below w.heap.size w W) => (h.below (hb.mono hB)).node ha'
    have hdrop : l.drop a = l[a] :: l.drop (a + 1) := List.drop_eq_getElem_cons ha'
    have hfx := hf _ (List.getElem_mem ha')
    have hmayx := fun W => refMay_any l[a] W hfx
    have HMK : Hid (l[a].may = true → 0 ≤ l[a].n) := Lib.hid Nd.may_kids
    have HC1 : Hid (∀ st, chk (l.drop a) (d :: st) = if l[a].may = true then (if 8 < l[a].n ∨ 16 < d then 3 else chk (l.drop (a + 1)) (List.replicate l[a].n.toNat (d + 1) ++ st)) else 4) := Lib.hid fun st => by rw [hdrop]; rfl
    have HDR := Lib.hid hdrop
    clear hdrop hfx
    generalize l[a] = x at *
    have hld : (a : Int) < (n : Int) := by omega
    have hld' : ¬ (n : Int) ≤ (a : Int) := by omega
    have hwr : IntKind.i64.wrap ((a : Int) + 1) = (a : Int) + 1 := by rw [IntKind.wrap_i64]; omega
    have hwd : IntKind.i64.wrap ((d : Int) + 1) = (d : Int) + 1 := by rw [IntKind.wrap_i64]; omega
    obtain ⟨xk, xm, xs, xn, xlv, xln, xpv, xpn, xev, xen⟩ := x
    simp only at c0 c1 c2 c3 c4 c5 c6 c7 c8 c9 HMK HC1 hnode
    go_enter Tryz.func105, Tryz.ntmps105
    go_wp2_with fail
    refine (hmayx _).mono ?_
    rintro e w1 ⟨rfl, hb1⟩
    obtain ⟨b', o', heq, hbb', d0, d1, d2, d3, d4, d5, d6, d7, d8, d9⟩ := hnode w1 hb1
    injection heq with heq
    injection heq with e1 e2
    subst e1
    subst e2
    have hal : Below w1.heap.size w1 (w1.alloc (.cells #[.int .u8 xk, .int .i64 xm, .string (str xs), .int .i64 xn, .bool xlv, .int .u64 xln, .bool xpv, .int .u64 xpn, .bool xev, .int .u64 xen] 110)) := (Below.refl _ _).alloc (Nat.le_refl _) _
    have hblk := heap_alloc_new w1 (.cells #[.int .u8 xk, .int .i64 xm, .string (str xs), .int .i64 xn, .bool xlv, .int .u64 xln, .bool xpv, .int .u64 xpn, .bool xev, .int .u64 xen] 110)
    have hc3 : (w1.alloc (.cells #[.int .u8 xk, .int .i64 xm, .string (str xs), .int .i64 xn, .bool xlv, .int .u64 xln, .bool xpv, .int .u64 xpn, .bool xev, .int .u64 xen] 110)).cell? ⟨w1.heap.size, 3, none⟩ = some (.int .i64 xn) := (cell_blk hblk).trans rfl
    have hgl := lt_blk hblk
    have hb2 := hb1.trans (hal.mono hb1.size)
    clear c0 c1 c2 c3 c4 c5 c6 c7 c8 c9 hnode hmayx hal hblk
    generalize hmx : Nd.may ⟨xk, xm, xs, xn, xlv, xln, xpv, xpn, xev, xen⟩ = mb at *
    have HMX := Lib.hid hmx
    clear hmx
    cases mb with
    | false =>
      have HW : Hid (WalkIs l a d a 0 4) := Lib.hid (.inr ⟨by decide, fun st => HC1.out st⟩)
      go_wp2_with fail
      exact bodyPost_ret (v := .tuple #[.int .i64 (a : Int), .int .i64 0, .int .i64 4]) (by simp [results, Tryz.results105, go_sem]) rfl ⟨a, 0, 4, rfl, HW.out, hb1⟩
    | true =>
      obtain ⟨q, rfl⟩ := Int.eq_ofNat_of_zero_le (HMK.out rfl)
      by_cases hq8 : 8 < q
      · have HW : Hid (WalkIs l a d a 0 3) := Lib.hid (.inr ⟨by decide, fun st => by rw [HC1.out st, if_pos rfl, if_pos (.inl (by omega))]⟩)
        have hq8' : (8 : Int) < (q : Int) := by omega
        go_wp2_with fail
        exact bodyPost_ret (v := .tuple #[.int .i64 (a : Int), .int .i64 0, .int .i64 3]) (by simp [results, Tryz.results105, go_sem]) rfl ⟨a, 0, 3, rfl, HW.out, hb2⟩
      have hq8' : ¬ (8 : Int) < (q : Int) := by omega
      by_cases hd16 : 16 < d
      · have HW : Hid (WalkIs l a d a 0 3) := Lib.hid (.inr ⟨by decide, fun st => by rw [HC1.out st, if_pos rfl, if_pos (.inr hd16)]⟩)
        have hd16' : (16 : Int) < (d : Int) := by omega
        go_wp2_with fail
        exact bodyPost_ret (v := .tuple #[.int .i64 (a : Int), .int .i64 0, .int .i64 3]) (by simp [results, Tryz.results105, go_sem]) rfl ⟨a, 0, 3, rfl, HW.out, hb2⟩
      have hd16' : ¬ (16 : Int) < (d : Int) := by omega
      have HC2 : Hid (∀ st, chk (l.drop a) (d :: st) = chk (l.drop (a + 1)) (List.replicate q (d + 1) ++ st)) := Lib.hid fun st => by rw [HC1.out st, if_pos rfl, if_neg (by omega), Int.toNat_natCast]
      have hih := fun p w (h1 : n - p ≤ m) (h2 : p ≤ n) h5 h6 => ih p (d + 1) w h1 h2 hn (by omega) h5 h6
      have ed : ((d + 1 : Nat) : Int) = (d : Int) + 1 := by omega
      rw [ed] at hih
      have HS := Lib.hid h
      clear HC1 HMK ih ed h
      go_wp2_with fail
      clear d0 d1 d2 d3 d4 d5 d6 d7 d8 d9
      go_loopw [1, 10, 11] (fun v1 v10 v11 wr => KidRel l a d q n (q : Int) w1.heap.size w v1 v10 v11 wr) (fun _ _ v11 _ => q - (intOf v11).toNat)
      case atStart => exact ⟨0, a + 1, .nil, by go_num, rfl, rfl, by omega, by omega, by omega, rfl, trivial, by simp [F.ht]; omega, rfl, hc3, hgl, hb2⟩
      case round =>
        clear hc3 hgl hb2
        obtain ⟨i, p, f, rfl, rfl, rfl, hi, hap, hpn, hfn, hfw, hfd, hfl, hc3, hgl, hb2⟩ := hrel
        have HFN := Lib.hid hfn
        have HFL := Lib.hid hfl
        have HFW := Lib.hid hfw
        clear hfn hfl hfw
        by_cases hlt2 : i < q
        · have hlt2' : (i : Int) < (q : Int) := by omega
          have HC3 : Hid (∀ st, chk (l.drop a) (d :: st) = chk (l.drop p) ((d + 1) :: (List.replicate (q - i - 1) (d + 1) ++ st))) := by
            refine Lib.hid fun st => ?_
            rw [HC2.out, HFL.out]
            have e : List.replicate q (d + 1) ++ st = List.replicate f.num (d + 1) ++ ((d + 1) :: (List.replicate (q - i - 1) (d + 1) ++ st)) := by
              rw [HFN.out, ← List.cons_append, ← List.replicate_succ, ← List.append_assoc, List.replicate_append_replicate]
              congr 2
              omega
            rw [e]
            exact F.chk_flat f (d + 1) _ _ HFW.out hfd
          go_wp2_with fail
          refine (hih p wr (by omega) hpn (HS.out.below (hb2.mono hB)) (Nat.le_trans hB hb2.size)).mono ?_
          rintro e w3 ⟨nx, dp, er, rfl, hW, hb3⟩
          have hc3' := (hb3.cell (p := ⟨w1.heap.size, 3, none⟩) hgl).trans hc3
          have hgl' := Nat.lt_of_lt_of_le hgl hb3.size
          have hb4 := hb2.trans (hb3.mono hb2.size)
          clear hc3 hgl hb2 hb3
          rcases hW with ⟨rfl, hlt3, y, cs, wft, htt, hfl2, hnx, hdp⟩ | ⟨hne, hch⟩
          · have HFL2 := Lib.hid hfl2
            have HWT := Lib.hid wft
            have HDP := Lib.hid hdp
            have hnx' : nx ≤ n := by rw [← HL.out]; exact hnx
            have HHT : Hid (max (d + f.ht) dp = d + (f.app (.cons y cs .nil)).ht ∧ d + 1 + (f.app (.cons y cs .nil)).ht ≤ 17) := Lib.hid (by rw [F.app_ht]; omega)
            clear hfl2 wft hdp hnx htt
            obtain ⟨t1, ht1⟩ : ∃ t1, t1 = d + f.ht := ⟨_, rfl⟩
            rw [← ht1] at HHT
            rw [← ht1]
            have hmx : max (t1 : Int) (dp : Int) = ((max t1 dp : Nat) : Int) := by omega
            have HT1 := Lib.hid ht1
            clear ht1
            go_wp2_with fail
            go_roundw
            case rel => exact ⟨i + 1, nx, f.app (.cons y cs .nil), rfl, by go_num, by rw [← HHT.out.1]; go_num, by omega, by omega, hnx', by rw [F.app_num, HFN.out]; rfl, F.app_wf _ _ HFW.out HWT.out, HHT.out.2, by rw [HFL.out, HFL2.out, F.app_flat, List.append_assoc], hc3', hgl', hb4⟩
            case measure => simp [intOf]; omega
          · have hne' : ((er : Int) != 0) = true := by simp; omega
            have HW : Hid (WalkIs l a d nx 0 er) := Lib.hid (.inr ⟨hne, fun st => by rw [HC3.out, hch]⟩)
            clear hch
            go_wp2_with fail
            exact bodyPost_ret (v := .tuple #[.int .i64 (nx : Int), .int .i64 0, .int .i64 (er : Int)]) (by simp [results, Tryz.results105, go_sem]) rfl ⟨nx, 0, er, rfl, HW.out, hb4⟩
        · obtain rfl : i = q := by omega
          have HW : Hid (WalkIs l a d p (d + f.ht) 0) := by
            refine Lib.hid (.inl ⟨rfl, hap, _, f, ⟨HMX.out, by rw [HFN.out], by rw [HFN.out]; omega, HFW.out, trivial⟩, ?_, ?_, by rw [HL.out]; exact hpn, ?_⟩)
            · simp only [F.ht]; omega
            · rw [HDR.out, HFL.out]; simp [F.flat]
            · simp only [F.ht]; omega
          obtain ⟨t1, ht1⟩ : ∃ t1, t1 = d + f.ht := ⟨_, rfl⟩
          rw [← ht1] at HW
          rw [← ht1]
          clear ht1
          go_wp2
          exact bodyPost_ret (v := .tuple #[.int .i64 (p : Int), .int .i64 (t1 : Int), .int .i64 0]) (by simp [results, Tryz.results105, go_sem]) rfl ⟨p, t1, 0, rfl, HW.out, hb2⟩
end Go.Proofs.YtmiconjmeaammaaGreatDoor

/- What the document's Check, End and Deep tell; where the tree at a place ends. No condition but sizes. -/
namespace Go.Proofs.YtmiconjmeaammaaGreatDoor
open Go.RowKit

theorem chk_suffix : ∀ (a b : List Nd) (st : List Nat), chk (a ++ b) st = 0 → ∃ st', chk b st' = 0
  | [], b, st, h => ⟨st, h⟩
  | x :: a, b, [], h => by simp [chk] at h
  | x :: a, b, d :: st, h => by
    rw [List.cons_append, chk_one] at h
    split at h
    · split at h
      · cases h
      · exact chk_suffix a b _ h
    · cases h

theorem F.end_is {f : F} {d k d' : Nat} {x : Nd} {ks : F} {dpost : List Nat} (hk : k < (f.deps d).length) (e : (f.deps d).drop k = (F.cons x ks .nil).deps d' ++ dpost) (h3 : ∀ y, dpost.head? = some y → y ≤ d') :
    EndIs (f.deps d) k (k + (F.cons x ks .nil).flat.length) := by
  have hdl : (F.cons x ks .nil).deps d' = d' :: ks.deps (d' + 1) := by simp [F.deps]
  have hfl : (F.cons x ks .nil).flat.length = (ks.deps (d' + 1)).length + 1 := by rw [F.deps_len]; simp [F.flat]
  rw [hdl] at e
  generalize f.deps d = ds at *
  have hlen : ds.length - k = (ks.deps (d' + 1)).length + 1 + dpost.length := by
    have := congrArg List.length e
    rw [List.length_drop] at this
    rw [this]
    simp
    omega
  have at' : ∀ j (h : k + j < ds.length), ds[k + j] = (d' :: ks.deps (d' + 1) ++ dpost)[j]'(by simp; omega) := fun j h => by
    have h1 : (ds.drop k)[j]'(by rw [List.length_drop]; omega) = ds[k + j] := by simp
    rw [← h1]
    simp only [e]
  have hk0 : ds[k] = d' := by
    have := at' 0 (by omega)
    simpa using this
  refine ⟨by omega, by omega, fun j hj h1 h2 => ?_, fun h => ?_⟩
  · obtain ⟨i, rfl⟩ : ∃ i, j = k + (i + 1) := ⟨j - k - 1, by omega⟩
    rw [hk0, at' (i + 1) hj]
    have hi : i < (ks.deps (d' + 1)).length := by omega
    simp only [List.cons_append, List.getElem_cons_succ]
    rw [List.getElem_append_left hi]
    have := F.deps_ge ks (d' + 1) _ (List.getElem_mem hi)
    omega
  · rw [hk0]
    have h' := at' ((F.cons x ks .nil).flat.length) h
    rw [h']
    have hle : (d' :: ks.deps (d' + 1)).length ≤ (F.cons x ks .nil).flat.length := by rw [hfl]; simp
    rw [List.getElem_append_right hle]
    refine h3 _ ?_
    rw [List.head?_eq_getElem?]
    have e0 : (F.cons x ks .nil).flat.length - (d' :: ks.deps (d' + 1)).length = 0 := by rw [hfl]; simp
    simp only [e0]
    rw [List.getElem?_eq_getElem]

/-- The tree at a place of a body that may be. -/
theorem body_at {l : List Nd} (h : checkB l = 0) {k : Nat} (hk : k < l.length) : ∃ (ks : F) (post : List Nd), (F.cons l[k] ks .nil).wf ∧ (F.cons l[k] ks .nil).ht ≤ F.top (depB l) ∧ F.top (depB l) ≤ 16 ∧
    l.drop k = (F.cons l[k] ks .nil).flat ++ post ∧ EndIs (depB l) k (k + (F.cons l[k] ks .nil).flat.length) ∧ (0 < k → (F.cons l[k] ks .nil).ht < F.top (depB l)) ∧ (∃ st, chk post st = 0) ∧ (depB l).length = l.length := by
  obtain ⟨h1, h2, f, rfl, n, wf, ht⟩ := body_of h
  obtain ⟨_, e⟩ := body_is n wf ht h2
  have hne : f ≠ .nil := by rintro rfl; simp [F.num] at n
  have htop := F.top_deps f 0 hne
  rw [Nat.zero_add, Nat.zero_add] at htop
  obtain ⟨x, ks, d', post, dpost, e1, e2, e3, w, g1, g2, g3, g4⟩ := F.split f 1 k hk wf
  have hx : f.flat[k] = x := by
    have : (f.flat.drop k)[0]'(by rw [List.length_drop]; omega) = f.flat[k] := by simp
    rw [← this]
    simp only [e1]
    rfl
  have hdl : (f.deps 1).length = f.flat.length := F.deps_len f 1
  have hend := F.end_is (by rw [hdl]; exact hk) e2 g3
  rw [e, htop, hx]
  refine ⟨ks, post, w, by omega, ht, e1, hend, fun h0 => g4 h0 n, ?_, hdl⟩
  have hc : chk f.flat [1] = 0 := by
    have := h
    unfold checkB at this
    rwa [if_neg h1, if_neg (by omega)] at this
  have h5 : chk (f.flat.take k ++ ((F.cons x ks .nil).flat ++ post)) [1] = 0 := by rw [← e1, List.take_append_drop]; exact hc
  rw [← List.append_assoc] at h5
  exact chk_suffix _ _ _ h5

/-- Where the walk stops. -/
theorem walk_end {l : List Nd} (h : checkB l = 0) {k nx dp er : Nat} (hk : k < l.length) (hw : WalkIs l k 1 nx dp er) : er = 0 ∧ EndIs (depB l) k nx ∧ (k = 0 → dp = F.top (depB l)) := by
  obtain ⟨ks, post, wf, ht, ht16, e1, hend, _, ⟨st, hst⟩, _⟩ := body_at h hk
  have h0 : ∀ st, chk (l.drop k) (1 :: st) = chk post st := fun st => by
    rw [e1]
    have := F.chk_flat (F.cons l[k] ks .nil) 1 post st wf (by omega)
    simpa [F.num] using this
  rcases hw with ⟨rfl, hlt, y, cs, wy, hy, e2, hle, hdp⟩ | ⟨hne, hall⟩
  · rw [e1] at e2
    obtain ⟨hf, hp⟩ := F.flat_inj _ _ _ _ wf wy rfl e2
    have hlen : nx = k + (F.cons l[k] ks .nil).flat.length := by
      have h3 := congrArg List.length e1
      rw [hp, List.length_append, List.length_drop, List.length_drop] at h3
      omega
    refine ⟨rfl, by rw [hlen]; exact hend, fun hk0 => ?_⟩
    subst hk0
    obtain ⟨_, h2, f, rfl, n, wf', ht'⟩ := body_of h
    obtain ⟨_, e⟩ := body_is n wf' ht' h2
    have hne : f ≠ .nil := by rintro rfl; simp [F.num] at n
    have htop := F.top_deps f 0 hne
    rw [Nat.zero_add, Nat.zero_add] at htop
    rw [e, htop]
    have e4 : f.flat ++ [] = (F.cons f.flat[0] ks .nil).flat ++ post := by rw [List.append_nil]; exact e1
    obtain ⟨hff, _⟩ := F.flat_inj _ _ _ _ wf' wf (by rw [n]; rfl) e4
    rw [← hf, ← hff] at hdp
    omega
  · have := hall st
    rw [h0 st, hst] at this
    exact absurd this.symm hne

set_option maxRecDepth 100000 in
set_option maxHeartbeats 400000 in
theorem refCheck_any (A : Option Addr) (n c : Nat) (l : List Nd) (w : World) (h : Ns w w.heap.size A n c l) (hf : ∀ x ∈ l, x.Fits) :
    Calls Tryz.prog 35 #[.slice A n c] w fun e w' => e = .returned (.int .i64 (checkB l : Int)) ∧ Below w.heap.size w w' := by
  have HL := Lib.hid h.len
  by_cases h0 : n = 0
  · have hl : l = [] := List.eq_nil_of_length_eq_zero (by rw [HL.out, h0])
    have HC : Hid (checkB l = 1) := by subst hl; exact rfl
    subst h0
    go_enter Tryz.func35, Tryz.ntmps35
    go_wp2
    go_ret
    exact ⟨by rw [HC.out]; rfl, Below.refl _ _⟩
  have hne : l ≠ [] := by
    intro e
    have := HL.out
    rw [e] at this
    exact h0 this.symm
  have h0' : ((n : Int) == 0) = false := by simp; omega
  by_cases h128 : 128 < n
  · have HC : Hid (checkB l = 3) := Lib.hid (by unfold checkB; rw [if_neg hne, if_pos (by rw [HL.out]; exact h128)])
    have h128' : (128 : Int) < (n : Int) := by omega
    go_enter Tryz.func35, Tryz.ntmps35
    go_wp2
    go_ret
    exact ⟨by rw [HC.out]; rfl, Below.refl _ _⟩
  have h128' : ¬ (128 : Int) < (n : Int) := by omega
  have HC : Hid (checkB l = chk l [1]) := by
    refine Lib.hid ?_
    unfold checkB
    rw [if_neg hne, if_neg (by rw [HL.out]; omega)]
  have hw := walk_any A n c w.heap.size l hf n 0 1 w (by omega) (by omega) (by omega) (by omega) h (Nat.le_refl _)
  clear hf hne
  go_enter Tryz.func35, Tryz.ntmps35
  go_wp2_with fail
  refine hw.mono ?_
  rintro e w1 ⟨nx, dp, er, rfl, hW, hb⟩
  rcases hW with ⟨rfl, hlt, y, cs, wy, hy, e2, hle, hdp⟩ | ⟨hne, hall⟩
  · have HT : Hid (chk l [1] = chk (l.drop nx) []) := by
      refine Lib.hid ?_
      have := F.chk_flat (F.cons y cs .nil) 1 (l.drop nx) [] wy (by omega)
      rw [List.drop_zero] at e2
      rw [← e2] at this
      simpa [F.num] using this
    clear e2 wy hy hdp hw
    by_cases hnx : nx < n
    · have HE : Hid (checkB l = 4) := by
        refine Lib.hid ?_
        rw [HC.out, HT.out, List.drop_eq_getElem_cons (by rw [HL.out]; exact hnx)]
        rfl
      go_wp2
      go_ret
      exact ⟨by rw [HE.out]; rfl, hb⟩
    · have HE : Hid (checkB l = 0) := by
        refine Lib.hid ?_
        rw [HC.out, HT.out, List.drop_eq_nil_of_le (by rw [HL.out]; omega)]
        rfl
      go_wp2
      go_ret
      exact ⟨by rw [HE.out]; rfl, hb⟩
  · have HE : Hid (checkB l = er) := by
      refine Lib.hid ?_
      have := hall []
      rw [List.drop_zero] at this
      rw [HC.out, this]
    have hne' : ((er : Int) == 0) = false := by simp; omega
    clear hall hw
    go_wp2
    go_ret
    exact ⟨by rw [HE.out]; rfl, hb⟩


end Go.Proofs.YtmiconjmeaammaaGreatDoor
