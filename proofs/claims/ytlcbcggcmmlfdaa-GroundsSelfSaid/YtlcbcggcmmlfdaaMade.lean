/- The bodies that the laws make. Condition: nodes can be read. -/
import Derived.Test.YtlcbcggcmmlfdaaSorts
import Derived.Test.YtlcbcggcmmlfdaaRows2
namespace Go.Proofs.Ytlcbcggcmmlfdaa
open Go.RowKit

/-- int of a label. -/
def nW (x : Nat) : Nd := ⟨1, 0, [105, 110, 116], 0, false, (x : Int), false, 0, false, 0⟩
theorem fits_w (x : Nat) : (nW x).Fits := ⟨fits_int.k0, fits_int.k1, fits_int.m0, fits_int.m1, fits_int.n0, fits_int.n1, fits_int.s1⟩
theorem tfits_w {x : Nat} (h : x < 18446744073709551616) : (nW x).TFits := ⟨⟨by simp [nW], by simp [nW]; omega⟩, ⟨by simp [nW], by simp [nW]⟩, ⟨by simp [nW], by simp [nW]⟩⟩
theorem tfits_ref : nRef.TFits := ⟨⟨by decide, by decide⟩, ⟨by decide, by decide⟩, ⟨by decide, by decide⟩⟩
theorem tfits_fun : nFun.TFits := ⟨⟨by decide, by decide⟩, ⟨by decide, by decide⟩, ⟨by decide, by decide⟩⟩

set_option maxRecDepth 100000 in
theorem whole_any (x : Nat) (w : World) : Calls Try.prog 37 #[.int .u64 (x : Int)] w fun e w' => ∃ A c, e = .returned (.slice A 1 c) ∧ Ns w' w'.heap.size A 1 c [nW x] ∧ Below w.heap.size w w' := by
  have hnew : Ns (w.alloc (.cells #[.int .u8 1, .int .i64 0, .string (str [105, 110, 116]), .int .i64 0, .bool false, .int .u64 (x : Int), .bool false, .int .u64 0, .bool false, .int .u64 0] 70)) (w.alloc (.cells #[.int .u8 1, .int .i64 0, .string (str [105, 110, 116]), .int .i64 0, .bool false, .int .u64 (x : Int), .bool false, .int .u64 0, .bool false, .int .u64 0] 70)).heap.size (some ⟨w.heap.size, 0, none⟩) 1 1 [nW x] := Rs.of_blk ndc_len (heap_alloc_new w _) ⟨[], rfl⟩ rfl (Nat.le_refl _) (by unfold maxLen; omega)
  have hal : Below w.heap.size w (w.alloc (.cells #[.int .u8 1, .int .i64 0, .string (str [105, 110, 116]), .int .i64 0, .bool false, .int .u64 (x : Int), .bool false, .int .u64 0, .bool false, .int .u64 0] 70)) := (Below.refl _ _).alloc (Nat.le_refl _) _
  go_enter Try.func37, Try.ntmps37
  go_wp2_with fail
  refine bodyPost_ret (v := .slice (some ⟨w.heap.size, 0, none⟩) 1 1) (by simp [results, Try.results37, go_sem]) rfl ⟨_, _, rfl, hnew, hal⟩

abbrev oRefG : Obj := .cells #[.int .u8 4, .int .i64 0, .string (str []), .int .i64 1, .bool false, .int .u64 0, .bool false, .int .u64 0, .bool false, .int .u64 0] 70
abbrev oFunG : Obj := .cells #[.int .u8 5, .int .i64 0, .string (str []), .int .i64 2, .bool false, .int .u64 0, .bool false, .int .u64 0, .bool false, .int .u64 0] 70

set_option maxRecDepth 100000 in
set_option maxHeartbeats 1000000 in
theorem ref_any (A : Option Addr) (n c : Nat) (l : List Nd) (w : World) (h : Ns w w.heap.size A n c l) (hn : n ≤ 1000) :
    Calls Try.prog 19 #[.slice A n c] w fun e w' => ∃ A' k c', e = .returned (.slice A' k c') ∧ Ns w' w'.heap.size A' k c' ([nRef] ++ l) ∧ Below w.heap.size w w' := by
  have hal : Below w.heap.size w (w.alloc oRefG) := (Below.refl _ _).alloc (Nat.le_refl _) _
  have HO := Lib.hid (own_of_blk (l := [nRef]) (n := 1) (heap_alloc_new w oRefG) (Nat.le_refl _) rfl rfl (by unfold maxLen; omega))
  have hbo := h.at_size (Nat.le_refl _) hal
  go_enter Try.func19, Try.ntmps19
  go_wp2_with (refine wpList_append_nd rfl (.tmp 4) (.tmp 5) rfl w.heap.size _ 1 [nRef] rfl HO.out _ A n c l rfl hbo (by omega) hal.size ?_; intro A1 k1 c1 u1 HK HA)
  have hgr := hal.grown HA.out.grown hal.size fun j hj => (HO.out.lt j hj).1
  have hL : Ns u1 u1.heap.size A1 k1 c1 ([nRef] ++ l) := Rs.of_own ndc_len (by decide) HA.out.own
  refine bodyPost_ret (v := .slice A1 k1 c1) (by simp [results, Try.results19, go_sem]) rfl ⟨_, _, _, rfl, hL, hgr⟩

set_option maxRecDepth 100000 in
set_option maxHeartbeats 1000000 in
theorem fun_any (A : Option Addr) (n c : Nat) (l : List Nd) (A2 : Option Addr) (n2 c2 : Nat) (l2 : List Nd) (w : World) (h : Ns w w.heap.size A n c l) (h2 : Ns w w.heap.size A2 n2 c2 l2) (hn : n ≤ 1000) (hn2 : n2 ≤ 1000) :
    Calls Try.prog 17 #[.slice A n c, .slice A2 n2 c2] w fun e w' => ∃ A' k c', e = .returned (.slice A' k c') ∧ Ns w' w'.heap.size A' k c' ([nFun] ++ l ++ l2) ∧ Below w.heap.size w w' := by
  have hal : Below w.heap.size w (w.alloc oFunG) := (Below.refl _ _).alloc (Nat.le_refl _) _
  have HO := Lib.hid (own_of_blk (l := [nFun]) (n := 1) (heap_alloc_new w oFunG) (Nat.le_refl _) rfl rfl (by unfold maxLen; omega))
  have hbo := h.at_size (Nat.le_refl _) hal
  have HH2 := Lib.hid h2
  clear h h2
  go_enter Try.func17, Try.ntmps17
  go_wp2_with (at_builtin; first | (refine wpList_append_nd rfl (.tmp 6) (.tmp 7) rfl w.heap.size _ 1 [nFun] rfl HO.out _ A n c l rfl hbo (by omega) hal.size ?_; intro A1 k1 c1 u1 HK HA; have HG := Lib.hid (hal.grown HA.out.grown hal.size fun j hj => (HO.out.lt j hj).1); have HB2 := Lib.hid (HH2.out.at_size (Nat.le_refl _) HG.out); have HS := Lib.hid HG.out.size) | (refine wpList_append_nd rfl (.tmp 8) (.tmp 9) rfl w.heap.size _ k1 ([nFun] ++ l) rfl HA.out.own _ A2 n2 c2 l2 rfl HB2.out (by have := HK.out; omega) HS.out ?_; intro A3 k3 c3 u3 HK3 HA3))
  have hgr := HG.out.grown HA3.out.grown HG.out.size fun j hj => (HA.out.own.lt j hj).1
  have hL : Ns u3 u3.heap.size A3 k3 c3 ([nFun] ++ l ++ l2) := Rs.of_own ndc_len (by decide) HA3.out.own
  refine bodyPost_ret (v := .slice A3 k3 c3) (by simp [results, Try.results17, go_sem]) rfl ⟨_, _, _, rfl, hL, hgr⟩
end Go.Proofs.Ytlcbcggcmmlfdaa
