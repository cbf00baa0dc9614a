/- Slices of bytes that are cut, or made texts: what they read as. Conditions: the bounds alone. -/
import Derived.Test.YthimojebincheaaBytes
import Derived.Laws.BytesArg
import Derived.Laws.Slices
namespace Go.Proofs.Ythimojebincheaa
open Go.RowKit

/-- The text of bytes. -/
def str (l : List UInt8) : ByteArray := ⟨l.toArray⟩

theorem str_size (l : List UInt8) : (str l).size = l.length := rfl
theorem str_data (l : List UInt8) : (str l).data.toList = l := by simp [str]

theorem strOfNums_bytes (l : List UInt8) : strOfNums (l.map fun b => (b.toNat : Int)) = str l := by
  apply ByteArray.ext
  apply Array.toList_inj.1
  rw [strOfNums_data, List.map_map]
  show _ = l
  conv => rhs; rw [← List.map_id l]
  apply List.map_congr_left
  intro x _
  simp

theorem rd_convert {P : Program} {w : World} {B : Nat} {A : Option Addr} {n c : Nat} {l : List UInt8} (h : Rd w B A n c l) (t e d : TypeId) (ht : P.underlying t = some (.slice e)) (he : P.underlying e = some (.int .u8)) (hd : P.underlying d = some .string) :
    (convert t d (.slice A n c)).run P w = .ok (.string (str l)) w := by
  rcases A with _ | ad
  · have h0 := h.none0 rfl
    have hn : n = 0 := by have := h.cap; omega
    have hl : l = [] := List.eq_nil_of_length_eq_zero (by rw [h.len, hn])
    subst hl
    subst hn
    rw [run_convert_bytes_string w t d e none 0 c ht he hd]
    simp [Conv.bytesToString, str]
    rfl
  · rcases Nat.eq_zero_or_pos n with hn | hn
    · have hl : l = [] := List.eq_nil_of_length_eq_zero (by rw [h.len, hn])
      subst hl
      subst hn
      rw [run_convert_bytes_string w t d e (some ad) 0 c ht he hd]
      have := run_bytesToString (P := P) w ad 0 c [] (by rfl)
      rw [this]
      rfl
    · obtain ⟨b, o, hA, _, hc⟩ := h.spot hn
      injection hA with hA
      subst hA
      have := run_convert_bytes_arg (P := P) w t e ht he b o n c (l.map fun b => (b.toNat : Int)) (by simp [h.len]) (fun i hi => by
        have hi' : i < l.length := by rw [h.len]; exact hi
        rw [hc i hi']
        simp [hi']) d hd
      rw [this, strOfNums_bytes]

/-- A cut: where it lies. -/
def cutAt (A : Option Addr) (lo c : Nat) : Option Addr := if c = lo then A else A.map (·.add lo)

theorem Rd.cut {w : World} {B : Nat} {A : Option Addr} {n c : Nat} {l : List UInt8} (h : Rd w B A n c l) (lo hi : Nat) (h1 : lo ≤ hi) (h2 : hi ≤ n) : Rd w B (cutAt A lo c) (hi - lo) (c - lo) ((l.drop lo).take (hi - lo)) := by
  have hc := h.cap
  have ht := h.top
  have hl := h.len
  refine ⟨by rw [List.length_take, List.length_drop]; omega, by omega, by omega, fun hn => ?_, fun hn => ?_⟩
  · unfold cutAt at hn
    split at hn
    · omega
    · rcases A with _ | ad
      · have := h.none0 rfl
        omega
      · cases hn
  · obtain ⟨b, o, rfl, hb, hcell⟩ := h.spot (by omega)
    have hne : ¬ c = lo := by omega
    refine ⟨b, o + lo, by simp [cutAt, hne, Addr.add_lit], hb, fun j hj => ?_⟩
    rw [List.length_take, List.length_drop] at hj
    rw [Nat.add_assoc, hcell (lo + j) (by omega)]
    simp

section
variable {P : Program} {w : World} {B : Nat} {A : Option Addr} {n c : Nat} {l : List UInt8} (t e : TypeId) (ht : P.underlying t = some (.slice e)) (hz : ∀ w, (Go.sizeOf e).run P w = .ok 1 w)
include ht hz

/-- x[lo:hi] -/
theorem rd_slice_lh (h : Rd w B A n c l) (lo hi : Int) (h0 : 0 ≤ lo) (h1 : lo ≤ hi) (h2 : hi ≤ (n : Int)) :
    ∃ A' n' c', (∀ W, (Instr.slice t (.slice A n c) (some (.int .i64 lo)) (some (.int .i64 hi)) none).run P W = .ok (.slice A' n' c') W) ∧ Rd w B A' n' c' ((l.drop lo.toNat).take (hi.toNat - lo.toNat)) := by
  have hc := h.cap
  refine ⟨_, _, _, fun W => ?_, h.cut lo.toNat hi.toNat (by omega) (by omega)⟩
  have he : P.elem t = e := by simp [Program.elem, ht]
  have ht' : P.underlying t = some (.slice (P.elem t)) := by rw [he]; exact ht
  rw [run_slice_lh W t _ _ _ ht' .i64 .i64 _ _ (by omega) (by omega) (by omega), he, hz]
  simp [Result.andThen, sliced, cutAt]

/-- x[lo:] -/
theorem rd_slice_l (h : Rd w B A n c l) (lo : Int) (h0 : 0 ≤ lo) (h1 : lo ≤ (n : Int)) :
    ∃ A' n' c', (∀ W, (Instr.slice t (.slice A n c) (some (.int .i64 lo)) none none).run P W = .ok (.slice A' n' c') W) ∧ Rd w B A' n' c' (l.drop lo.toNat) := by
  have hc := h.cap
  have hr := h.cut lo.toNat n (by omega) (by omega)
  rw [List.take_of_length_le (by rw [List.length_drop, h.len]; omega)] at hr
  refine ⟨_, _, _, fun W => ?_, hr⟩
  have he : P.elem t = e := by simp [Program.elem, ht]
  have ht' : P.underlying t = some (.slice (P.elem t)) := by rw [he]; exact ht
  rw [run_slice_l W t _ _ _ ht' .i64 _ (by omega) (by omega), he, hz]
  simp [Result.andThen, sliced, cutAt]

/-- x[:hi] -/
theorem rd_slice_h (h : Rd w B A n c l) (hi : Int) (h0 : 0 ≤ hi) (h2 : hi ≤ (n : Int)) :
    ∃ A' n' c', (∀ W, (Instr.slice t (.slice A n c) none (some (.int .i64 hi)) none).run P W = .ok (.slice A' n' c') W) ∧ Rd w B A' n' c' (l.take hi.toNat) := by
  have hc := h.cap
  have hr := h.cut 0 hi.toNat (by omega) (by omega)
  rw [List.drop_zero, Nat.sub_zero, Nat.sub_zero] at hr
  refine ⟨_, _, _, fun W => ?_, hr⟩
  have he : P.elem t = e := by simp [Program.elem, ht]
  have ht' : P.underlying t = some (.slice (P.elem t)) := by rw [he]; exact ht
  rw [run_slice_h W t _ _ _ ht' .i64 _ (by omega) (by omega), he, hz]
  simp [Result.andThen, sliced, cutAt]
end

end Go.Proofs.Ythimojebincheaa
