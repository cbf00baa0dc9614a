/- What GetText does: of any bytes the text, how many bytes it took, the error, as textL says. No condition. -/
import Derived.Test.YtakkmmnpocbakaaGetFour
import Derived.Test.YtakkmmnpocbakaaCut
namespace Go.Proofs.Ytakkmmnpocbakaa
open Go.RowKit

/-- The text that bytes begin with, how many bytes it took, the error. -/
def textL (l : List UInt8) : List UInt8 × Nat × Int :=
  if (getL l).2.2 ≠ 0 then ([], 0, (getL l).2.2)
  else if l.length - (getL l).2.1 < (getL l).1 then ([], 0, 5)
  else ((l.drop (getL l).2.1).take (getL l).1, (getL l).2.1 + (getL l).1, 0)

def gotText (r : List UInt8 × Nat × Int) : Value := .tuple #[.string (str r.1), .int .i64 (r.2.1 : Int), .int .i64 r.2.2]

theorem byte_size (w : World) : (Go.sizeOf 5).run Try.prog w = .ok 1 w := by kernel_rfl

/-- Get where its answer is known. -/
theorem get_at {B : Nat} {A : Option Addr} {n c : Nat} {l : List UInt8} {m k : Nat} {z : Int} (w : World) (h : Rd w B A n c l) (hg : getL l = (m, k, z)) :
    Calls Try.prog 9 #[.slice A n c] w fun e w' => e = .returned (.tuple #[.int .u64 (m : Int), .int .i64 (k : Int), .int .i64 z]) ∧ w = w' := by
  have := get_any B A n c l w h
  rw [hg] at this
  exact this

theorem gotText_of {r : List UInt8 × Nat × Int} {a : List UInt8} {b : Nat} {e z : Int} {s : ByteArray} (h : r = (a, b, e)) (hs : s = str a) (hz : z = (b : Int)) : Ending.returned (.tuple #[.string s, .int .i64 z, .int .i64 e]) = .returned (gotText r) := by
  subst h
  subst hs
  subst hz
  rfl

set_option maxRecDepth 100000 in
set_option maxHeartbeats 400000 in
theorem getText_any (B : Nat) (A : Option Addr) (n c : Nat) (l : List UInt8) (w : World) (h : Rd w B A n c l) : Calls Try.prog 13 #[.slice A n c] w fun e w' => e = .returned (gotText (textL l)) ∧ w = w' := by
  obtain ⟨m, k, e, hg⟩ : ∃ m k e, getL l = (m, k, e) := ⟨_, _, _, rfl⟩
  have hlen := h.len
  have hcap := h.cap
  have htop := h.top
  unfold maxLen at htop
  have hn : n ≤ 9223372036854775807 := by omega
  have HG := Lib.hid hg
  have HT : Hid (textL l = if e ≠ 0 then ([], 0, e) else if n - k < m then ([], 0, 5) else ((l.drop k).take m, k + m, 0)) := by
    show textL l = _
    unfold textL
    rw [hg, hlen]
  clear hg hcap htop
  by_cases he : e = 0
  · subst he
    obtain ⟨hk, ⟨r, hr⟩, hm⟩ := getL_ok HG.out
    have hk1 : k ≤ n := by rw [← hlen, hr, List.length_append, ← hk]; omega
    have HM := Lib.hid hm
    have HLEN := Lib.hid hlen
    clear hk hr hm hlen
    by_cases hs : n - k < m
    · have H5 := Lib.hid (HT.out.trans ((if_neg (by simp)).trans (if_pos hs)))
      have hs' : (n : Int) - k < m := by omega
      go_enter Try.func13, Try.ntmps13
      go_wp2_with fail
      refine (get_at _ h HG.out).mono ?_
      rintro e w1 ⟨rfl, rfl⟩
      go_wp2_with fail
      go_ret3
      exact ⟨gotText_of H5.out rfl rfl, rfl⟩
    · have H5 := Lib.hid (HT.out.trans ((if_neg (by simp)).trans (if_neg hs)))
      have hs' : ¬ (n : Int) - k < m := by omega
      have hmn : k + m ≤ n := by omega
      obtain ⟨A1, n1, c1, hsl, hr1⟩ := rd_slice_lh (P := Try.prog) 22 5 Try.underlying22 byte_size h (k : Int) ((k : Int) + m) (by omega) (by omega) (by omega)
      have hcv := rd_convert (P := Try.prog) hr1 22 5 9 Try.underlying22 Try.underlying5 Try.underlying9
      go_enter Try.func13, Try.ntmps13
      go_wp2_with fail
      refine (get_at _ h HG.out).mono ?_
      rintro e w1 ⟨rfl, rfl⟩
      go_wp2_with fail
      go_ret3
      exact ⟨gotText_of H5.out (by rw [show k + m - k = m by omega]) (by omega), rfl⟩
  · have hne : (e != 0) = true := by simpa using he
    have H5 := Lib.hid (HT.out.trans (if_pos he))
    go_enter Try.func13, Try.ntmps13
    go_wp2_with fail
    refine (get_at _ h HG.out).mono ?_
    rintro e w1 ⟨rfl, rfl⟩
    go_wp2_with fail
    go_ret3
    exact ⟨gotText_of H5.out rfl rfl, rfl⟩

end Go.Proofs.Ytakkmmnpocbakaa
