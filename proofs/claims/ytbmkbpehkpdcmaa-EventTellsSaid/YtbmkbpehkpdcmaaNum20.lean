/- Plain mathematics for stage 2: values. Nothing of the program. -/
import Derived.Test.YtbmkbpehkpdcmaaNum01
import Derived.Test.YtbmkbpehkpdcmaaNum02
import Derived.Lib.ItoaNum
import Derived.Lib.Small
namespace Go.Proofs.Ytbmkbpehkpdcmaa.Val

/-- Is (k, n, s) a value of one of the kinds, and nothing besides? -/
def right (k n : Int) (s : ByteArray) : Bool :=
  if k = 1 then decide (s.size = 0) else if k = 2 then decide (s.size = 0) && (decide (n = 0) || decide (n = 1)) else if k = 3 then decide (n = 0) && decide (s.size ≤ 64) else false
def cmpI (n m : Int) : Int := if n < m then -1 else if m < n then 1 else 0
def cmpS (s t : ByteArray) : Int := if Op.bytesLess s.toList t.toList = true then -1 else if (s.toList == t.toList) = true then 0 else 1
/-- The bytes of a value: nothing of one that is not right. -/
def put (k n : Int) (s : ByteArray) : List UInt8 :=
  if right k n s = true then (if k = 1 then 1 :: Num.put (Num.zig n).toNat else if k = 2 then [2, n.toNat.toUInt8] else 3 :: (Num.put s.size ++ s.data.toList)) else []
theorem put_no {k n : Int} {s : ByteArray} (h : right k n s = false) : put k n s = [] := by unfold put; rw [h]; rfl
theorem right_kind {k n : Int} {s : ByteArray} (h : right k n s = true) : k = 1 ∨ k = 2 ∨ k = 3 := by
  unfold right at h
  split at h
  · left; assumption
  · split at h
    · right; left; assumption
    · split at h
      · right; right; assumption
      · exact absurd h (by simp)
theorem put_int {n : Int} {s : ByteArray} (h : right 1 n s = true) : put 1 n s = 1 :: Num.put (Num.zig n).toNat := by unfold put; rw [if_pos h]; rfl
theorem put_bool {n : Int} {s : ByteArray} (h : right 2 n s = true) : put 2 n s = [2, n.toNat.toUInt8] := by unfold put; rw [if_pos h]; rfl
theorem put_text {n : Int} {s : ByteArray} (h : right 3 n s = true) : put 3 n s = 3 :: (Num.put s.size ++ s.data.toList) := by unfold put; rw [if_pos h]; rfl
theorem right_bool {n : Int} {s : ByteArray} (h : right 2 n s = true) : s.size = 0 ∧ (n = 0 ∨ n = 1) := by
  unfold right at h; simp at h; simpa using h
theorem right_int {n : Int} {s : ByteArray} (h : right 1 n s = true) : s.size = 0 := by
  unfold right at h; simp at h; simpa using h
theorem right_text {n : Int} {s : ByteArray} (h : right 3 n s = true) : n = 0 ∧ s.size ≤ 64 := by
  unfold right at h; simp at h; simpa using h
/-- How a value is shown. -/
def showL (k n : Int) (s : ByteArray) : List UInt8 :=
  if right k n s = true then (if k = 1 then Lib.itoa n else if k = 2 then Lib.formatBool (n == 1) else 39 :: (s.data.toList ++ [39])) else [63]
theorem show_no {k n : Int} {s : ByteArray} (h : right k n s = false) : showL k n s = [63] := by unfold showL; rw [h]; rfl
theorem show_int {n : Int} {s : ByteArray} (h : right 1 n s = true) : showL 1 n s = Lib.itoa n := by unfold showL; rw [if_pos h]; rfl
theorem show_bool {n : Int} {s : ByteArray} (h : right 2 n s = true) : showL 2 n s = Lib.formatBool (n == 1) := by unfold showL; rw [if_pos h]; rfl
theorem show_text {n : Int} {s : ByteArray} (h : right 3 n s = true) : showL 3 n s = 39 :: (s.data.toList ++ [39]) := by unfold showL; rw [if_pos h]; rfl
end Go.Proofs.Ytbmkbpehkpdcmaa.Val
