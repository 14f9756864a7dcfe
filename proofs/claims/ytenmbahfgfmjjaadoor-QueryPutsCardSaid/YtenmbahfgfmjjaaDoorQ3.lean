/- Texts that several proofs stand on, part 3. -/
import Derived.Test.YtenmbahfgfmjjaaDoorQ2
import Derived.RowKit
import Derived.Lib.ItoaNum
import Derived.Lib.Small
import Derived.Test.YtenmbahfgfmjjaaDoorQ1
import Derived.BigQuiet
import Derived.Lib.Strings
import Derived.Lib.QuietBelow
namespace Go.Proofs.YtenmbahfgfmjjaaDoor.Num

theorem extract_toList (s : ByteArray) (a b : Nat) : (s.extract a b).data.toList = (s.data.toList.take b).drop a := by
  rw [ByteArray.data_extract, Array.toList_extract, List.extract_eq_take_drop, List.drop_take]
theorem torn_prefix (U : Nat) {D : List UInt8} {d : UInt8} (he : put U = D ++ [d]) (hU : U < 18446744073709551616) (q : Int) (h1 : q < (D.length : Int) + 1) :
    ((⟨(D ++ [d]).toArray⟩ : ByteArray).extract 0 q.toNat).size ≤ maxLen ∧ getAt ((⟨(D ++ [d]).toArray⟩ : ByteArray).extract 0 q.toNat).data.toList 0 = none := by
  have hl : (put U).length = D.length + 1 := by rw [he]; simp
  have h10 := put_ten hU
  refine ⟨?_, ?_⟩
  · rw [ByteArray.size_extract]
    show min q.toNat (D ++ [d]).length - 0 ≤ _
    unfold maxLen; omega
  · rw [extract_toList]
    show getAt (((D ++ [d]).take q.toNat).drop 0) ((0 : Nat) : Int) = none
    rw [List.drop_zero, ← he, getAt_nat, List.drop_zero, get_prefix hU (by omega)]
    rfl
theorem shape_len (U : Nat) {D : List UInt8} {d : UInt8} (he : put U = D ++ [d]) (hU : U < 18446744073709551616) : D.length ≤ 9 := by
  have := put_ten hU; rw [he] at this; simp at this; omega
theorem or_last (d : UInt8) (hd : d.toNat < 128) : ∃ E : UInt8, bits .or .u8 (d.toNat : Int) 128 = (E.toNat : Int) ∧ 128 ≤ E.toNat := by
  refine ⟨(d.toNat + 128).toUInt8, ?_, by simp; omega⟩
  rw [Lib.u8_or128_any _ (by omega) (by omega)]; simp; omega
theorem torn_nought (D : List UInt8) (E : UInt8) (hD : ∀ x ∈ D, 128 ≤ x.toNat) (hE : 128 ≤ E.toNat) (h9 : D.length ≤ 9) :
    ((⟨(D ++ [E]).toArray⟩ : ByteArray) ++ ⟨#[0]⟩).size ≤ maxLen ∧ getAt ((⟨(D ++ [E]).toArray⟩ : ByteArray) ++ ⟨#[0]⟩).data.toList 0 = none := by
  have e : ((⟨(D ++ [E]).toArray⟩ : ByteArray) ++ ⟨#[0]⟩).data.toList = (D ++ [E]) ++ [0] := by simp
  refine ⟨?_, ?_⟩
  · show (((⟨(D ++ [E]).toArray⟩ : ByteArray) ++ ⟨#[0]⟩).data).size ≤ _
    rw [← Array.length_toList, e]
    unfold maxLen; simp; omega
  · rw [e]
    show getAt _ ((0 : Nat) : Int) = none
    rw [getAt_nat, List.drop_zero]
    unfold get
    rw [getGo_nought (D ++ [E]) 0 0 (by intro x hx; rcases List.mem_append.1 hx with h | h; exact hD x h; simp at h; subst h; exact hE) (by simp)]
    rfl
theorem pow_le128' (i : Nat) (h : i ≤ 8) : 128 ^ i ≤ 72057594037927936 := by
  have := Nat.pow_le_pow_right (n := 128) (by decide) h
  exact Nat.le_trans this (by decide)
/-- What the document's answer adds, digit by digit. -/
theorem weigh (u c i W : Nat) (hW : W = 128 ^ i) (hu : u < 128 ^ i) (hb : W ≤ 72057594037927936) :
    ∃ X : Nat, u + c % 128 * 128 ^ i = u + X ∧ IntKind.u64.wrap ((c : Int) % 128 * (W : Int)) = (X : Int) ∧ u + X < 18446744073709551616 := by
  subst hW
  have h1 : c % 128 ≤ 127 := by omega
  have h2 := Nat.mul_le_mul h1 hb
  refine ⟨c % 128 * 128 ^ i, rfl, ?_, by omega⟩
  have : (c : Int) % 128 * ((128 ^ i : Nat) : Int) = ((c % 128 * 128 ^ i : Nat) : Int) := by push_cast; rfl
  rw [this, IntKind.wrap_u64]
  omega
end Go.Proofs.YtenmbahfgfmjjaaDoor.Num
namespace Go.Proofs.YtenmbahfgfmjjaaDoor.Val

/-- Is (k, n, s) a value of one of the kinds, and nothing besides? -/
def right (k n : Int) (s : ByteArray) : Bool :=
  if k = 1 then decide (s.size = 0) else if k = 2 then decide (s.size = 0) && (decide (n = 0) || decide (n = 1)) else if k = 3 then decide (n = 0) && decide (s.size ≤ 64) else false
def cmpI (n m : Int) : Int := if n < m then -1 else if m < n then 1 else 0
def cmpS (s t : ByteArray) : Int := if Op.bytesLess s.toList t.toList = true then -1 else if (s.toList == t.toList) = true then 0 else 1
/-- The bytes of a value: nothing of one that is not right. -/
def put (k n : Int) (s : ByteArray) : List UInt8 :=
  if right k n s = true then (if k = 1 then 1 :: Num.put (Num.zig n).toNat else if k = 2 then [2, n.toNat.toUInt8] else 3 :: (Num.put s.size ++ s.data.toList)) else []
theorem put_no {k n : Int} {s : ByteArray} (h : right k n s = false) : put k n s = [] := by unfold put; rw [h]; rfl
theorem right_kind {k n : Int} {s : ByteArray} (h : right k n s = true) : k = 1 ∨ k = 2 ∨ k = 3 := by
  unfold right at h
  split at h
  · left; assumption
  · split at h
    · right; left; assumption
    · split at h
      · right; right; assumption
      · exact absurd h (by simp)
theorem put_int {n : Int} {s : ByteArray} (h : right 1 n s = true) : put 1 n s = 1 :: Num.put (Num.zig n).toNat := by unfold put; rw [if_pos h]; rfl
theorem put_bool {n : Int} {s : ByteArray} (h : right 2 n s = true) : put 2 n s = [2, n.toNat.toUInt8] := by unfold put; rw [if_pos h]; rfl
theorem put_text {n : Int} {s : ByteArray} (h : right 3 n s = true) : put 3 n s = 3 :: (Num.put s.size ++ s.data.toList) := by unfold put; rw [if_pos h]; rfl
theorem right_bool {n : Int} {s : ByteArray} (h : right 2 n s = true) : s.size = 0 ∧ (n = 0 ∨ n = 1) := by
  unfold right at h; simp at h; simpa using h
theorem right_int {n : Int} {s : ByteArray} (h : right 1 n s = true) : s.size = 0 := by
  unfold right at h; simp at h; simpa using h
theorem right_text {n : Int} {s : ByteArray} (h : right 3 n s = true) : n = 0 ∧ s.size ≤ 64 := by
  unfold right at h; simp at h; simpa using h
/-- How a value is shown. -/
def showL (k n : Int) (s : ByteArray) : List UInt8 :=
  if right k n s = true then (if k = 1 then Lib.itoa n else if k = 2 then Lib.formatBool (n == 1) else 39 :: (s.data.toList ++ [39])) else [63]
theorem show_no {k n : Int} {s : ByteArray} (h : right k n s = false) : showL k n s = [63] := by unfold showL; rw [h]; rfl
theorem show_int {n : Int} {s : ByteArray} (h : right 1 n s = true) : showL 1 n s = Lib.itoa n := by unfold showL; rw [if_pos h]; rfl
theorem show_bool {n : Int} {s : ByteArray} (h : right 2 n s = true) : showL 2 n s = Lib.formatBool (n == 1) := by unfold showL; rw [if_pos h]; rfl
theorem show_text {n : Int} {s : ByteArray} (h : right 3 n s = true) : showL 3 n s = 39 :: (s.data.toList ++ [39]) := by unfold showL; rw [if_pos h]; rfl
end Go.Proofs.YtenmbahfgfmjjaaDoor.Val
namespace Go.Proofs.YtenmbahfgfmjjaaDoor
open Go.ChangeShapes Go.WideShapes Go.ChangeAt Go.RowKit
open Num (zig zag)
set_option linter.unusedVariables false
set_option linter.unusedSimpArgs false

/-- A value, as the program has it. -/
abbrev vv (k n : Int) (s : ByteArray) : Value := .agg #[.int .i64 k, .int .i64 n, .string s]

set_option maxRecDepth 20000 in
theorem Right_1 (n : Int) (s : ByteArray) (w : World) (hz : (s.size = 0 ∧ s.toList = []) ∨ (1 ≤ s.size ∧ ¬ s.toList = [])) :
    Calls Tryd.prog 86 #[vv 1 n s] w fun e w' => e = .returned (.bool (decide (s.size = 0))) ∧ Below w.heap.size w w' := by
  rcases hz with ⟨hz, hl⟩ | ⟨hz, hl⟩
  · rw [decide_eq_true hz]; clear hz
    go_enter Tryd.func86, Tryd.ntmps86
    go_wp2
    all_goals
      go_ret
      refine ⟨retB ?_, (Below.refl _ _).alloc (Nat.le_refl _) _⟩
      first | rfl | (simp; done) | (simp; omega) | (simp [*]; done)
  · rw [decide_eq_false (show ¬ s.size = 0 by omega)]; clear hz
    go_enter Tryd.func86, Tryd.ntmps86
    go_wp2
    all_goals
      go_ret
      refine ⟨retB ?_, (Below.refl _ _).alloc (Nat.le_refl _) _⟩
      first | rfl | (simp; done) | (simp; omega) | (simp [*]; done)
set_option maxRecDepth 20000 in
theorem Right_2 (n : Int) (s : ByteArray) (w : World) (hz : (s.size = 0 ∧ s.toList = []) ∨ (1 ≤ s.size ∧ ¬ s.toList = [])) :
    Calls Tryd.prog 86 #[vv 2 n s] w fun e w' => e = .returned (.bool (decide (s.size = 0) && (decide (n = 0) || decide (n = 1)))) ∧ Below w.heap.size w w' := by
  have hn : n = 0 ∨ n = 1 ∨ (n ≠ 0 ∧ n ≠ 1) := by omega
  rcases hz with ⟨hz, hl⟩ | ⟨hz, hl⟩
  · rw [decide_eq_true hz]; clear hz
    rcases hn with rfl | rfl | ⟨hn0, hn1⟩
    all_goals
      go_enter Tryd.func86, Tryd.ntmps86
      go_wp2
      all_goals
        go_ret
        refine ⟨retB ?_, (Below.refl _ _).alloc (Nat.le_refl _) _⟩
        first | rfl | (simp; done) | (simp; omega) | (simp [*]; done)
  · rw [decide_eq_false (show ¬ s.size = 0 by omega)]; clear hz
    rcases hn with rfl | rfl | ⟨hn0, hn1⟩
    all_goals
      go_enter Tryd.func86, Tryd.ntmps86
      go_wp2
      all_goals
        go_ret
        refine ⟨retB ?_, (Below.refl _ _).alloc (Nat.le_refl _) _⟩
        first | rfl | (simp; done) | (simp; omega) | (simp [*]; done)
set_option maxRecDepth 20000 in
theorem Right_3 (n : Int) (s : ByteArray) (w : World) (hs : s.size ≤ 9223372036854775807) :
    Calls Tryd.prog 86 #[vv 3 n s] w fun e w' => e = .returned (.bool (decide (n = 0) && decide (s.size ≤ 64))) ∧ Below w.heap.size w w' := by
  have hn : n = 0 ∨ n ≠ 0 := by omega
  rcases hn with rfl | hn
  · rcases (by omega : s.size ≤ 64 ∨ 64 < s.size) with hm | hm
    · rw [decide_eq_true hm]
      go_enter Tryd.func86, Tryd.ntmps86
      go_wp2
      all_goals
        go_ret
        refine ⟨retB ?_, (Below.refl _ _).alloc (Nat.le_refl _) _⟩
        first | rfl | (simp; done) | (simp; omega) | (simp [*]; done)
    · rw [decide_eq_false (show ¬ s.size ≤ 64 by omega)]
      go_enter Tryd.func86, Tryd.ntmps86
      go_wp2
      all_goals
        go_ret
        refine ⟨retB ?_, (Below.refl _ _).alloc (Nat.le_refl _) _⟩
        first | rfl | (simp; done) | (simp; omega) | (simp [*]; done)
  · rw [decide_eq_false hn]
    go_enter Tryd.func86, Tryd.ntmps86
    go_wp2
    all_goals
      go_ret
      refine ⟨retB ?_, (Below.refl _ _).alloc (Nat.le_refl _) _⟩
      first | rfl | (simp; done) | (simp; omega) | (simp [*]; done)
set_option maxRecDepth 20000 in
theorem Right_o (k n : Int) (s : ByteArray) (w : World) (h1 : k ≠ 1) (h2 : k ≠ 2) (h3 : k ≠ 3) :
    Calls Tryd.prog 86 #[vv k n s] w fun e w' => e = .returned (.bool false) ∧ Below w.heap.size w w' := by
  go_enter Tryd.func86, Tryd.ntmps86
  go_wp2
  all_goals
    go_ret
    refine ⟨retB ?_, (Below.refl _ _).alloc (Nat.le_refl _) _⟩
    first | rfl | (simp; done) | (simp; omega) | (simp [*]; done)
theorem Right_any (k n : Int) (s : ByteArray) (w : World) (hs : s.size ≤ maxLen) :
    Calls Tryd.prog 86 #[vv k n s] w fun e w' => e = .returned (.bool (Val.right k n s)) ∧ Below w.heap.size w w' := by
  rcases (by omega : k = 1 ∨ k = 2 ∨ k = 3 ∨ (k ≠ 1 ∧ k ≠ 2 ∧ k ≠ 3)) with rfl | rfl | rfl | ⟨h1, h2, h3⟩
  · exact Right_1 n s w (nil_or s)
  · exact Right_2 n s w (nil_or s)
  · exact Right_3 n s w (by unfold maxLen at hs; omega)
  · refine (Right_o k n s w h1 h2 h3).mono fun _ _ ⟨he, hw⟩ => ⟨by rw [he]; unfold Val.right; rw [if_neg h1, if_neg h2, if_neg h3], hw⟩
end Go.Proofs.YtenmbahfgfmjjaaDoor
