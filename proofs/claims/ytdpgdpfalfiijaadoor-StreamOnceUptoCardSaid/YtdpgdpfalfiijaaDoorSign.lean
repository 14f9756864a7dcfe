/- Names out of signs: the words. -/
import Derived.Test.YtdpgdpfalfiijaaDoorStrmX
namespace Go.Proofs.YtdpgdpfalfiijaaDoor
open Go.ChangeShapes Go.WideShapes Go.ChangeAt Go.RowKit
set_option linter.unusedVariables false
set_option linter.unusedSimpArgs false

abbrev signs : ByteArray := ⟨#[97, 98, 99, 100, 101, 102, 103, 104, 105, 106, 107, 108, 109, 110, 111, 112, 113, 114, 115, 116, 117, 118, 119, 120, 121, 122, 65, 66, 67, 68, 69, 70, 71, 72, 73, 74, 75, 76, 77, 78, 79, 80, 81, 82, 83, 84, 85, 86, 87, 88, 89, 90, 95, 48, 49, 50, 51, 52, 53, 54, 55, 56, 57]⟩
def sgn (c : UInt8) : Bool := letB c.toNat || digB c.toNat
theorem signs_ok : ∀ a : Fin 63, (match (signs.extract a.1 (a.1 + 1)).data.toList with | [c] => sgn c | _ => false) = true := by decide +kernel
theorem signs_at (a : Nat) (h : a < 63) : ∃ c, (signs.extract a (a + 1)).data.toList = [c] ∧ sgn c = true := by
  have := signs_ok ⟨a, h⟩
  simp only at this
  split at this
  · rename_i c e; exact ⟨c, e, this⟩
  · cases this
theorem size_list (s : ByteArray) : s.size = s.data.toList.length := by simp
/-- It begins with q, and goes on with signs. -/
def OkS (s : ByteArray) : Prop := ∃ r : List UInt8, s.data.toList = 113 :: r ∧ ∀ c ∈ r, sgn c = true
theorem OkS.start : OkS ⟨#[113]⟩ := ⟨[], rfl, by simp⟩
theorem OkS.step {s : ByteArray} (h : OkS s) (a : Nat) (ha : a < 63) : OkS (s ++ signs.extract a (a + 1)) ∧ (s ++ signs.extract a (a + 1)).size = s.size + 1 ∧ (signs.extract a (a + 1)).size = 1 := by
  obtain ⟨r, h1, h2⟩ := h
  obtain ⟨c, e, hc⟩ := signs_at a ha
  have hs : (signs.extract a (a + 1)).size = 1 := by
    rw [size_list, e]; rfl
  refine ⟨⟨r ++ [c], ?_, ?_⟩, ?_, hs⟩
  · rw [ByteArray.data_append, Array.toList_append, h1, e]; rfl
  · intro d hd
    rcases List.mem_append.1 hd with hd | hd
    · exact h2 d hd
    · rw [List.mem_singleton.1 hd]; exact hc
  · rw [ByteArray.size_append, hs]
theorem nameD_mk {s : ByteArray} {c : UInt8} {r : List UInt8} (h : s.data.toList = c :: r) (h20 : r.length + 1 ≤ 20) : nameD s = (!digB c.toNat && !(keyB s) && (sgn c && r.all sgn)) := by
  have hs : s.size = r.length + 1 := by rw [size_list, h]; rfl
  unfold nameD
  rw [keyB_data, decide_eq_true (by omega : 1 ≤ s.size), decide_eq_true (by omega : s.size ≤ 20), h]
  rfl
theorem OkS.name {s : ByteArray} (h : OkS s) (h20 : s.size ≤ 20) : nameB s = true := by
  obtain ⟨r, h1, h2⟩ := h
  have hs : s.size = r.length + 1 := by rw [size_list, h1]; rfl
  rw [nameB_data, nameD_mk h1 (by omega)]
  have hk : keyB s = false := by rw [keyB_data, h1]; rfl
  rw [hk, List.all_eq_true.2 h2]; decide
theorem OkS.five {s : ByteArray} (h : OkS s) (h20 : s.size ≤ 20) : nameB ((⟨#[53]⟩ : ByteArray) ++ s) = false := by
  obtain ⟨r, h1, h2⟩ := h
  rw [nameB_data]
  unfold nameD
  rw [show (((⟨#[53]⟩ : ByteArray) ++ s).data.toList.getD 0 0) = 53 by rw [ByteArray.data_append, Array.toList_append]; rfl]
  have hd : digB (53 : UInt8).toNat = true := by decide
  rw [hd, Bool.not_true, Bool.and_false, Bool.false_and, Bool.false_and]
theorem name_long {s : ByteArray} (h : 20 < s.size) : nameB s = false := by
  unfold nameB; rw [decide_eq_false (show ¬ s.size ≤ 20 by omega)]; simp
theorem let_dig (n : Nat) : (letB n && digB n) = false := by
  unfold letB digB
  rw [Bool.eq_false_iff]
  intro h
  simp at h
  omega
theorem OkS.set {s : ByteArray} (h : OkS s) (h20 : s.size ≤ 20) (k : Nat) (hk : k < s.size) (c : UInt8) :
    nameB ⟨(s.data.toList.set k c).toArray⟩ = ((letB c.toNat || (decide (0 < k) && digB c.toNat)) && !keyB ⟨(s.data.toList.set k c).toArray⟩) := by
  obtain ⟨r, h1, h2⟩ := h
  have hs : s.size = r.length + 1 := by rw [size_list, h1]; rfl
  rw [nameB_data]
  rw [h1]
  cases k with
  | zero =>
    rw [List.set_cons_zero, nameD_mk (s := ⟨(c :: r).toArray⟩) (c := c) (r := r) rfl (by omega), List.all_eq_true.2 h2]
    unfold sgn
    have := let_dig c.toNat
    cases hl : letB c.toNat <;> cases hd : digB c.toNat <;> simp_all
  | succ k =>
    have hkr : k < r.length := by omega
    have ha : (r.set k c).all sgn = sgn c := by
      cases hc : sgn c
      · rw [List.all_eq_false]
        exact ⟨c, List.mem_iff_getElem.2 ⟨k, by simpa using hkr, by simp⟩, by simp [hc]⟩
      · rw [List.all_eq_true]
        intro d hd
        rcases List.mem_or_eq_of_mem_set hd with hd | rfl
        · exact h2 d hd
        · exact hc
    rw [List.set_cons_succ, nameD_mk (s := ⟨(113 :: r.set k c).toArray⟩) (c := 113) (r := r.set k c) rfl (by simp; omega), ha]
    unfold sgn
    have h3 : (decide (0 < k + 1)) = true := by simp
    have d1 : digB (113 : UInt8).toNat = false := by decide
    have l1 : letB (113 : UInt8).toNat = true := by decide
    rw [h3, d1, l1]
    cases keyB ⟨(113 :: r.set k c).toArray⟩ <;> simp
end Go.Proofs.YtdpgdpfalfiijaaDoor
