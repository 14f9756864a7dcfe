/- Contracts of the document's own answer to chapter 2: Order. -/
import Derived.Test.YtomldmdnoalbiaaDoorRefV
import Derived.Test.YtomldmdnoalbiaaDoorValueO
import Derived.Test.YtomldmdnoalbiaaDoorNum22
namespace Go.Proofs.YtomldmdnoalbiaaDoor
open Go.ChangeShapes Go.WideShapes Go.ChangeAt Go.RowKit
set_option linter.unusedVariables false
set_option linter.unusedSimpArgs false

theorem orderV_cmp' {k n : Int} {s : ByteArray} {m : Int} {t : ByteArray} (h1 : Val.right k n s = true) (h2 : Val.right k m t = true) : orderV k n s k m t = .tuple #[.int .i64 (cmpV k n s m t), .bool true] := by
  unfold cmpV
  by_cases hk : k = 3
  · subst hk; rw [orderV_text h1 h2, if_pos rfl]
  · rw [orderV_num h1 h2 hk, if_neg hk]
theorem rBoxes (w : World) (k n : Int) (s : ByteArray) (l m : Int) (t : ByteArray) : Below w.heap.size w ((w.alloc (.cells #[.int .i64 k, .int .i64 n, .string s] 29)).alloc (.cells #[.int .i64 l, .int .i64 m, .string t] 29)) := bt (ba _ _) (ba _ _)
theorem rOrder_n1 (k n : Int) (s : ByteArray) (l m : Int) (t : ByteArray) (w : World) (b : Bool) (H : Hid ((∀ w, Calls Tryd.prog 18 #[vv k n s] w fun e w' => e = .returned (.bool false) ∧ Below w.heap.size w w') ∧ (∀ w, Calls Tryd.prog 18 #[vv l m t] w fun e w' => e = .returned (.bool b) ∧ Below w.heap.size w w'))) :
    Calls Tryd.prog 15 #[vv k n s, vv l m t] w fun e w' => e = .returned (.tuple #[.int .i64 0, .bool false]) ∧ Below w.heap.size w w' := by
  go_enter Tryd.func15, Tryd.ntmps15
  go_wp2_with fail
  go_at_call 18
  ((with_reducible refine (H.out.1 _).mono ?_); rintro e w1 ⟨rfl, b1⟩)
  go_wp2
  go_ret2
  exact ⟨rfl, bt (rBoxes w _ _ _ _ _ _) b1⟩
theorem rOrder_n2 (k n : Int) (s : ByteArray) (l m : Int) (t : ByteArray) (w : World) (H : Hid ((∀ w, Calls Tryd.prog 18 #[vv k n s] w fun e w' => e = .returned (.bool true) ∧ Below w.heap.size w w') ∧ (∀ w, Calls Tryd.prog 18 #[vv l m t] w fun e w' => e = .returned (.bool false) ∧ Below w.heap.size w w'))) :
    Calls Tryd.prog 15 #[vv k n s, vv l m t] w fun e w' => e = .returned (.tuple #[.int .i64 0, .bool false]) ∧ Below w.heap.size w w' := by
  go_enter Tryd.func15, Tryd.ntmps15
  go_wp2_with fail
  go_at_call 18
  ((with_reducible refine (H.out.1 _).mono ?_); rintro e w1 ⟨rfl, b1⟩)
  obtain ⟨hc1, hf1⟩ := bcell b1
  go_wp2_with fail
  go_at_call 18
  ((with_reducible refine (H.out.2 _).mono ?_); rintro e w2 ⟨rfl, b2⟩)
  have b12 := bt b1 b2
  obtain ⟨hc2, hf2⟩ := bcell b12
  clear hc1 hf1
  go_wp2
  go_ret2
  exact ⟨rfl, bt (rBoxes w _ _ _ _ _ _) b12⟩
theorem rOrder_n3 (k n : Int) (s : ByteArray) (l m : Int) (t : ByteArray) (w : World) (hkl : ¬ k = l) (H : Hid ((∀ w, Calls Tryd.prog 18 #[vv k n s] w fun e w' => e = .returned (.bool true) ∧ Below w.heap.size w w') ∧ (∀ w, Calls Tryd.prog 18 #[vv l m t] w fun e w' => e = .returned (.bool true) ∧ Below w.heap.size w w'))) :
    Calls Tryd.prog 15 #[vv k n s, vv l m t] w fun e w' => e = .returned (.tuple #[.int .i64 0, .bool false]) ∧ Below w.heap.size w w' := by
  go_enter Tryd.func15, Tryd.ntmps15
  go_wp2_with fail
  go_at_call 18
  ((with_reducible refine (H.out.1 _).mono ?_); rintro e w1 ⟨rfl, b1⟩)
  obtain ⟨hc1, hf1⟩ := bcell b1
  go_wp2_with fail
  go_at_call 18
  ((with_reducible refine (H.out.2 _).mono ?_); rintro e w2 ⟨rfl, b2⟩)
  have b12 := bt b1 b2
  obtain ⟨hc2, hf2⟩ := bcell b12
  clear hc1 hf1
  go_wp2
  go_ret2
  exact ⟨rfl, bt (rBoxes w _ _ _ _ _ _) b12⟩
theorem rOrder_y (k n : Int) (s : ByteArray) (m : Int) (t : ByteArray) (w : World) (x : Int) (H : Hid ((∀ w, Calls Tryd.prog 18 #[vv k n s] w fun e w' => e = .returned (.bool true) ∧ Below w.heap.size w w') ∧ (∀ w, Calls Tryd.prog 18 #[vv k m t] w fun e w' => e = .returned (.bool true) ∧ Below w.heap.size w w')))
    (hx : (x = -1 ∧ n < m ∧ Op.bytesLess s.toList t.toList = false ∧ (s.toList == t.toList) = true) ∨ (x = 0 ∧ n = m ∧ Op.bytesLess s.toList t.toList = false ∧ (s.toList == t.toList) = true) ∨ (x = 1 ∧ m < n ∧ Op.bytesLess s.toList t.toList = false ∧ (s.toList == t.toList) = true) ∨
      (x = -1 ∧ n = m ∧ Op.bytesLess s.toList t.toList = true) ∨ (x = 1 ∧ n = m ∧ Op.bytesLess s.toList t.toList = false ∧ (s.toList == t.toList) = false)) :
    Calls Tryd.prog 15 #[vv k n s, vv k m t] w fun e w' => e = .returned (.tuple #[.int .i64 x, .bool true]) ∧ Below w.heap.size w w' := by
  rcases hx with ⟨rfl, hn, hb, he⟩ | ⟨rfl, rfl, hb, he⟩ | ⟨rfl, hn, hb, he⟩ | ⟨rfl, rfl, hb⟩ | ⟨rfl, rfl, hb, he⟩
  all_goals
    go_enter Tryd.func15, Tryd.ntmps15
    go_wp2_with fail
    go_at_call 18
    ((with_reducible refine (H.out.1 _).mono ?_); rintro e w1 ⟨rfl, b1⟩)
    obtain ⟨hc1, hf1⟩ := bcell b1
    go_wp2_with fail
    go_at_call 18
    ((with_reducible refine (H.out.2 _).mono ?_); rintro e w2 ⟨rfl, b2⟩)
    have b12 := bt b1 b2
    obtain ⟨hc2, hf2⟩ := bcell b12
    clear hc1 hf1
    go_wp2
    go_ret2
    exact ⟨rfl, bt (rBoxes w _ _ _ _ _ _) b12⟩

theorem rOrder_any (k n : Int) (s : ByteArray) (l m : Int) (t : ByteArray) (w : World) (hs : s.size ≤ maxLen) (ht : t.size ≤ maxLen) :
    Calls Tryd.prog 15 #[vv k n s, vv l m t] w fun e w' => e = .returned (orderV k n s l m t) ∧ Below w.heap.size w w' := by
  have cR := fun w => rRight_any k n s w hs
  have cT := fun w => rRight_any l m t w ht
  rcases hr : Val.right k n s with _ | _
  · rw [hr] at cR
    rw [orderV_no (Or.inl hr)]
    exact rOrder_n1 k n s l m t w _ (Lib.hid (And.intro cR cT))
  rw [hr] at cR
  rcases hq : Val.right l m t with _ | _
  · rw [hq] at cT
    rw [orderV_no (Or.inr (Or.inl hq))]
    exact rOrder_n2 k n s l m t w (Lib.hid (And.intro cR cT))
  rw [hq] at cT
  by_cases hkl : k = l
  · subst hkl
    rw [orderV_cmp' hr hq]
    refine rOrder_y k n s m t w _ (Lib.hid (And.intro cR cT)) ?_
    by_cases hk : k = 3
    · subst hk
      have e1 := (Val.right_text hr).1
      have e2 := (Val.right_text hq).1
      unfold cmpV
      rw [if_pos rfl]
      rcases list_tri s.toList t.toList with h | h | h
      · rw [cmpS_lt h]; exact Or.inr (Or.inr (Or.inr (Or.inl ⟨rfl, by omega, by rw [bless]; simpa using h⟩)))
      · rw [cmpS_eq h]; exact Or.inr (Or.inl ⟨rfl, by omega, by rw [bless]; simp [h, List.lt_irrefl], by simpa using h⟩)
      · rw [cmpS_gt h]
        have h1 : ¬ s.toList < t.toList := fun h2 => List.lt_irrefl _ (List.lt_trans h h2)
        have h2 : ¬ s.toList = t.toList := fun h2 => by rw [h2] at h; exact List.lt_irrefl _ h
        exact Or.inr (Or.inr (Or.inr (Or.inr ⟨rfl, by omega, by rw [bless]; simpa using h1, by simpa using h2⟩)))
    · have hz : s.size = 0 ∧ t.size = 0 := by
        rcases Val.right_kind hr with rfl | rfl | rfl
        · exact ⟨Val.right_int hr, Val.right_int hq⟩
        · exact ⟨(Val.right_bool hr).1, (Val.right_bool hq).1⟩
        · exact absurd rfl hk
      have he : s.toList = t.toList := by rw [(size_nil s).1 hz.1, (size_nil t).1 hz.2]
      have hb : Op.bytesLess s.toList t.toList = false := by rw [bless]; simp [he, List.lt_irrefl]
      have hq2 : (s.toList == t.toList) = true := by simpa using he
      unfold cmpV
      rw [if_neg hk]
      rcases (by omega : n < m ∨ n = m ∨ m < n) with h | rfl | h
      · rw [cmpI_lt h]; exact Or.inl ⟨rfl, h, hb, hq2⟩
      · rw [cmpI_eq]; exact Or.inr (Or.inl ⟨rfl, rfl, hb, hq2⟩)
      · rw [cmpI_gt h]; exact Or.inr (Or.inr (Or.inl ⟨rfl, h, hb, hq2⟩))
  · rw [orderV_no (Or.inr (Or.inr hkl))]
    exact rOrder_n3 k n s l m t w hkl (Lib.hid (And.intro cR cT))
end Go.Proofs.YtomldmdnoalbiaaDoor
