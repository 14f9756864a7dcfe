/- What is put is got (chapter 3): the words. -/
import Derived.Test.YtdpgdpfalfiijaaDoorSign
import Derived.Lib.SplitLaws
namespace Go.Proofs.YtdpgdpfalfiijaaDoor
open Go.ChangeShapes Go.WideShapes Go.ChangeAt Go.RowKit
set_option linter.unusedVariables false
set_option linter.unusedSimpArgs false

theorem index_one_at (c : UInt8) : ∀ (p r : List UInt8), c ∉ p → Lib.index (p ++ c :: r) [c] = p.length
  | [], r, _ => by simp [Lib.index, List.isPrefixOf]
  | b :: p, r, h => by
    have hb : ¬ c = b := fun e => h (by rw [e]; simp)
    have ih := index_one_at c p r (fun hc => h (by simp [hc]))
    rw [List.cons_append, Lib.index, ih]
    have h1 : [c].isPrefixOf (b :: (p ++ c :: r)) = false := by simp [List.isPrefixOf, hb]
    rw [h1, if_neg (by simp), if_neg (by simp)]
    simp
theorem cut_one (c : UInt8) (p r : List UInt8) (h : c ∉ p) : Lib.cut (p ++ c :: r) [c] = (p, r, true) := by
  unfold Lib.cut
  rw [index_one_at c p r h, if_pos (by omega)]
  simp
theorem cutB_one {s : ByteArray} (c : UInt8) (p r : List UInt8) (hs : s.data.toList = p ++ c :: r) (h : c ∉ p) : cutB s ⟨#[c]⟩ = (⟨p.toArray⟩, ⟨r.toArray⟩, true) := by
  unfold cutB
  rw [hs, show (⟨#[c]⟩ : ByteArray).data.toList = [c] from rfl, cut_one c p r h]
theorem join_two (x y : List UInt8) (ys : List (List UInt8)) (c : UInt8) : Lib.join (x :: y :: ys) [c] = x ++ c :: Lib.join (y :: ys) [c] := by
  rw [Lib.join_cons, Lib.join_cons]
  simp [Lib.joinTail]
theorem split_join (c : UInt8) : ∀ (xs : List (List UInt8)) (x : List UInt8), c ∉ x → (∀ y ∈ xs, c ∉ y) → Lib.splitK [c] 0 xs.length (Lib.join (x :: xs) [c]) = x :: xs
  | [], x, _, _ => by rw [Lib.join_one]; rfl
  | y :: ys, x, hx, hy => by
    rw [join_two, List.length_cons]
    unfold Lib.splitK
    rw [index_one_at c x _ hx, if_neg (by simp)]
    have ih := split_join c ys y (hy y (by simp)) (fun z hz => hy z (by simp [hz]))
    simp only [Int.toNat_natCast, Nat.add_zero, List.length_cons, List.length_nil, Nat.zero_add]
    rw [List.take_left, show x.length + 1 = (x ++ [c]).length by simp, show x ++ c :: Lib.join (y :: ys) [c] = (x ++ [c]) ++ Lib.join (y :: ys) [c] by simp, List.drop_left, ih]
theorem count_join (c : UInt8) : ∀ (xs : List (List UInt8)) (x : List UInt8), c ∉ x → (∀ y ∈ xs, c ∉ y) → (Lib.join (x :: xs) [c]).count c = xs.length
  | [], x, hx, _ => by rw [Lib.join_one]; exact List.count_eq_zero.2 hx
  | y :: ys, x, hx, hy => by
    rw [join_two, List.count_append, List.count_cons_self, count_join c ys y (hy y (by simp)) (fun z hz => hy z (by simp [hz])), List.count_eq_zero.2 hx]
    simp
theorem bytes_map_inj : ∀ {a b : List ByteArray}, a.map (·.data.toList) = b.map (·.data.toList) → a = b
  | [], [], _ => rfl
  | [], _ :: _, h => by simp at h
  | _ :: _, [], h => by simp at h
  | x :: a, y :: b, h => by
    simp only [List.map_cons, List.cons.injEq] at h
    rw [bytes_map_inj h.2, show x = y from ByteArray.ext (Array.toList_inj.1 h.1)]
theorem parts_join (x : ByteArray) (xs : List ByteArray) (hx : (44 : UInt8) ∉ x.data.toList) (hy : ∀ y ∈ xs, (44 : UInt8) ∉ y.data.toList) :
    parts ⟨(Lib.join ((x :: xs).map (·.data.toList)) [44]).toArray⟩ = x :: xs := by
  apply bytes_map_inj
  unfold parts
  rw [Lib.splitB_data]
  have hy' : ∀ y ∈ xs.map (·.data.toList), (44 : UInt8) ∉ y := fun y h => by
    obtain ⟨z, hz, rfl⟩ := List.mem_map.1 h
    exact hy z hz
  have hc : Lib.countB ⟨(Lib.join ((x :: xs).map (·.data.toList)) [44]).toArray⟩ ⟨#[44]⟩ = (xs.map (·.data.toList)).length := by
    show Lib.count (Lib.join ((x :: xs).map (·.data.toList)) [44]) [44] = _
    rw [Lib.count_one, List.map_cons, count_join 44 _ _ hx hy']
  rw [hc]
  exact split_join 44 _ _ hx hy'
theorem name_sgn {s : ByteArray} (h : nameB s = true) : ∀ c ∈ s.data.toList, sgn c = true := by
  unfold nameB at h
  simp only [Bool.and_eq_true] at h
  exact List.all_eq_true.1 h.2
theorem name_not_in {s : ByteArray} (h : nameB s = true) {c : UInt8} (hc : sgn c = false) : c ∉ s.data.toList := fun hm => by
  have := name_sgn h c hm
  rw [hc] at this; cases this
def OkR (l : List Fld) : Prop := ∀ x ∈ l, nameB x.1 = true ∧ 1 ≤ x.2 ∧ x.2 ≤ 3
theorem errF_ok : ∀ (l met : List Fld), errF met l = 0 → OkR l
  | [], _, _ => fun x hx => by simp at hx
  | (s, k) :: r, met, h => by
    unfold errF at h
    by_cases h1 : nameB s = false
    · rw [if_pos h1] at h; cases h
    rw [if_neg h1] at h
    by_cases h2 : ¬ (1 ≤ k ∧ k ≤ 3)
    · rw [if_pos h2] at h; cases h
    rw [if_neg h2] at h
    by_cases h3 : hasB met s = true
    · rw [if_pos h3] at h; cases h
    rw [if_neg h3] at h
    intro x hx
    rcases List.mem_cons.1 hx with rfl | hx
    · exact ⟨by simpa using h1, by simpa using h2⟩
    · exact errF_ok r _ h x hx
theorem right_ok {n : ByteArray} {l : List Fld} (h : rightN n l = 0) : nameB n = true ∧ l.length ≤ 6 ∧ OkR l := by
  unfold rightN at h
  by_cases h1 : nameB n = false
  · rw [if_pos h1] at h; cases h
  rw [if_neg h1] at h
  by_cases h2 : 6 < l.length
  · rw [if_pos h2] at h; cases h
  rw [if_neg h2] at h
  exact ⟨by simpa using h1, by omega, errF_ok l [] h⟩
theorem kind_back {k : Int} (h : 1 ≤ k ∧ k ≤ 3) : kindOfN (kindL k) = k := by
  rw [kindOfN_data]
  rcases (by omega : k = 1 ∨ k = 2 ∨ k = 3) with rfl | rfl | rfl <;> decide
theorem kind_comma (k : Int) : (44 : UInt8) ∉ (kindL k).data.toList := by
  unfold kindL; split
  · decide
  · split
    · decide
    · split <;> decide
theorem fldS_data (x : Fld) : (fldS x).data.toList = x.1.data.toList ++ 58 :: (kindL x.2).data.toList := by
  unfold fldS
  rw [ByteArray.data_append, Array.toList_append, ByteArray.data_append, Array.toList_append]
  simp
theorem arr_list (s : ByteArray) : (⟨s.data.toList.toArray⟩ : ByteArray) = s := ByteArray.ext (by simp)
theorem field_back {x : Fld} (h : nameB x.1 = true) (hk : 1 ≤ x.2 ∧ x.2 ≤ 3) : fieldOf (fldS x) = x := by
  unfold fieldOf
  rw [cutB_one 58 _ _ (fldS_data x) (name_not_in h (by decide))]
  simp only [arr_list, kind_back hk]
theorem field_comma {x : Fld} (h : nameB x.1 = true) : (44 : UInt8) ∉ (fldS x).data.toList := by
  rw [fldS_data]
  intro hm
  rcases List.mem_append.1 hm with hm | hm
  · exact name_not_in h (by decide) hm
  · rcases List.mem_cons.1 hm with hm | hm
    · cases hm
    · exact kind_comma _ hm
theorem putN_data (n : ByteArray) (l : List Fld) : (putN n l).data.toList = n.data.toList ++ 40 :: (putJ l ++ [41]) := by
  unfold putN
  simp [ByteArray.data_append, Array.toList_append]
theorem getF_put {l : List Fld} (h : OkR l) : getF ⟨(putJ l).toArray⟩ = l := by
  cases l with
  | nil => rfl
  | cons x r =>
    have hsz : 1 ≤ (⟨(putJ (x :: r)).toArray⟩ : ByteArray).size := by
      rw [size_arr]
      unfold putJ
      rw [List.map_cons, List.map_cons, Lib.join_cons, List.length_append, fldS_data]
      simp; omega
    rw [getF_pos hsz]
    unfold putJ
    rw [List.map_cons, parts_join (fldS x) (r.map fldS) (field_comma (h x (by simp)).1) (fun y hy => by
      obtain ⟨z, hz, rfl⟩ := List.mem_map.1 hy
      exact field_comma (h z (by simp [hz])).1)]
    rw [List.map_cons, field_back (h x (by simp)).1 (h x (by simp)).2, List.map_map]
    congr 1
    conv => rhs; rw [← List.map_id r]
    apply List.map_congr_left
    intro z hz
    exact field_back (h z (by simp [hz])).1 (h z (by simp [hz])).2
theorem suf_back (J : List UInt8) : sufB ⟨(J ++ [41]).toArray⟩ ⟨#[41]⟩ = (⟨J.toArray⟩, true) := by
  have hs : Lib.hasSuffix (J ++ [41]) [41] = true := by
    unfold Lib.hasSuffix
    rw [List.isSuffixOf_iff_suffix]
    exact ⟨J, rfl⟩
  unfold sufB
  show ((⟨(Lib.trimSuffix (J ++ [41]) [41]).toArray⟩ : ByteArray), Lib.hasSuffix (J ++ [41]) [41]) = _
  unfold Lib.trimSuffix
  rw [hs, if_pos rfl]
  simp
/-- A right stream that is put is got as the same. -/
theorem get_put {n : ByteArray} {l : List Fld} (h : rightN n l = 0) : getN (putN n l) = some (n, l) := by
  obtain ⟨hn, h6, hl⟩ := right_ok h
  unfold getN
  rw [cutB_one 40 _ _ (putN_data n l) (name_not_in hn (by decide))]
  simp only [arr_list]
  rw [suf_back]
  simp only
  rw [getF_put hl, h]; rfl
theorem put_inj {n m : ByteArray} {l k : List Fld} (h : rightN n l = 0) (h' : rightN m k = 0) (e : putN n l = putN m k) : n = m ∧ l = k := by
  have h1 := get_put h
  rw [e, get_put h'] at h1
  simp at h1
  exact ⟨h1.1.symm, h1.2.symm⟩
end Go.Proofs.YtdpgdpfalfiijaaDoor
