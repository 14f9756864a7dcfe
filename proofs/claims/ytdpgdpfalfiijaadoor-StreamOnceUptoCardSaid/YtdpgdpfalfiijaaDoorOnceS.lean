/- StreamOnce: what is got is what was put; no text that is got is another one's with a byte more: the words. -/
import Derived.Test.YtdpgdpfalfiijaaDoorStrmB
namespace Go.Proofs.YtdpgdpfalfiijaaDoor
open Go.ChangeShapes Go.WideShapes Go.ChangeAt Go.RowKit
set_option linter.unusedVariables false
set_option linter.unusedSimpArgs false

theorem at_or (c : UInt8) : ∀ l : List UInt8, c ∉ l ∨ ∃ p r, l = p ++ c :: r ∧ c ∉ p
  | [] => Or.inl (by simp)
  | b :: l => by
    by_cases hb : c = b
    · exact Or.inr ⟨[], l, by rw [hb]; rfl, by simp⟩
    · rcases at_or c l with h | ⟨p, r, rfl, h⟩
      · exact Or.inl (by simp [hb, h])
      · exact Or.inr ⟨b :: p, r, rfl, by simp [hb, h]⟩
theorem index_out (c : UInt8) : ∀ l : List UInt8, c ∉ l → Lib.index l [c] = -1
  | [], _ => rfl
  | b :: l, h => by
    have hb : ¬ c = b := fun e => h (by rw [e]; simp)
    have ih := index_out c l (fun hc => h (by simp [hc]))
    rw [Lib.index, ih]
    have h1 : [c].isPrefixOf (b :: l) = false := by simp [List.isPrefixOf, hb]
    rw [h1, if_neg (by simp), if_pos (by simp)]
theorem cut_out (c : UInt8) (l : List UInt8) (h : c ∉ l) : Lib.cut l [c] = (l, [], false) := by
  unfold Lib.cut
  rw [index_out c l h]
  simp
theorem cutB_or (s : ByteArray) (c : UInt8) : (∃ p r, s.data.toList = p ++ c :: r ∧ c ∉ p ∧ cutB s ⟨#[c]⟩ = (⟨p.toArray⟩, ⟨r.toArray⟩, true)) ∨ ((cutB s ⟨#[c]⟩).2.2 = false ∧ (cutB s ⟨#[c]⟩).2.1 = ⟨#[]⟩) := by
  rcases at_or c s.data.toList with h | ⟨p, r, e, h⟩
  · have : cutB s ⟨#[c]⟩ = (⟨s.data.toList.toArray⟩, ⟨[].toArray⟩, false) := by
      unfold cutB
      rw [show (⟨#[c]⟩ : ByteArray).data.toList = [c] from rfl, cut_out c _ h]
    rw [this]
    exact Or.inr ⟨rfl, rfl⟩
  · exact Or.inl ⟨p, r, e, h, cutB_one c p r e h⟩
theorem ext_list {a b : ByteArray} (h : a.data.toList = b.data.toList) : a = b := ByteArray.ext (Array.toList_inj.1 h)
theorem suf_true {s : ByteArray} (h : (sufB s ⟨#[41]⟩).2 = true) : ∃ J : List UInt8, s.data.toList = J ++ [41] ∧ (sufB s ⟨#[41]⟩).1 = ⟨J.toArray⟩ := by
  have h1 : Lib.hasSuffix s.data.toList [41] = true := h
  unfold Lib.hasSuffix at h1
  rw [List.isSuffixOf_iff_suffix] at h1
  obtain ⟨J, e⟩ := h1
  refine ⟨J, e.symm, ?_⟩
  have hs : s = ⟨(J ++ [41]).toArray⟩ := ext_list (by rw [← e])
  rw [hs, suf_back]
theorem kind_word (s : ByteArray) (h : 1 ≤ kindOfN s) : kindL (kindOfN s) = s := by
  unfold kindOfN at h ⊢
  by_cases h1 : (kindL 1).toList = s.toList
  · rw [if_pos h1]; exact toList_inj h1
  · rw [if_neg h1] at h ⊢
    by_cases h2 : (kindL 2).toList = s.toList
    · rw [if_pos h2]; exact toList_inj h2
    · rw [if_neg h2] at h ⊢
      by_cases h3 : (kindL 3).toList = s.toList
      · rw [if_pos h3]; exact toList_inj h3
      · rw [if_neg h3] at h; omega
theorem kind_nil : kindOfN ⟨#[]⟩ = 0 := by rw [kindOfN_data]; decide
theorem field_put {p : ByteArray} (hk : 1 ≤ (fieldOf p).2) : fldS (fieldOf p) = p := by
  unfold fieldOf at hk ⊢
  rcases cutB_or p 58 with ⟨a, r, e, hn, hc⟩ | ⟨hc, h0⟩
  · rw [hc] at hk ⊢
    simp only at hk ⊢
    apply ext_list
    rw [fldS_data, kind_word _ hk, e]
  · simp only [h0] at hk
    rw [kind_nil] at hk
    omega
theorem splitK_join (c : UInt8) : ∀ (k : Nat) (s : List UInt8), ∃ y ys, Lib.splitK [c] 0 k s = y :: ys ∧ Lib.join (y :: ys) [c] = s
  | 0, s => ⟨s, [], rfl, by rw [Lib.join_one]⟩
  | k + 1, s => by
    rcases at_or c s with h | ⟨p, r, e, h⟩
    · refine ⟨s, [], ?_, by rw [Lib.join_one]⟩
      unfold Lib.splitK
      rw [index_out c s h, if_pos (by decide)]
    · obtain ⟨y, ys, h1, h2⟩ := splitK_join c k r
      refine ⟨p, y :: ys, ?_, by rw [join_two, h2, e]⟩
      rw [e]
      unfold Lib.splitK
      rw [index_one_at c p _ h, if_neg (by simp)]
      simp only [Int.toNat_natCast, Nat.add_zero, List.length_cons, List.length_nil, Nat.zero_add]
      rw [List.take_left, show p.length + 1 = (p ++ [c]).length by simp, show p ++ c :: r = (p ++ [c]) ++ r by simp, List.drop_left, h1]
theorem parts_put (s : ByteArray) : Lib.join ((parts s).map (·.data.toList)) [44] = s.data.toList := by
  unfold parts
  rw [Lib.splitB_data]
  obtain ⟨y, ys, h1, h2⟩ := splitK_join 44 (Lib.countB s ⟨#[44]⟩) s.data.toList
  rw [show (⟨#[44]⟩ : ByteArray).data.toList = [44] from rfl, h1, h2]
theorem getF_back {s : ByteArray} (h : OkR (getF s)) : putJ (getF s) = s.data.toList := by
  by_cases h0 : s.size = 0
  · have e : getF s = [] := by unfold getF; rw [if_pos h0]
    have e2 : s.data.toList = [] := List.length_eq_zero_iff.1 (by rw [← size_list]; exact h0)
    rw [e, e2]
    unfold putJ
    rw [List.map_nil, List.map_nil, Lib.join_nil]
  · rw [getF_pos (by omega)] at h ⊢
    unfold putJ
    have hm : ((parts s).map fieldOf).map fldS = parts s := by
      rw [List.map_map]
      conv => rhs; rw [← List.map_id (parts s)]
      apply List.map_congr_left
      intro p hp
      exact field_put (h (fieldOf p) (List.mem_map_of_mem hp)).2.1
    rw [hm, parts_put]
/-- What is got is right, and the text is what is put of it. -/
theorem once_put {S : ByteArray} {n : ByteArray} {l : List Fld} (h : getN S = some (n, l)) : putN n l = S ∧ rightN n l = 0 := by
  unfold getN at h
  rcases cutB_or S 40 with ⟨p, r, e, hn, hc⟩ | ⟨hc, _⟩
  · rw [hc] at h
    simp only at h
    rw [if_neg (by simp)] at h
    by_cases h2 : (sufB ⟨r.toArray⟩ ⟨#[41]⟩).2 = false
    · rw [if_pos h2] at h; cases h
    · rw [if_neg h2] at h
      obtain ⟨J, e1, e2⟩ := suf_true (by simpa using h2)
      rw [e2] at h
      by_cases h3 : rightN ⟨p.toArray⟩ (getF ⟨J.toArray⟩) = 0
      · rw [if_pos h3] at h
        simp only [Option.some.injEq, Prod.mk.injEq] at h
        obtain ⟨rfl, rfl⟩ := h
        refine ⟨?_, h3⟩
        apply ext_list
        rw [putN_data, getF_back (right_ok h3).2.2, e]
        have e1' : r = J ++ [41] := by simpa using e1
        rw [e1']
      · rw [if_neg h3] at h; cases h
  · rw [if_pos hc] at h; cases h
theorem join_mem {c d : UInt8} : ∀ {xs : List (List UInt8)}, c ∈ Lib.join xs [d] → c = d ∨ ∃ x ∈ xs, c ∈ x
  | [], h => by rw [Lib.join_nil] at h; cases h
  | [x], h => by rw [Lib.join_one] at h; exact Or.inr ⟨x, by simp, h⟩
  | x :: y :: ys, h => by
    rw [join_two] at h
    rcases List.mem_append.1 h with h | h
    · exact Or.inr ⟨x, by simp, h⟩
    · rcases List.mem_cons.1 h with h | h
      · exact Or.inl h
      · rcases join_mem h with h | ⟨z, hz, h⟩
        · exact Or.inl h
        · exact Or.inr ⟨z, by simp at hz ⊢; exact Or.inr hz, h⟩
theorem kind_paren (k : Int) : (41 : UInt8) ∉ (kindL k).data.toList := by
  unfold kindL; split
  · decide
  · split
    · decide
    · split <;> decide
theorem no_paren {l : List Fld} (h : OkR l) : (41 : UInt8) ∉ putJ l := by
  intro hm
  unfold putJ at hm
  rcases join_mem hm with h1 | ⟨x, hx, h1⟩
  · cases h1
  · obtain ⟨y, hy, rfl⟩ := List.mem_map.1 hx
    obtain ⟨z, hz, rfl⟩ := List.mem_map.1 hy
    rw [fldS_data] at h1
    rcases List.mem_append.1 h1 with h1 | h1
    · exact name_not_in (h z hz).1 (by decide) h1
    · rcases List.mem_cons.1 h1 with h1 | h1
      · cases h1
      · exact kind_paren _ h1
theorem once_apart {S T : ByteArray} {a b : ByteArray × List Fld} (hS : getN S = some a) (hT : getN T = some b) (c : UInt8) (e : S.data.toList = T.data.toList ++ [c]) : False := by
  obtain ⟨n, l⟩ := a
  obtain ⟨m, k⟩ := b
  obtain ⟨h1, h2⟩ := once_put hS
  obtain ⟨h3, h4⟩ := once_put hT
  have hno := no_paren (right_ok h2).2.2
  rw [← h1, ← h3, putN_data, putN_data] at e
  have e1 : (n.data.toList ++ 40 :: putJ l) ++ [41] = (m.data.toList ++ 40 :: (putJ k ++ [41])) ++ [c] := by rw [← e]; simp
  have e2 := (List.append_inj' e1 rfl).1
  rcases List.eq_nil_or_concat (putJ l) with h | ⟨J, x, h⟩
  · rw [h] at e2
    have e3 : n.data.toList ++ [40] = (m.data.toList ++ 40 :: putJ k) ++ [41] := by rw [e2]; simp
    have e4 := (List.append_inj' e3 rfl).2
    simp at e4
  · rw [h] at e2 hno
    have e3 : (n.data.toList ++ 40 :: J) ++ [x] = (m.data.toList ++ 40 :: putJ k) ++ [41] := by
      have : (m.data.toList ++ 40 :: putJ k) ++ [41] = m.data.toList ++ 40 :: (putJ k ++ [41]) := by simp
      rw [this, ← e2]; simp
    have e4 := (List.append_inj' e3 rfl).2
    simp at e4
    rw [e4] at hno
    simp at hno
theorem once_size {S : ByteArray} {a : ByteArray × List Fld} (h : getN S = some a) : 1 ≤ S.size := by
  obtain ⟨n, l⟩ := a
  obtain ⟨h1, _⟩ := once_put h
  rw [← h1, size_list, putN_data]
  simp; omega
end Go.Proofs.YtdpgdpfalfiijaaDoor
