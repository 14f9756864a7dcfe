/- Plain mathematics for stage 2: what was put is got; what is got is what stands there. -/
import Derived.Test.YtbmkbpehkpdcmaaNum21
import Derived.Test.YtbmkbpehkpdcmaaNumB
namespace Go.Proofs.Ytbmkbpehkpdcmaa
open Val
set_option linter.unusedVariables false

theorem nil_size : (⟨#[]⟩ : ByteArray).size = 0 := rfl
/-- What is got is right, and is the value whose bytes stand there. -/
theorem getAt_spec {S : ByteArray} {a : Int} {k n : Int} {t : ByteArray} {next : Nat} (h : Val.getAt S a = some ((k, n, t), next)) :
    0 ≤ a ∧ a < (next : Int) ∧ next ≤ S.size ∧ right k n t = true ∧ t.size ≤ 64 ∧ -9223372036854775808 ≤ n ∧ n ≤ 9223372036854775807 ∧ put k n t = (S.data.toList.take next).drop a.toNat := by
  rcases Classical.em (0 ≤ a ∧ a < (S.size : Int)) with h0 | h0
  · obtain ⟨h0, h1⟩ := h0
    obtain ⟨j, rfl⟩ := Int.eq_ofNat_of_zero_le h0
    have hj : j < S.size := by omega
    have hjl : j < S.data.toList.length := by simpa using hj
    rw [getAt_in hj] at h
    have hsz : S.data.toList.length = S.size := by simp
    have hcons : ∀ next, j + 1 ≤ next → (S.data.toList.take next).drop j = S[j] :: (S.data.toList.drop (j + 1)).take (next - (j + 1)) := by
      intro next hn
      rw [List.drop_take, List.drop_eq_getElem_cons hjl, show next - j = (next - (j + 1)) + 1 by omega, List.take_succ_cons]; rfl
    unfold body at h
    by_cases c1 : (S[j]).toNat = 1
    · rw [if_pos c1] at h
      rcases hg : Num.getAt S.data.toList ((j + 1 : Nat) : Int) with _ | ⟨u, q⟩
      · rw [hg] at h; exact absurd h (by simp)
      · rw [hg] at h
        obtain ⟨g1, g2, g3, g4, g5⟩ := Num.getAt_some hg
        obtain ⟨e1, rfl⟩ := Prod.mk.inj (Option.some.inj h)
        obtain ⟨rfl, e2⟩ := Prod.mk.inj e1
        obtain ⟨rfl, rfl⟩ := Prod.mk.inj e2
        have hp := Num.put_pos u
        rw [Int.toNat_natCast] at g3 g5
        have hr : right 1 (Num.zag (u : Int)) ⟨#[]⟩ = true := rfl
        refine ⟨by omega, by simp only at *; omega, by simp only at *; omega, hr, by decide, Num.zag_lo _ (by omega) (by omega), Num.zag_hi _ (by omega) (by omega), ?_⟩
        rw [put_int hr, Num.zig_zag _ (by omega), Int.toNat_natCast, Int.toNat_natCast, hcons _ (by simp only at *; omega)]
        congr 1
        · rw [← UInt8.toNat_inj, c1]; rfl
        · rw [show q - (j + 1) = (Num.put u).length by omega]; exact g5.symm
    rw [if_neg c1] at h
    by_cases c2 : (S[j]).toNat = 2
    · rw [if_pos c2] at h
      rcases (by omega : S.size ≤ j + 1 ∨ j + 1 < S.size) with hq | hq
      · rw [getD_out _ _ hq, if_neg (by decide)] at h; exact absurd h (by simp)
      · rw [getD_in _ _ hq] at h
        by_cases hb : (S[j + 1]'hq).toNat ≤ 1
        · rw [if_pos hb] at h
          obtain ⟨e1, rfl⟩ := Prod.mk.inj (Option.some.inj h)
          obtain ⟨rfl, e2⟩ := Prod.mk.inj e1
          obtain ⟨rfl, rfl⟩ := Prod.mk.inj e2
          have hr : right 2 ((S[j + 1]'hq).toNat : Int) ⟨#[]⟩ = true := by
            rcases (by omega : (S[j + 1]'hq).toNat = 0 ∨ (S[j + 1]'hq).toNat = 1) with h | h <;> rw [h] <;> rfl
          refine ⟨by omega, by omega, by omega, hr, by decide, by omega, by omega, ?_⟩
          have hq' : j + 1 < S.data.toList.length := by simpa using hq
          rw [put_bool hr, Int.toNat_natCast, Int.toNat_natCast, hcons _ (by omega), show j + 1 + 1 - (j + 1) = 1 by omega, List.drop_eq_getElem_cons hq']
          simp only [List.take_succ_cons, List.take_zero]
          congr 1
          · rw [← UInt8.toNat_inj, c2]; rfl
          · congr 1
            rw [← UInt8.toNat_inj]
            show ((S[j + 1]'hq).toNat.toUInt8).toNat = (S[j + 1]'hq).toNat
            simp
        · rw [if_neg hb] at h; exact absurd h (by simp)
    rw [if_neg c2] at h
    by_cases c3 : (S[j]).toNat = 3
    · rw [if_pos c3] at h
      rcases hg : Num.getAt S.data.toList ((j + 1 : Nat) : Int) with _ | ⟨u, q⟩
      · rw [hg] at h; exact absurd h (by simp)
      · rw [hg] at h
        obtain ⟨g1, g2, g3, g4, g5⟩ := Num.getAt_some hg
        simp only at h
        by_cases hb : u ≤ 64 ∧ q + u ≤ S.size
        · rw [if_pos hb] at h
          obtain ⟨e1, rfl⟩ := Prod.mk.inj (Option.some.inj h)
          obtain ⟨rfl, e2⟩ := Prod.mk.inj e1
          obtain ⟨rfl, rfl⟩ := Prod.mk.inj e2
          have hp := Num.put_pos u
          rw [Int.toNat_natCast] at g3 g5
          have hsz2 : (S.extract q (q + u)).size = u := by rw [ByteArray.size_extract]; omega
          have hr : right 3 0 (S.extract q (q + u)) = true := by unfold right; simp [hsz2]; omega
          refine ⟨by omega, by omega, by omega, hr, by omega, by omega, by omega, ?_⟩
          rw [put_text hr, hsz2, Int.toNat_natCast, hcons _ (by omega), extract_list]
          congr 1
          · rw [← UInt8.toNat_inj, c3]; rfl
          · rw [← g5, List.drop_take, show q + u - q = u by omega, show q + u - (j + 1) = (Num.put u).length + u by omega, List.take_add, List.drop_drop, show j + 1 + (Num.put u).length = q by omega]
        · rw [if_neg hb] at h; exact absurd h (by simp)
    rw [if_neg c3] at h; exact absurd h (by simp)
  · unfold Val.getAt at h; rw [if_neg h0] at h; exact absurd h (by simp)

/-- What was put is got. -/
theorem getAt_put {k n : Int} {t : ByteArray} (hr : right k n t = true) (n0 : -9223372036854775808 ≤ n) (n1 : n ≤ 9223372036854775807) (S : ByteArray) (p q : List UInt8) (hS : S.data.toList = p ++ (put k n t ++ q)) (a : Int) (ha : a = (p.length : Int)) :
    Val.getAt S a = some ((k, n, t), p.length + (put k n t).length) := by
  subst ha
  have hlen : S.size = S.data.toList.length := by simp
  rcases right_kind hr with rfl | rfl | rfl
  · have e := put_int hr
    have hsz : p.length < S.size := by rw [hlen, hS, e]; simp
    have hb : (S[p.length]'hsz).toNat = 1 := by
      rw [← getD_in S p.length hsz 0, hS, e]; simp
    rw [getAt_in hsz, hb]
    unfold body
    rw [if_pos rfl, hS, e, List.cons_append, show p ++ (1 :: (Num.put (Num.zig n).toNat ++ q)) = (p ++ [1]) ++ (Num.put (Num.zig n).toNat ++ q) by simp, Num.getAt_put _ _ (Num.zig_natlt n n0 n1) _ _ (by simp)]
    rw [Option.map_some]
    have : t = ⟨#[]⟩ := size0_eq (right_int hr) rfl
    subst this
    simp only [Num.zig_nat, Num.zag_zig, List.length_append, List.length_cons, List.length_nil]
    congr 2; omega
  · have e := put_bool hr
    obtain ⟨hz, hn⟩ := right_bool hr
    have hsz : p.length < S.size := by rw [hlen, hS, e]; simp
    have hsz1 : p.length + 1 < S.size := by rw [hlen, hS, e]; simp
    have hb : (S[p.length]'hsz).toNat = 2 := by
      rw [← getD_in S p.length hsz 0, hS, e]; simp
    have hb1 : (S.data.toList.getD (p.length + 1) 255) = n.toNat.toUInt8 := by
      rw [hS, e, show p ++ ([2, n.toNat.toUInt8] ++ q) = (p ++ [2]) ++ (n.toNat.toUInt8 :: q) by simp, List.getD, List.getElem?_append_right (by simp)]
      simp
    rw [getAt_in hsz, hb]
    unfold body
    have : t = ⟨#[]⟩ := size0_eq hz rfl
    subst this
    rw [if_neg (by decide), if_pos rfl, hb1, e]
    rcases hn with rfl | rfl
    · rfl
    · rfl
  · have e := put_text hr
    obtain ⟨rfl, hn⟩ := right_text hr
    have hsz : p.length < S.size := by rw [hlen, hS, e]; simp
    have hb : (S[p.length]'hsz).toNat = 3 := by
      rw [← getD_in S p.length hsz 0, hS, e]; simp
    have hS2 : S.data.toList = (p ++ [3]) ++ (Num.put t.size ++ (t.data.toList ++ q)) := by rw [hS, e]; simp
    have hg := Num.getAt_put (p ++ [3]) t.size (by omega) (t.data.toList ++ q) ((p.length + 1 : Nat) : Int) (by simp)
    rw [← hS2] at hg
    have htl : t.data.toList.length = t.size := by simp
    have hS3 : S.size = p.length + 1 + (Num.put t.size).length + t.size + q.length := by rw [hlen, hS2]; simp; omega
    rw [getAt_in hsz, hb]
    unfold body
    rw [if_neg (by decide), if_neg (by decide), if_pos rfl, hg]
    simp only [List.length_append, List.length_cons, List.length_nil]
    rw [if_pos ⟨hn, by omega⟩]
    have hex : S.extract (p.length + (0 + 1) + (Num.put t.size).length) (p.length + (0 + 1) + (Num.put t.size).length + t.size) = t := by
      refine ByteArray.ext (Array.toList_inj.1 ?_)
      rw [extract_list, List.drop_take, hS2, ← List.append_assoc, List.drop_left' (by simp; omega), show p.length + (0 + 1) + (Num.put t.size).length + t.size - (p.length + (0 + 1) + (Num.put t.size).length) = t.data.toList.length by omega, List.take_left]
    rw [hex, e]
    congr 2
    simp; omega
/-- Alike just if they are the same. -/
theorem put_same {k n : Int} {s : ByteArray} {l m : Int} {t : ByteArray} (h1 : right k n s = true) (h2 : right l m t = true) (n0 : -9223372036854775808 ≤ n) (n1 : n ≤ 9223372036854775807) (m0 : -9223372036854775808 ≤ m) (m1 : m ≤ 9223372036854775807)
    (h : put k n s = put l m t) : k = l ∧ n = m ∧ s = t := by
  have a := getAt_put h1 n0 n1 ⟨(put k n s).toArray⟩ [] [] (by simp) 0 rfl
  have b := getAt_put h2 m0 m1 ⟨(put k n s).toArray⟩ [] [] (by simp [h]) 0 rfl
  rw [a] at b
  obtain ⟨e1, _⟩ := Prod.mk.inj (Option.some.inj b)
  obtain ⟨e2, e3⟩ := Prod.mk.inj e1
  obtain ⟨e4, e5⟩ := Prod.mk.inj e3
  exact ⟨e2, e4, e5⟩
end Go.Proofs.Ytbmkbpehkpdcmaa
