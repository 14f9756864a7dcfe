/- What is told of operations over two values: for ReckonKinds. -/
import Derived.Test.YtjddfjapopdciaaShort
import Derived.Sort.Walk0
namespace Go.Proofs.Ytjddfjapopdciaa
open Go.ChangeShapes Go.WideShapes Go.ChangeAt Go.RowKit
open Rk (inR)
set_option linter.unusedVariables false
set_option linter.unusedSimpArgs false

/-- The operations of ReckonKinds. -/
def opK (q : Nat) : ByteArray := match q with
  | 0 => ⟨#[43]⟩ | 1 => ⟨#[45]⟩ | 2 => ⟨#[42]⟩ | 3 => ⟨#[47]⟩ | 4 => ⟨#[37]⟩ | 5 => ⟨#[61, 61]⟩ | 6 => ⟨#[60]⟩ | _ => ⟨#[38, 38]⟩
theorem opK_lvl (q : Nat) : 0 < lvl (opK q) := by
  have h7 : ∀ k : Nat, opK (k + 7) = ⟨#[38, 38]⟩ := fun _ => rfl
  rcases (by omega : q = 0 ∨ q = 1 ∨ q = 2 ∨ q = 3 ∨ q = 4 ∨ q = 5 ∨ q = 6 ∨ q = (q - 7) + 7) with h | h | h | h | h | h | h | h
  all_goals first | (rw [h, h7]; decide +kernel) | (rw [h]; decide +kernel)
theorem opK_list (q : Nat) (hq : q < 8) : (q = 0 ∧ (opK q).toList = [43]) ∨ (q = 1 ∧ (opK q).toList = [45]) ∨ (q = 2 ∧ (opK q).toList = [42]) ∨ (q = 3 ∧ (opK q).toList = [47]) ∨ (q = 4 ∧ (opK q).toList = [37]) ∨ (q = 5 ∧ (opK q).toList = [61, 61]) ∨ (q = 6 ∧ (opK q).toList = [60]) ∨ (q = 7 ∧ (opK q).toList = [38, 38]) := by
  rcases (by omega : q = 0 ∨ q = 1 ∨ q = 2 ∨ q = 3 ∨ q = 4 ∨ q = 5 ∨ q = 6 ∨ q = 7) with rfl | rfl | rfl | rfl | rfl | rfl | rfl | rfl
  · exact Or.inl ⟨rfl, by kernel_rfl⟩
  · exact Or.inr (Or.inl ⟨rfl, by kernel_rfl⟩)
  · exact Or.inr (Or.inr (Or.inl ⟨rfl, by kernel_rfl⟩))
  · exact Or.inr (Or.inr (Or.inr (Or.inl ⟨rfl, by kernel_rfl⟩)))
  · exact Or.inr (Or.inr (Or.inr (Or.inr (Or.inl ⟨rfl, by kernel_rfl⟩))))
  · exact Or.inr (Or.inr (Or.inr (Or.inr (Or.inr (Or.inl ⟨rfl, by kernel_rfl⟩)))))
  · exact Or.inr (Or.inr (Or.inr (Or.inr (Or.inr (Or.inr (Or.inl ⟨rfl, by kernel_rfl⟩))))))
  · exact Or.inr (Or.inr (Or.inr (Or.inr (Or.inr (Or.inr (Or.inr ⟨rfl, by kernel_rfl⟩))))))
theorem evalT_bin {l : List Bd} {op : ByteArray} {ta tb : Tr} {x y : V3} (ha : evalT l ta = some x) (hb : evalT l tb = some y) :
    evalT l (.bin op ta tb) = if (op.toList = [38, 38] ∧ x = tv false) ∨ (op.toList = [124, 124] ∧ x = tv true) then some x else binaryM op x y := by
  rw [evalT, ha]
  simp only [hb]
/-- Of two Kinds: told just if it is cut short. -/
theorem told_unlike {l : List Bd} {ta tb : Tr} {x y : V3} (q : Nat) (hq : q < 8) (ha : evalT l ta = some x) (hb : evalT l tb = some y) (hk : x.1 ≠ y.1) :
    (q = 7 ∧ x = (2, 0, mt) ∧ evalT l (.bin (opK q) ta tb) = some x) ∨ (¬ (q = 7 ∧ x = (2, 0, mt)) ∧ evalT l (.bin (opK q) ta tb) = none) := by
  rw [evalT_bin ha hb]
  have hn : binaryM (opK q) x y = none := by unfold binaryM; rw [if_pos hk]
  rw [hn]
  by_cases h7 : q = 7 ∧ x = (2, 0, mt)
  · obtain ⟨rfl, rfl⟩ := h7
    exact Or.inl ⟨rfl, rfl, if_pos (Or.inl ⟨by kernel_rfl, rfl⟩)⟩
  · refine Or.inr ⟨h7, if_neg ?_⟩
    rintro (⟨h, e⟩ | ⟨h, e⟩)
    · refine h7 ⟨?_, e⟩
      rcases opK_list q hq with ⟨rfl, g⟩ | ⟨rfl, g⟩ | ⟨rfl, g⟩ | ⟨rfl, g⟩ | ⟨rfl, g⟩ | ⟨rfl, g⟩ | ⟨rfl, g⟩ | ⟨rfl, g⟩ <;> first | rfl | (rw [h] at g; exact absurd g (by decide))
    · rcases opK_list q hq with ⟨rfl, g⟩ | ⟨rfl, g⟩ | ⟨rfl, g⟩ | ⟨rfl, g⟩ | ⟨rfl, g⟩ | ⟨rfl, g⟩ | ⟨rfl, g⟩ | ⟨rfl, g⟩ <;> (rw [h] at g; exact absurd g (by decide))
theorem map_kind {r : Option Int} {z : V3} (h : (r.map fun n => ((1, n, mt) : V3)) = some z) : z.1 = 1 := by
  cases r with
  | none => simp at h
  | some n => simp at h; rw [← h]
/-- Of one Kind: what is told of an arithmetic operation. -/
theorem told_alike {l : List Bd} {ta tb : Tr} {x y : V3} (q : Nat) (hq : q < 8) (ha : evalT l ta = some x) (hb : evalT l tb = some y) (hk : x.1 = y.1) :
    evalT l (.bin (opK q) ta tb) = none ∨ ∃ z, evalT l (.bin (opK q) ta tb) = some z ∧ (5 ≤ q ∨ (q < 5 ∧ z.1 = 1 ∧ x.1 = 1) ∨ (q = 0 ∧ z.1 = 3 ∧ x.1 = 3)) := by
  rw [evalT_bin ha hb]
  by_cases h5 : 5 ≤ q
  · cases h : (if ((opK q).toList = [38, 38] ∧ x = tv false) ∨ ((opK q).toList = [124, 124] ∧ x = tv true) then some x else binaryM (opK q) x y) with
    | none => exact Or.inl rfl
    | some z => exact Or.inr ⟨z, rfl, Or.inl h5⟩
  have hne : ¬ (((opK q).toList = [38, 38] ∧ x = tv false) ∨ ((opK q).toList = [124, 124] ∧ x = tv true)) := by
    rintro (⟨h, e⟩ | ⟨h, e⟩) <;> (rcases opK_list q hq with ⟨rfl, g⟩ | ⟨rfl, g⟩ | ⟨rfl, g⟩ | ⟨rfl, g⟩ | ⟨rfl, g⟩ | ⟨rfl, g⟩ | ⟨rfl, g⟩ | ⟨rfl, g⟩ <;> first | omega | (rw [h] at g; exact absurd g (by decide)))
  rw [if_neg hne]
  have hnot : ∀ s : List UInt8, (s = [124, 124] ∨ s = [38, 38] ∨ s = [61, 61] ∨ s = [33, 61] ∨ s = [60] ∨ s = [60, 61] ∨ s = [62] ∨ s = [62, 61]) → (opK q).toList ≠ s := by
    intro s hs h
    rcases opK_list q hq with ⟨rfl, g⟩ | ⟨rfl, g⟩ | ⟨rfl, g⟩ | ⟨rfl, g⟩ | ⟨rfl, g⟩ | ⟨rfl, g⟩ | ⟨rfl, g⟩ | ⟨rfl, g⟩ <;> first | omega | (rw [h] at g; subst g; revert hs; decide)
  unfold binaryM
  rw [if_neg (by simpa using hk), if_neg (by simp [hnot]), if_neg (hnot _ (by simp)), if_neg (hnot _ (by simp)), if_neg (by simp [hnot])]
  by_cases h3 : (opK q).toList = [43] ∧ x.1 = 3
  · rw [if_pos h3]
    have h0 : q = 0 := by
      rcases opK_list q hq with ⟨rfl, g⟩ | ⟨rfl, g⟩ | ⟨rfl, g⟩ | ⟨rfl, g⟩ | ⟨rfl, g⟩ | ⟨rfl, g⟩ | ⟨rfl, g⟩ | ⟨rfl, g⟩ <;> first | rfl | (rw [h3.1] at g; exact absurd g (by decide))
    split
    · exact Or.inr ⟨_, rfl, Or.inr (Or.inr ⟨h0, rfl, h3.2⟩)⟩
    · exact Or.inl rfl
  · rw [if_neg h3]
    by_cases h1 : x.1 = 1
    · rw [if_neg (by simpa using h1)]
      cases h : ((wholeM (opK q) x.2.1 y.2.1).map fun n => ((1, n, mt) : V3)) with
      | none => exact Or.inl rfl
      | some z => exact Or.inr ⟨z, rfl, Or.inr (Or.inl ⟨by omega, map_kind h, h1⟩)⟩
    · rw [if_pos h1]; exact Or.inl rfl
theorem ordV_zero {x y : V3} (hx : right3 x = true) (hy : right3 y = true) (hk : x.1 = y.1) (h : ordV x y = 0) : x = y := by
  obtain ⟨k, n, s⟩ := x
  obtain ⟨k', m, t⟩ := y
  obtain rfl : k = k' := hk
  unfold ordV at h
  unfold right3 Val.right at hx hy
  by_cases h3 : k = 3
  · subst h3
    simp only [] at h hx hy
    rw [if_pos trivial] at h
    have hs : s = t := by
      unfold Val.cmpS at h
      split at h
      · exact absurd h (by decide)
      · split at h
        · next h2 => exact toList_inj (by simpa using h2)
        · exact absurd h (by decide)
    subst hs
    have hn : n = 0 := by simp_all
    have hm : m = 0 := by simp_all
    rw [hn, hm]
  · simp only [] at h hx hy
    rw [if_neg h3] at h
    have hn : n = m := by
      unfold Val.cmpI at h
      split at h
      · exact absurd h (by decide)
      · split at h
        · exact absurd h (by decide)
        · omega
    subst hn
    have h0 : ∀ (u : ByteArray) (i : Int), (if k = 1 then decide (u.size = 0) else if k = 2 then decide (u.size = 0) && (decide (i = 0) || decide (i = 1)) else if k = 3 then decide (i = 0) && decide (u.size ≤ 64) else false) = true → u.size = 0 := by
      intro u i hu
      by_cases h1 : k = 1
      · rw [if_pos h1] at hu; exact of_decide_eq_true hu
      · rw [if_neg h1] at hu
        by_cases h2 : k = 2
        · rw [if_pos h2, Bool.and_eq_true] at hu; exact of_decide_eq_true hu.1
        · rw [if_neg h2, if_neg h3] at hu; exact absurd hu (by decide)
    rw [size0_eq (h0 s _ hx) (h0 t _ hy)]
theorem ordV_self (x : V3) : ordV x x = 0 := by
  unfold ordV
  split
  · unfold Val.cmpS
    have : Op.bytesLess x.2.2.toList x.2.2.toList = false := by rw [Go.Proofs.bytesLess_eq]; simp
    rw [this]; simp
  · unfold Val.cmpI; rw [if_neg (by omega), if_neg (by omega)]
theorem yes_tv (b : Bool) : isYes (some (tv b)) = b := by cases b <;> decide +kernel
theorem yes_cmp {l : List Bd} {op : ByteArray} {ta tb : Tr} {x y : V3} (ha : evalT l ta = some x) (hb : evalT l tb = some y) (hk : x.1 = y.1) (ho : op.toList = [60] ∨ op.toList = [60, 61] ∨ op.toList = [62] ∨ op.toList = [62, 61]) :
    isYes (evalT l (.bin op ta tb)) = compM op (ordV x y) := by
  rw [evalT_bin ha hb, if_neg (by rcases ho with h | h | h | h <;> rw [h] <;> simp)]
  unfold binaryM
  rw [if_neg (by simpa using hk), if_neg (by rcases ho with h | h | h | h <;> rw [h] <;> simp), if_neg (by rcases ho with h | h | h | h <;> rw [h] <;> simp), if_neg (by rcases ho with h | h | h | h <;> rw [h] <;> simp), if_pos ho, yes_tv]
theorem yes_eq {l : List Bd} {op : ByteArray} {ta tb : Tr} {x y : V3} (ha : evalT l ta = some x) (hb : evalT l tb = some y) (hk : x.1 = y.1) (ho : op.toList = [61, 61]) :
    isYes (evalT l (.bin op ta tb)) = decide (x = y) := by
  rw [evalT_bin ha hb, if_neg (by rw [ho]; simp)]
  unfold binaryM
  rw [if_neg (by simpa using hk), if_neg (by rw [ho]; simp), if_pos ho, yes_tv]
theorem yes_ne {l : List Bd} {op : ByteArray} {ta tb : Tr} {x y : V3} (ha : evalT l ta = some x) (hb : evalT l tb = some y) (hk : x.1 = y.1) (ho : op.toList = [33, 61]) :
    isYes (evalT l (.bin op ta tb)) = !decide (x = y) := by
  rw [evalT_bin ha hb, if_neg (by rw [ho]; simp)]
  unfold binaryM
  rw [if_neg (by simpa using hk), if_neg (by rw [ho]; simp), if_neg (by rw [ho]; simp), if_pos ho, yes_tv]
/-- Less, same, more: just one. -/
theorem tri_any {x y : V3} (hx : right3 x = true) (hy : right3 y = true) (hk : x.1 = y.1) :
    (x = y ∧ compM ⟨#[60]⟩ (ordV x y) = false ∧ compM ⟨#[62]⟩ (ordV x y) = false ∧ compM ⟨#[60, 61]⟩ (ordV x y) = true ∧ compM ⟨#[62, 61]⟩ (ordV x y) = true) ∨
    (x ≠ y ∧ ((compM ⟨#[60]⟩ (ordV x y) = true ∧ compM ⟨#[62]⟩ (ordV x y) = false ∧ compM ⟨#[60, 61]⟩ (ordV x y) = true ∧ compM ⟨#[62, 61]⟩ (ordV x y) = false) ∨
      (compM ⟨#[60]⟩ (ordV x y) = false ∧ compM ⟨#[62]⟩ (ordV x y) = true ∧ compM ⟨#[60, 61]⟩ (ordV x y) = false ∧ compM ⟨#[62, 61]⟩ (ordV x y) = true))) := by
  have e1 : ∀ c, compM ⟨#[60]⟩ c = decide (c < 0) := fun c => by unfold compM; rw [if_pos (by kernel_rfl)]
  have e2 : ∀ c, compM ⟨#[62]⟩ c = decide (0 < c) := fun c => by unfold compM; rw [if_neg (by decide +kernel), if_neg (by decide +kernel), if_pos (by kernel_rfl)]
  have e3 : ∀ c, compM ⟨#[60, 61]⟩ c = decide (c ≤ 0) := fun c => by unfold compM; rw [if_neg (by decide +kernel), if_pos (by kernel_rfl)]
  have e4 : ∀ c, compM ⟨#[62, 61]⟩ c = decide (0 ≤ c) := fun c => by unfold compM; rw [if_neg (by decide +kernel), if_neg (by decide +kernel), if_neg (by decide +kernel)]
  simp only [e1, e2, e3, e4, decide_eq_true_eq, decide_eq_false_iff_not]
  have h0 : ordV x y = 0 → x = y := ordV_zero hx hy hk
  by_cases h : ordV x y = 0
  · exact Or.inl ⟨h0 h, by omega, by omega, by omega, by omega⟩
  · refine Or.inr ⟨fun e => h (by rw [e]; exact ordV_self y), ?_⟩
    rcases (by omega : ordV x y < 0 ∨ 0 < ordV x y) with g | g
    · exact Or.inl ⟨by omega, by omega, by omega, by omega⟩
    · exact Or.inr ⟨by omega, by omega, by omega, by omega⟩
/-- Two of one Kind that are unlike: their numbers, or their texts. -/
theorem parts_ne {x1 x2 y2 : Int} {x3 y3 : ByteArray} (hx : right3 (x1, x2, x3) = true) (hy : right3 (x1, y2, y3) = true) (h : ((x1, x2, x3) : V3) ≠ (x1, y2, y3)) :
    (x1 = 3 ∧ x2 = y2 ∧ (x3.toList == y3.toList) = false) ∨ (x1 ≠ 3 ∧ (x2 == y2) = false) := by
  by_cases h3 : x1 = 3
  · subst h3
    unfold right3 Val.right at hx hy
    simp only [show ¬ ((3 : Int) = 1) by decide, show ¬ ((3 : Int) = 2) by decide, if_false, if_true, Bool.and_eq_true, decide_eq_true_eq] at hx hy
    refine Or.inl ⟨rfl, by rw [hx.1, hy.1], beq_eq_false_iff_ne.2 fun e => h ?_⟩
    rw [hx.1, hy.1, toList_inj e]
  · refine Or.inr ⟨h3, beq_eq_false_iff_ne.2 fun e => h ?_⟩
    have := ordV_zero hx hy rfl (by unfold ordV; rw [if_neg h3]; subst e; unfold Val.cmpI; simp)
    exact this
end Go.Proofs.Ytjddfjapopdciaa
