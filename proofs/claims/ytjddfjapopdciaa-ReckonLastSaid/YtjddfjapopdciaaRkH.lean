/- Contracts of package reckon: what an expression tells. -/
import Derived.Test.YtjddfjapopdciaaRkG
namespace Go.Proofs.Ytjddfjapopdciaa
open Go.ChangeShapes Go.WideShapes Go.ChangeAt Go.RowKit
open Rk (inR)
set_option linter.unusedVariables false
set_option linter.unusedSimpArgs false

theorem last_any (x : Bv) (b : Bd) (f : ByteArray) (w : World) (hB : BdAt w x b) (hz : ∀ e ∈ b.2.2, ∀ v ∈ e.2, v.2.2.size ≤ maxLen) :
    Calls Try.prog 49 #[.agg #[.string x.1, sl x.2.1, sl x.2.2], .string f] w fun e w' => Res (lastM b.2.1 b.2.2 f) e ∧ Below w.heap.size w w' := by
  obtain ⟨s, Fs, Es⟩ := x
  obtain ⟨s', F, E⟩ := b
  obtain ⟨_, hF, L, hL, hA, hi⟩ := hB
  have hF : At w 1 sc (sl Fs) F := hF
  have hA : At w 2 ec (sl Es) L := hA
  have hL : L.length = E.length := hL
  show Calls _ _ _ _ fun e w' => Res (lastM F E f) e ∧ _
  have hz : ∀ e ∈ E, ∀ v ∈ e.2, v.2.2.size ≤ maxLen := hz
  by_cases hp : pos F f < F.length
  · obtain ⟨A, c, hv, hlc, hcm, hA0⟩ := hA.shape
    obtain ⟨E1, E2, E3⟩ := Es
    simp only [sl, Value.slice.injEq] at hv
    obtain ⟨rfl, rfl, rfl⟩ := hv
    rcases Nat.eq_zero_or_pos L.length with h0 | h0
    · have hE : E.getLast? = none := by rw [List.getLast?_eq_none_iff]; exact List.eq_nil_of_length_eq_zero (by omega)
      rw [show lastM F E f = none by simp only [lastM, if_pos hp, hE]]
      have := last_noevent s f Fs E1 E3 F w hF hp
      show Calls _ _ #[.agg #[.string s, sl Fs, .slice E1 L.length E3], _] _ _
      rw [h0]
      exact this.mono fun _ _ h => ⟨by rw [h.1]; exact Res.no, h.2⟩
    · obtain ⟨m, hm⟩ : ∃ m, L.length = m + 1 := ⟨L.length - 1, by omega⟩
      have hmL : m < L.length := by omega
      have hmE : m < E.length := by omega
      have hE : E.getLast? = some (E[m]'hmE) := by rw [List.getLast?_eq_getElem?, show E.length - 1 = m by omega]; exact List.getElem?_eq_getElem hmE
      obtain ⟨a, rfl, hc⟩ := hA.cells rfl h0
      obtain ⟨_, hV⟩ := hi m hmL hmE
      have hr := (hc.row2 m hmL rfl).2
      have hmm : m + 1 ≤ 9223372036854775807 := by unfold maxLen at hcm; omega
      show Calls _ _ #[.agg #[.string s, sl Fs, .slice (some a) L.length E3], _] _ _
      rw [hm]
      generalize (L[m]'hmL).2 = Vs at *
      have hz' := hz (E[m]'hmE) (List.getElem_mem hmE)
      obtain ⟨V1, c2, hv, hlc2, hcm2, hV0⟩ := hV.shape
      obtain ⟨W1, W2, W3⟩ := Vs
      simp only [sl, Value.slice.injEq] at hv
      obtain ⟨rfl, rfl, rfl⟩ := hv
      by_cases hq : pos F f < (E[m]'hmE).2.length
      · obtain ⟨b, rfl, hcv⟩ := hV.cells rfl (Nat.lt_of_le_of_lt (Nat.zero_le _) hq)
        rw [show lastM F E f = if right3 ((E[m]'hmE).2[pos F f]'hq) = true then some ((E[m]'hmE).2[pos F f]'hq) else none by simp only [lastM, if_pos hp, hE, List.getElem?_eq_getElem hq]]
        exact last_val s f Fs a b m E3 (E[m]'hmE).2.length W3 ((E[m]'hmE).2[pos F f]'hq) F w hmm hF hp hr hq (hcv.row3 (pos F f) hq rfl) (hz' _ (List.getElem_mem hq))
      · rw [show lastM F E f = none by simp only [lastM, if_pos hp, hE, List.getElem?_eq_none (Nat.le_of_not_lt hq)]]
        exact (last_short s f Fs a m E3 0 (W1, (E[m]'hmE).2.length, W3) F w hmm hF hp hr hq).mono fun _ _ h => ⟨by rw [h.1]; exact Res.no, h.2⟩
  · rw [show lastM F E f = none by unfold lastM; rw [if_neg hp]]
    exact (last_nofield s f Fs Es F w hF hp).mono fun _ _ h => ⟨by rw [h.1]; exact Res.no, h.2⟩
theorem lastM_good {b : Bd} {f : ByteArray} {v : V3} (hb : ∀ e ∈ b.2.2, ∀ v ∈ e.2, inR v.2.1) (h : lastM b.2.1 b.2.2 f = some v) : good v := by
  unfold lastM at h
  split at h
  · split at h
    · rename_i x hx
      split at h
      · rename_i u hu
        split at h
        · rename_i hr
          obtain rfl := Option.some.inj h
          exact ⟨hr, hb x (List.mem_of_getLast? hx) _ (List.mem_of_getElem? hu)⟩
        · exact absurd h (by simp)
      · exact absurd h (by simp)
    · exact absurd h (by simp)
  · exact absurd h (by simp)

/-- The first bind of a name. -/
def findB (l : List Bd) (x : ByteArray) : Option Bd := l.find? (fun b => isN x b.1)
theorem findIdx_congr {α β : Type} (p : α → Bool) (q : β → Bool) : ∀ (L : List α) (l : List β), L.length = l.length → (∀ i (h : i < L.length) (h' : i < l.length), p (L[i]'h) = q (l[i]'h')) → L.findIdx p = l.findIdx q
  | [], [], _, _ => rfl
  | [], _ :: _, h, _ => by simp at h
  | _ :: _, [], h, _ => by simp at h
  | a :: L, b :: l, h, hp => by
    rw [List.findIdx_cons, List.findIdx_cons, show p a = q b from hp 0 (by simp) (by simp)]
    rw [findIdx_congr p q L l (by simpa using h) (fun i h h' => by have := hp (i + 1) (by simpa using h) (by simpa using h'); simpa using this)]
theorem find_idx {α : Type} (p : α → Bool) (l : List α) : (l.findIdx p < l.length → ∃ h : l.findIdx p < l.length, l.find? p = some (l[l.findIdx p]'h)) ∧ (¬ l.findIdx p < l.length → l.find? p = none) := by
    refine ⟨fun h => ⟨h, ?_⟩, fun h => ?_⟩
    · rw [List.find?_eq_some_iff_getElem]
      refine ⟨List.findIdx_getElem (w := h), l.findIdx p, h, rfl, fun j hj => ?_⟩
      have := List.not_of_lt_findIdx hj
      simpa using this
    · rw [List.find?_eq_none]
      intro x hx
      have h2 : l.findIdx p = l.length := Nat.le_antisymm List.findIdx_le_length (by omega)
      have := (List.findIdx_eq_length.1 h2) x hx
      simpa using this
theorem bound_cases (v : Value) (l : List Bd) (x : ByteArray) (w : World) (hv : BdsAt w v l) :
    (findB l x = none ∧ ∀ W, Below w.heap.size w W → Calls Try.prog 50 #[v, .string x] W fun e w' => e = .panicked pMissing ∧ Below W.heap.size W w') ∨
    (∃ (b : Bd) (X : Bv), findB l x = some b ∧ b ∈ l ∧ BdAt w X b ∧ ∀ W, Below w.heap.size w W → Calls Try.prog 50 #[v, .string x] W fun e w' => e = .returned (.agg #[.string X.1, sl X.2.1, sl X.2.2]) ∧ Below W.heap.size W w') := by
  obtain ⟨L, hL, hA, hi⟩ := hv
  have hf : L.findIdx (fun y : Bv => isN x y.1) = l.findIdx (fun b : Bd => isN x b.1) := findIdx_congr _ _ L l hL (fun i h h' => by rw [(hi i h h').1])
  have hb := find_idx (fun b : Bd => isN x b.1) l
  by_cases h : l.findIdx (fun b : Bd => isN x b.1) < l.length
  · obtain ⟨h1, h2⟩ := hb.1 h
    refine Or.inr ⟨l[l.findIdx (fun b : Bd => isN x b.1)], L[l.findIdx (fun b : Bd => isN x b.1)]'(by omega), h2, List.getElem_mem _, hi _ _ _, fun W hW => ?_⟩
    exact bound_ok v L x _ (by omega) W (hA.later hW) (by unfold idxB; rw [hf, if_pos (by omega)])
  · exact Or.inl ⟨hb.2 h, fun W hW => bound_no v L x W (hA.later hW) (by unfold idxB; rw [hf, if_neg (by omega)])⟩

/-- What a tree tells, over what names stand for; none: it is bad. -/
def evalT (l : List Bd) : Tr → Option V3
  | .lit k n s => some (k, n, s)
  | .ref v f => match findB l v with | some b => lastM b.2.1 b.2.2 f | none => none
  | .cnt v => match findB l v with | some b => some (1, (b.2.2.length : Int), mt) | none => none
  | .un op x => match evalT l x with | some v => unaryM op v | none => none
  | .bin op x y => match evalT l x with
    | some a => if (op.toList = [38, 38] ∧ a = tv false) ∨ (op.toList = [124, 124] ∧ a = tv true) then some a else (match evalT l y with | some b => binaryM op a b | none => none)
    | none => none
/-- The numbers in a tree are of 64 bits. -/
def Tr.small : Tr → Prop
  | .lit k n s => inR n
  | .ref v f => True
  | .cnt v => True
  | .un op x => x.small
  | .bin op x y => x.small ∧ y.small
theorem evalT_good {l : List Bd} (hl : okBds l) : ∀ {t : Tr} {v : V3}, t.ok = true → t.small → evalT l t = some v → good v
  | .lit k n s, v, ho, hs, h => by
    obtain rfl := Option.some.inj h
    unfold Tr.ok at ho
    simp only [Bool.and_eq_true] at ho
    exact ⟨ho.1.1, hs⟩
  | .ref x f, v, ho, hs, h => by
    rw [evalT] at h
    cases hb : findB l x with
    | none => rw [hb] at h; exact absurd h (by simp)
    | some b =>
      rw [hb] at h
      exact lastM_good (fun e he v hv => ((hl b (List.mem_of_find?_eq_some hb)).2 e he v hv).1) h
  | .cnt x, v, ho, hs, h => by
    rw [evalT] at h
    cases hb : findB l x with
    | none => rw [hb] at h; exact absurd h (by simp)
    | some b =>
      rw [hb] at h
      obtain rfl := Option.some.inj h
      have := (hl b (List.mem_of_find?_eq_some hb)).1
      exact good_num (by unfold inR; unfold maxLen at this; omega)
  | .un op x, v, ho, hs, h => by
    rw [evalT] at h
    cases hx : evalT l x with
    | none => rw [hx] at h; exact absurd h (by simp)
    | some a => rw [hx] at h; exact unary_good h
  | .bin op x y, v, ho, hs, h => by
    rw [evalT] at h
    unfold Tr.ok at ho
    simp only [Bool.and_eq_true] at ho
    cases hx : evalT l x with
    | none => rw [hx] at h; exact absurd h (by simp)
    | some a =>
      rw [hx] at h
      have hga := evalT_good hl ho.1.2 hs.1 hx
      simp only at h
      split at h
      · obtain rfl := Option.some.inj h; exact hga
      · cases hy : evalT l y with
        | none => rw [hy] at h; exact absurd h (by simp)
        | some b => rw [hy] at h; exact binary_good hga (evalT_good hl ho.2 hs.2 hy) h
end Go.Proofs.Ytjddfjapopdciaa
