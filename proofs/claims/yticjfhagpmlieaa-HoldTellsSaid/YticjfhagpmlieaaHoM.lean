/- Waits, sorted by when they are due: the mathematics. -/
import Derived.Test.YticjfhagpmlieaaMem
namespace Go.Proofs.Yticjfhagpmlieaa
set_option linter.unusedVariables false
set_option linter.unusedSimpArgs false
namespace Ho
/-- Three-way comparison. -/
structure C3 {α : Type} (c : α → α → Int) : Prop where
  zero : ∀ a b, c a b = 0 ↔ a = b
  neg : ∀ a b, c b a = - c a b
  trans : ∀ a b d, c a b ≤ 0 → c b d ≤ 0 → c a d ≤ 0
theorem C3.lt {α : Type} {c : α → α → Int} (h : C3 c) {a b d : α} (h1 : c a b < 0) (h2 : c b d ≤ 0) : c a d < 0 := by
  have h3 := h.trans a b d (by omega) h2
  by_cases h0 : c a d = 0
  · have e := (h.zero a d).1 h0
    subst e
    have := h.neg a b
    omega
  · omega
theorem C3.lt' {α : Type} {c : α → α → Int} (h : C3 c) {a b d : α} (h1 : c a b ≤ 0) (h2 : c b d < 0) : c a d < 0 := by
  have h3 := h.trans a b d h1 (by omega)
  by_cases h0 : c a d = 0
  · have e := (h.zero a d).1 h0
    subst e
    have := h.neg a b
    omega
  · omega
theorem C3.self {α : Type} {c : α → α → Int} (h : C3 c) (a : α) : c a a = 0 := (h.zero a a).2 rfl
def cmpI (a b : Int) : Int := if a < b then -1 else if b < a then 1 else 0
theorem c3I : C3 cmpI := ⟨fun a b => by unfold cmpI; repeat' split; all_goals omega, fun a b => by unfold cmpI; repeat' split; all_goals omega, fun a b d => by unfold cmpI; repeat' split; all_goals omega⟩
def lex {α : Type} (c : α → α → Int) : List α → List α → Int
  | [], [] => 0
  | [], _ :: _ => -1
  | _ :: _, [] => 1
  | a :: r, b :: s => if c a b = 0 then lex c r s else c a b
theorem c3L {α : Type} {c : α → α → Int} (h : C3 c) : C3 (lex c) := by
  refine ⟨?_, ?_, ?_⟩
  · intro a
    induction a with
    | nil => intro b; cases b <;> simp [lex]
    | cons x r ih =>
      intro b
      cases b with
      | nil => simp [lex]
      | cons y s =>
        simp only [lex, List.cons.injEq]
        by_cases h0 : c x y = 0
        · rw [if_pos h0, ih s]
          exact ⟨fun e => ⟨(h.zero x y).1 h0, e⟩, fun e => e.2⟩
        · rw [if_neg h0]
          exact ⟨fun e => absurd e h0, fun e => absurd ((h.zero x y).2 e.1) h0⟩
  · intro a
    induction a with
    | nil => intro b; cases b <;> simp [lex]
    | cons x r ih =>
      intro b
      cases b with
      | nil => simp [lex]
      | cons y s =>
        simp only [lex]
        have := h.neg x y
        by_cases h0 : c x y = 0
        · rw [if_pos h0, if_pos (by omega)]; exact ih s
        · rw [if_neg h0, if_neg (by omega)]; exact this
  · intro a
    induction a with
    | nil => intro b d; cases b <;> cases d <;> simp [lex]
    | cons x r ih =>
      intro b d
      cases b with
      | nil => simp [lex]
      | cons y s =>
        cases d with
        | nil => simp [lex]
        | cons z t =>
          simp only [lex]
          intro h1 h2
          by_cases h0 : c x y = 0
          · obtain rfl := (h.zero x y).1 h0
            rw [if_pos h0] at h1
            by_cases h3 : c x z = 0
            · rw [if_pos h3] at h2 ⊢; exact ih s t h1 h2
            · rw [if_neg h3] at h2 ⊢; exact h2
          · rw [if_neg h0] at h1
            by_cases h3 : c y z = 0
            · obtain rfl := (h.zero y z).1 h3
              rw [if_neg h0]; exact h1
            · rw [if_neg h3] at h2
              have := h.lt (show c x y < 0 by omega) h2
              rw [if_neg (by omega)]; omega
def ordL : List Int → List Int → Int := lex cmpI
def ordP : List (List Int) → List (List Int) → Int := lex ordL
theorem c3P : C3 ordP := c3L (c3L c3I)
/-- How two lists stand from place k on, if they are alike ahead of it. -/
theorem lex_at {α : Type} {c : α → α → Int} (h : C3 c) : ∀ (a b : List α) (k : Nat) (ha : k < a.length) (hb : k < b.length), (∀ j (h1 : j < a.length) (h2 : j < b.length), j < k → c (a[j]'h1) (b[j]'h2) = 0) → c (a[k]'ha) (b[k]'hb) ≠ 0 → lex c a b = c (a[k]'ha) (b[k]'hb)
  | [], _, _, ha, _, _, _ => absurd ha (by simp)
  | _ :: _, [], _, _, hb, _, _ => absurd hb (by simp)
  | x :: r, y :: s, 0, _, _, _, hne => by
    simp only [lex, List.getElem_cons_zero] at hne ⊢
    rw [if_neg hne]
  | x :: r, y :: s, k + 1, ha, hb, hall, hne => by
    have h0 := hall 0 (by simp) (by simp) (by omega)
    simp only [List.getElem_cons_zero] at h0
    simp only [lex, List.getElem_cons_succ] at hne ⊢
    rw [if_pos h0]
    exact lex_at h r s k (by simpa using ha) (by simpa using hb) (fun j h1 h2 hj => by have := hall (j + 1) (by simpa using h1) (by simpa using h2) (by omega); simpa using this) hne
/-- One is as long as the other, or shorter, and alike so far. -/
theorem lex_end {α : Type} {c : α → α → Int} : ∀ (a b : List α), (∀ j (h1 : j < a.length) (h2 : j < b.length), c (a[j]'h1) (b[j]'h2) = 0) → lex c a b = if a.length < b.length then -1 else if b.length < a.length then 1 else 0
  | [], [], _ => by simp [lex]
  | [], _ :: _, _ => by simp [lex]
  | _ :: _, [], _ => by simp [lex]
  | x :: r, y :: s, hall => by
    have h0 := hall 0 (by simp) (by simp)
    simp only [List.getElem_cons_zero] at h0
    simp only [lex]
    rw [if_pos h0, lex_end r s (fun j h1 h2 => by have := hall (j + 1) (by simpa using h1) (by simpa using h2); simpa using this)]
    simp
theorem lex_range {α : Type} {c : α → α → Int} (hc : ∀ a b, c a b = -1 ∨ c a b = 0 ∨ c a b = 1) : ∀ a b : List α, lex c a b = -1 ∨ lex c a b = 0 ∨ lex c a b = 1
  | [], [] => by simp [lex]
  | [], _ :: _ => by simp [lex]
  | _ :: _, [] => by simp [lex]
  | x :: r, y :: s => by
    simp only [lex]
    split
    · exact lex_range hc r s
    · exact hc x y
theorem cmp_range (a b : Int) : cmpI a b = -1 ∨ cmpI a b = 0 ∨ cmpI a b = 1 := by unfold cmpI; repeat' split; all_goals omega
theorem ordL_range (a b : List Int) : ordL a b = -1 ∨ ordL a b = 0 ∨ ordL a b = 1 := lex_range cmp_range a b
theorem ordP_range (a b : List (List Int)) : ordP a b = -1 ∨ ordP a b = 0 ∨ ordP a b = 1 := lex_range ordL_range a b
/-- Until when, its parts, its number. -/
abbrev D := Int × List (List Int) × Int
def kk (a b : Int × List (List Int)) : Int := if cmpI a.1 b.1 = 0 then ordP a.2 b.2 else cmpI a.1 b.1
theorem c3K : C3 kk := by
  refine ⟨fun a b => ?_, fun a b => ?_, fun a b d => ?_⟩
  · unfold kk
    by_cases h : cmpI a.1 b.1 = 0
    · rw [if_pos h, c3P.zero]
      exact ⟨fun e => Prod.ext ((c3I.zero _ _).1 h) e, fun e => by rw [e]⟩
    · rw [if_neg h]
      exact ⟨fun e => absurd e h, fun e => absurd ((c3I.zero _ _).2 (by rw [e])) h⟩
  · unfold kk
    have := c3I.neg a.1 b.1
    by_cases h : cmpI a.1 b.1 = 0
    · rw [if_pos h, if_pos (by omega)]; exact c3P.neg _ _
    · rw [if_neg h, if_neg (by omega)]; exact this
  · unfold kk
    intro h1 h2
    by_cases h : cmpI a.1 b.1 = 0
    · have e := (c3I.zero _ _).1 h
      rw [if_pos h] at h1
      rw [e]
      by_cases h3 : cmpI b.1 d.1 = 0
      · rw [if_pos h3] at h2 ⊢; exact c3P.trans _ _ _ h1 h2
      · rw [if_neg h3] at h2 ⊢; exact h2
    · rw [if_neg h] at h1
      by_cases h3 : cmpI b.1 d.1 = 0
      · have e := (c3I.zero _ _).1 h3
        rw [← e, if_neg h]; exact h1
      · rw [if_neg h3] at h2
        have := c3I.lt (show cmpI a.1 b.1 < 0 by omega) h2
        rw [if_neg (by omega)]; omega
def kc (a b : D) : Int := kk (a.1, a.2.1) (b.1, b.2.1)
def pos (w : D) (l : List D) : Nat := l.findIdx (fun e => decide (0 < kc e w))
def ins (l : List D) (w : D) : List D := l.take (pos w l) ++ w :: l.drop (pos w l)
def Sorted (l : List D) : Prop := l.Pairwise (fun a b => kc a b ≤ 0)
def dpos (now : Int) (l : List D) : Nat := l.findIdx (fun e => decide (now ≤ e.1))
theorem sorted_get {l : List D} (h : Sorted l) {i j : Nat} (hi : i < l.length) (hj : j < l.length) (hij : i ≤ j) : kc (l[i]'hi) (l[j]'hj) ≤ 0 := by
  rcases Nat.lt_or_eq_of_le hij with h1 | h1
  · exact (List.pairwise_iff_getElem.1 h) i j hi hj h1
  · subst h1
    unfold kc; rw [c3K.self]; exact Int.le_refl 0
theorem pos_mono {l : List D} (h : Sorted l) (w : D) {i j : Nat} (hi : i < l.length) (hj : j < l.length) (hij : i ≤ j) (h1 : 0 < kc (l[i]'hi) w) : 0 < kc (l[j]'hj) w := by
  have h2 := sorted_get h hi hj hij
  unfold kc at *
  have n1 := c3K.neg ((l[i]'hi).1, (l[i]'hi).2.1) (w.1, w.2.1)
  have n2 := c3K.neg ((l[j]'hj).1, (l[j]'hj).2.1) (w.1, w.2.1)
  have := c3K.lt (a := (w.1, w.2.1)) (b := ((l[i]'hi).1, (l[i]'hi).2.1)) (d := ((l[j]'hj).1, (l[j]'hj).2.1)) (by omega) h2
  omega
theorem kc_time {a b : D} (h : kc a b ≤ 0) : a.1 ≤ b.1 := by
  unfold kc kk at h
  simp only at h
  by_cases h1 : cmpI a.1 b.1 = 0
  · exact Int.le_of_eq ((c3I.zero _ _).1 h1)
  · rw [if_neg h1] at h
    unfold cmpI at h h1
    repeat' split at h
    all_goals omega
theorem dpos_mono {l : List D} (h : Sorted l) (now : Int) {i j : Nat} (hi : i < l.length) (hj : j < l.length) (hij : i ≤ j) (h1 : now ≤ (l[i]'hi).1) : now ≤ (l[j]'hj).1 := by
  have := kc_time (sorted_get h hi hj hij)
  omega
theorem find_at {α : Type} (p : α → Bool) (l : List α) (m : Nat) (hm : m ≤ l.length) (h0 : ∀ j (hj : j < l.length), j < m → p (l[j]'hj) = false) (h1 : ∀ h : m < l.length, p (l[m]'h) = true) : l.findIdx p = m := by
  by_cases h : m < l.length
  · exact (List.findIdx_eq h).2 ⟨h1 h, fun j hj => by simpa using h0 j (by omega) hj⟩
  · have e : m = l.length := by omega
    rw [e, List.findIdx_eq_length]
    intro x hx
    obtain ⟨j, hj, rfl⟩ := List.getElem_of_mem hx
    simpa using h0 j hj (by omega)
theorem pos_le (w : D) (l : List D) : pos w l ≤ l.length := List.findIdx_le_length
theorem dpos_le (n : Int) (l : List D) : dpos n l ≤ l.length := List.findIdx_le_length
theorem ins_len (l : List D) (w : D) : (ins l w).length = l.length + 1 := by
  have := pos_le w l
  unfold ins; rw [List.length_append, List.length_cons, List.length_take, List.length_drop]; omega
theorem pos_before {l : List D} {w : D} {x : D} (h : x ∈ l.take (pos w l)) : kc x w ≤ 0 := by
  obtain ⟨j, hj, rfl⟩ := List.getElem_of_mem h
  rw [List.getElem_take]
  rw [List.length_take] at hj
  have := List.not_of_lt_findIdx (show j < l.findIdx (fun e => decide (0 < kc e w)) by unfold pos at hj; omega)
  simpa using this
theorem pos_behind {l : List D} (hs : Sorted l) {w : D} {x : D} (h : x ∈ l.drop (pos w l)) : 0 < kc x w := by
  obtain ⟨j, hj, rfl⟩ := List.getElem_of_mem h
  rw [List.length_drop] at hj
  rw [List.getElem_drop]
  have h1 : pos w l < l.length := by omega
  have := List.findIdx_getElem (p := fun e => decide (0 < kc e w)) (w := h1)
  exact pos_mono hs w (i := pos w l) h1 (by omega) (by omega) (of_decide_eq_true this)
theorem kc_neg (a b : D) : kc b a = - kc a b := c3K.neg _ _
theorem sorted_ins {l : List D} (h : Sorted l) (w : D) : Sorted (ins l w) := by
  unfold ins Sorted
  rw [List.pairwise_append, List.pairwise_cons]
  refine ⟨List.Pairwise.sublist (List.take_sublist _ _) h, ⟨fun x hx => ?_, List.Pairwise.sublist (List.drop_sublist _ _) h⟩, fun a ha b hb => ?_⟩
  · have := pos_behind h hx
    have := kc_neg x w
    omega
  · rcases List.mem_cons.1 hb with rfl | hb
    · exact pos_before ha
    · have h1 := pos_before ha
      have h2 := pos_behind h hb
      have := kc_neg b w
      exact c3K.trans _ (w.1, w.2.1) _ h1 (by show kc w b ≤ 0; omega)
theorem sorted_cut {l : List D} (h : Sorted l) (i : Nat) : Sorted (l.eraseIdx i) := List.Pairwise.sublist (List.eraseIdx_sublist _ _) h
theorem sorted_drop {l : List D} (h : Sorted l) (i : Nat) : Sorted (l.drop i) := List.Pairwise.sublist (List.drop_sublist _ _) h
theorem sorted_nil : Sorted [] := List.Pairwise.nil
end Ho
end Go.Proofs.Yticjfhagpmlieaa
