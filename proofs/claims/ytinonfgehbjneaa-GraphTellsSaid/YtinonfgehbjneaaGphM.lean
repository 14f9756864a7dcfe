/- Mathematics of layer 12: what comes of what, ranks by the order in which they are known. Nothing of one package. -/
set_option linter.unusedVariables false
set_option linter.unusedSimpArgs false
namespace Gr
abbrev Nd := ByteArray × List ByteArray
/-- The node at place k has that name and that From. -/
def nmAt (N : List Nd) (k : Nat) : ByteArray := (N.getD k (⟨#[]⟩, [])).1
def frAt (N : List Nd) (k : Nat) : List ByteArray := (N.getD k (⟨#[]⟩, [])).2
theorem frAt_out {N : List Nd} {k : Nat} (h : N.length ≤ k) : frAt N k = [] := by
  unfold frAt; simp [List.getD, List.getElem?_eq_none h]
inductive Comes (N : List Nd) (s : ByteArray) : Nat → Prop
  | base {k : Nat} : s ∈ frAt N k → Comes N s k
  | step {j k : Nat} : Comes N s j → nmAt N j ∈ frAt N k → Comes N s k
theorem fr_lt {N : List Nd} {k : Nat} {s : ByteArray} (h : s ∈ frAt N k) : k < N.length := by
  rcases Nat.lt_or_ge k N.length with h1 | h1
  · exact h1
  · rw [frAt_out h1] at h; cases h
theorem Comes.lt {N : List Nd} {s : ByteArray} {k : Nat} (h : Comes N s k) : k < N.length := by
  cases h with
  | base h => exact fr_lt h
  | step _ h => exact fr_lt h
theorem Comes.trans {N : List Nd} {s : ByteArray} {j k : Nat} (h : Comes N s j) (h2 : Comes N (nmAt N j) k) : Comes N s k := by
  induction h2 with
  | base h3 => exact .step h h3
  | step _ h3 ih => exact .step ih h3
/-- Who comes of a name, by the last step. -/
theorem comes_iff {N : List Nd} {s : ByteArray} {k : Nat} : Comes N s k ↔ s ∈ frAt N k ∨ ∃ j, Comes N s j ∧ nmAt N j ∈ frAt N k := by
  constructor
  · intro h
    cases h with
    | base h => exact Or.inl h
    | step h1 h2 => exact Or.inr ⟨_, h1, h2⟩
  · rintro (h | ⟨j, h1, h2⟩)
    · exact .base h
    · exact .step h1 h2
/-- How often a name stands among some. -/
def cn (s : ByteArray) (l : List ByteArray) : Nat := l.countP (fun t => decide (t = s))
theorem cn_pos {s : ByteArray} {l : List ByteArray} : 0 < cn s l ↔ s ∈ l := by
  unfold cn
  rw [List.countP_pos_iff]
  constructor
  · rintro ⟨a, h1, h2⟩
    have := of_decide_eq_true h2
    subst this; exact h1
  · intro h; exact ⟨s, h, decide_eq_true rfl⟩
/-- Where a name leads, up to place i: each place as often as the name stands in its From. -/
def leadsU (N : List Nd) : Nat → ByteArray → List Nat
  | 0, _ => []
  | i + 1, s => leadsU N i s ++ List.replicate (cn s (frAt N i)) i
theorem mem_leadsU {N : List Nd} {s : ByteArray} {k : Nat} : ∀ i, k ∈ leadsU N i s ↔ k < i ∧ s ∈ frAt N k
  | 0 => by simp [leadsU]
  | i + 1 => by
    rw [leadsU, List.mem_append, mem_leadsU i, List.mem_replicate]
    constructor
    · rintro (⟨h1, h2⟩ | ⟨h1, rfl⟩)
      · exact ⟨by omega, h2⟩
      · exact ⟨by omega, cn_pos.1 (Nat.pos_of_ne_zero h1)⟩
    · rintro ⟨h1, h2⟩
      rcases (by omega : k < i ∨ k = i) with h | rfl
      · exact Or.inl ⟨h, h2⟩
      · exact Or.inr ⟨Nat.ne_of_gt (cn_pos.2 h2), rfl⟩
theorem count_leadsU {N : List Nd} {s : ByteArray} {k : Nat} : ∀ i, (leadsU N i s).count k = if k < i then cn s (frAt N k) else 0
  | 0 => by simp [leadsU]
  | i + 1 => by
    rw [leadsU, List.count_append, count_leadsU i, List.count_replicate]
    by_cases h : k < i
    · have h1 : (i == k) = false := by simp; omega
      rw [if_pos h, h1, if_pos (show k < i + 1 by omega)]; simp
    · by_cases h2 : k = i
      · subst h2
        simp
      · have h1 : (i == k) = false := by simp; omega
        rw [if_neg h, h1, if_neg (show ¬ k < i + 1 by omega)]; simp
abbrev leadsL (N : List Nd) (s : ByteArray) : List Nat := leadsU N N.length s
theorem mem_leads {N : List Nd} {s : ByteArray} {k : Nat} : k ∈ leadsL N s ↔ s ∈ frAt N k := by
  rw [mem_leadsU]
  exact ⟨fun h => h.2, fun h => ⟨fr_lt h, h⟩⟩
theorem count_leads {N : List Nd} {s : ByteArray} {k : Nat} : (leadsL N s).count k = cn s (frAt N k) := by
  rw [count_leadsU]
  split
  · rfl
  · rw [frAt_out (by omega)]; rfl
/-- Climb under way: what is found so far, how many of these are done. -/
structure Climb (N : List Nd) (s : ByteArray) (F : List Nat) (d : Nat) : Prop where
  nodup : F.Nodup
  sound : ∀ k ∈ F, Comes N s k
  first : ∀ k, s ∈ frAt N k → k ∈ F
  next : ∀ j, j < d → ∀ (h : j < F.length), ∀ k, nmAt N (F[j]'h) ∈ frAt N k → k ∈ F
theorem Climb.done {N : List Nd} {s : ByteArray} {F : List Nat} {d : Nat} (h : Climb N s F d) (hd : F.length ≤ d) (k : Nat) : k ∈ F ↔ Comes N s k := by
  refine ⟨h.sound k, fun hc => ?_⟩
  induction hc with
  | base h1 => exact h.first _ h1
  | step _ h2 ih =>
    obtain ⟨i, hi, rfl⟩ := List.getElem_of_mem ih
    exact h.next i (by omega) hi _ h2
/-- One more is found, or it was. -/
def put (F : List Nat) (k : Nat) : List Nat := if k ∈ F then F else F ++ [k]
def puts (F : List Nat) (P : List Nat) : List Nat := P.foldl put F
theorem put_mem {F : List Nat} {k j : Nat} : j ∈ put F k ↔ j ∈ F ∨ j = k := by
  unfold put
  split
  · rename_i h
    exact ⟨Or.inl, fun h2 => h2.elim id (fun e => e ▸ h)⟩
  · simp
theorem put_nodup {F : List Nat} {k : Nat} (h : F.Nodup) : (put F k).Nodup := by
  unfold put
  split
  · exact h
  · rename_i hk
    rw [List.nodup_append]
    exact ⟨h, by simp, fun a ha b hb e => hk (by simp at hb; rw [← hb, ← e]; exact ha)⟩
theorem puts_mem {P : List Nat} : ∀ {F : List Nat} {j : Nat}, j ∈ puts F P ↔ j ∈ F ∨ j ∈ P := by
  induction P with
  | nil => intro F j; simp [puts]
  | cons x r ih =>
    intro F j
    show j ∈ puts (put F x) r ↔ _
    rw [ih, put_mem, List.mem_cons, or_assoc]
theorem puts_nodup {P : List Nat} : ∀ {F : List Nat}, F.Nodup → (puts F P).Nodup := by
  induction P with
  | nil => intro F h; exact h
  | cons x r ih => intro F h; exact ih (put_nodup h)
theorem put_pre {F : List Nat} {k : Nat} : ∃ l, put F k = F ++ l := by
  unfold put
  split
  · exact ⟨[], by simp⟩
  · exact ⟨[k], rfl⟩
theorem puts_pre {P : List Nat} : ∀ {F : List Nat}, ∃ l, puts F P = F ++ l := by
  induction P with
  | nil => intro F; exact ⟨[], by simp [puts]⟩
  | cons x r ih =>
    intro F
    obtain ⟨l1, h1⟩ := put_pre (F := F) (k := x)
    obtain ⟨l2, h2⟩ := ih (F := put F x)
    exact ⟨l1 ++ l2, by show puts (put F x) r = _; rw [h2, h1, List.append_assoc]⟩
theorem Climb.start (N : List Nd) (s : ByteArray) : Climb N s (puts [] (leadsL N s)) 0 := by
  refine ⟨puts_nodup List.nodup_nil, fun k hk => ?_, fun k hk => puts_mem.2 (Or.inr (mem_leads.2 hk)), fun j hj => absurd hj (by omega)⟩
  rcases puts_mem.1 hk with h | h
  · cases h
  · exact .base (mem_leads.1 h)
theorem Climb.step {N : List Nd} {s : ByteArray} {F : List Nat} {d : Nat} (h : Climb N s F d) (hd : d < F.length) : Climb N s (puts F (leadsL N (nmAt N (F[d]'hd)))) (d + 1) := by
  refine ⟨puts_nodup h.nodup, fun k hk => ?_, fun k hk => puts_mem.2 (Or.inl (h.first k hk)), fun j hj hl k hk => ?_⟩
  · rcases puts_mem.1 hk with h1 | h1
    · exact h.sound k h1
    · exact .step (h.sound _ (List.getElem_mem hd)) (mem_leads.1 h1)
  · obtain ⟨l, e⟩ := puts_pre (P := leadsL N (nmAt N (F[d]'hd))) (F := F)
    have hjF : j < F.length := by omega
    have e2 : (puts F (leadsL N (nmAt N (F[d]'hd))))[j]'hl = F[j]'hjF := by
      simp only [e]
      rw [List.getElem_append_left hjF]
    rw [e2] at hk
    rcases (by omega : j < d ∨ j = d) with h1 | rfl
    · exact puts_mem.2 (Or.inl (h.next j h1 hjF k hk))
    · exact puts_mem.2 (Or.inr (mem_leads.2 hk))
theorem len_sub {α : Type} [DecidableEq α] : ∀ (r l : List α), r.Nodup → (∀ x ∈ r, x ∈ l) → r.length ≤ l.length
  | [], l, _, _ => Nat.zero_le _
  | x :: r, l, hn, hs => by
    have hx := hs x (List.mem_cons_self ..)
    have hn' := List.nodup_cons.1 hn
    have h := len_sub r (l.erase x) hn'.2 (fun y hy => (List.mem_erase_of_ne (fun e => hn'.1 (by rw [← e]; exact hy))).2 (hs y (List.mem_cons_of_mem _ hy)))
    rw [List.length_erase_of_mem hx] at h
    have : 0 < l.length := List.length_pos_of_mem hx
    rw [List.length_cons]; omega
theorem nodup_len {F : List Nat} {n : Nat} (h : F.Nodup) (hl : ∀ k ∈ F, k < n) : F.length ≤ n := by
  have := len_sub F (List.range n) h (fun x hx => List.mem_range.2 (hl x hx))
  simpa using this
theorem nodup_full {F : List Nat} {n : Nat} (h : F.Nodup) (hl : ∀ k ∈ F, k < n) (hn : n ≤ F.length) (k : Nat) (hk : k < n) : k ∈ F := by
  refine Classical.byContradiction fun hno => ?_
  have h2 : (k :: F).Nodup := List.nodup_cons.2 ⟨hno, h⟩
  have := nodup_len h2 (n := n) (fun j hj => by rcases List.mem_cons.1 hj with rfl | hj; exact hk; exact hl j hj)
  rw [List.length_cons] at this
  omega
open Classical in
/-- How many of its From name a node that is not done. -/
noncomputable def wtOf (N : List Nd) (P : List Nat) (k : Nat) : Nat := (frAt N k).countP (fun f => decide (∃ j, j < N.length ∧ j ∉ P ∧ nmAt N j = f))
def Dist (N : List Nd) : Prop := ∀ i j, i < N.length → j < N.length → nmAt N i = nmAt N j → i = j
theorem wtOf_more {N : List Nd} {P : List Nat} {i : Nat} (hD : Dist N) (hi : i < N.length) (hP : i ∉ P) (k : Nat) : wtOf N (P ++ [i]) k + cn (nmAt N i) (frAt N k) = wtOf N P k := by
  unfold wtOf cn
  generalize frAt N k = l
  induction l with
  | nil => rfl
  | cons f r ih =>
    rw [List.countP_cons, List.countP_cons, List.countP_cons]
    by_cases h1 : f = nmAt N i
    · have e1 : (∃ j, j < N.length ∧ j ∉ P ∧ nmAt N j = f) := ⟨i, hi, hP, h1.symm⟩
      have e2 : ¬ (∃ j, j < N.length ∧ j ∉ P ++ [i] ∧ nmAt N j = f) := by
        rintro ⟨j, h2, h3, h4⟩
        obtain rfl := hD j i h2 hi (h4.trans h1)
        exact h3 (by simp)
      rw [decide_eq_true e1, decide_eq_false e2, decide_eq_true h1]
      simp only [if_true, Bool.false_eq_true, if_false]
      omega
    · have e : (∃ j, j < N.length ∧ j ∉ P ++ [i] ∧ nmAt N j = f) ↔ (∃ j, j < N.length ∧ j ∉ P ∧ nmAt N j = f) := by
        constructor
        · rintro ⟨j, h2, h3, h4⟩
          exact ⟨j, h2, fun h => h3 (List.mem_append_left _ h), h4⟩
        · rintro ⟨j, h2, h3, h4⟩
          refine ⟨j, h2, fun h => ?_, h4⟩
          rcases List.mem_append.1 h with h | h
          · exact h3 h
          · obtain rfl : j = i := by simpa using h
            exact h1 h4.symm
      rw [decide_eq_false h1]
      simp only [e, Bool.false_eq_true, if_false]
      omega
theorem wtOf_pos {N : List Nd} {P : List Nat} {k : Nat} (h : wtOf N P k ≠ 0) : ∃ j, j < N.length ∧ j ∉ P ∧ nmAt N j ∈ frAt N k := by
  unfold wtOf at h
  obtain ⟨f, h1, h2⟩ := List.countP_pos_iff.1 (Nat.pos_of_ne_zero h)
  obtain ⟨j, h3, h4, rfl⟩ := of_decide_eq_true h2
  exact ⟨j, h3, h4, h1⟩
structure RankOf (N : List Nd) (R : Nat → Nat) (P : List Nat) (k : Nat) : Prop where
  up : ∀ p ∈ P, nmAt N p ∈ frAt N k → R p + 1 ≤ R k
  at_ : R k = 0 ∨ ∃ p ∈ P, nmAt N p ∈ frAt N k ∧ R k = R p + 1
structure Kahn (N : List Nd) (X : List Nat) (d : Nat) (W R : Nat → Nat) : Prop where
  nodup : X.Nodup
  lt : ∀ k ∈ X, k < N.length
  wts : ∀ k, k < N.length → W k = wtOf N (X.take d) k
  zero : ∀ k, k < N.length → (k ∈ X ↔ W k = 0)
  rks : ∀ k, k < N.length → RankOf N R (X.take d) k
structure Inner (N : List Nd) (X : List Nat) (i : Nat) (W R : Nat → Nat) (T : List Nat) (t : Nat) (X' : List Nat) (W' R' : Nat → Nat) : Prop where
  pre : ∃ l, X' = X ++ l
  nodup : X'.Nodup
  lt : ∀ k ∈ X', k < N.length
  wts : ∀ k, k < N.length → W' k + (T.take t).count k = W k
  zero : ∀ k, k < N.length → (k ∈ X' ↔ W' k = 0)
  rks : ∀ k, k < N.length → R' k = if k ∈ T.take t then max (R k) (R i + 1) else R k
theorem Kahn.inner {N : List Nd} {X : List Nat} {d : Nat} {W R : Nat → Nat} (h : Kahn N X d W R) (i : Nat) (T : List Nat) : Inner N X i W R T 0 X W R :=
  ⟨⟨[], by simp⟩, h.nodup, h.lt, fun k hk => by simp, h.zero, fun k hk => by simp⟩
theorem nodup_take {X : List Nat} {d : Nat} (h : X.Nodup) (hd : d < X.length) : X[d]'hd ∉ X.take d := by
  intro hm
  obtain ⟨j, hj, e⟩ := List.getElem_of_mem hm
  rw [List.getElem_take] at e
  rw [List.length_take] at hj
  exact List.pairwise_iff_getElem.1 h j d (by omega) hd (by omega) e
/-- Each entry that is left is of a node that still waits. -/
theorem Kahn.left {N : List Nd} {X : List Nat} {d : Nat} {W R : Nat → Nat} (h : Kahn N X d W R) (hD : Dist N) (hd : d < X.length) (k : Nat) (hk : k < N.length) : (leadsL N (nmAt N (X[d]'hd))).count k ≤ W k := by
  have hi := h.lt _ (List.getElem_mem hd)
  have hP := nodup_take h.nodup hd
  have := wtOf_more hD hi hP k
  rw [count_leads, h.wts k hk]; omega
theorem Kahn.own {N : List Nd} {X : List Nat} {d : Nat} {W R : Nat → Nat} (h : Kahn N X d W R) (hD : Dist N) (hd : d < X.length) {k : Nat} (hk : k ∈ X) : k ∉ leadsL N (nmAt N (X[d]'hd)) := by
  intro hm
  have h1 := h.left hD hd k (h.lt k hk)
  have h2 := (h.zero k (h.lt k hk)).1 hk
  have h3 := List.count_pos_iff.2 hm
  omega
theorem take_more {α : Type} {T : List α} {t : Nat} (h : t < T.length) : T.take (t + 1) = T.take t ++ [T[t]'h] := by
  rw [List.take_add_one, List.getElem?_eq_getElem h]; rfl
theorem count_take_lt {T : List Nat} {t : Nat} (h : t < T.length) : (T.take t).count (T[t]'h) + 1 ≤ T.count (T[t]'h) := by
  have e : T.count (T[t]'h) = (T.take (t + 1)).count (T[t]'h) + (T.drop (t + 1)).count (T[t]'h) := by
    rw [← List.count_append, List.take_append_drop]
  rw [e, take_more h, List.count_append]
  simp
/-- What a round of the inner loop leaves. -/
theorem Inner.step {N : List Nd} {X : List Nat} {d : Nat} {W R : Nat → Nat} (h0 : Kahn N X d W R) (hD : Dist N) (hd : d < X.length) {t : Nat} {X' : List Nat} {W' R' : Nat → Nat}
    (h : Inner N X (X[d]'hd) W R (leadsL N (nmAt N (X[d]'hd))) t X' W' R') (ht : t < (leadsL N (nmAt N (X[d]'hd))).length) {k : Nat} (hk : k = (leadsL N (nmAt N (X[d]'hd)))[t]'ht) {W2 R2 : Nat → Nat}
    (e1 : ∀ j, j < N.length → W2 j = if j = k then W' k - 1 else W' j) (e2 : ∀ j, j < N.length → R2 j = if j = k then max (R' k) (R' (X[d]'hd) + 1) else R' j) :
    1 ≤ W' k ∧ Inner N X (X[d]'hd) W R (leadsL N (nmAt N (X[d]'hd))) (t + 1) (if W' k - 1 = 0 then X' ++ [k] else X') W2 R2 := by
  have hm : k ∈ leadsL N (nmAt N (X[d]'hd)) := by rw [hk]; exact List.getElem_mem ht
  have hkl : k < N.length := fr_lt (mem_leads.1 hm)
  have h1 := h0.left hD hd k hkl
  have h2 := count_take_lt ht
  rw [← hk] at h2
  have h3 := h.wts k hkl
  have hi : R' (X[d]'hd) = R (X[d]'hd) := by
    have := h.rks _ (h0.lt _ (List.getElem_mem hd))
    rw [if_neg] at this
    · exact this
    · intro hc; exact h0.own hD hd (List.getElem_mem hd) (List.mem_of_mem_take hc)
  have hw : 1 ≤ W' k := by omega
  have hno : k ∉ X' := fun hc => by have := (h.zero k hkl).1 hc; omega
  obtain ⟨l, hl⟩ := h.pre
  refine ⟨hw, ⟨?_, ?_, ?_, ?_, ?_, ?_⟩⟩
  · split
    · exact ⟨l ++ [k], by rw [hl, List.append_assoc]⟩
    · exact ⟨l, hl⟩
  · split
    · rw [List.nodup_append]
      exact ⟨h.nodup, by simp, fun a ha b hb e => hno (by simp at hb; rw [← hb, ← e]; exact ha)⟩
    · exact h.nodup
  · intro j hj
    split at hj
    · rcases List.mem_append.1 hj with hj | hj
      · exact h.lt j hj
      · simp at hj; rw [hj]; exact hkl
    · exact h.lt j hj
  · intro j hj
    rw [take_more ht, ← hk, List.count_append, e1 j hj]
    have h4 := h.wts j hj
    by_cases hjk : j = k
    · subst hjk
      rw [if_pos rfl]; simp; omega
    · have : (k == j) = false := by simp; omega
      rw [if_neg hjk]; simp [this, List.count_cons]; omega
  · intro j hj
    rw [e1 j hj]
    by_cases hjk : j = k
    · subst hjk
      rw [if_pos rfl]
      split
      · rename_i h5; simp [h5]
      · rename_i h5; constructor
        · intro h6; exact absurd h6 hno
        · intro h6; exact absurd h6 h5
    · rw [if_neg hjk, ← h.zero j hj]
      split
      · simp [hjk]
      · rfl
  · intro j hj
    rw [e2 j hj, take_more ht, ← hk, hi]
    have h4 := h.rks j hj
    by_cases hjk : j = k
    · subst hjk
      rw [if_pos rfl, if_pos (by simp), h4]
      split <;> omega
    · rw [if_neg hjk, h4]
      by_cases h5 : j ∈ (leadsL N (nmAt N (X[d]'hd))).take t
      · rw [if_pos h5, if_pos (List.mem_append_left _ h5)]
      · rw [if_neg h5, if_neg (by simp [hjk, h5])]
theorem Inner.done {N : List Nd} {X : List Nat} {d : Nat} {W R : Nat → Nat} (h0 : Kahn N X d W R) (hD : Dist N) (hd : d < X.length) {t : Nat} {X' : List Nat} {W' R' : Nat → Nat}
    (h : Inner N X (X[d]'hd) W R (leadsL N (nmAt N (X[d]'hd))) t X' W' R') (ht : (leadsL N (nmAt N (X[d]'hd))).length ≤ t) : Kahn N X' (d + 1) W' R' := by
  have eT : (leadsL N (nmAt N (X[d]'hd))).take t = leadsL N (nmAt N (X[d]'hd)) := List.take_of_length_le ht
  have hi := h0.lt _ (List.getElem_mem hd)
  have hP := nodup_take h0.nodup hd
  obtain ⟨l, hl⟩ := h.pre
  have eX : X'.take (d + 1) = X.take d ++ [X[d]'hd] := by
    rw [hl, List.take_append_of_le_length (by omega), take_more hd]
  have hw := h.wts
  have hr := h.rks
  rw [eT] at hw hr
  refine ⟨h.nodup, h.lt, fun k hk => ?_, h.zero, fun k hk => ?_⟩
  · have h1 := wtOf_more hD hi hP k
    have h2 := hw k hk
    rw [count_leads, h0.wts k hk] at h2
    rw [eX]; omega
  · have old : ∀ p, p ∈ X → R' p = R p := fun p hp => by
      rw [hr p (h0.lt p hp), if_neg (h0.own hD hd hp)]
    have hri : R' (X[d]'hd) = R (X[d]'hd) := old _ (List.getElem_mem hd)
    have hrk := hr k hk
    obtain ⟨u, a⟩ := h0.rks k hk
    rw [eX]
    constructor
    · intro p hp hf
      rcases List.mem_append.1 hp with hp | hp
      · rw [old p (List.mem_of_mem_take hp), hrk]
        have := u p hp hf
        split <;> omega
      · obtain rfl : p = X[d]'hd := by simpa using hp
        rw [if_pos (mem_leads.2 hf)] at hrk
        rw [hri, hrk]; omega
    · by_cases hT : k ∈ leadsL N (nmAt N (X[d]'hd))
      · rw [if_pos hT] at hrk
        by_cases hle : R k ≤ R (X[d]'hd) + 1
        · exact Or.inr ⟨X[d]'hd, List.mem_append_right _ (List.mem_singleton.2 rfl), mem_leads.1 hT, by rw [hrk, hri]; exact Nat.max_eq_right hle⟩
        · have e : R' k = R k := by rw [hrk]; exact Nat.max_eq_left (by clear a; omega)
          rcases a with a | ⟨p, p1, p2, p3⟩
          · exact Or.inl (by rw [e]; exact a)
          · exact Or.inr ⟨p, List.mem_append_left _ p1, p2, by rw [e, old p (List.mem_of_mem_take p1)]; exact p3⟩
      · rw [if_neg hT] at hrk
        rcases a with a | ⟨p, p1, p2, p3⟩
        · exact Or.inl (by rw [hrk]; exact a)
        · exact Or.inr ⟨p, List.mem_append_left _ p1, p2, by rw [hrk, old p (List.mem_of_mem_take p1)]; exact p3⟩
/-- Ranks of all. -/
def RankFull (N : List Nd) (R : Nat → Nat) : Prop := ∀ k, k < N.length → (∀ p, p < N.length → nmAt N p ∈ frAt N k → R p + 1 ≤ R k) ∧ (R k = 0 ∨ ∃ p, p < N.length ∧ nmAt N p ∈ frAt N k ∧ R k = R p + 1)
theorem Kahn.full {N : List Nd} {X : List Nat} {d : Nat} {W R : Nat → Nat} (h : Kahn N X d W R) (hd : X.length ≤ d) (hn : N.length ≤ X.length) : RankFull N R := by
  intro k hk
  have e : X.take d = X := List.take_of_length_le hd
  have hr := h.rks k hk
  rw [e] at hr
  refine ⟨fun p hp hf => hr.up p (nodup_full h.nodup h.lt hn p hp) hf, ?_⟩
  rcases hr.at_ with h1 | ⟨p, h1, h2, h3⟩
  · exact Or.inl h1
  · exact Or.inr ⟨p, h.lt p h1, h2, h3⟩
theorem RankFull.rise {N : List Nd} {R : Nat → Nat} (h : RankFull N R) {s : ByteArray} {k : Nat} (hc : Comes N s k) : ∀ p, p < N.length → nmAt N p = s → R p < R k := by
  induction hc with
  | base h1 => intro p hp e; subst e; have := (h _ (fr_lt h1)).1 p hp h1; omega
  | step h1 h2 ih =>
    intro p hp e
    have := (h _ (fr_lt h2)).1 _ h1.lt h2
    have := ih p hp e
    omega
def Loopy (N : List Nd) : Prop := ∃ k, k < N.length ∧ Comes N (nmAt N k) k
theorem RankFull.noLoop {N : List Nd} {R : Nat → Nat} (h : RankFull N R) : ¬ Loopy N := by
  rintro ⟨k, hk, hc⟩
  have := h.rise hc k hk rfl
  omega
theorem filter_lt {p q : Nat → Bool} (h : ∀ x, p x = true → q x = true) : ∀ (l : List Nat) (x : Nat), x ∈ l → p x = false → q x = true → (l.filter p).length < (l.filter q).length
  | y :: r, x, hx, h1, h2 => by
    have hle : ∀ l : List Nat, (l.filter p).length ≤ (l.filter q).length := fun l => by
      induction l with
      | nil => exact Nat.le_refl _
      | cons z r ih =>
        rw [List.filter_cons, List.filter_cons]
        by_cases hp : p z = true
        · rw [if_pos hp, if_pos (h z hp)]; simp; exact ih
        · rw [if_neg hp]; split
          · simp; omega
          · exact ih
    rw [List.filter_cons, List.filter_cons]
    rcases List.mem_cons.1 hx with rfl | hx
    · rw [if_neg (by simp [h1]), if_pos h2]
      have := hle r
      simp; omega
    · have ih := filter_lt h r x hx h1 h2
      by_cases hp : p y = true
      · rw [if_pos hp, if_pos (h y hp)]; simp; exact ih
      · rw [if_neg hp]; split
        · simp; omega
        · exact ih
open Classical in
theorem loop_of_back {N : List Nd} {U : Nat → Prop} (hU : ∀ k, U k → k < N.length ∧ ∃ j, U j ∧ nmAt N j ∈ frAt N k) : ∀ (m k : Nat), ((List.range N.length).filter (fun j => decide (Comes N (nmAt N j) k))).length ≤ m → U k → Loopy N
  | m, k, hm, hk => by
    obtain ⟨hkl, j, hj, hf⟩ := hU k hk
    have hjl := (hU j hj).1
    by_cases hc : Comes N (nmAt N j) j
    · exact ⟨j, hjl, hc⟩
    · have hlt := filter_lt (p := fun i => decide (Comes N (nmAt N i) j)) (q := fun i => decide (Comes N (nmAt N i) k)) (fun x hx => decide_eq_true (.step (of_decide_eq_true hx) hf)) (List.range N.length) j (List.mem_range.2 hjl) (decide_eq_false hc) (decide_eq_true (.base hf))
      exact match m, hm with
        | 0, hm => by omega
        | m + 1, hm => loop_of_back hU m j (by omega) hj
theorem Kahn.loop {N : List Nd} {X : List Nat} {d : Nat} {W R : Nat → Nat} (h : Kahn N X d W R) (hd : X.length ≤ d) (hn : X.length < N.length) : Loopy N := by
  have e : X.take d = X := List.take_of_length_le hd
  have hex : ∃ k, k < N.length ∧ k ∉ X := by
    refine Classical.byContradiction fun hno => ?_
    have : ∀ k ∈ List.range N.length, k ∈ X := fun k hk => Classical.byContradiction fun h2 => hno ⟨k, List.mem_range.1 hk, h2⟩
    have := len_sub (List.range N.length) X List.nodup_range this
    simp at this; omega
  obtain ⟨k, hk, hkX⟩ := hex
  refine loop_of_back (U := fun k => k < N.length ∧ k ∉ X) ?_ _ k (Nat.le_refl _) ⟨hk, hkX⟩
  rintro j ⟨hj, hjX⟩
  have hw : W j ≠ 0 := fun h2 => hjX ((h.zero j hj).2 h2)
  rw [h.wts j hj, e] at hw
  obtain ⟨i, h1, h2, h3⟩ := wtOf_pos hw
  exact ⟨hj, i, ⟨h1, h2⟩, h3⟩
theorem RankFull.uniq {N : List Nd} {R S : Nat → Nat} (h : RankFull N R) (h' : RankFull N S) : ∀ (m k : Nat), R k ≤ m → k < N.length → R k = S k
  | m, k, hm, hk => by
    have hlow : ∀ p, p < N.length → nmAt N p ∈ frAt N k → R p = S p := fun p hp hf => by
      have h1 := (h k hk).1 p hp hf
      exact match m, hm with
        | 0, hm => by omega
        | m + 1, hm => uniq h h' m p (by omega) hp
    rcases (h k hk).2 with h1 | ⟨p, h1, h2, h3⟩
    · rcases (h' k hk).2 with h4 | ⟨q, h4, h5, h6⟩
      · omega
      · have := (h k hk).1 q h4 h5
        omega
    · have e1 := hlow p h1 h2
      have h7 := (h' k hk).1 p h1 h2
      rcases (h' k hk).2 with h4 | ⟨q, h4, h5, h6⟩
      · omega
      · have e2 := hlow q h4 h5
        have := (h k hk).1 q h4 h5
        omega
end Gr
namespace Gr
/-- One place stands ahead of another: by rank, then by place. -/
def LexR (R : Nat → Nat) (a b : Nat) : Prop := R a < R b ∨ (R a = R b ∧ a < b)
theorem LexR.trans {R : Nat → Nat} {a b c : Nat} (h : LexR R a b) (k : LexR R b c) : LexR R a c := by
  unfold LexR at *; omega
/-- The first i places are sorted, the others stand as they did. -/
structure SortTo (R : Nat → Nat) (n i : Nat) (l : List Nat) : Prop where
  srt : ∃ S, l = S ++ List.range' i (n - i) ∧ S.length = i ∧ S.Pairwise (LexR R) ∧ ∀ k, k ∈ S ↔ k < i
/-- Place i on its way down, at j. -/
structure SortAt (R : Nat → Nat) (n i j : Nat) (l : List Nat) : Prop where
  srt : ∃ A B, l = A ++ i :: (B ++ List.range' (i + 1) (n - (i + 1))) ∧ A.length = j ∧ (A ++ B).length = i ∧ (A ++ B).Pairwise (LexR R) ∧ (∀ k, k ∈ A ++ B ↔ k < i) ∧ ∀ b ∈ B, R i < R b
theorem SortTo.start (R : Nat → Nat) (n : Nat) (h : 1 ≤ n) : SortTo R n 1 (List.range n) := by
  refine ⟨[0], ?_, rfl, by simp, by simp⟩
  rw [List.range_eq_range', show n = (n - 1) + 1 by omega, List.range'_succ]
  simp
theorem SortTo.zero (R : Nat → Nat) : SortTo R 0 0 (List.range 0) := ⟨[], rfl, rfl, List.Pairwise.nil, by simp⟩
theorem SortTo.at {R : Nat → Nat} {n i : Nat} {l : List Nat} (h : SortTo R n i l) (hi : i < n) : SortAt R n i i l := by
  obtain ⟨S, h1, h2, h3, h4⟩ := h.srt
  refine ⟨S, [], ?_, h2, by simpa using h2, by simpa using h3, by simpa using h4, by simp⟩
  rw [h1, show n - i = (n - (i + 1)) + 1 by omega, List.range'_succ]
  rfl
theorem SortAt.get {R : Nat → Nat} {n i j : Nat} {l : List Nat} (h : SortAt R n i j l) : l[j]? = some i := by
  obtain ⟨A, B, h1, h2, _⟩ := h.srt
  rw [h1, List.getElem?_append_right (by omega), h2]; simp
theorem SortAt.low {R : Nat → Nat} {n i j : Nat} {l : List Nat} (h : SortAt R n i j l) (hj : 1 ≤ j) : ∃ y, l[j - 1]? = some y ∧ y < i := by
  obtain ⟨A, B, h1, h2, h3, h4, h5, h6⟩ := h.srt
  have hl : j - 1 < A.length := by omega
  refine ⟨A[j - 1]'hl, ?_, (h5 _).1 (List.mem_append_left _ (List.getElem_mem hl))⟩
  rw [h1, List.getElem?_append_left hl, List.getElem?_eq_getElem hl]
theorem SortAt.swap {R : Nat → Nat} {n i j : Nat} {l : List Nat} (h : SortAt R n i (j + 1) l) {y : Nat} (hy : l[j]? = some y) (hlt : R i < R y) : SortAt R n i j ((l.set (j + 1) y).set j i) := by
  obtain ⟨A, B, h1, h2, h3, h4, h5, h6⟩ := h.srt
  have hA : A ≠ [] := by intro e; subst e; simp at h2
  obtain ⟨A', z, rfl⟩ : ∃ A' z, A = A' ++ [z] := ⟨A.dropLast, A.getLast hA, (List.dropLast_concat_getLast hA).symm⟩
  have hl : A'.length = j := by simpa using h2
  have hz : z = y := by
    rw [h1, List.append_assoc, List.getElem?_append_right (by omega), hl] at hy
    simpa using hy
  subst hz
  refine ⟨A', z :: B, ?_, hl, by simpa [Nat.add_assoc] using h3, by simpa using h4, by simpa using h5, ?_⟩
  · rw [h1, List.append_assoc]
    rw [List.set_append_right _ _ (by omega), List.set_append_right _ _ (by omega), hl]
    simp
  · intro b hb
    rcases List.mem_cons.1 hb with rfl | hb
    · exact hlt
    · exact h6 b hb
theorem SortAt.done {R : Nat → Nat} {n i j : Nat} {l : List Nat} (h : SortAt R n i j l) (hi : i < n) (hs : j = 0 ∨ ∃ y, l[j - 1]? = some y ∧ R y ≤ R i) : SortTo R n (i + 1) l := by
  obtain ⟨A, B, h1, h2, h3, h4, h5, h6⟩ := h.srt
  have hall : ∀ a ∈ A, LexR R a i := by
    intro a ha
    rcases hs with rfl | ⟨y, hy, hle⟩
    · rw [List.eq_nil_of_length_eq_zero h2] at ha; cases ha
    · have hA : A ≠ [] := by intro e; subst e; cases ha
      obtain ⟨A', z, rfl⟩ : ∃ A' z, A = A' ++ [z] := ⟨A.dropLast, A.getLast hA, (List.dropLast_concat_getLast hA).symm⟩
      have hl : A'.length = j - 1 := by simp at h2; omega
      have hz : z = y := by
        rw [h1, List.append_assoc, List.getElem?_append_right (by omega), hl] at hy
        simpa using hy
      subst hz
      have hzi : z < i := (h5 z).1 (by simp)
      have hzl : LexR R z i := by unfold LexR; omega
      rcases List.mem_append.1 ha with ha | ha
      · have := (List.pairwise_append.1 (List.pairwise_append.1 h4).1).2.2 a ha z (by simp)
        exact this.trans hzl
      · obtain rfl : a = z := by simpa using ha
        exact hzl
  refine ⟨A ++ i :: B, by rw [h1]; simp, by simp at h3 ⊢; omega, ?_, fun k => ?_⟩
  · rw [List.pairwise_append] at h4 ⊢
    refine ⟨h4.1, List.pairwise_cons.2 ⟨fun b hb => Or.inl (h6 b hb), h4.2.1⟩, fun a ha b hb => ?_⟩
    rcases List.mem_cons.1 hb with rfl | hb
    · exact hall a ha
    · exact h4.2.2 a ha b hb
  · have := h5 k
    simp only [List.mem_append, List.mem_cons] at this ⊢
    constructor
    · rintro (h | rfl | h)
      · have := this.1 (Or.inl h); omega
      · omega
      · have := this.1 (Or.inr h); omega
    · intro h
      rcases (by omega : k < i ∨ k = i) with h | rfl
      · rcases this.2 h with h | h
        · exact Or.inl h
        · exact Or.inr (Or.inr h)
      · exact Or.inr (Or.inl rfl)
/-- All places, by rank, and of one rank rising. -/
def IsOrder (R : Nat → Nat) (n : Nat) (l : List Nat) : Prop := l.Pairwise (LexR R) ∧ ∀ k, k ∈ l ↔ k < n
theorem SortTo.all {R : Nat → Nat} {n : Nat} {l : List Nat} (h : SortTo R n n l) : IsOrder R n l := by
  obtain ⟨S, h1, h2, h3, h4⟩ := h.srt
  rw [Nat.sub_self] at h1
  simp at h1
  subst h1
  exact ⟨h3, h4⟩
theorem IsOrder.nodup {R : Nat → Nat} {n : Nat} {l : List Nat} (h : IsOrder R n l) : l.Nodup := h.1.imp (fun {a b} h e => by subst e; unfold LexR at h; omega)
theorem IsOrder.uniq {R : Nat → Nat} : ∀ {l m : List Nat}, l.Pairwise (LexR R) → m.Pairwise (LexR R) → (∀ k, k ∈ l ↔ k ∈ m) → l = m
  | [], [], _, _, _ => rfl
  | [], b :: m, _, _, h => absurd ((h b).2 (by simp)) (by simp)
  | a :: l, [], _, _, h => absurd ((h a).1 (by simp)) (by simp)
  | a :: l, b :: m, h1, h2, h => by
    rw [List.pairwise_cons] at h1 h2
    have hab : a = b := by
      rcases List.mem_cons.1 ((h a).1 (by simp)) with e | e
      · exact e
      · rcases List.mem_cons.1 ((h b).2 (by simp)) with e2 | e2
        · exact e2.symm
        · have x1 := h1.1 b e2
          have x2 := h2.1 a e
          unfold LexR at x1 x2; omega
    subst hab
    refine congrArg (a :: ·) (IsOrder.uniq h1.2 h2.2 (fun k => ?_))
    constructor
    · intro hk
      rcases List.mem_cons.1 ((h k).1 (List.mem_cons_of_mem _ hk)) with e | e
      · subst e
        have := h1.1 k hk
        unfold LexR at this; omega
      · exact e
    · intro hk
      rcases List.mem_cons.1 ((h k).2 (List.mem_cons_of_mem _ hk)) with e | e
      · subst e
        have := h2.1 k hk
        unfold LexR at this; omega
      · exact e
end Gr
