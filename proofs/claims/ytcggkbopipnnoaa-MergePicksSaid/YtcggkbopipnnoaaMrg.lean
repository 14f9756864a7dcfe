/- Merging: the mathematics. Nothing of the program. -/
namespace Go.Proofs.Ytcggkbopipnnoaa.Mrg

/-- Has, Time, Low, Done. -/
abbrev Hd := Bool × Int × Int × Bool
def hlt (a b : Hd) : Bool := a.1 && (!b.1 || decide (a.2.1 < b.2.1))
theorem hlt_co (a b c : Hd) (h : hlt a c = true) : hlt a b = true ∨ hlt b c = true := by
  obtain ⟨x, s, _, _⟩ := a; obtain ⟨y, t, _, _⟩ := b; obtain ⟨z, u, _, _⟩ := c
  unfold hlt at *
  cases x <;> cases y <;> cases z <;> simp_all <;> omega
theorem hlt_as (a b : Hd) (h : hlt a b = true) : hlt b a = false := by
  obtain ⟨x, s, _, _⟩ := a; obtain ⟨y, t, _, _⟩ := b
  unfold hlt at *
  cases x <;> cases y <;> simp_all <;> omega
def ilt (a b : Int) : Bool := decide (a < b)
theorem ilt_co (a b c : Int) (h : ilt a c = true) : ilt a b = true ∨ ilt b c = true := by
  unfold ilt at *; simp at *; omega
theorem ilt_as (a b : Int) (h : ilt a b = true) : ilt b a = false := by
  unfold ilt at *; simp at *; omega

/-- p is the place of the first of the first k of l that none of them is ahead of; -1: there is none. -/
def Least {α : Type} (lt : α → α → Bool) (l : List α) (k : Nat) (p : Int) : Prop :=
  (k = 0 ∧ p = -1) ∨ ∃ (q : Nat) (hq : q < l.length), p = q ∧ q < k ∧ (∀ j (hj : j < l.length), j < k → lt (l[j]'hj) (l[q]'hq) = false) ∧ (∀ j (hj : j < l.length), j < q → lt (l[q]'hq) (l[j]'hj) = true)
theorem Least.start {α : Type} (lt : α → α → Bool) (l : List α) : Least lt l 0 (-1) := Or.inl ⟨rfl, rfl⟩
theorem Least.first {α : Type} {lt : α → α → Bool} (as : ∀ a b, lt a b = true → lt b a = false) {l : List α} (h : 0 < l.length) : Least lt l 1 0 := by
  refine Or.inr ⟨0, h, rfl, Nat.one_pos, fun j hj h1 => ?_, fun j hj h1 => absurd h1 (by omega)⟩
  obtain rfl : j = 0 := by omega
  cases e : lt (l[0]'hj) (l[0]'h) with
  | false => rfl
  | true => rw [as _ _ e] at e; exact absurd e (by simp)
theorem Least.stay {α : Type} {lt : α → α → Bool} {l : List α} {k : Nat} {p : Int} (h : Least lt l k p) (h0 : 0 < k) (hk : k < l.length) (q : Nat) (hq : q < l.length) (hp : p = q) (hl : lt (l[k]'hk) (l[q]'hq) = false) : Least lt l (k + 1) p := by
  rcases h with ⟨h1, _⟩ | ⟨q', hq', h1, h2, h3, h4⟩
  · omega
  · obtain rfl : q = q' := by omega
    refine Or.inr ⟨q, hq, h1, by omega, fun j hj hjk => ?_, h4⟩
    rcases Nat.lt_succ_iff_lt_or_eq.1 hjk with h5 | rfl
    · exact h3 j hj h5
    · exact hl
theorem Least.turn {α : Type} {lt : α → α → Bool} (co : ∀ a b c, lt a c = true → lt a b = true ∨ lt b c = true) (as : ∀ a b, lt a b = true → lt b a = false) {l : List α} {k : Nat} {p : Int} (h : Least lt l k p) (h0 : 0 < k) (hk : k < l.length) (q : Nat) (hq : q < l.length) (hp : p = q) (hl : lt (l[k]'hk) (l[q]'hq) = true) : Least lt l (k + 1) k := by
  rcases h with ⟨h1, _⟩ | ⟨q', hq', h1, h2, h3, h4⟩
  · omega
  · obtain rfl : q = q' := by omega
    have h5 : ∀ j (hj : j < l.length), j < k → lt (l[k]'hk) (l[j]'hj) = true := fun j hj hjk => by
      rcases co _ (l[j]'hj) _ hl with h6 | h6
      · exact h6
      · rw [h3 j hj hjk] at h6; exact absurd h6 (by simp)
    refine Or.inr ⟨k, hk, rfl, by omega, fun j hj hjk => ?_, h5⟩
    rcases Nat.lt_succ_iff_lt_or_eq.1 hjk with h6 | rfl
    · exact as _ _ (h5 j hj h6)
    · cases e : lt (l[j]'hj) (l[j]'hk) with
      | false => rfl
      | true => rw [as _ _ e] at e; exact absurd e (by simp)

/-- The first of the least time. -/
def IsBest (l : List Hd) (q : Nat) : Prop :=
  ∃ hq : q < l.length, (l[q]'hq).1 = true ∧ (∀ j (hj : j < l.length), (l[j]'hj).1 = true → (l[q]'hq).2.1 ≤ (l[j]'hj).2.1 ∧ (j < q → (l[q]'hq).2.1 < (l[j]'hj).2.1))
theorem IsBest.one {l : List Hd} {q r : Nat} (h : IsBest l q) (k : IsBest l r) : q = r := by
  obtain ⟨hq, h1, h2⟩ := h
  obtain ⟨hr, k1, k2⟩ := k
  have a := h2 r hr k1
  have b := k2 q hq h1
  omega
def NoneHas (l : List Hd) : Prop := ∀ j (hj : j < l.length), (l[j]'hj).1 = false
theorem least_best {l : List Hd} {p : Int} (h : Least hlt l l.length p) : (p = -1 ∧ l = []) ∨ ∃ (q : Nat) (hq : q < l.length), p = q ∧ (((l[q]'hq).1 = false ∧ NoneHas l) ∨ ((l[q]'hq).1 = true ∧ IsBest l q)) := by
  rcases h with ⟨h1, h2⟩ | ⟨q, hq, h1, h2, h3, h4⟩
  · exact Or.inl ⟨h2, List.eq_nil_of_length_eq_zero h1⟩
  · refine Or.inr ⟨q, hq, h1, ?_⟩
    cases e : (l[q]'hq).1 with
    | false =>
      refine Or.inl ⟨rfl, fun j hj => ?_⟩
      have := h3 j hj hj
      unfold hlt at this
      rw [e] at this
      simpa using this
    | true =>
      refine Or.inr ⟨rfl, hq, e, fun j hj hh => ⟨?_, fun hjq => ?_⟩⟩
      · have := h3 j hj hj
        unfold hlt at this
        rw [e, hh] at this
        simpa using this
      · have := h4 j hj hjq
        unfold hlt at this
        rw [e, hh] at this
        simpa using this
/-- The input at j holds back the one at q, of time t. -/
def holdsB (h : Hd) (j q : Nat) (t : Int) : Bool := !h.1 && !h.2.2.2 && (decide (h.2.2.1 < t) || decide (h.2.2.1 = t) && decide (j < q))
def PickIs (l : List Hd) (r : Int) : Prop :=
  (r = -1 ∧ NoneHas l) ∨ ∃ (q : Nat) (hq : q < l.length), IsBest l q ∧
    ((r = q ∧ ∀ j (hj : j < l.length), holdsB (l[j]'hj) j q (l[q]'hq).2.1 = false) ∨ (r = -1 ∧ ∃ (j : Nat) (hj : j < l.length), holdsB (l[j]'hj) j q (l[q]'hq).2.1 = true))

/-- The time below which nothing comes. -/
def liveB (h : Hd) : Bool := h.1 || !h.2.2.2
def keyI (h : Hd) : Int := if h.1 = true then h.2.1 else h.2.2.1
def LowIs (l : List Hd) (t : Int) (ok : Bool) : Prop :=
  (ok = false ∧ t = 0 ∧ ∀ j (hj : j < l.length), liveB (l[j]'hj) = false) ∨
  (ok = true ∧ (∃ (j : Nat) (hj : j < l.length), liveB (l[j]'hj) = true ∧ keyI (l[j]'hj) = t) ∧ ∀ j (hj : j < l.length), liveB (l[j]'hj) = true → t ≤ keyI (l[j]'hj))
/-- What is picked is of the time that Low tells. -/
theorem pick_low {l : List Hd} {r t : Int} {ok : Bool} (hp : PickIs l r) (hl : LowIs l t ok) : r = -1 ∨ ∃ (q : Nat) (hq : q < l.length), r = q ∧ (l[q]'hq).1 = true ∧ (l[q]'hq).2.1 = t := by
  rcases hp with ⟨h, _⟩ | ⟨q, hq, ⟨_, h1, h2⟩, ⟨rfl, h3⟩ | ⟨h, _⟩⟩
  · exact Or.inl h
  · refine Or.inr ⟨q, hq, rfl, h1, ?_⟩
    rcases hl with ⟨_, _, k⟩ | ⟨_, ⟨j, hj, k1, k2⟩, k3⟩
    · have := k q hq
      unfold liveB at this
      rw [h1] at this
      simp at this
    · have a := k3 q hq (by unfold liveB; rw [h1]; rfl)
      have b : keyI (l[q]'hq) = (l[q]'hq).2.1 := by unfold keyI; rw [if_pos h1]
      rw [b] at a
      cases e : (l[j]'hj).1 with
      | true =>
        have := (h2 j hj e).1
        unfold keyI at k2; rw [if_pos e] at k2
        omega
      | false =>
        have c := h3 j hj
        unfold holdsB at c
        unfold liveB at k1
        unfold keyI at k2; rw [if_neg (by simp [e])] at k2
        rw [e] at c k1
        simp at c k1
        have := c k1
        omega
  · exact Or.inl h

/-! ### All -/
section
variable {E : Type} (tm : E → Int)
def both : List (Int × E) → List (Int × E) → List (Int × E)
  | [], b => b
  | x :: a, [] => x :: a
  | x :: a, y :: b => if tm y.2 < tm x.2 then y :: both (x :: a) b else x :: both a (y :: b)
  termination_by a b => a.length + b.length
theorem both_nil (b : List (Int × E)) : both tm [] b = b := by unfold both; rfl
theorem both_nil' (a : List (Int × E)) : both tm a [] = a := by cases a <;> (unfold both; rfl)
theorem both_cons (x : Int × E) (a : List (Int × E)) (y : Int × E) (b : List (Int × E)) : both tm (x :: a) (y :: b) = if tm y.2 < tm x.2 then y :: both tm (x :: a) b else x :: both tm a (y :: b) := by
  conv => lhs; unfold both
theorem both_len (a b : List (Int × E)) : (both tm a b).length = a.length + b.length := by
  fun_induction both tm a b <;> simp_all <;> omega
theorem both_mem (a b : List (Int × E)) (z : Int × E) : z ∈ both tm a b ↔ z ∈ a ∨ z ∈ b := by
  fun_induction both tm a b <;> simp_all
  · grind
  · grind
/-- The inputs of a are ahead of those of b. -/
def Apart (a b : List (Int × E)) : Prop := ∀ x ∈ a, ∀ y ∈ b, x.1 < y.1
def one (k : Int) (l : List (Int × E)) : List E := (l.filter (fun x => x.1 == k)).map (·.2)
theorem one_app (k : Int) (a b : List (Int × E)) : one k (a ++ b) = one k a ++ one k b := by unfold one; simp
theorem one_cons (k : Int) (x : Int × E) (a : List (Int × E)) : one k (x :: a) = if x.1 = k then x.2 :: one k a else one k a := by
  unfold one; rw [List.filter_cons]; by_cases h : x.1 = k <;> simp [h]
theorem one_none (k : Int) (a : List (Int × E)) (h : ∀ x ∈ a, x.1 ≠ k) : one k a = [] := by
  unfold one
  rw [List.map_eq_nil_iff, List.filter_eq_nil_iff]
  intro x hx; simpa using h x hx
theorem both_one (a b : List (Int × E)) (h : Apart a b) (k : Int) : one k (both tm a b) = one k a ++ one k b := by
  fun_induction both tm a b with
  | case1 b => simp [one]
  | case2 x a => simp [one]
  | case3 x a y b hlt ih =>
    rw [one_cons, ih (fun u hu v hv => h u hu v (List.mem_cons_of_mem _ hv)), one_cons k y b]
    split
    · rename_i hy
      rw [one_none k (x :: a) (fun u hu => by have := h u hu y List.mem_cons_self; omega)]; rfl
    · rfl
  | case4 x a y b hlt ih =>
    rw [one_cons, ih (fun u hu v hv => h u (List.mem_cons_of_mem _ hu) v hv), one_cons k x a]
    split <;> rfl
/-- By time, and of one time by input. -/
def lex (x y : Int × E) : Prop := tm x.2 < tm y.2 ∨ tm x.2 = tm y.2 ∧ x.1 < y.1
theorem both_sorted (a b : List (Int × E)) (h : Apart a b) (ha : a.Pairwise (lex tm)) (hb : b.Pairwise (lex tm)) : (both tm a b).Pairwise (lex tm) := by
  fun_induction both tm a b with
  | case1 b => exact hb
  | case2 x a => exact ha
  | case3 x a y b hlt ih =>
    rw [List.pairwise_cons] at hb ⊢
    refine ⟨fun z hz => ?_, ih (fun u hu v hv => h u hu v (List.mem_cons_of_mem _ hv)) ha hb.2⟩
    rcases (both_mem tm _ _ z).1 hz with h1 | h1
    · rcases List.mem_cons.1 h1 with rfl | h2
      · exact Or.inl hlt
      · have := (List.pairwise_cons.1 ha).1 z h2
        unfold lex at *; omega
    · exact hb.1 z h1
  | case4 x a y b hlt ih =>
    rw [List.pairwise_cons] at ha ⊢
    refine ⟨fun z hz => ?_, ih (fun u hu v hv => h u (List.mem_cons_of_mem _ hu) v hv) ha.2 hb⟩
    rcases (both_mem tm _ _ z).1 hz with h1 | h1
    · exact ha.1 z h1
    · have hxy := h x List.mem_cons_self z h1
      rcases List.mem_cons.1 h1 with rfl | h2
      · unfold lex; omega
      · have := (List.pairwise_cons.1 hb).1 z h2
        unfold lex at *; omega
/-- Of each two lists one. -/
def halved : List (List (Int × E)) → List (List (Int × E))
  | [] => []
  | [a] => [a]
  | a :: b :: r => both tm a b :: halved r
theorem halved_len : ∀ l : List (List (Int × E)), (halved tm l).length = (l.length + 1) / 2
  | [] => by simp [halved]
  | [a] => by simp [halved]
  | a :: b :: r => by simp only [halved, List.length_cons]; rw [halved_len r]; omega
/-- The lists are sorted, and the inputs of each are ahead of those behind. -/
def Fine (l : List (List (Int × E))) : Prop := l.Pairwise Apart
theorem halved_mem : ∀ (l : List (List (Int × E))) (m : List (Int × E)), m ∈ halved tm l → ∀ z ∈ m, ∃ a ∈ l, z ∈ a
  | [], m, h => by simp [halved] at h
  | [a], m, h => by simp [halved] at h; subst h; exact fun z hz => ⟨_, by simp, hz⟩
  | a :: b :: r, m, h => by
    intro z hz
    rcases List.mem_cons.1 h with rfl | h
    · rcases (both_mem tm _ _ z).1 hz with h1 | h1
      · exact ⟨a, by simp, h1⟩
      · exact ⟨b, by simp, h1⟩
    · obtain ⟨c, hc, h2⟩ := halved_mem r m h z hz
      exact ⟨c, by simp [hc], h2⟩
theorem halved_fine : ∀ (l : List (List (Int × E))), l.Pairwise Apart → (halved tm l).Pairwise Apart
  | [], _ => by simp [halved]
  | [a], _ => by simp [halved]
  | a :: b :: r, h => by
    rw [List.pairwise_cons, List.pairwise_cons] at h
    obtain ⟨h1, h2, h3⟩ := h
    refine List.pairwise_cons.2 ⟨fun m hm x hx y hy => ?_, halved_fine r h3⟩
    obtain ⟨c, hc, h4⟩ := halved_mem tm r m hm y hy
    rcases (both_mem tm _ _ x).1 hx with h5 | h5
    · exact h1 c (by simp [hc]) x h5 y h4
    · exact h2 c hc x h5 y h4
theorem halved_sorted : ∀ (l : List (List (Int × E))), l.Pairwise Apart → (∀ a ∈ l, a.Pairwise (lex tm)) → ∀ a ∈ halved tm l, a.Pairwise (lex tm)
  | [], _, _ => by simp [halved]
  | [a], _, h => by simpa [halved] using h
  | a :: b :: r, h, hs => by
    rw [List.pairwise_cons, List.pairwise_cons] at h
    obtain ⟨h1, h2, h3⟩ := h
    intro m hm
    rcases List.mem_cons.1 hm with rfl | hm
    · exact both_sorted tm a b (h1 b (by simp)) (hs a (by simp)) (hs b (by simp))
    · exact halved_sorted r h3 (fun c hc => hs c (by simp [hc])) m hm
theorem halved_one (k : Int) : ∀ (l : List (List (Int × E))), l.Pairwise Apart → one k (halved tm l).flatten = one k l.flatten
  | [], _ => by simp [halved]
  | [a], _ => by simp [halved]
  | a :: b :: r, h => by
    rw [List.pairwise_cons, List.pairwise_cons] at h
    obtain ⟨h1, h2, h3⟩ := h
    simp only [halved, List.flatten_cons, one_app]
    rw [both_one tm a b (h1 b (by simp)), halved_one k r h3, List.append_assoc]
/-- The lists made one. -/
def whole : List (List (Int × E)) → List (Int × E)
  | [] => []
  | [a] => a
  | a :: b :: r => whole (halved tm (a :: b :: r))
  termination_by l => l.length
  decreasing_by rw [halved_len]; simp; omega
theorem whole_one (k : Int) (l : List (List (Int × E))) (h : l.Pairwise Apart) : one k (whole tm l) = one k l.flatten := by
  fun_induction whole tm l with
  | case1 => rfl
  | case2 a => simp
  | case3 a b r ih => rw [ih (halved_fine tm _ h), halved_one tm k _ h]
theorem whole_sorted (l : List (List (Int × E))) (h : l.Pairwise Apart) (hs : ∀ a ∈ l, a.Pairwise (lex tm)) : (whole tm l).Pairwise (lex tm) := by
  fun_induction whole tm l with
  | case1 => exact List.Pairwise.nil
  | case2 a => exact hs a (by simp)
  | case3 a b r ih => exact ih (halved_fine tm _ h) (halved_sorted tm _ h hs)
theorem whole_mem (l : List (List (Int × E))) (z : Int × E) : z ∈ whole tm l → ∃ a ∈ l, z ∈ a := by
  fun_induction whole tm l with
  | case1 => simp
  | case2 a => exact fun h => ⟨a, by simp, h⟩
  | case3 a b r ih =>
    intro h
    obtain ⟨m, hm, h2⟩ := ih h
    exact halved_mem tm _ m hm z h2
theorem whole_len (l : List (List (Int × E))) : (whole tm l).length = l.flatten.length := by
  have hh : ∀ l : List (List (Int × E)), (halved tm l).flatten.length = l.flatten.length := fun l => by
    fun_induction halved tm l with
    | case1 => rfl
    | case2 a => rfl
    | case3 a b r ih => simp only [List.flatten_cons, List.length_append, both_len, ih]; omega
  fun_induction whole tm l with
  | case1 => rfl
  | case2 a => simp
  | case3 a b r ih => rw [ih, hh]
/-- The inputs as lists of pairs. -/
def tag (i : Int) (l : List E) : List (Int × E) := l.map (fun e => (i, e))
def tags (n : Nat) : List (List E) → List (List (Int × E))
  | [] => []
  | a :: r => tag n a :: tags (n + 1) r
theorem tags_len : ∀ (n : Nat) (l : List (List E)), (tags n l).length = l.length
  | _, [] => rfl
  | n, a :: r => by simp [tags, tags_len (n + 1) r]
theorem tags_get : ∀ (n : Nat) (l : List (List E)) (j : Nat) (hj : j < (tags n l).length) (hj' : j < l.length), (tags n l)[j] = tag ((n + j : Nat) : Int) l[j]
  | _, [], j, h, _ => absurd h (by simp [tags])
  | n, a :: r, 0, _, _ => rfl
  | n, a :: r, j + 1, h, h' => by
    have := tags_get (n + 1) r j (by simpa [tags] using h) (by simpa using h')
    simp only [tags, List.getElem_cons_succ]
    rw [this]
    congr 2; omega
theorem tags_lo : ∀ (n : Nat) (l : List (List E)) (m : List (Int × E)), m ∈ tags n l → ∀ x ∈ m, (n : Int) ≤ x.1 ∧ x.1 < ((n + l.length : Nat) : Int)
  | _, [], m, h => by simp [tags] at h
  | n, a :: r, m, h => by
    intro x hx
    rcases List.mem_cons.1 h with rfl | h
    · unfold tag at hx
      obtain ⟨e, _, rfl⟩ := List.mem_map.1 hx
      simp only [List.length_cons]; omega
    · have := tags_lo (n + 1) r m h x hx
      simp only [List.length_cons]; omega
theorem tags_fine : ∀ (n : Nat) (l : List (List E)), (tags n l).Pairwise Apart
  | _, [] => List.Pairwise.nil
  | n, a :: r => by
    refine List.pairwise_cons.2 ⟨fun m hm x hx y hy => ?_, tags_fine (n + 1) r⟩
    unfold tag at hx
    obtain ⟨e, _, rfl⟩ := List.mem_map.1 hx
    have := (tags_lo (n + 1) r m hm y hy).1
    show (n : Int) < y.1
    omega
theorem tag_one (k i : Int) (a : List E) : one k (tag i a) = if i = k then a else [] := by
  induction a with
  | nil => unfold tag one; simp
  | cons x r ih =>
    have : tag i (x :: r) = (i, x) :: tag i r := rfl
    rw [this, one_cons, ih]; split <;> rfl
theorem tags_one : ∀ (n : Nat) (l : List (List E)) (k : Nat), one ((n + k : Nat) : Int) (tags n l).flatten = (l[k]?).getD []
  | _, [], k => by simp [tags, one]
  | n, a :: r, 0 => by
    simp only [tags, List.flatten_cons, one_app, tag_one]
    rw [one_none _ (tags (n + 1) r).flatten (fun x hx => by
      obtain ⟨m, hm, h⟩ := List.mem_flatten.1 hx
      have := (tags_lo (n + 1) r m hm x h).1
      omega)]
    simp
  | n, a :: r, k + 1 => by
    simp only [tags, List.flatten_cons, one_app, tag_one]
    have := tags_one (n + 1) r k
    rw [show n + (k + 1) = n + 1 + k by omega, this, if_neg (by omega)]
    simp
def all (l : List (List E)) : List (Int × E) := whole tm (tags 0 l)
theorem all_one (l : List (List E)) (k : Nat) : one (k : Int) (all tm l) = (l[k]?).getD [] := by
  unfold all; rw [whole_one tm _ _ (tags_fine 0 l)]
  have := tags_one 0 l k
  simpa using this
theorem all_in (l : List (List E)) (x : Int × E) (h : x ∈ all tm l) : 0 ≤ x.1 ∧ x.1 < (l.length : Int) := by
  obtain ⟨m, hm, h2⟩ := whole_mem tm _ x h
  have := tags_lo 0 l m hm x h2
  simpa using this
theorem all_sorted (l : List (List E)) (h : ∀ a ∈ l, a.Pairwise (fun x y => tm x < tm y)) : (all tm l).Pairwise (lex tm) := by
  refine whole_sorted tm _ (tags_fine 0 l) (fun m hm => ?_)
  obtain ⟨j, hj, rfl⟩ := List.getElem_of_mem hm
  rw [tags_get 0 l j hj (by simpa [tags_len] using hj)]
  unfold tag
  rw [List.pairwise_map]
  exact (h _ (List.getElem_mem _)).imp (fun hxy => Or.inl hxy)
end
end Go.Proofs.Ytcggkbopipnnoaa.Mrg
