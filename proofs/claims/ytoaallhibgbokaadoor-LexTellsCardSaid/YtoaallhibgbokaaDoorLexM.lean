/- Words of texts: the mathematics. -/
import Derived.Test.YtoaallhibgbokaaDoorStrmN0
import Derived.Lib.ParseIntB
namespace Go.Proofs.YtoaallhibgbokaaDoor
set_option linter.unusedVariables false
set_option linter.unusedSimpArgs false

abbrev Bs := List UInt8
def mk (l : Bs) : ByteArray := ⟨l.toArray⟩
theorem mk_list (s : ByteArray) : mk s.data.toList = s := by cases s; simp [mk]
theorem mk_data (l : Bs) : (mk l).data.toList = l := by simp [mk]
theorem mk_size (l : Bs) : (mk l).size = l.length := by simp [mk, ByteArray.size]
theorem extract_mk (s : ByteArray) (a b : Nat) : s.extract a b = mk ((s.data.toList.take b).drop a) := by
  rw [← extract_list]; exact (mk_list _).symm
def isSp (c : UInt8) : Bool := c == 9 || c == 10 || c == 13 || c == 32
def isLt (c : UInt8) : Bool := letB c.toNat
def isDg (c : UInt8) : Bool := digB c.toNat
def isLd (c : UInt8) : Bool := letB c.toNat || digB c.toNat
/-- All signs. -/
def signL : List Bs := [[59], [33], [124], [40], [41], [91], [93], [44], [58], [46], [61], [35], [43], [45], [42], [47], [37], [60], [62], [61, 61], [33, 61], [60, 61], [62, 61], [38, 38], [124, 124]]
/-- The longest sign of some that s begins with, at least as long as b. -/
def signOf (s : Bs) (ss : List Bs) (b : Bs) : Bs := ss.foldl (fun b g => if g.isPrefixOf s && decide (b.length < g.length) then g else b) b
abbrev signT (s : Bs) : Bs := signOf s signL []
def keyT (t : Bs) : Bool := t == [83, 84, 82, 73, 67, 84] || t == [87, 73, 84, 72, 73, 78] || t == [66, 89] || t == [69, 77, 73, 84] || t == [116, 114, 117, 101] || t == [102, 97, 108, 115, 101]
/-- Is it a name? -/
def nameT (t : Bs) : Bool := decide (1 ≤ t.length) && decide (t.length ≤ 20) && !digB (t.getD 0 0).toNat && !keyT t && t.all fun c => letB c.toNat || digB c.toNat
theorem nameT_eq (t : Bs) : nameB (mk t) = nameT t := by
  unfold nameB nameT keyB keyT
  rw [mk_size, mk_data, Lib.toList_data, mk_data]
/-- A token: its kind, its text, its number, its place. -/
structure Tk where
  k : Int
  t : Bs
  n : Int
  at_ : Nat
/-- The word that s begins with, and how many bytes it has; none: what s begins with is wrong. -/
def wordR (t : Bs) : Option (Int × Bs × Int × Nat) := if nameT t then some (1, t, 0, t.length) else if decide (20 < t.length) then none else some (5, t, 0, t.length)
def wordT (s : Bs) : Option (Int × Bs × Int × Nat) := wordR (s.takeWhile isLd)
def numberR (t : Bs) (h : Bool) : Option (Int × Bs × Int × Nat) :=
  match Lib.parseIntB 64 t with
  | .ok v => if h && decide (1 < t.length) then none else some (2, t, v, t.length)
  | _ => none
def numberT (s : Bs) : Option (Int × Bs × Int × Nat) := numberR (s.takeWhile isDg) (s.head? == some 48)
def quoteR (t : Bs) (m : Nat) : Option (Int × Bs × Int × Nat) := if decide (t.length < m) && decide (t.length ≤ 64) then some (3, t, 0, t.length + 2) else none
def quoteT (s : Bs) : Option (Int × Bs × Int × Nat) := quoteR (s.tail.takeWhile (fun c => c != 39)) s.tail.length
theorem wordR_some {t u : Bs} {k n : Int} {z : Nat} (h : wordR t = some (k, u, n, z)) : (k = 1 ∨ k = 5) ∧ u = t ∧ n = 0 ∧ z = t.length := by
  unfold wordR at h
  split at h
  · simp only [Option.some.injEq, Prod.mk.injEq] at h
    exact ⟨Or.inl h.1.symm, h.2.1.symm, h.2.2.1.symm, h.2.2.2.symm⟩
  · split at h
    · cases h
    · simp only [Option.some.injEq, Prod.mk.injEq] at h
      exact ⟨Or.inr h.1.symm, h.2.1.symm, h.2.2.1.symm, h.2.2.2.symm⟩
theorem numberR_some {t u : Bs} {b : Bool} {k n : Int} {z : Nat} (h : numberR t b = some (k, u, n, z)) : k = 2 ∧ u = t ∧ Lib.parseIntB 64 t = .ok n ∧ z = t.length := by
  unfold numberR at h
  split at h
  · rename_i v hv
    split at h
    · cases h
    · simp only [Option.some.injEq, Prod.mk.injEq] at h
      exact ⟨h.1.symm, h.2.1.symm, by rw [hv, h.2.2.1], h.2.2.2.symm⟩
  · cases h
theorem quoteR_some {t u : Bs} {m : Nat} {k n : Int} {z : Nat} (h : quoteR t m = some (k, u, n, z)) : k = 3 ∧ u = t ∧ n = 0 ∧ z = t.length + 2 ∧ t.length < m ∧ t.length ≤ 64 := by
  unfold quoteR at h
  split at h
  · rename_i hq
    simp only [Bool.and_eq_true, decide_eq_true_eq] at hq
    simp only [Option.some.injEq, Prod.mk.injEq] at h
    exact ⟨h.1.symm, h.2.1.symm, h.2.2.1.symm, h.2.2.2.symm, hq⟩
  · cases h
def signTk (s : Bs) : Option (Int × Bs × Int × Nat) :=
  if (signT s).length == 0 then none else some (4, signT s, 0, (signT s).length)
theorem signTk_some {s u : Bs} {k n : Int} {z : Nat} (h : signTk s = some (k, u, n, z)) : k = 4 ∧ u = signT s ∧ n = 0 ∧ z = (signT s).length ∧ (signT s).length ≠ 0 := by
  unfold signTk at h
  split at h
  · cases h
  · rename_i hz
    simp only [Option.some.injEq, Prod.mk.injEq] at h
    exact ⟨h.1.symm, h.2.1.symm, h.2.2.1.symm, h.2.2.2.symm, by simpa using hz⟩
def firstT : Bs → Option (Int × Bs × Int × Nat)
  | [] => none
  | c :: r => if isLt c then wordT (c :: r) else if isDg c then numberT (c :: r) else if c = 39 then quoteT (c :: r) else signTk (c :: r)
/-- The words from place p on: or the place of the first that is wrong. -/
def lexR : Nat → Bs → Nat → Except Nat (List Tk)
  | 0, _, p => .error p
  | f + 1, s, p =>
    match s with
    | [] => .ok []
    | c :: r =>
      if isSp c then lexR f r (p + 1)
      else match firstT (c :: r) with
        | none => .error p
        | some (k, t, n, z) =>
          match lexR f ((c :: r).drop z) (p + z) with
          | .error q => .error q
          | .ok L => .ok (⟨k, t, n, p⟩ :: L)
abbrev lexL (s : Bs) : Except Nat (List Tk) := lexR (s.length + 1) s 0
/-- A token as it stands in a text. -/
def raw (t : Tk) : Bs := if t.k = 3 then 39 :: (t.t ++ [39]) else t.t

theorem isLd_eq (c : UInt8) : isLd c = (isLt c || isDg c) := rfl
theorem takeWhile_len {p : UInt8 → Bool} : ∀ s : Bs, (s.takeWhile p).length ≤ s.length
  | [] => Nat.le_refl _
  | c :: r => by
    simp only [List.takeWhile_cons]
    split
    · simp; exact takeWhile_len r
    · simp
theorem takeWhile_take {p : UInt8 → Bool} : ∀ s : Bs, s.take (s.takeWhile p).length = s.takeWhile p
  | [] => rfl
  | c :: r => by
    simp only [List.takeWhile_cons]
    split
    · simp [takeWhile_take r]
    · simp
theorem signOf_cons (s g : Bs) (ss : List Bs) (b : Bs) : signOf s (g :: ss) b = signOf s ss (if g.isPrefixOf s && decide (b.length < g.length) then g else b) := rfl
theorem signOf_cases (s : Bs) : ∀ (ss : List Bs) (b : Bs), signOf s ss b = b ∨ (signOf s ss b ∈ ss ∧ (signOf s ss b).isPrefixOf s = true)
  | [], b => Or.inl rfl
  | g :: ss, b => by
    rw [signOf_cons]
    by_cases h : (g.isPrefixOf s && decide (b.length < g.length)) = true
    · rw [if_pos h]
      simp only [Bool.and_eq_true, decide_eq_true_eq] at h
      rcases signOf_cases s ss g with h1 | ⟨h1, h2⟩
      · rw [h1]; exact Or.inr ⟨List.mem_cons_self .., h.1⟩
      · exact Or.inr ⟨List.mem_cons_of_mem _ h1, h2⟩
    · rw [if_neg h]
      rcases signOf_cases s ss b with h1 | ⟨h1, h2⟩
      · exact Or.inl h1
      · exact Or.inr ⟨List.mem_cons_of_mem _ h1, h2⟩
theorem signOf_congr {s s' : Bs} : ∀ (ss : List Bs) (b : Bs), (∀ g ∈ ss, g.isPrefixOf s = g.isPrefixOf s') → signOf s ss b = signOf s' ss b
  | [], b, _ => rfl
  | g :: ss, b, h => by
    rw [signOf_cons, signOf_cons, h g (List.mem_cons_self ..)]
    exact signOf_congr ss _ (fun x hx => h x (List.mem_cons_of_mem _ hx))
theorem prefix_take {g s : Bs} (h : g.isPrefixOf s = true) : s.take g.length = g := by
  rw [List.isPrefixOf_iff_prefix] at h
  exact (List.prefix_iff_eq_take.1 h).symm
theorem prefix_len {g s : Bs} (h : g.isPrefixOf s = true) : g.length ≤ s.length := by
  rw [List.isPrefixOf_iff_prefix] at h
  exact h.length_le
theorem signT_take (s : Bs) : s.take (signT s).length = signT s ∧ (signT s).length ≤ s.length := by
  rcases signOf_cases s signL [] with h | ⟨_, h⟩
  · show s.take (signOf s signL []).length = signOf s signL [] ∧ (signOf s signL []).length ≤ _
    rw [h]; exact ⟨rfl, Nat.zero_le _⟩
  · exact ⟨prefix_take h, prefix_len h⟩
theorem takeWhile_all {p : UInt8 → Bool} : ∀ (s : Bs), ∀ c ∈ s.takeWhile p, p c = true
  | [], c, h => by cases h
  | d :: r, c, h => by
    simp only [List.takeWhile_cons] at h
    split at h
    · rcases List.mem_cons.1 h with rfl | h
      · assumption
      · exact takeWhile_all r c h
    · cases h
theorem firstT_cons (c : UInt8) (r : Bs) : firstT (c :: r) = if isLt c then wordT (c :: r) else if isDg c then numberT (c :: r) else if c = 39 then quoteT (c :: r) else signTk (c :: r) := rfl
theorem quote_split (r : Bs) (h : (r.takeWhile (fun c => c != 39)).length < r.length) : ∃ q, r = r.takeWhile (fun c => c != 39) ++ 39 :: q := by
  have h1 := List.takeWhile_append_dropWhile (p := fun c => c != (39 : UInt8)) (l := r)
  have h2 : r.dropWhile (fun c => c != (39 : UInt8)) ≠ [] := by
    intro e
    have h3 := congrArg List.length h1
    rw [List.length_append, e] at h3
    simp at h3
    omega
  obtain ⟨d, q, hd⟩ := List.exists_cons_of_ne_nil h2
  have h3 : d = 39 := by
    have := List.head_dropWhile_not (p := fun c => c != (39 : UInt8)) (l := r) h2
    simp [hd] at this
    exact this
  rw [hd, h3] at h1
  exact ⟨q, h1.symm⟩
/-- The four kinds of words. -/
theorem firstT_cases {c : UInt8} {r : Bs} {k n : Int} {t : Bs} {z : Nat} (h : firstT (c :: r) = some (k, t, n, z)) :
    (isLt c = true ∧ (k = 1 ∨ k = 5) ∧ t = (c :: r).takeWhile isLd ∧ n = 0 ∧ z = t.length) ∨
    (isLt c = false ∧ isDg c = true ∧ k = 2 ∧ t = (c :: r).takeWhile isDg ∧ Lib.parseIntB 64 t = .ok n ∧ z = t.length) ∨
    (c = 39 ∧ k = 3 ∧ t = r.takeWhile (fun c => c != 39) ∧ n = 0 ∧ z = t.length + 2 ∧ t.length < r.length ∧ t.length ≤ 64) ∨
    (isLt c = false ∧ isDg c = false ∧ c ≠ 39 ∧ k = 4 ∧ t = signT (c :: r) ∧ n = 0 ∧ z = t.length ∧ t ∈ signL) := by
  rw [firstT_cons] at h
  by_cases h1 : isLt c = true
  · rw [if_pos h1] at h
    obtain ⟨a, rfl, b, d⟩ := wordR_some h
    exact Or.inl ⟨h1, a, rfl, b, d⟩
  · rw [if_neg h1] at h
    by_cases h2 : isDg c = true
    · rw [if_pos h2] at h
      obtain ⟨a, rfl, b, d⟩ := numberR_some h
      exact Or.inr (Or.inl ⟨by simpa using h1, h2, a, rfl, b, d⟩)
    · rw [if_neg h2] at h
      by_cases h3 : c = 39
      · rw [if_pos h3] at h
        obtain ⟨a, rfl, b, d, e, f⟩ := quoteR_some h
        exact Or.inr (Or.inr (Or.inl ⟨h3, a, rfl, b, d, e, f⟩))
      · rw [if_neg h3] at h
        obtain ⟨a, rfl, b, d, e⟩ := signTk_some h
        refine Or.inr (Or.inr (Or.inr ⟨by simpa using h1, by simpa using h2, h3, a, rfl, b, d, ?_⟩))
        rcases signOf_cases (c :: r) signL [] with h5 | ⟨h5, _⟩
        · exact absurd (by show (signOf (c :: r) signL []).length = 0; rw [h5]; rfl) e
        · exact h5
/-- What a word is: the bytes that stand there; at least one. -/
theorem firstT_raw {s : Bs} {k n : Int} {t : Bs} {z : Nat} (h : firstT s = some (k, t, n, z)) (p : Nat) : s.take z = raw ⟨k, t, n, p⟩ ∧ 0 < z ∧ z ≤ s.length ∧ z = (raw ⟨k, t, n, p⟩).length := by
  have fin : ∀ (u : Bs), k ≠ 3 → s.take u.length = u → 0 < u.length → u.length ≤ s.length → t = u → z = u.length → s.take z = raw ⟨k, t, n, p⟩ ∧ 0 < z ∧ z ≤ s.length ∧ z = (raw ⟨k, t, n, p⟩).length := by
    rintro u h3 h1 h2 h4 rfl rfl
    unfold raw
    simp only [if_neg h3]
    exact ⟨h1, h2, h4, trivial⟩
  cases s with
  | nil => cases h
  | cons c r =>
    rcases firstT_cases h with ⟨hc, hk, ht, _, hz⟩ | ⟨_, hc, hk, ht, _, hz⟩ | ⟨hc, hk, ht, _, hz, hl, _⟩ | ⟨_, _, _, hk, ht, _, hz, hm⟩
    · have hp : 0 < ((c :: r).takeWhile isLd).length := by
        rw [List.takeWhile_cons, isLd_eq, hc]; simp
      exact fin _ (by rcases hk with rfl | rfl <;> decide) (takeWhile_take _) hp (takeWhile_len _) ht (by rw [hz, ht])
    · have hp : 0 < ((c :: r).takeWhile isDg).length := by
        rw [List.takeWhile_cons, hc]; simp
      exact fin _ (by rw [hk]; decide) (takeWhile_take _) hp (takeWhile_len _) ht (by rw [hz, ht])
    · obtain ⟨q, hq⟩ := quote_split r (by rw [← ht]; exact hl)
      rw [← ht] at hq
      subst hc hk hz
      unfold raw
      simp only [if_pos]
      refine ⟨?_, by omega, by simp only [List.length_cons]; omega, by simp⟩
      rw [hq]
      show 39 :: (t ++ 39 :: q).take (t.length + 1) = _
      rw [show t ++ (39 : UInt8) :: q = (t ++ [39]) ++ q by simp, List.take_append_of_le_length (by simp), List.take_of_length_le (by simp)]
    · exact fin _ (by rw [hk]; decide) (signT_take _).1 (by have := (show ∀ g ∈ signL, 1 ≤ g.length by decide) _ hm; rw [← ht]; omega) (signT_take _).2 ht (by rw [hz, ht])
theorem takeWhile_ext {p : UInt8 → Bool} {x r : Bs} (hx : ∀ c ∈ x, p c = true) (hr : r = [] ∨ ∃ q, r = 32 :: q) (h32 : p 32 = false) : (x ++ r).takeWhile p = x := by
  rw [List.takeWhile_append_of_pos hx]
  rcases hr with rfl | ⟨q, rfl⟩
  · simp
  · rw [List.takeWhile_cons, h32]; simp
theorem takeWhile_app {p : UInt8 → Bool} : ∀ {s : Bs} (u : Bs), (s.takeWhile p).length < s.length → (s ++ u).takeWhile p = s.takeWhile p
  | [], u, h => by simp at h
  | c :: r, u, h => by
    rw [List.cons_append, List.takeWhile_cons, List.takeWhile_cons]
    by_cases hc : p c = true
    · rw [if_pos hc, if_pos hc, takeWhile_app u (by rw [List.takeWhile_cons, if_pos hc] at h; simpa using h)]
    · rw [if_neg hc, if_neg hc]
/-- A text that ends with a space. -/
def EndSp (s : Bs) : Prop := ∃ a c, s = a ++ [c] ∧ isSp c = true
theorem sp_or {c : UInt8} (h : isSp c = true) : c = 9 ∨ c = 10 ∨ c = 13 ∨ c = 32 := by
  simp only [isSp, Bool.or_eq_true, beq_iff_eq] at h
  rcases h with ((h | h) | h) | h
  · exact Or.inl h
  · exact Or.inr (Or.inl h)
  · exact Or.inr (Or.inr (Or.inl h))
  · exact Or.inr (Or.inr (Or.inr h))
theorem EndSp.tw {s : Bs} (h : EndSp s) {p : UInt8 → Bool} (hp : ∀ c, isSp c = true → p c = false) : (s.takeWhile p).length < s.length := by
  obtain ⟨a, c, rfl, hc⟩ := h
  have h1 := takeWhile_len (p := p) (a ++ [c])
  rcases Nat.lt_or_ge ((a ++ [c]).takeWhile p).length (a ++ [c]).length with h2 | h2
  · exact h2
  · have h3 := takeWhile_take (p := p) (a ++ [c])
    rw [List.take_of_length_le h2] at h3
    have := takeWhile_all (p := p) (a ++ [c]) c (by rw [← h3]; simp)
    rw [hp c hc] at this
    cases this
theorem sp_ld {c : UInt8} (h : isSp c = true) : isLd c = false := by rcases sp_or h with rfl | rfl | rfl | rfl <;> decide
theorem sp_dg {c : UInt8} (h : isSp c = true) : isDg c = false := by rcases sp_or h with rfl | rfl | rfl | rfl <;> decide
theorem EndSp.tail {c : UInt8} {r : Bs} (h : EndSp (c :: r)) : r = [] ∨ EndSp r := by
  obtain ⟨a, d, e, hd⟩ := h
  cases a with
  | nil => simp at e; exact Or.inl e.2
  | cons x a => simp at e; exact Or.inr ⟨a, d, e.2, hd⟩
theorem EndSp.drop {s : Bs} (h : EndSp s) (z : Nat) : s.drop z = [] ∨ EndSp (s.drop z) := by
  induction z generalizing s with
  | zero => exact Or.inr h
  | succ z ih =>
    cases s with
    | nil => exact Or.inl rfl
    | cons c r =>
      rcases h.tail with rfl | h
      · exact Or.inl (by simp)
      · exact ih h
theorem sign_nosp : ∀ g ∈ signL, ∀ c ∈ g, isSp c = false := by decide
theorem sign_len : ∀ g ∈ signL, 1 ≤ g.length ∧ g.length ≤ 2 := by decide
theorem sign_app {s u : Bs} (h : EndSp s) : signT (s ++ u) = signT s := by
  refine signOf_congr _ _ (fun g hg => ?_)
  rw [Bool.eq_iff_iff, List.isPrefixOf_iff_prefix, List.isPrefixOf_iff_prefix]
  constructor
  · intro hp
    rcases Nat.lt_or_ge s.length g.length with hl | hl
    · exfalso
      obtain ⟨a, c, rfl, hc⟩ := h
      have h2 : (a ++ [c]) <+: g := List.prefix_of_prefix_length_le (List.prefix_append _ _) hp (Nat.le_of_lt hl)
      have := sign_nosp g hg c (h2.subset (by simp))
      rw [hc] at this; cases this
    · exact List.prefix_of_prefix_length_le hp (List.prefix_append _ _) hl
  · intro hp
    exact hp.trans (List.prefix_append _ _)
theorem sign_self : ∀ g ∈ signL, ∀ q : Bs, signT g = g ∧ signT (g ++ 32 :: q) = g := by
  intro g hg q
  simp only [signL, List.mem_cons, List.not_mem_nil, or_false] at hg
  rcases hg with rfl | rfl | rfl | rfl | rfl | rfl | rfl | rfl | rfl | rfl | rfl | rfl | rfl | rfl | rfl | rfl | rfl | rfl | rfl | rfl | rfl | rfl | rfl | rfl | rfl <;> exact ⟨rfl, rfl⟩
/-- A text that ends with a space begins with the word with which it begins, whatever is put behind it. -/
theorem firstT_app {s : Bs} (h : EndSp s) (u : Bs) (hf : firstT s ≠ none) : firstT (s ++ u) = firstT s := by
  have hn : s ≠ [] := by rintro rfl; exact hf rfl
  obtain ⟨c, r, rfl⟩ := List.exists_cons_of_ne_nil hn
  obtain ⟨⟨k, t, n, z⟩, hs⟩ := Option.ne_none_iff_exists'.1 hf
  have hcs := firstT_cases hs
  rw [List.cons_append, firstT_cons, firstT_cons]
  have e : c :: (r ++ u) = (c :: r) ++ u := rfl
  by_cases h1 : isLt c = true
  · rw [if_pos h1, if_pos h1]
    unfold wordT
    rw [e, takeWhile_app u (h.tw (fun c hc => sp_ld hc))]
  · rw [if_neg h1, if_neg h1]
    by_cases h2 : isDg c = true
    · rw [if_pos h2, if_pos h2]
      unfold numberT
      rw [e, takeWhile_app u (h.tw (fun c hc => sp_dg hc))]
      rfl
    · rw [if_neg h2, if_neg h2]
      by_cases h3 : c = 39
      · rw [if_pos h3, if_pos h3]
        rcases hcs with ⟨hc, _⟩ | ⟨_, hc, _⟩ | ⟨_, _, ht, _, _, hl, h64⟩ | ⟨_, _, hc, _⟩
        · exact absurd hc h1
        · exact absurd hc h2
        · rw [ht] at hl h64
          unfold quoteT
          simp only [List.tail_cons]
          rw [takeWhile_app u hl, List.length_append]
          unfold quoteR
          rw [decide_eq_true (show (r.takeWhile (fun c => c != 39)).length < r.length + u.length by omega), decide_eq_true hl]
        · exact absurd h3 hc
      · rw [if_neg h3, if_neg h3]
        unfold signTk
        rw [e, sign_app h]
/-- What a word is, it is wherever it stands, a space or nothing behind it. -/
theorem firstT_ext {s : Bs} {k n : Int} {t : Bs} {z : Nat} (h : firstT s = some (k, t, n, z)) {r : Bs} (hr : r = [] ∨ ∃ q, r = 32 :: q) : firstT (s.take z ++ r) = some (k, t, n, z) := by
  obtain ⟨hraw, hz, hz2, _⟩ := firstT_raw h 0
  cases s with
  | nil => cases h
  | cons c q =>
    obtain ⟨z', rfl⟩ : ∃ z', z = z' + 1 := ⟨z - 1, by omega⟩
    have hcs := firstT_cases h
    rw [firstT_cons] at h
    rw [List.take_succ_cons, List.cons_append, firstT_cons]
    have e : c :: (q.take z' ++ r) = (c :: q).take (z' + 1) ++ r := rfl
    by_cases h1 : isLt c = true
    · rw [if_pos h1] at h ⊢
      rcases hcs with ⟨_, _, ht, _, hz3⟩ | ⟨hc, _⟩ | ⟨hc, _⟩ | ⟨hc, _⟩
      · rw [← h]
        unfold wordT
        rw [e, hz3, ht, takeWhile_take, takeWhile_ext (takeWhile_all _) hr (by decide)]
      · rw [h1] at hc; cases hc
      · subst hc; exact absurd h1 (by decide)
      · rw [h1] at hc; cases hc
    · rw [if_neg h1] at h ⊢
      by_cases h2 : isDg c = true
      · rw [if_pos h2] at h ⊢
        rcases hcs with ⟨hc, _⟩ | ⟨_, _, _, ht, _, hz3⟩ | ⟨hc, _⟩ | ⟨_, hc, _⟩
        · exact absurd hc h1
        · have e2 : (c :: (q.take z' ++ r)).head? = (c :: q).head? := rfl
          rw [← h]
          unfold numberT
          rw [e2, e, hz3, ht, takeWhile_take, takeWhile_ext (takeWhile_all _) hr (by decide)]
        · subst hc; exact absurd h2 (by decide)
        · rw [h2] at hc; cases hc
      · rw [if_neg h2] at h ⊢
        by_cases h3 : c = 39
        · rw [if_pos h3] at h ⊢
          rcases hcs with ⟨hc, _⟩ | ⟨_, hc, _⟩ | ⟨_, hk, ht, hn, hz3, hl, h64⟩ | ⟨_, _, hc, _⟩
          · exact absurd hc h1
          · exact absurd hc h2
          · subst h3 hk hn
            have h5 := hraw
            unfold raw at h5
            simp only [if_pos, List.take_succ_cons, List.cons.injEq, true_and] at h5
            have h6 : ∀ x ∈ t, (x != 39) = true := by rw [ht]; exact takeWhile_all _
            have h7 : (t ++ 39 :: r).takeWhile (fun c => c != 39) = t := by
              rw [List.takeWhile_append_of_pos h6]
              simp
            unfold quoteT
            simp only [List.tail_cons]
            rw [h5, List.append_assoc, List.singleton_append, h7]
            unfold quoteR
            rw [decide_eq_true (show t.length < (t ++ 39 :: r).length by simp), decide_eq_true h64, hz3]
            rfl
          · exact absurd h3 hc
        · rw [if_neg h3] at h ⊢
          rcases hcs with ⟨hc, _⟩ | ⟨_, hc, _⟩ | ⟨hc, _⟩ | ⟨_, _, _, hk, ht, hn, hz3, hm⟩
          · exact absurd hc h1
          · exact absurd hc h2
          · exact absurd hc h3
          · subst hk hn
            have hs : (c :: q).take (z' + 1) = t := by rw [hz3, ht]; exact (signT_take _).1
            have h6 : signT (t ++ r) = t := by
              rcases hr with rfl | ⟨q', rfl⟩
              · rw [List.append_nil]; exact (sign_self _ hm []).1
              · exact (sign_self _ hm q').2
            have h7 : t.length ≠ 0 := by have := sign_len _ hm; omega
            unfold signTk
            rw [e, hs, h6, if_neg (by simpa using h7), hz3]
theorem lexR_nil (f p : Nat) : lexR (f + 1) [] p = .ok [] := rfl
theorem lexR_sp (f p : Nat) {c : UInt8} (r : Bs) (h : isSp c = true) : lexR (f + 1) (c :: r) p = lexR f r (p + 1) := by
  show (if isSp c then lexR f r (p + 1) else _) = _
  rw [if_pos h]
theorem lexR_no (f p : Nat) {c : UInt8} {r : Bs} (h : isSp c = false) (h1 : firstT (c :: r) = none) : lexR (f + 1) (c :: r) p = .error p := by
  show (if isSp c then lexR f r (p + 1) else match firstT (c :: r) with | none => .error p | some (k, t, n, z) => _) = _
  rw [if_neg (by rw [h]; decide), h1]
theorem lexR_one (f p : Nat) {c : UInt8} {r : Bs} (h : isSp c = false) {k n : Int} {t : Bs} {z : Nat} (h1 : firstT (c :: r) = some (k, t, n, z)) :
    lexR (f + 1) (c :: r) p = match lexR f ((c :: r).drop z) (p + z) with | .error q => .error q | .ok L => .ok (⟨k, t, n, p⟩ :: L) := by
  show (if isSp c then lexR f r (p + 1) else match firstT (c :: r) with | none => .error p | some (k, t, n, z) => _) = _
  rw [if_neg (by rw [h]; decide), h1]
/-- A word is a word wherever it stands. -/
def GoodT (x : Tk) : Prop := ∃ c r z, isSp c = false ∧ firstT (c :: r) = some (x.k, x.t, x.n, z)
theorem lexR_ok {f : Nat} : ∀ {s : Bs} {p : Nat} {L : List Tk}, lexR f s p = .ok L → ∀ x ∈ L, GoodT x := by
  induction f with
  | zero => intro s p L h; cases h
  | succ f ih =>
    intro s p L h
    cases s with
    | nil => rw [lexR_nil] at h; cases h; intro x hx; cases hx
    | cons c r =>
      cases hc : isSp c with
      | true => rw [lexR_sp f p r hc] at h; exact ih h
      | false =>
        cases hf : firstT (c :: r) with
        | none => rw [lexR_no f p hc hf] at h; cases h
        | some y =>
          obtain ⟨k, t, n, z⟩ := y
          rw [lexR_one f p hc hf] at h
          cases hl : lexR f ((c :: r).drop z) (p + z) with
          | error q => rw [hl] at h; cases h
          | ok L' =>
            rw [hl] at h
            cases h
            intro x hx
            rcases List.mem_cons.1 hx with rfl | hx
            · exact ⟨c, r, z, hc, hf⟩
            · exact ih hl x hx
/-- Where the words of s stand, from place e on. -/
def PlAt (s : Bs) (e : Nat) : List Tk → Prop
  | [] => e ≤ s.length ∧ ∀ k c, e ≤ k → s[k]? = some c → isSp c = true
  | x :: L => e ≤ x.at_ ∧ x.at_ + (raw x).length ≤ s.length ∧ (s.drop x.at_).take (raw x).length = raw x ∧ (∀ k c, e ≤ k → k < x.at_ → s[k]? = some c → isSp c = true) ∧ PlAt s (x.at_ + (raw x).length) L
theorem PlAt.back {s : Bs} {p : Nat} {c : UInt8} (hc : s[p]? = some c) (hs : isSp c = true) : ∀ {L : List Tk}, PlAt s (p + 1) L → PlAt s p L
  | [], ⟨h1, h2⟩ => ⟨by omega, fun k d hk hd => by
      rcases Nat.eq_or_lt_of_le hk with rfl | hk
      · rw [hc] at hd; cases hd; exact hs
      · exact h2 k d hk hd⟩
  | x :: L, ⟨h1, h2, h3, h4, h5⟩ => ⟨by omega, h2, h3, fun k d hk hk2 hd => by
      rcases Nat.eq_or_lt_of_le hk with rfl | hk
      · rw [hc] at hd; cases hd; exact hs
      · exact h4 k d hk hk2 hd, h5⟩
theorem lexR_pl (S : Bs) {f : Nat} : ∀ {p : Nat} {L : List Tk}, p ≤ S.length → lexR f (S.drop p) p = .ok L → PlAt S p L := by
  induction f with
  | zero => intro p L _ h; cases h
  | succ f ih =>
    intro p L hp h
    cases hd : S.drop p with
    | nil =>
      rw [hd, lexR_nil] at h; cases h
      have : S.length ≤ p := by have := congrArg List.length hd; rw [List.length_drop] at this; simp at this; omega
      exact ⟨hp, fun k c hk hc => by rw [List.getElem?_eq_none (by omega)] at hc; cases hc⟩
    | cons c r =>
      have hlt : p < S.length := by have := congrArg List.length hd; rw [List.length_drop] at this; simp at this; omega
      have hc0 : S[p]? = some c := by have := congrArg (·[0]?) hd; simpa [List.getElem?_drop] using this
      have hr : S.drop (p + 1) = r := by rw [← List.drop_drop, hd]; rfl
      cases hc : isSp c with
      | true =>
        rw [hd, lexR_sp f p r hc, ← hr] at h
        exact (ih (by omega) h).back hc0 hc
      | false =>
        rw [hd] at h
        cases hf : firstT (c :: r) with
        | none => rw [lexR_no f p hc hf] at h; cases h
        | some y =>
          obtain ⟨k, t, n, z⟩ := y
          obtain ⟨hw, hz0, hz1, hz2⟩ := firstT_raw hf p
          rw [lexR_one f p hc hf, ← hd, List.drop_drop] at h
          have hz3 : p + z ≤ S.length := by have := congrArg List.length hd; rw [List.length_drop] at this; omega
          cases hl : lexR f (S.drop (p + z)) (p + z) with
          | error q => rw [hl] at h; cases h
          | ok L' =>
            rw [hl] at h
            cases h
            refine ⟨Nat.le_refl _, by rw [← hz2]; exact hz3, by rw [← hz2, hd]; exact hw, fun k c h1 h2 => absurd h2 (Nat.not_lt.2 h1), ?_⟩
            rw [← hz2]
            exact ih hz3 hl
/-- Behind a text that ends with a space, or nothing, what is wrong is wrong where it stands. -/
theorem lexR_bad {c' : UInt8} {r' : Bs} (hc' : isSp c' = false) (hb : firstT (c' :: r') = none) {f : Nat} : ∀ {s : Bs} {p : Nat} {L : List Tk}, lexR f s p = .ok L → (s = [] ∨ EndSp s) → ∀ {f' : Nat}, (s ++ c' :: r').length < f' → lexR f' (s ++ c' :: r') p = .error (p + s.length) := by
  induction f with
  | zero => intro s p L h; cases h
  | succ f ih =>
    intro s p L h he f' hf'
    obtain ⟨g, rfl⟩ : ∃ g, f' = g + 1 := ⟨f' - 1, by omega⟩
    cases s with
    | nil => exact lexR_no g p hc' hb
    | cons c r =>
      have he' : EndSp (c :: r) := he.resolve_left (by simp)
      rw [List.cons_append]
      rw [List.cons_append, List.length_cons] at hf'
      cases hc : isSp c with
      | true =>
        rw [lexR_sp f p r hc] at h
        rw [lexR_sp g p _ hc, ih h he'.tail (by omega), List.length_cons]
        congr 1; omega
      | false =>
        cases hf : firstT (c :: r) with
        | none => rw [lexR_no f p hc hf] at h; cases h
        | some y =>
          obtain ⟨k, t, n, z⟩ := y
          obtain ⟨_, hz0, hz1, _⟩ := firstT_raw hf p
          have hf2 : firstT (c :: (r ++ c' :: r')) = some (k, t, n, z) := by
            rw [← List.cons_append, firstT_app he' _ (by rw [hf]; simp), hf]
          rw [lexR_one f p hc hf] at h
          rw [lexR_one g p hc hf2, ← List.cons_append, List.drop_append_of_le_length hz1]
          cases hl : lexR f ((c :: r).drop z) (p + z) with
          | error q => rw [hl] at h; cases h
          | ok L' =>
            rw [ih hl (he'.drop z) (by rw [List.length_append, List.length_drop] at *; simp only [List.length_cons, List.length_append] at *; omega)]
            simp only
            congr 1
            rw [List.length_drop]; omega
/-- The words' text. -/
def putT : List Tk → Bs
  | [] => []
  | [x] => raw x
  | x :: y :: L => raw x ++ 32 :: putT (y :: L)
/-- .. and where they stand in it. -/
def place : Nat → List Tk → List Tk
  | _, [] => []
  | p, x :: L => { x with at_ := p } :: place (p + (raw x).length + 1) L
theorem place_len : ∀ (L : List Tk) (p : Nat), (place p L).length = L.length
  | [], _ => rfl
  | x :: L, p => congrArg (· + 1) (place_len L _)
theorem raw_at (x : Tk) (p : Nat) : raw { x with at_ := p } = raw x := rfl
theorem putT_place : ∀ (L : List Tk) (p : Nat), putT (place p L) = putT L
  | [], _ => rfl
  | [x], _ => rfl
  | x :: y :: L, p => by
    show raw x ++ 32 :: putT (place (p + (raw x).length + 1) (y :: L)) = _
    rw [putT_place (y :: L)]; rfl
theorem good_cut {x : Tk} (h : GoodT x) (p : Nat) {r : Bs} (hr : r = [] ∨ ∃ q, r = 32 :: q) : ∃ c u, raw x = c :: u ∧ isSp c = false ∧ firstT (raw x ++ r) = some (x.k, x.t, x.n, (raw x).length) ∧ 0 < (raw x).length := by
  obtain ⟨c, q, z, hc, hf⟩ := h
  obtain ⟨hw, hz0, hz1, hz2⟩ := firstT_raw hf x.at_
  have hx : raw ⟨x.k, x.t, x.n, x.at_⟩ = raw x := rfl
  rw [hx] at hw hz2
  obtain ⟨z', rfl⟩ : ∃ z', z = z' + 1 := ⟨z - 1, by omega⟩
  have h1 := firstT_ext hf hr
  rw [hw, hz2] at h1
  exact ⟨c, q.take z', by rw [← hw]; rfl, hc, h1, by omega⟩
theorem lexR_put {L : List Tk} : (∀ x ∈ L, GoodT x) → ∀ {p f : Nat}, (putT L).length < f → lexR f (putT L) p = .ok (place p L) := by
  induction L with
  | nil => intro _ p f hf; obtain ⟨g, rfl⟩ : ∃ g, f = g + 1 := ⟨f - 1, by omega⟩; rfl
  | cons x L ih =>
    intro hg p f hf
    obtain ⟨g, rfl⟩ : ∃ g, f = g + 1 := ⟨f - 1, by omega⟩
    cases L with
    | nil =>
      obtain ⟨c, u, h1, h2, h3, h4⟩ := good_cut (hg x (List.mem_cons_self ..)) p (r := []) (Or.inl rfl)
      rw [List.append_nil] at h3
      show lexR (g + 1) (raw x) p = .ok [{ x with at_ := p }]
      have hgl : 0 < g := by have : (raw x).length < g + 1 := hf; omega
      obtain ⟨g', rfl⟩ : ∃ g', g = g' + 1 := ⟨g - 1, by omega⟩
      rw [h1] at h3 h4 ⊢
      rw [lexR_one _ p h2 h3, List.drop_of_length_le (Nat.le_refl _), lexR_nil]
    | cons y L =>
      obtain ⟨c, u, h1, h2, h3, h4⟩ := good_cut (hg x (List.mem_cons_self ..)) p (r := 32 :: putT (y :: L)) (Or.inr ⟨_, rfl⟩)
      have hl : (raw x ++ 32 :: putT (y :: L)).length < g + 1 := hf
      show lexR (g + 1) (raw x ++ 32 :: putT (y :: L)) p = _
      have hw : lexR (g + 1) (raw x ++ 32 :: putT (y :: L)) p = match lexR g ((raw x ++ 32 :: putT (y :: L)).drop (raw x).length) (p + (raw x).length) with | .error q => .error q | .ok L => .ok (⟨x.k, x.t, x.n, p⟩ :: L) := by
        rw [h1] at h3 ⊢
        exact lexR_one _ p h2 h3
      rw [hw, List.drop_left]
      rw [List.length_append, List.length_cons] at hl
      obtain ⟨g', rfl⟩ : ∃ g', g = g' + 1 := ⟨g - 1, by omega⟩
      rw [lexR_sp g' _ _ (by decide), ih (fun x hx => hg x (List.mem_cons_of_mem _ hx)) (by omega)]
      rfl
theorem lexR_fuel {f : Nat} : ∀ {s : Bs} {p g : Nat}, s.length < f → s.length < g → lexR f s p = lexR g s p := by
  induction f with
  | zero => intro s p g h; omega
  | succ f ih =>
    intro s p g h1 h2
    obtain ⟨g, rfl⟩ : ∃ g', g = g' + 1 := ⟨g - 1, by omega⟩
    cases s with
    | nil => rfl
    | cons c r =>
      rw [List.length_cons] at h1 h2
      cases hc : isSp c with
      | true => rw [lexR_sp f p r hc, lexR_sp g p r hc]; exact ih (by omega) (by omega)
      | false =>
        cases hf : firstT (c :: r) with
        | none => rw [lexR_no f p hc hf, lexR_no g p hc hf]
        | some y =>
          obtain ⟨k, t, n, z⟩ := y
          obtain ⟨_, hz0, hz1, _⟩ := firstT_raw hf p
          rw [lexR_one f p hc hf, lexR_one g p hc hf, ih (s := (c :: r).drop z) (g := g) (by rw [List.length_drop, List.length_cons]; omega) (by rw [List.length_drop, List.length_cons]; omega)]
/-- The words ahead of place k are L. -/
def Cont (S : Bs) (L : List Tk) (k : Nat) : Prop := lexL S = match lexR (S.length - k + 1) (S.drop k) k with
  | .error q => .error q
  | .ok L' => .ok (L ++ L')
theorem Cont.start (S : Bs) : Cont S [] 0 := by
  unfold Cont
  rw [Nat.sub_zero, List.drop_zero]
  cases h : lexR (S.length + 1) S 0 with
  | error q => exact h
  | ok L => exact h
theorem drop_cons {S : Bs} {k : Nat} (h : k < S.length) : S.drop k = S[k]'h :: S.drop (k + 1) := List.drop_eq_getElem_cons h
theorem Cont.sp {S : Bs} {L : List Tk} {k : Nat} (h : Cont S L k) (hk : k < S.length) (hc : isSp (S[k]'hk) = true) : Cont S L (k + 1) := by
  unfold Cont at h ⊢
  rw [h, drop_cons hk, lexR_sp _ _ _ hc, show S.length - k = S.length - (k + 1) + 1 by omega]
theorem Cont.no {S : Bs} {L : List Tk} {k : Nat} (h : Cont S L k) (hk : k < S.length) (hc : isSp (S[k]'hk) = false) (hf : firstT (S.drop k) = none) : lexL S = .error k := by
  unfold Cont at h
  rw [drop_cons hk] at hf h
  rw [h, lexR_no _ _ hc hf]
theorem Cont.one {S : Bs} {L : List Tk} {k : Nat} (h : Cont S L k) (hk : k < S.length) (hc : isSp (S[k]'hk) = false) {kd n : Int} {t : Bs} {z : Nat} (hf : firstT (S.drop k) = some (kd, t, n, z)) : Cont S (L ++ [⟨kd, t, n, k⟩]) (k + z) ∧ k + z ≤ S.length ∧ 0 < z ∧ t.length ≤ S.length := by
  unfold Cont at h ⊢
  obtain ⟨hr, hz0, hz1, hz2⟩ := firstT_raw hf k
  rw [List.length_drop] at hz1
  have htl : t.length ≤ (raw ⟨kd, t, n, k⟩).length := by unfold raw; split <;> simp <;> omega
  refine ⟨?_, by omega, hz0, by omega⟩
  have hd : (S.drop k).drop z = S.drop (k + z) := by rw [List.drop_drop]
  rw [drop_cons hk] at hf hd
  rw [h, drop_cons hk, lexR_one _ _ hc hf, hd, lexR_fuel (f := S.length - k) (g := S.length - (k + z) + 1) (by rw [List.length_drop]; omega) (by rw [List.length_drop]; omega)]
  cases lexR (S.length - (k + z) + 1) (S.drop (k + z)) (k + z) with
  | error q => rfl
  | ok L' => simp
theorem Cont.end_ {S : Bs} {L : List Tk} (h : Cont S L S.length) : lexL S = .ok L := by
  unfold Cont at h
  rw [h, List.drop_length, lexR_nil]
  simp
end Go.Proofs.YtoaallhibgbokaaDoor
