/- What is picked is the next of all: the mathematics. -/
import Derived.Test.YtcggkbopipnnoaaCount
namespace Go.Proofs.Ytcggkbopipnnoaa
open Go.ChangeShapes Go.WideShapes Go.ChangeAt Go.RowKit
set_option linter.unusedVariables false
set_option linter.unusedSimpArgs false

/-- A row of n, by a function. -/
def rm {α : Type} (n : Nat) (f : Nat → α) : List α := (List.range n).map f
theorem rm_len {α : Type} (n : Nat) (f : Nat → α) : (rm n f).length = n := by unfold rm; simp
theorem rm_get {α : Type} (n : Nat) (f : Nat → α) (k : Nat) (hk : k < (rm n f).length) : (rm n f)[k]'hk = f k :=
  (List.getElem_map f (l := List.range n) (h := hk)).trans (by rw [List.getElem_range])
def upd {α : Type} (f : Nat → α) (k : Nat) (x : α) : Nat → α := fun j => if j = k then x else f j
theorem upd_at {α : Type} (f : Nat → α) (k : Nat) (x : α) : upd f k x k = x := if_pos rfl
theorem upd_ne {α : Type} (f : Nat → α) (k j : Nat) (x : α) (h : j ≠ k) : upd f k x j = f j := if_neg h
theorem rm_set {α : Type} (n : Nat) (f : Nat → α) (k : Nat) (x : α) : (rm n f).set k x = rm n (upd f k x) := by
  apply List.ext_getElem
  · simp [rm_len]
  · intro j h1 h2
    rw [List.getElem_set, rm_get, rm_get]
    unfold upd
    by_cases h : k = j
    · subst h; simp
    · rw [if_neg h, if_neg (fun e => h e.symm)]
theorem rm_eq {α : Type} (n : Nat) (f g : Nat → α) (h : ∀ k, k < n → f k = g k) : rm n f = rm n g := by
  unfold rm
  exact List.map_congr_left (fun k hk => h k (by simpa using hk))
theorem rm_succ {α : Type} (n : Nat) (f : Nat → α) : rm (n + 1) f = rm n f ++ [f n] := by
  unfold rm; rw [List.range_succ, List.map_append]; rfl

def lenf (ins : List (List Ev2)) (k : Nat) : Nat := ((ins[k]?).getD []).length
def tmf (ins : List (List Ev2)) (k j : Nat) : Int := ((((ins[k]?).getD [])[j]?).map tmE).getD 0
theorem lenf_at {ins : List (List Ev2)} {k : Nat} (hk : k < ins.length) : lenf ins k = (ins[k]'hk).length := by unfold lenf; simp [hk]
theorem tmf_at {ins : List (List Ev2)} {k j : Nat} (hk : k < ins.length) (hj : j < (ins[k]'hk).length) : tmf ins k j = ((ins[k]'hk)[j]'hj).1 := by unfold tmf; simp [hk, hj]

/-- How many of input k are among the first i. -/
def rd (l : List Pr) (i k : Nat) : Nat := (Mrg.one (k : Int) (l.take i)).length
theorem rd_cnts (l : List Pr) (n i : Nat) : cnts l n i = rm n (fun k => ((rd l i k : Nat) : Int)) := rfl
theorem rd_succ {l : List Pr} {i k : Nat} (hi : i < l.length) : rd l (i + 1) k = rd l i k + if (l[i]'hi).1 = (k : Int) then 1 else 0 := by
  unfold rd
  rw [List.take_succ_eq_append_getElem hi, Mrg.one_app, List.length_append, show [l[i]'hi] = l[i]'hi :: [] from rfl, Mrg.one_cons]
  split <;> simp [Mrg.one]

/-- What All tells, of rising inputs. -/
structure AllOf (ins : List (List Ev2)) (l : List Pr) : Prop where
  next : ∀ (i : Nat) (hi : i < l.length), ∃ k : Nat, k < ins.length ∧ (l[i]'hi).1 = (k : Int) ∧ rd l i k < lenf ins k ∧ (l[i]'hi).2.1 = tmf ins k (rd l i k)
  fin : ∀ k, k < ins.length → rd l l.length k = lenf ins k
  lex : ∀ (i j : Nat) (hi : i < l.length) (hj : j < l.length), i < j → (l[i]'hi).2.1 < (l[j]'hj).2.1 ∨ (l[i]'hi).2.1 = (l[j]'hj).2.1 ∧ (l[i]'hi).1 < (l[j]'hj).1
  up : ∀ k i j, k < ins.length → i < j → j < lenf ins k → tmf ins k i < tmf ins k j
  lo : ∀ k j, k < ins.length → j < lenf ins k → 0 ≤ tmf ins k j ∧ tmf ins k j ≤ 100
theorem allOf {ins : List (List Ev2)} (h : ∀ L ∈ ins, Rises 100 L) : AllOf ins (Mrg.all tmE ins) where
  next := fun i hi => by
    obtain ⟨k, hk, c, hc, e1, e2, e3⟩ := all_next (ins := ins) i hi
    refine ⟨k, hk, e1, ?_, ?_⟩
    · rw [lenf_at hk]; unfold rd; rw [← e2]; exact hc
    · unfold rd; rw [← e2, tmf_at hk hc, ← e3]
  fin := fun k hk => by
    unfold rd; rw [List.take_length, all_count k hk, lenf_at hk]
  lex := fun i j hi hj hij => by
    have := Mrg.all_sorted tmE ins (fun L hL => (h L hL).1)
    exact List.pairwise_iff_getElem.1 this i j hi hj hij
  up := fun k i j hk hij hj => by
    rw [lenf_at hk] at hj
    rw [tmf_at hk hj, tmf_at hk (by omega)]
    exact List.pairwise_iff_getElem.1 (h _ (List.getElem_mem hk)).1 i j (by omega) hj hij
  lo := fun k j hk hj => by
    rw [lenf_at hk] at hj
    rw [tmf_at hk hj]
    exact (h _ (List.getElem_mem hk)).2 _ (List.getElem_mem hj)
theorem AllOf.where_ {ins : List (List Ev2)} {l : List Pr} (h : AllOf ins l) {k : Nat} (hk : k < ins.length) : ∀ (d got : Nat), l.length - got = d → rd l got k < lenf ins k → ∃ (i : Nat) (hi : i < l.length), got ≤ i ∧ (l[i]'hi).1 = (k : Int) ∧ rd l i k = rd l got k
  | 0, got, hd, hr => by
    exfalso
    have h1 := h.fin k hk
    have h2 : rd l got k = rd l l.length k := by unfold rd; rw [List.take_of_length_le (by omega), List.take_length]
    omega
  | d + 1, got, hd, hr => by
    have hg : got < l.length := by omega
    by_cases e : (l[got]'hg).1 = (k : Int)
    · exact ⟨got, hg, Nat.le_refl _, e, rfl⟩
    · have hs := rd_succ (k := k) hg
      rw [if_neg e] at hs
      obtain ⟨i, hi, h1, h2, h3⟩ := AllOf.where_ h hk d (got + 1) (by omega) (by omega)
      exact ⟨i, hi, by omega, h2, by omega⟩

/-- What is known: come, how low, done. -/
structure Core (ins : List (List Ev2)) (l : List Pr) (c : Nat → Nat) (lo : Nat → Int) (dn : Nat → Bool) (got : Nat) : Prop where
  le : got ≤ l.length
  rc : ∀ k, k < ins.length → rd l got k ≤ c k ∧ c k ≤ lenf ins k
  low : ∀ k j, k < ins.length → rd l got k ≤ j → j < lenf ins k → lo k ≤ tmf ins k j
  lb : ∀ k, k < ins.length → 0 ≤ lo k ∧ lo k ≤ 1000
  fin : ∀ k, k < ins.length → dn k = true → c k = lenf ins k
theorem Core.start (ins : List (List Ev2)) {l : List Pr} (h : AllOf ins l) : Core ins l (fun _ => 0) (fun _ => 0) (fun _ => false) 0 where
  le := Nat.zero_le _
  rc := fun k _ => ⟨by simp [rd, Mrg.one], Nat.zero_le _⟩
  low := fun k j hk _ hj => (h.lo k j hk hj).1
  lb := fun k _ => ⟨by omega, by omega⟩
  fin := fun k _ h => by simp at h
theorem Core.comes {ins : List (List Ev2)} {l : List Pr} {c : Nat → Nat} {lo : Nat → Int} {dn : Nat → Bool} {got : Nat} (h : Core ins l c lo dn got) {k : Nat} (hc : c k < lenf ins k) : Core ins l (upd c k (c k + 1)) lo dn got where
  le := h.le
  rc := fun j hj => by
    by_cases e : j = k
    · subst e; rw [upd_at]; have := h.rc j hj; omega
    · rw [upd_ne _ _ _ _ e]; exact h.rc j hj
  low := h.low
  lb := h.lb
  fin := fun j hj hd => by
    by_cases e : j = k
    · subst e; have := h.fin j hj hd; omega
    · rw [upd_ne _ _ _ _ e]; exact h.fin j hj hd
theorem Core.rises {ins : List (List Ev2)} {l : List Pr} {c : Nat → Nat} {lo : Nat → Int} {dn : Nat → Bool} {got : Nat} (h : Core ins l c lo dn got) (hA : AllOf ins l) {k : Nat} (hr : rd l got k = c k) (h1 : c k < lenf ins k → lo k < tmf ins k (c k)) (h2 : lo k < 1000) : Core ins l c (upd lo k (lo k + 1)) dn got where
  le := h.le
  rc := h.rc
  low := fun j i hj hi hi2 => by
    by_cases e : j = k
    · subst e; rw [upd_at]
      have a := h1 (by omega)
      by_cases e2 : i = c j
      · subst e2; omega
      · have := hA.up j (c j) i hj (by omega) hi2; omega
    · rw [upd_ne _ _ _ _ e]; exact h.low j i hj hi hi2
  lb := fun j hj => by
    by_cases e : j = k
    · subst e; rw [upd_at]; have := h.lb j hj; omega
    · rw [upd_ne _ _ _ _ e]; exact h.lb j hj
  fin := h.fin
theorem Core.ends {ins : List (List Ev2)} {l : List Pr} {c : Nat → Nat} {lo : Nat → Int} {dn : Nat → Bool} {got : Nat} (h : Core ins l c lo dn got) (k : Nat) : Core ins l (upd c k (lenf ins k)) lo (upd dn k true) got where
  le := h.le
  rc := fun j hj => by
    by_cases e : j = k
    · subst e; rw [upd_at]; have := h.rc j hj; omega
    · rw [upd_ne _ _ _ _ e]; exact h.rc j hj
  low := h.low
  lb := h.lb
  fin := fun j hj hd => by
    by_cases e : j = k
    · subst e; rw [upd_at]
    · rw [upd_ne _ _ _ _ e] at hd ⊢; exact h.fin j hj hd
theorem Core.picks {ins : List (List Ev2)} {l : List Pr} {c : Nat → Nat} {lo : Nat → Int} {dn : Nat → Bool} {got : Nat} (h : Core ins l c lo dn got) (hA : AllOf ins l) (hg : got < l.length) (q : Nat) (hq : (l[got]'hg).1 = (q : Int)) (hc : rd l got q < c q) : Core ins l c (upd lo q (tmf ins q (rd l got q) + 1)) dn (got + 1) where
  le := hg
  rc := fun j hj => by
    have := h.rc j hj
    rw [rd_succ hg]
    split
    · rename_i e; have : j = q := by omega
      subst this; omega
    · omega
  low := fun j i hj hi hi2 => by
    rw [rd_succ hg] at hi
    by_cases e : j = q
    · subst e; rw [upd_at]; rw [if_pos hq] at hi
      have := hA.up j (rd l got j) i hj (by omega) hi2; omega
    · rw [upd_ne _ _ _ _ e]; exact h.low j i hj (by omega) hi2
  lb := fun j hj => by
    by_cases e : j = q
    · subst e; rw [upd_at]
      have := h.rc j hj
      have := hA.lo j (rd l got j) hj (by omega); omega
    · rw [upd_ne _ _ _ _ e]; exact h.lb j hj
  fin := h.fin
/-- The heads. -/
def hdOf (ins : List (List Ev2)) (r c : Nat → Nat) (lo : Nat → Int) (dn : Nat → Bool) (k : Nat) : Mrg.Hd := (decide (r k < c k), if r k < c k then tmf ins k (r k) else 0, lo k, dn k && decide (r k = c k))
theorem Core.next {ins : List (List Ev2)} {l : List Pr} {c : Nat → Nat} {lo : Nat → Int} {dn : Nat → Bool} {got : Nat} (h : Core ins l c lo dn got) (hA : AllOf ins l) {p : Int} (hp : Mrg.PickIs (rm ins.length (hdOf ins (rd l got) c lo dn)) p) :
    (p = -1 ∧ ((∀ k, k < ins.length → dn k = true) → got = l.length)) ∨ ∃ q : Nat, q < ins.length ∧ p = q ∧ rd l got q < c q ∧ ∃ hg : got < l.length, (l[got]'hg).1 = (q : Int) := by
  have hlen : ∀ k, k < ins.length → k < (rm ins.length (hdOf ins (rd l got) c lo dn)).length := fun k hk => by rw [rm_len]; exact hk
  have hle : got < l.length → ∃ k, k < ins.length ∧ rd l got k < lenf ins k := fun hg => by
    obtain ⟨k, hk, _, h2, _⟩ := hA.next got hg
    exact ⟨k, hk, h2⟩
  have hall : (∀ k, k < ins.length → rd l got k = lenf ins k) → got = l.length := fun he => by
    by_cases hg : got < l.length
    · obtain ⟨k, hk, h2⟩ := hle hg
      have := he k hk; omega
    · have := h.le; omega
  rcases hp with ⟨rfl, hn⟩ | ⟨q, hq, hB, ⟨rfl, hno⟩ | ⟨rfl, j, hj, hh⟩⟩
  · refine Or.inl ⟨rfl, fun hd => hall fun k hk => ?_⟩
    have a := hn k (hlen k hk)
    rw [rm_get] at a
    have b := h.fin k hk (hd k hk)
    have c := h.rc k hk
    simp only [hdOf, decide_eq_false_iff_not] at a
    omega
  · have hqn : q < ins.length := by rw [rm_len] at hq; exact hq
    obtain ⟨_, hB1, hB2⟩ := hB
    have hb1 := hB1
    rw [rm_get] at hb1
    simp only [hdOf, decide_eq_true_eq] at hb1
    have hrc := h.rc q hqn
    have hg : got < l.length := by
      by_cases hg : got < l.length
      · exact hg
      · have e : got = l.length := by have := h.le; omega
        have := hA.fin q hqn
        rw [e] at hb1; rw [e] at hrc; omega
    refine Or.inr ⟨q, hqn, rfl, hb1, hg, ?_⟩
    obtain ⟨k, hk, e1, e2, e3⟩ := hA.next got hg
    by_cases hkq : k = q
    · subst hkq; exact e1
    · exfalso
      obtain ⟨i, hi, hgi, f1, f2⟩ := hA.where_ hqn _ got rfl (by omega)
      have hne : got ≠ i := fun e => by subst e; rw [e1] at f1; omega
      have hlx := hA.lex got i hg hi (by omega)
      obtain ⟨k2, hk2, g1, g2, g3⟩ := hA.next i hi
      obtain rfl : k2 = q := by rw [f1] at g1; omega
      rw [e1, f1, e3, g3, f2] at hlx
      have hno' := hno k (hlen k hk)
      have hbk := hB2 k (hlen k hk)
      rw [rm_get, rm_get] at hno' hbk
      have hlow := h.low k (rd l got k) hk (Nat.le_refl _) e2
      have hrk := h.rc k hk
      by_cases hh : rd l got k < c k
      · simp only [hdOf, if_pos hh, if_pos hb1, decide_eq_true_eq] at hbk
        have := hbk hh
        omega
      · have hd : (dn k && decide (rd l got k = c k)) = false := by
          cases e : dn k with
          | false => rfl
          | true => have := h.fin k hk e; omega
        simp only [hdOf, Mrg.holdsB, hd, if_pos hb1, decide_eq_false hh, Bool.not_false, Bool.true_and, Bool.or_eq_false_iff, decide_eq_false_iff_not, Bool.and_eq_false_iff] at hno'
        omega
  · refine Or.inl ⟨rfl, fun hd => ?_⟩
    exfalso
    have hjn : j < ins.length := by rw [rm_len] at hj; exact hj
    rw [rm_get] at hh
    have a := h.rc j hjn
    have b := h.fin j hjn (hd j hjn)
    simp only [Mrg.holdsB, hdOf, hd j hjn, Bool.true_and] at hh
    by_cases hx : rd l got j < c j
    · simp [hx] at hh
    · have hx2 : rd l got j = c j := by omega
      simp [hx2] at hh
/-- When what is known ends. -/
def Past (n m i : Nat) (dn : Nat → Bool) : Prop := ∀ j, m ≤ j → j < i → dn (j % n) = true
theorem Past.all {n m i : Nat} {dn : Nat → Bool} (h : Past n m i dn) (hn : 0 < n) (hi : m + n ≤ i) (k : Nat) (hk : k < n) : dn k = true := by
  -- the one of m .. m + n - 1 that is k modulo n
  have := h (m + (k + n - m % n) % n) (by omega) (by have := Nat.mod_lt (k + n - m % n) hn; omega)
  have e : (m + (k + n - m % n) % n) % n = k := by
    have hm := Nat.mod_lt m hn
    rw [Nat.add_mod, Nat.mod_mod, ← Nat.add_mod]
    have : m + (k + n - m % n) = k + n + n * (m / n) := by have := Nat.div_add_mod m n; omega
    rw [this, Nat.add_mul_mod_self_left, Nat.add_mod_right, Nat.mod_eq_of_lt hk]
  rw [e] at this; exact this
theorem Past.more {n m i : Nat} {dn : Nat → Bool} (h : Past n m i dn) (h2 : m ≤ i → dn (i % n) = true) : Past n m (i + 1) dn := fun j h1 hj => by
  by_cases e : j = i
  · subst e; exact h2 h1
  · exact h j h1 (by omega)
theorem Past.up {n m i : Nat} {dn : Nat → Bool} (h : Past n m i dn) (k : Nat) : Past n m i (upd dn k true) := fun j h1 hj => by
  unfold upd; split
  · rfl
  · exact h j h1 hj
end Go.Proofs.Ytcggkbopipnnoaa
