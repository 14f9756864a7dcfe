/- Turns by deficits, as lists: the mathematics. -/
import Derived.Test.YtckpecddglfjkaaMem
namespace Go.Proofs.Ytckpecddglfjkaa
set_option linter.unusedVariables false
set_option linter.unusedSimpArgs false

/-- ID, Quantum, Deficit, cost. -/
abbrev Fl := Int × Int × Int × Int
namespace Dr
def costOf : List (Int × Int) → Int → Int
  | [], _ => 0
  | c :: r, id => if c.1 = id then max 0 (min c.2 512) else costOf r id
theorem cost_pos (cs : List (Int × Int)) (id : Int) : 0 ≤ costOf cs id ∧ costOf cs id ≤ 512 := by
  induction cs with
  | nil => simp [costOf]
  | cons c r ih => unfold costOf; split <;> omega
theorem cost_snoc (cs : List (Int × Int)) (c : Int × Int) (id : Int) : costOf (cs ++ [c]) id = if cs.any (fun x => x.1 == id) then costOf cs id else if c.1 = id then max 0 (min c.2 512) else 0 := by
  induction cs with
  | nil => simp [costOf]
  | cons a r ih =>
    rw [List.cons_append, costOf, ih, List.any_cons, costOf]
    by_cases h : a.1 = id
    · rw [if_pos h, if_pos h, if_pos (by simp [h])]
    · have e : (a.1 == id) = false := by simpa using h
      rw [if_neg h, if_neg h, e, Bool.false_or]
def serveF (f : Fl) (fr : Bool) : Bool × Fl × Bool :=
  if f.2.2.2 = 0 then (false, (f.1, f.2.1, 0, f.2.2.2), fr)
  else if (if fr then f.2.2.1 + f.2.1 else f.2.2.1) < f.2.2.2 then (false, (f.1, f.2.1, if fr then f.2.2.1 + f.2.1 else f.2.2.1, f.2.2.2), false)
  else (true, (f.1, f.2.1, (if fr then f.2.2.1 + f.2.1 else f.2.2.1) - f.2.2.2, f.2.2.2), false)
def turn : Nat → List Fl → Bool → Option (List Fl × Bool)
  | 0, _, _ => none
  | _ + 1, [], _ => none
  | n + 1, f :: r, fr => if (serveF f fr).1 then some ((serveF f fr).2.1 :: r, (serveF f fr).2.2) else turn n (r ++ [(serveF f fr).2.1]) true
def priced (cs : List (Int × Int)) (l : List Fl) : List Fl := l.map fun f => (f.1, f.2.1, f.2.2.1, costOf cs f.1)
def ready (l : List Fl) : Bool := l.any fun f => decide (0 < f.2.2.2)
def rest0 (l : List Fl) : List Fl := l.map fun f => (f.1, f.2.1, 0, f.2.2.2)
def rot {α : Type} (l : List α) (c : Nat) : List α := l.drop c ++ l.take c
theorem rot_head {α : Type} (l : List α) (c : Nat) (h : c < l.length) : rot l c = l[c] :: (l.drop (c + 1) ++ l.take c) := by
  unfold rot
  rw [List.drop_eq_getElem_cons h, List.cons_append]
theorem rot_len {α : Type} (l : List α) (c : Nat) : (rot l c).length = l.length := by
  unfold rot
  rw [List.length_append, List.length_drop, List.length_take]; omega
theorem rot_next {α : Type} (l : List α) (c : Nat) (h : c < l.length) : rot l ((c + 1) % l.length) = (l.drop (c + 1) ++ l.take c) ++ [l[c]] := by
  unfold rot
  by_cases h1 : c + 1 < l.length
  · rw [Nat.mod_eq_of_lt h1, List.append_assoc, List.take_succ_eq_append_getElem h]
  · have e : c + 1 = l.length := by omega
    rw [e, Nat.mod_self, List.drop_zero, List.take_zero, List.append_nil, List.drop_length, List.nil_append, ← List.take_succ_eq_append_getElem h, e, List.take_length]
theorem take_set_self {α : Type} (l : List α) (c : Nat) (x : α) : (l.set c x).take c = l.take c := by
  rw [List.take_set]
  exact List.set_eq_of_length_le (by rw [List.length_take]; omega)
theorem rot_set {α : Type} (l : List α) (c : Nat) (h : c < l.length) (x : α) : rot (l.set c x) c = x :: (l.drop (c + 1) ++ l.take c) := by
  rw [rot_head _ _ (by simpa using h)]
  simp [List.drop_set, take_set_self]
theorem rot_set_next {α : Type} (l : List α) (c : Nat) (h : c < l.length) (x : α) : rot (l.set c x) ((c + 1) % l.length) = (l.drop (c + 1) ++ l.take c) ++ [x] := by
  have := rot_next (l.set c x) c (by simpa using h)
  have e : (l.set c x).length = l.length := List.length_set
  simp only [e] at this
  rw [this]
  simp [List.drop_set, take_set_self]
theorem rot_mem {α : Type} (l : List α) (c : Nat) (x : α) : x ∈ rot l c ↔ x ∈ l := by
  unfold rot
  rw [List.mem_append, Or.comm, ← List.mem_append, List.take_append_drop]
theorem rot_map {α β : Type} (f : α → β) (l : List α) (c : Nat) : (rot l c).map f = rot (l.map f) c := by
  unfold rot
  rw [List.map_append, List.map_drop, List.map_take]
theorem rot_filter {α : Type} (p : α → Bool) (l : List α) (c : Nat) : (rot l c).filter p = (l.drop c).filter p ++ (l.take c).filter p := by
  unfold rot
  rw [List.filter_append]
theorem rot_any {α : Type} (p : α → Bool) (l : List α) (c : Nat) : (rot l c).any p = l.any p := by
  unfold rot
  rw [List.any_append, Bool.or_comm, ← List.any_append, List.take_append_drop]
theorem rot_get {α : Type} (l : List α) (c i : Nat) (hc : c < l.length) (hi : i < l.length) : (rot l c)[i]? = l[(c + i) % l.length]? := by
  unfold rot
  by_cases h : c + i < l.length
  · rw [List.getElem?_append_left (by rw [List.length_drop]; omega), List.getElem?_drop, Nat.mod_eq_of_lt h]
  · rw [List.getElem?_append_right (by rw [List.length_drop]; omega), List.length_drop, List.getElem?_take]
    have e : (c + i) % l.length = c + i - l.length := by
      rw [Nat.mod_eq_sub_mod (by omega), Nat.mod_eq_of_lt (by omega)]
    rw [e, if_pos (by omega)]
    congr 1; omega

def OkF (f : Fl) : Prop := 1 ≤ f.2.1 ∧ f.2.1 ≤ 1000 ∧ 0 ≤ f.2.2.1 ∧ 0 ≤ f.2.2.2 ∧ f.2.2.2 ≤ 512 ∧ -9223372036854775808 ≤ f.1 ∧ f.1 ≤ 9223372036854775807
/-- The head is current. -/
def OkD : List Fl → Bool → Prop
  | [], _ => True
  | f :: r, fr => (if fr then f.2.2.1 ≤ 511 else f.2.2.1 < f.2.1 + 512) ∧ ∀ g ∈ r, g.2.2.1 ≤ 511
def OkS (L : List Fl) (fr : Bool) : Prop := (∀ f ∈ L, OkF f) ∧ OkD L fr ∧ (L.map (·.1)).Nodup ∧ L.length ≤ 1000
theorem OkS.nil (fr : Bool) : OkS [] fr := ⟨by simp, trivial, by simp, by simp⟩
theorem serve_ids (f : Fl) (fr : Bool) : (serveF f fr).2.1.1 = f.1 ∧ (serveF f fr).2.1.2.1 = f.2.1 ∧ (serveF f fr).2.1.2.2.2 = f.2.2.2 := by
  unfold serveF
  repeat' split
  all_goals exact ⟨rfl, rfl, rfl⟩
theorem serve_ok {f : Fl} {fr : Bool} (h : OkF f) : OkF (serveF f fr).2.1 := by
  obtain ⟨h1, h2, h3, h4, h5, h6⟩ := h
  unfold serveF OkF
  repeat' split
  all_goals exact ⟨h1, h2, by simp only; omega, h4, h5, h6⟩
theorem serve_no {f : Fl} {fr : Bool} (h : OkF f) (hs : (serveF f fr).1 = false) : (serveF f fr).2.1.2.2.1 ≤ 511 := by
  obtain ⟨h1, h2, h3, h4, h5, h6⟩ := h
  unfold serveF at hs ⊢
  by_cases c0 : f.2.2.2 = 0
  · rw [if_pos c0]; simp
  · rw [if_neg c0] at hs ⊢
    by_cases c1 : (if fr then f.2.2.1 + f.2.1 else f.2.2.1) < f.2.2.2
    · rw [if_pos c1]; simp only; omega
    · rw [if_neg c1] at hs; simp at hs
theorem serve_yes {f : Fl} {fr : Bool} (h : OkF f) (hd : if fr then f.2.2.1 ≤ 511 else f.2.2.1 < f.2.1 + 512) (hs : (serveF f fr).1 = true) : (serveF f fr).2.2 = false ∧ (serveF f fr).2.1.2.2.1 < (serveF f fr).2.1.2.1 + 512 ∧ 0 < f.2.2.2 := by
  obtain ⟨h1, h2, h3, h4, h5, h6⟩ := h
  unfold serveF at hs ⊢
  by_cases c0 : f.2.2.2 = 0
  · rw [if_pos c0] at hs; simp at hs
  · rw [if_neg c0] at hs ⊢
    by_cases c1 : (if fr then f.2.2.1 + f.2.1 else f.2.2.1) < f.2.2.2
    · rw [if_pos c1] at hs; simp at hs
    · rw [if_neg c1]
      refine ⟨rfl, ?_, by omega⟩
      simp only
      cases fr
      · simp only [Bool.false_eq_true, if_false] at hd c1 ⊢; omega
      · simp only [if_true] at hd c1 ⊢; omega
theorem OkS.pass {f : Fl} {r : List Fl} {fr : Bool} (h : OkS (f :: r) fr) (hs : (serveF f fr).1 = false) : OkS (r ++ [(serveF f fr).2.1]) true := by
  obtain ⟨h1, h2, h3, h4⟩ := h
  have hf := h1 f (List.mem_cons_self ..)
  have hall : ∀ g ∈ r ++ [(serveF f fr).2.1], g.2.2.1 ≤ 511 := by
    intro g hg
    rcases List.mem_append.1 hg with hg | hg
    · exact h2.2 g hg
    · obtain rfl : g = _ := by simpa using hg
      exact serve_no hf hs
  refine ⟨fun g hg => ?_, ?_, ?_, by simpa using h4⟩
  · rcases List.mem_append.1 hg with hg | hg
    · exact h1 g (List.mem_cons_of_mem _ hg)
    · obtain rfl : g = _ := by simpa using hg
      exact serve_ok hf
  · cases r with
    | nil => exact ⟨by have := hall _ (List.mem_cons_self ..); simpa using this, by simp⟩
    | cons a r => exact ⟨by have := hall a (List.mem_cons_self ..); simpa using this, fun g hg => hall g (List.mem_cons_of_mem _ hg)⟩
  · rw [List.map_append, List.map_cons, List.map_nil, (serve_ids f fr).1]
    rw [List.map_cons, List.nodup_cons] at h3
    rw [List.nodup_append]
    exact ⟨h3.2, by simp, fun a ha b hb e => h3.1 (by obtain rfl : b = f.1 := by simpa using hb
                                                      rw [← e]; exact ha)⟩
theorem OkS.serve {f : Fl} {r : List Fl} {fr : Bool} (h : OkS (f :: r) fr) (hs : (serveF f fr).1 = true) : OkS ((serveF f fr).2.1 :: r) (serveF f fr).2.2 := by
  obtain ⟨h1, h2, h3, h4⟩ := h
  have hf := h1 f (List.mem_cons_self ..)
  obtain ⟨y1, y2, _⟩ := serve_yes hf h2.1 hs
  refine ⟨fun g hg => ?_, ⟨?_, h2.2⟩, ?_, h4⟩
  · rcases List.mem_cons.1 hg with rfl | hg
    · exact serve_ok hf
    · exact h1 g (List.mem_cons_of_mem _ hg)
  · rw [y1]; simpa using y2
  · rw [List.map_cons, (serve_ids f fr).1]; exact h3
theorem OkS.turn : ∀ {n : Nat} {L : List Fl} {fr : Bool} {S : List Fl × Bool}, OkS L fr → turn n L fr = some S → OkS S.1 S.2
  | 0, _, _, _, _, h => by simp [Dr.turn] at h
  | n + 1, [], _, _, _, h => by simp [Dr.turn] at h
  | n + 1, f :: r, fr, S, hk, h => by
    unfold Dr.turn at h
    by_cases c : (serveF f fr).1 = true
    · rw [if_pos c] at h
      obtain rfl := Option.some.inj h
      exact hk.serve c
    · rw [if_neg c] at h
      exact (hk.pass (by simpa using c)).turn h
theorem turn_len : ∀ {n : Nat} {L : List Fl} {fr : Bool} {S : List Fl × Bool}, turn n L fr = some S → S.1.length = L.length
  | 0, _, _, _, h => by simp [Dr.turn] at h
  | n + 1, [], _, _, h => by simp [Dr.turn] at h
  | n + 1, f :: r, fr, S, h => by
    unfold Dr.turn at h
    by_cases c : (serveF f fr).1 = true
    · rw [if_pos c] at h
      obtain rfl := Option.some.inj h
      rfl
    · rw [if_neg c] at h
      rw [turn_len h]; simp
/-- One who is ready is there: it ends. -/
theorem turn_ends : ∀ (M : Nat) (A : List Fl) (g : Fl) (B : List Fl) (fr : Bool), (∀ f ∈ A ++ g :: B, OkF f) → 0 < g.2.2.2 →
    (g.2.2.2 - g.2.2.1).toNat * (A.length + B.length + 1) + A.length + (if fr then 0 else A.length + B.length + 1) < M → ∃ n S, turn n (A ++ g :: B) fr = some S
  | 0, _, _, _, _, _, _, h => absurd h (Nat.not_lt_zero _)
  | M + 1, [], g, B, fr, hok, hg, h => by
    have hf := hok g (by simp)
    by_cases c : (serveF g fr).1 = true
    · exact ⟨1, _, by simp only [List.nil_append, Dr.turn]; rw [if_pos c]⟩
    · have hokB : ∀ f ∈ B ++ (serveF g fr).2.1 :: [], OkF f := fun x hx => by
        rcases List.mem_append.1 hx with hx | hx
        · exact hok x (by simp [hx])
        · obtain rfl : x = _ := by simpa using hx
          exact serve_ok hf
      have hc := (serve_ids g fr).2.2
      obtain ⟨n, S, hn⟩ := turn_ends M B (serveF g fr).2.1 [] true hokB (by rw [hc]; exact hg) (by
        rw [hc]
        simp only [List.length_nil, Nat.add_zero, if_true, Nat.zero_add] at h ⊢
        obtain ⟨h1, h2, h3, h4, h5, h6⟩ := hf
        unfold serveF at c ⊢
        have c0 : ¬ g.2.2.2 = 0 := by omega
        rw [if_neg c0] at c ⊢
        by_cases c1 : (if fr then g.2.2.1 + g.2.1 else g.2.2.1) < g.2.2.2
        · rw [if_pos c1]
          simp only
          cases fr
          · simp only [Bool.false_eq_true, if_false] at c1 h ⊢; omega
          · simp only [if_true] at c1 h ⊢
            have e : (g.2.2.2 - (g.2.2.1 + g.2.1)).toNat + 1 ≤ (g.2.2.2 - g.2.2.1).toNat := by omega
            have := Nat.mul_le_mul_right (B.length + 1) e
            rw [Nat.add_mul] at this
            omega
        · rw [if_neg c1] at c; exact absurd rfl c)
      exact ⟨n + 1, S, by simp only [List.nil_append, Dr.turn]; rw [if_neg c]; exact hn⟩
  | M + 1, a :: A, g, B, fr, hok, hg, h => by
    have hf := hok a (by simp)
    by_cases c : (serveF a fr).1 = true
    · exact ⟨1, _, by simp only [List.cons_append, Dr.turn]; rw [if_pos c]⟩
    · have hokB : ∀ f ∈ A ++ g :: (B ++ [(serveF a fr).2.1]), OkF f := fun x hx => by
        rcases List.mem_append.1 hx with hx | hx
        · exact hok x (by simp [hx])
        · rcases List.mem_cons.1 hx with rfl | hx
          · exact hok _ (by simp)
          · rcases List.mem_append.1 hx with hx | hx
            · exact hok x (by simp [hx])
            · obtain rfl : x = _ := by simpa using hx
              exact serve_ok hf
      obtain ⟨n, S, hn⟩ := turn_ends M A g (B ++ [(serveF a fr).2.1]) true hokB hg (by
        simp only [List.length_append, List.length_cons, List.length_nil, if_true, Nat.zero_add, Nat.add_zero] at h ⊢
        have e : A.length + (B.length + 1) + 1 = A.length + 1 + B.length + 1 := by omega
        rw [e]
        omega)
      exact ⟨n + 1, S, by simp only [List.cons_append, Dr.turn]; rw [if_neg c, List.append_assoc]; exact hn⟩
theorem turns (L : List Fl) (fr : Bool) (hok : ∀ f ∈ L, OkF f) (hr : ready L = true) : ∃ n S, turn n L fr = some S := by
  unfold ready at hr
  obtain ⟨g, hg, hc⟩ := List.any_eq_true.1 hr
  obtain ⟨A, B, rfl⟩ := List.append_of_mem hg
  exact turn_ends _ A g B fr hok (by simpa using hc) (Nat.lt_succ_self _)
theorem turn_more : ∀ {n : Nat} {L : List Fl} {fr : Bool} {S : List Fl × Bool} (m : Nat), turn n L fr = some S → n ≤ m → turn m L fr = some S
  | 0, _, _, _, _, h, _ => by simp [Dr.turn] at h
  | n + 1, [], _, _, _, h, _ => by simp [Dr.turn] at h
  | n + 1, f :: r, fr, S, 0, h, hm => absurd hm (by omega)
  | n + 1, f :: r, fr, S, m + 1, h, hm => by
    unfold Dr.turn at h ⊢
    by_cases c : (serveF f fr).1 = true
    · rw [if_pos c] at h ⊢; exact h
    · rw [if_neg c] at h ⊢
      exact turn_more m h (by omega)
theorem turn_one {n m : Nat} {L : List Fl} {fr : Bool} {S T : List Fl × Bool} (h : turn n L fr = some S) (k : turn m L fr = some T) : S = T := by
  have h1 := turn_more (n + m) h (by omega)
  have h2 := turn_more (n + m) k (by omega)
  rw [h1] at h2
  exact Option.some.inj h2
end Dr
end Go.Proofs.Ytckpecddglfjkaa
