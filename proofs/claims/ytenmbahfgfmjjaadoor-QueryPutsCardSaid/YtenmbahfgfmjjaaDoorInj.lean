/- What is put of two right trees is alike just if they are the same: mathematics. -/
import Derived.Test.YtenmbahfgfmjjaaDoorQ7
import Derived.Test.YtenmbahfgfmjjaaDoorNumS
import Derived.Lib.IndexLaws

namespace Go.Proofs.YtenmbahfgfmjjaaDoor
open Go.ChangeShapes Go.WideShapes Go.ChangeAt Go.RowKit
set_option linter.unusedVariables false
set_option linter.unusedSimpArgs false

/-- What may stand behind an operand where no operation of level m or above goes on. -/
def Fol (m : Int) (r : List UInt8) : Prop := r = [] ∨ (∃ (c : UInt8) (s : List UInt8), (c = 41 ∨ c = 93 ∨ c = 44) ∧ r = c :: s) ∨ ∃ (op : ByteArray) (s : List UInt8), 0 < lvl op ∧ lvl op < m ∧ r = 32 :: (op.toList ++ 32 :: s)
theorem Fol.mono {m n : Int} {r : List UInt8} (h : Fol m r) (hmn : m ≤ n) : Fol n r := by
  rcases h with h | h | ⟨op, s, h1, h2, h3⟩
  · exact Or.inl h
  · exact Or.inr (Or.inl h)
  · exact Or.inr (Or.inr ⟨op, s, h1, by omega, h3⟩)
theorem lvl_cases {op : ByteArray} (h : 0 < lvl op) : lvl op ≤ 6 ∧ ∀ c ∈ op.toList, c ≠ 32 := by
  rcases op_or op with e | e | e | e | e | e | e | e | e | e | e | e | e | ⟨h0, h1, h2, h3, h4, h5, h6, h7, h8, h9, h10, h11, h12⟩
  all_goals first
    | (exact absurd h (by unfold lvl; rw [if_neg h0, if_neg h1, if_neg h2, if_neg h3, if_neg h4, if_neg h5, if_neg h6, if_neg h7, if_neg h8, if_neg h9, if_neg h10, if_neg h11, if_neg h12]; decide))
    | (refine ⟨by unfold lvl; rw [e]; decide, ?_⟩; rw [e]; decide)
/-- Two lists up to the first byte of a kind. -/
theorem span_inj {p : UInt8 → Bool} : ∀ {a b x y : List UInt8}, (∀ c ∈ a, p c = false) → (∀ c ∈ b, p c = false) → (x = [] ∨ ∃ c s, x = c :: s ∧ p c = true) → (y = [] ∨ ∃ c s, y = c :: s ∧ p c = true) → a ++ x = b ++ y → a = b ∧ x = y
  | [], [], x, y, _, _, _, _, h => ⟨rfl, h⟩
  | [], d :: b, x, y, _, hb, hx, _, h => by
    rcases hx with rfl | ⟨c, s, rfl, hc⟩
    · exact absurd h (by simp)
    · have := (List.cons.inj h).1; subst this
      rw [hb c (by simp)] at hc; cases hc
  | d :: a, [], x, y, ha, _, _, hy, h => by
    rcases hy with rfl | ⟨c, s, rfl, hc⟩
    · exact absurd h (by simp)
    · have := (List.cons.inj h).1; subst this
      rw [ha d (by simp)] at hc; cases hc
  | c :: a, d :: b, x, y, ha, hb, hx, hy, h => by
    obtain ⟨e, h'⟩ := List.cons.inj h
    subst e
    obtain ⟨e1, e2⟩ := span_inj (p := p) (fun z hz => ha z (List.mem_cons_of_mem _ hz)) (fun z hz => hb z (List.mem_cons_of_mem _ hz)) hx hy h'
    exact ⟨by rw [e1], e2⟩
theorem op_inj {op op' : ByteArray} {s s' : List UInt8} (h : 0 < lvl op) (h' : 0 < lvl op') (e : (32 : UInt8) :: (op.toList ++ 32 :: s) = 32 :: (op'.toList ++ 32 :: s')) : op = op' ∧ s = s' := by
  obtain ⟨e1, e2⟩ := span_inj (p := fun c => c == 32) (fun c hc => by simpa using (lvl_cases h).2 c hc) (fun c hc => by simpa using (lvl_cases h').2 c hc) (Or.inr ⟨_, _, rfl, rfl⟩) (Or.inr ⟨_, _, rfl, rfl⟩) (List.cons.inj e).2
  exact ⟨toList_inj e1, (List.cons.inj e2).2⟩

def Tr.atom : Tr → Bool
  | .lit .. => true
  | .ref .. => true
  | .cnt .. => true
  | _ => false
/-- What is parsed: an operand, a whole of some level, what goes on. -/
inductive Md where
  | prim
  | whole (m : Int)
  | on (m : Int) (t : Tr)
/-- How a text is read. -/
inductive PR : Md → List UInt8 → Tr → List UInt8 → Prop
  | br {s : List UInt8} {t : Tr} {r : List UInt8} : PR (.whole 1) s t (41 :: r) → PR .prim (40 :: s) t r
  | un {c : UInt8} {op : ByteArray} {s : List UInt8} {t : Tr} {r : List UInt8} : op.toList = [c] → (c = 45 ∨ c = 33) → PR .prim s t r → PR .prim (c :: s) (.un op t) r
  | atom {t : Tr} {s r : List UInt8} : t.ok = true → t.atom = true → Fol 7 r → s = putT t ++ r → PR .prim s t r
  | ex {m : Int} {s r r' : List UInt8} {t t' : Tr} : PR .prim s t r → PR (.on m t) r t' r' → PR (.whole m) s t' r'
  | stop {m : Int} {t : Tr} {r : List UInt8} : Fol m r → PR (.on m t) r t r
  | more {m : Int} {t u t' : Tr} {op : ByteArray} {s r r1 r' : List UInt8} : 0 < lvl op → m ≤ lvl op → r = 32 :: (op.toList ++ 32 :: s) → PR (.whole (lvl op + 1)) s u r1 → PR (.on m (.bin op t u)) r1 t' r' → PR (.on m t) r t' r'

theorem name_byte {s : ByteArray} (h : nameB s = true) : ∀ c ∈ s.toList, (letB c.toNat || digB c.toNat) = true := by
  unfold nameB at h
  simp only [Bool.and_eq_true, List.all_eq_true] at h
  intro c hc
  rw [Lib.toList_data] at hc
  exact h.2 c hc
theorem name_head {s : ByteArray} (h : nameB s = true) : ∃ c l, s.toList = c :: l ∧ letB c.toNat = true := by
  have hb := name_byte h
  unfold nameB at h
  simp only [Bool.and_eq_true, decide_eq_true_eq] at h
  obtain ⟨⟨⟨⟨h1, _⟩, h3⟩, _⟩, _⟩ := h
  rw [← Lib.toList_data] at h3
  cases hl : s.toList with
  | nil => have := (size_nil s).2 hl; omega
  | cons c l =>
    rw [hl] at h3 hb
    have := hb c (by simp)
    refine ⟨c, l, rfl, ?_⟩
    simp at h3
    rw [h3] at this
    simpa using this
theorem letdig {c : UInt8} (h : (letB c.toNat || digB c.toNat) = true) : (97 ≤ c.toNat ∧ c.toNat ≤ 122) ∨ (65 ≤ c.toNat ∧ c.toNat ≤ 90) ∨ c.toNat = 95 ∨ (48 ≤ c.toNat ∧ c.toNat ≤ 57) := by
  unfold letB digB at h
  simp only [Bool.or_eq_true, Bool.and_eq_true, decide_eq_true_eq] at h
  omega
theorem ne_of_toNat {c : UInt8} {n : Nat} (hn : n < 256) (h : c.toNat ≠ n) : c ≠ UInt8.ofNat n := fun e => h (by rw [e]; simp; omega)

theorem digs (u : Nat) : ∀ c ∈ Lib.decDigits u, 48 ≤ c.toNat ∧ c.toNat ≤ 57 := (numOfDigits_dec u u (Nat.le_refl _)).2.1
theorem itoa_digs {n : Int} (h : 0 ≤ n) : ∀ c ∈ Lib.itoa n, 48 ≤ c.toNat ∧ c.toNat ≤ 57 := by
  unfold Lib.itoa
  rw [if_neg (by omega)]
  exact digs _
def AtomText (l : List UInt8) : Prop := ∃ c q, l = c :: q ∧ c ≠ 40 ∧ c ≠ 45 ∧ c ≠ 33 ∧ ((c = 39 ∧ ∃ z, q = z ++ [39] ∧ ∀ x ∈ z, (x == 39) = false) ∨ (c ≠ 39 ∧ ∀ x ∈ l, (x == 32 || x == 41 || x == 93 || x == 44) = false))
theorem no_stop {x : UInt8} (h : x.toNat = 46 ∨ x.toNat = 35 ∨ (97 ≤ x.toNat ∧ x.toNat ≤ 122) ∨ (65 ≤ x.toNat ∧ x.toNat ≤ 90) ∨ x.toNat = 95 ∨ (48 ≤ x.toNat ∧ x.toNat ≤ 57)) : (x == 32 || x == 41 || x == 93 || x == 44) = false ∧ x ≠ 40 ∧ x ≠ 45 ∧ x ≠ 33 ∧ x ≠ 39 := by
  have h1 : x ≠ 32 := fun e => by subst e; revert h; decide
  have h2 : x ≠ 41 := fun e => by subst e; revert h; decide
  have h3 : x ≠ 93 := fun e => by subst e; revert h; decide
  have h4 : x ≠ 44 := fun e => by subst e; revert h; decide
  refine ⟨by simp [h1, h2, h3, h4], ?_, ?_, ?_, ?_⟩ <;> (intro e; subst e; revert h; decide)
/-- A text whose bytes are letters, digits, points and the like. -/
theorem plain_text {l : List UInt8} (h : l ≠ []) (hb : ∀ x ∈ l, x.toNat = 46 ∨ x.toNat = 35 ∨ (97 ≤ x.toNat ∧ x.toNat ≤ 122) ∨ (65 ≤ x.toNat ∧ x.toNat ≤ 90) ∨ x.toNat = 95 ∨ (48 ≤ x.toNat ∧ x.toNat ≤ 57)) : AtomText l := by
  cases l with
  | nil => exact absurd rfl h
  | cons c q =>
    have hc := no_stop (hb c (by simp))
    exact ⟨c, q, rfl, hc.2.1, hc.2.2.1, hc.2.2.2.1, Or.inr ⟨hc.2.2.2.2, fun x hx => (no_stop (hb x hx)).1⟩⟩
theorem bool_bytes (b : Bool) : ∀ x ∈ Lib.formatBool b, 97 ≤ x.toNat ∧ x.toNat ≤ 122 := by cases b <;> decide +kernel
theorem lit_ok {k n : Int} {s : ByteArray} (h : (Tr.lit k n s).ok = true) : Val.right k n s = true ∧ (k = 1 → 0 ≤ n) ∧ ∀ x ∈ s.data.toList, (x == 39) = false := by
  unfold Tr.ok at h
  simp only [Bool.and_eq_true, Bool.not_eq_true', Bool.and_eq_false_iff, decide_eq_false_iff_not] at h
  obtain ⟨⟨h1, h2⟩, h3⟩ := h
  refine ⟨h1, fun hk => ?_, ?_⟩
  · rcases h2 with h2 | h2
    · exact absurd hk h2
    · omega
  · intro x hx
    have h4 : Lib.indexByte s.data.toList 39 = -1 := by have := Lib.indexByte_ge s.data.toList 39; simp at h3; omega
    obtain ⟨j, hj⟩ := List.mem_iff_getElem?.1 hx
    have := Lib.indexByte_none h4 j
    rw [hj] at this
    simpa using this
theorem atom_text {t : Tr} (ho : t.ok = true) (ha : t.atom = true) : AtomText (putT t) := by
  cases t with
  | un => cases ha
  | bin => cases ha
  | lit k n s =>
    obtain ⟨h1, h2, h3⟩ := lit_ok ho
    rw [putT]
    rcases Val.right_kind h1 with rfl | rfl | rfl
    · rw [Val.show_int h1]
      refine plain_text ?_ (fun x hx => ?_)
      · obtain ⟨c, l, e, _⟩ := itoa_head n; rw [e]; simp
      · have := itoa_digs (h2 rfl) x hx; omega
    · rw [Val.show_bool h1]
      refine plain_text ?_ (fun x hx => ?_)
      · rcases formatBool_cases (n == 1) with ⟨e, _⟩ | ⟨e, _⟩ <;> (rw [e]; simp)
      · have := bool_bytes _ x hx; omega
    · rw [Val.show_text h1]
      exact ⟨39, _, rfl, by decide, by decide, by decide, Or.inl ⟨rfl, _, rfl, h3⟩⟩
  | ref v f =>
    unfold Tr.ok at ho
    simp only [Bool.and_eq_true] at ho
    rw [putT]
    refine plain_text (by simp) (fun x hx => ?_)
    rcases List.mem_append.1 hx with hx | hx
    · have := letdig (name_byte ho.1 x hx); omega
    · rcases List.mem_cons.1 hx with rfl | hx
      · exact Or.inl rfl
      · have := letdig (name_byte ho.2 x hx); omega
  | cnt v =>
    unfold Tr.ok at ho
    rw [putT]
    refine plain_text (by simp) (fun x hx => ?_)
    rcases List.mem_cons.1 hx with rfl | hx
    · exact Or.inr (Or.inl rfl)
    · have := letdig (name_byte ho x hx); omega
theorem fol_stop {m : Int} {r : List UInt8} (h : Fol m r) : r = [] ∨ ∃ c s, r = c :: s ∧ (c == 32 || c == 41 || c == 93 || c == 44) = true := by
  rcases h with h | ⟨c, s, hc, h⟩ | ⟨op, s, _, _, h⟩
  · exact Or.inl h
  · exact Or.inr ⟨_, _, h, by rcases hc with rfl | rfl | rfl <;> decide⟩
  · exact Or.inr ⟨_, _, h, by decide⟩
theorem text_split {a b r s : List UInt8} (ha : AtomText a) (hb : AtomText b) (hr : Fol 7 r) (hs : Fol 7 s) (h : a ++ r = b ++ s) : a = b ∧ r = s := by
  obtain ⟨c, q, rfl, _, _, _, hc⟩ := ha
  obtain ⟨d, p, rfl, _, _, _, hd⟩ := hb
  have e := (List.cons.inj h).1
  subst e
  rcases hc with ⟨rfl, z, rfl, hz⟩ | ⟨hc, hq⟩
  · rcases hd with ⟨_, y, rfl, hy⟩ | ⟨hd, _⟩
    · have h2 := (List.cons.inj h).2
      have h2 : z ++ (39 :: r) = y ++ (39 :: s) := by simpa using h2
      obtain ⟨e1, e2⟩ := span_inj (p := fun x => x == 39) hz hy (Or.inr ⟨_, _, rfl, rfl⟩) (Or.inr ⟨_, _, rfl, rfl⟩) h2
      exact ⟨by rw [e1], (List.cons.inj e2).2⟩
    · exact absurd rfl hd
  · rcases hd with ⟨rfl, _⟩ | ⟨_, hp⟩
    · exact absurd rfl hc
    · exact span_inj (p := fun x => x == 32 || x == 41 || x == 93 || x == 44) hq hp (fol_stop hr) (fol_stop hs) h
/-- Leaves that are put alike are the same. -/
theorem atom_inj {t u : Tr} (ht : t.ok = true) (hu : u.ok = true) (at_ : t.atom = true) (au : u.atom = true) (h : putT t = putT u) : t = u := by
  have hlr : ∀ (k n : Int) (s v f : ByteArray), (Tr.lit k n s).ok = true → (Tr.ref v f).ok = true → putT (.lit k n s) = putT (.ref v f) → False := by
    intro k n s v f h1 h2 e
    obtain ⟨g1, g2, g3⟩ := lit_ok h1
    unfold Tr.ok at h2
    simp only [Bool.and_eq_true] at h2
    obtain ⟨c, l, e1, e2⟩ := name_head h2.1
    have hm : (46 : UInt8) ∈ putT (.ref v f) := by rw [putT]; simp
    rw [← e] at hm
    have hh : ∃ q, putT (.lit k n s) = c :: q := ⟨_, by rw [e, putT, e1]; rfl⟩
    obtain ⟨q, hq⟩ := hh
    rw [putT] at hm hq
    have hl := letdig (show (letB c.toNat || digB c.toNat) = true by rw [e2]; rfl)
    rcases Val.right_kind g1 with rfl | rfl | rfl
    · rw [Val.show_int g1] at hm
      have := itoa_digs (g2 rfl) _ hm
      revert this; decide
    · rw [Val.show_bool g1] at hm
      have := bool_bytes _ _ hm
      revert this; decide
    · rw [Val.show_text g1] at hq
      have := (List.cons.inj hq).1
      subst this
      revert hl; decide
  have hlc : ∀ (k n : Int) (s v : ByteArray), (Tr.lit k n s).ok = true → (Tr.cnt v).ok = true → putT (.lit k n s) = putT (.cnt v) → False := by
    intro k n s v h1 h2 e
    obtain ⟨g1, g2, g3⟩ := lit_ok h1
    rw [putT, putT] at e
    obtain ⟨c, l, e1, hh⟩ := show_head g1
    rw [e1] at e
    have := (List.cons.inj e).1
    subst this
    revert hh
    have h35 : (35 : UInt8).toNat = 35 := rfl
    omega
  have hrc : ∀ (v f x : ByteArray), (Tr.ref v f).ok = true → (Tr.cnt x).ok = true → putT (.ref v f) = putT (.cnt x) → False := by
    intro v f x h1 h2 e
    unfold Tr.ok at h1
    simp only [Bool.and_eq_true] at h1
    obtain ⟨c, l, e1, e2⟩ := name_head h1.1
    rw [putT, putT, e1] at e
    have := (List.cons.inj e).1
    subst this
    revert e2; decide
  cases t with
  | un => cases at_
  | bin => cases at_
  | lit k n s =>
    cases u with
    | un => cases au
    | bin => cases au
    | lit k' n' s' =>
      obtain ⟨rfl, rfl, rfl⟩ := show_inj (lit_ok ht).1 (lit_ok hu).1 (by rw [putT, putT] at h; exact h)
      rfl
    | ref => exact (hlr _ _ _ _ _ ht hu h).elim
    | cnt => exact (hlc _ _ _ _ ht hu h).elim
  | ref v f =>
    cases u with
    | un => cases au
    | bin => cases au
    | lit => exact (hlr _ _ _ _ _ hu ht h.symm).elim
    | ref v' f' =>
      unfold Tr.ok at ht hu
      simp only [Bool.and_eq_true] at ht hu
      rw [putT, putT] at h
      have nb : ∀ {x : ByteArray}, nameB x = true → ∀ c ∈ x.toList, (c == 46) = false := by
        intro x hx c hc
        have := letdig (name_byte hx c hc)
        have : c ≠ 46 := fun e => by subst e; revert this; decide
        simpa using this
      obtain ⟨e1, e2⟩ := span_inj (p := fun c => c == 46) (nb ht.1) (nb hu.1) (Or.inr ⟨_, _, rfl, rfl⟩) (Or.inr ⟨_, _, rfl, rfl⟩) h
      rw [toList_inj e1, toList_inj (List.cons.inj e2).2]
    | cnt => exact (hrc _ _ _ ht hu h).elim
  | cnt v =>
    cases u with
    | un => cases au
    | bin => cases au
    | lit => exact (hlc _ _ _ _ hu ht h.symm).elim
    | ref => exact (hrc _ _ _ hu ht h.symm).elim
    | cnt v' =>
      rw [putT, putT] at h
      rw [toList_inj (List.cons.inj h).2]
/-- A text is read in one way. -/
theorem PR.det {md : Md} {s : List UInt8} {t : Tr} {r : List UInt8} (h : PR md s t r) : ∀ {t' : Tr} {r' : List UInt8}, PR md s t' r' → t = t' ∧ r = r' := by
  induction h with
  | br h1 ih =>
    intro t' r' h'
    cases h' with
    | br h2 =>
      obtain ⟨e1, e2⟩ := ih h2
      exact ⟨e1, (List.cons.inj e2).2⟩
    | un h2 h3 h4 => rcases h3 with h3 | h3 <;> cases h3
    | atom h2 h3 h4 h5 =>
      obtain ⟨c, q, e, e1, _⟩ := atom_text h2 h3
      rw [e] at h5
      exact absurd (List.cons.inj h5).1.symm e1
  | un h1 h2 h3 ih =>
    intro t' r' h'
    cases h' with
    | br h4 => rcases h2 with h2 | h2 <;> cases h2
    | un h4 h5 h6 =>
      obtain ⟨e1, e2⟩ := ih h6
      exact ⟨by rw [e1, toList_inj (h1.trans h4.symm)], e2⟩
    | atom h4 h5 h6 h7 =>
      obtain ⟨c, q, e, e1, e2, e3, _⟩ := atom_text h4 h5
      rw [e] at h7
      have := (List.cons.inj h7).1
      rcases h2 with rfl | rfl
      · exact absurd this.symm e2
      · exact absurd this.symm e3
  | atom h1 h2 h3 h4 =>
    intro t' r' h'
    cases h' with
    | br h5 =>
      obtain ⟨c, q, e, e1, _⟩ := atom_text h1 h2
      rw [e] at h4
      exact absurd (List.cons.inj h4).1.symm e1
    | un h5 h6 h7 =>
      obtain ⟨c, q, e, e1, e2, e3, _⟩ := atom_text h1 h2
      rw [e] at h4
      have := (List.cons.inj h4).1
      rcases h6 with rfl | rfl
      · exact absurd this.symm e2
      · exact absurd this.symm e3
    | atom h5 h6 h7 h8 =>
      obtain ⟨e1, e2⟩ := text_split (atom_text h1 h2) (atom_text h5 h6) h3 h7 (h4.symm.trans h8)
      exact ⟨atom_inj h1 h5 h2 h6 e1, e2⟩
  | ex h1 h2 ih1 ih2 =>
    intro t' r' h'
    cases h' with
    | ex h3 h4 =>
      obtain ⟨rfl, rfl⟩ := ih1 h3
      exact ih2 h4
  | stop h1 =>
    intro t' r' h'
    cases h' with
    | stop h2 => exact ⟨rfl, rfl⟩
    | more h2 h3 h4 h5 h6 =>
      rcases h1 with h1 | ⟨c, s, hc, h1⟩ | ⟨op, s, g1, g2, h1⟩
      · rw [h1] at h4; cases h4
      · rw [h1] at h4; rcases hc with rfl | rfl | rfl <;> cases h4
      · rw [h1] at h4
        obtain ⟨rfl, _⟩ := op_inj g1 h2 h4
        omega
  | more h1 h2 h3 h4 h5 ih1 ih2 =>
    intro t' r' h'
    cases h' with
    | stop g1 =>
      rcases g1 with g1 | ⟨c, s, hc, g1⟩ | ⟨op, s, g1, g2, g3⟩
      · rw [g1] at h3; cases h3
      · rw [g1] at h3; rcases hc with rfl | rfl | rfl <;> cases h3
      · rw [g3] at h3
        obtain ⟨rfl, _⟩ := op_inj g1 h1 h3
        omega
    | more g1 g2 g3 g4 g5 =>
      obtain ⟨rfl, rfl⟩ := op_inj h1 g1 (h3.symm.trans g3)
      obtain ⟨rfl, rfl⟩ := ih1 g4
      exact ih2 g5
/-- What is put is read as what it was put of. -/
theorem put_read : ∀ (t : Tr), t.ok = true → (∀ r, Fol 7 r → PR .prim (brk t.isBin (putT t) ++ r) t r) ∧
    (∀ (m : Int) (r : List UInt8) (t' : Tr) (r' : List UInt8), (t.isBin = true → m ≤ lvl t.opOf ∧ Fol (lvl t.opOf + 1) r) → Fol 7 r → PR (.on m t) r t' r' → PR (.whole m) (putT t ++ r) t' r')
  | .lit k n s, ho => ⟨fun r hr => .atom ho rfl hr rfl, fun m r t' r' _ hr h => .ex (.atom ho rfl hr rfl) h⟩
  | .ref v f, ho => ⟨fun r hr => .atom ho rfl hr rfl, fun m r t' r' _ hr h => .ex (.atom ho rfl hr rfl) h⟩
  | .cnt v, ho => ⟨fun r hr => .atom ho rfl hr rfl, fun m r t' r' _ hr h => .ex (.atom ho rfl hr rfl) h⟩
  | .un op x, ho => by
    unfold Tr.ok at ho
    rw [Bool.and_eq_true] at ho
    have hx := (put_read x ho.2).1
    have hu : ∃ c, op.toList = [c] ∧ (c = 45 ∨ c = 33) := by
      have := ho.1
      unfold unB at this
      simp only [Bool.or_eq_true, beq_iff_eq] at this
      rcases this with h | h
      · exact ⟨_, h, Or.inl rfl⟩
      · exact ⟨_, h, Or.inr rfl⟩
    obtain ⟨c, h1, h2⟩ := hu
    have hp : ∀ r, Fol 7 r → PR .prim (putT (.un op x) ++ r) (.un op x) r := fun r hr => by
      rw [putT, h1]
      exact .un h1 h2 (hx r hr)
    exact ⟨hp, fun m r t' r' _ hr h => .ex (hp r hr) h⟩
  | .bin op x y, ho => by
    unfold Tr.ok at ho
    simp only [Bool.and_eq_true, decide_eq_true_eq] at ho
    obtain ⟨⟨h0, hx⟩, hy⟩ := ho
    obtain ⟨x1, x2⟩ := put_read x hx
    obtain ⟨y1, y2⟩ := put_read y hy
    have h6 := (lvl_cases h0).1
    have hw : ∀ (m : Int) (r : List UInt8) (t' : Tr) (r' : List UInt8), m ≤ lvl op → Fol (lvl op + 1) r → PR (.on m (.bin op x y)) r t' r' → PR (.whole m) (putT (.bin op x y) ++ r) t' r' := by
      intro m r t' r' hm hr h
      have hr7 : Fol 7 r := hr.mono (by omega)
      have hy' : PR (.whole (lvl op + 1)) (brk (y.isBin && decide (lvl y.opOf ≤ lvl op)) (putT y) ++ r) y r := by
        by_cases hb : (y.isBin && decide (lvl y.opOf ≤ lvl op)) = true
        · have hb2 : y.isBin = true := by rw [Bool.and_eq_true] at hb; exact hb.1
          rw [hb, ← hb2]
          exact .ex (y1 r hr7) (.stop hr)
        · rw [Bool.not_eq_true] at hb
          rw [hb]
          refine y2 _ r y r (fun hyb => ?_) hr7 (.stop hr)
          rw [hyb, Bool.true_and, decide_eq_false_iff_not] at hb
          exact ⟨by omega, hr.mono (by omega)⟩
      have h1 : PR (.on m x) (32 :: (op.toList ++ 32 :: (brk (y.isBin && decide (lvl y.opOf ≤ lvl op)) (putT y) ++ r))) t' r' := .more h0 hm rfl hy' h
      have e : putT (.bin op x y) ++ r = brk (x.isBin && decide (lvl x.opOf < lvl op)) (putT x) ++ (32 :: (op.toList ++ 32 :: (brk (y.isBin && decide (lvl y.opOf ≤ lvl op)) (putT y) ++ r))) := by
        rw [putT]; simp [List.append_assoc]
      rw [e]
      by_cases hb : (x.isBin && decide (lvl x.opOf < lvl op)) = true
      · have hb2 : x.isBin = true := by rw [Bool.and_eq_true] at hb; exact hb.1
        rw [hb, ← hb2]
        exact .ex (x1 _ (Or.inr (Or.inr ⟨op, _, h0, by omega, rfl⟩))) h1
      · rw [Bool.not_eq_true] at hb
        rw [hb]
        refine x2 m _ t' r' (fun hxb => ?_) (Or.inr (Or.inr ⟨op, _, h0, by omega, rfl⟩)) h1
        rw [hxb, Bool.true_and, decide_eq_false_iff_not] at hb
        exact ⟨by omega, Or.inr (Or.inr ⟨op, _, h0, by omega, rfl⟩)⟩
    refine ⟨fun r hr => ?_, fun m r t' r' hc hr h => hw m r t' r' (hc rfl).1 (hc rfl).2 h⟩
    have e : brk (Tr.bin op x y).isBin (putT (.bin op x y)) ++ r = 40 :: (putT (.bin op x y) ++ (41 :: r)) := by simp [brk, Tr.isBin]
    rw [e]
    exact .br (hw 1 _ _ _ (by omega) (Or.inr (Or.inl ⟨_, _, Or.inl rfl, rfl⟩)) (.stop (Or.inr (Or.inl ⟨_, _, Or.inl rfl, rfl⟩))))
/-- What is put of a right tree ends where no operation goes on. -/
theorem putT_cut {a b : Tr} {x y : List UInt8} (ha : a.ok = true) (hb : b.ok = true) (hx : Fol 0 x) (hy : Fol 0 y) (h : putT a ++ x = putT b ++ y) : a = b ∧ x = y := by
  have L : ∀ (t : Tr), t.ok = true → t.isBin = true → 0 ≤ lvl t.opOf := fun t ht hbn => by
    cases t with
    | bin op x y =>
      unfold Tr.ok at ht
      simp only [Bool.and_eq_true, decide_eq_true_eq] at ht
      exact Int.le_of_lt ht.1.1
    | _ => cases hbn
  have H : ∀ (t : Tr) (r : List UInt8), t.ok = true → Fol 0 r → PR (.whole 0) (putT t ++ r) t r := fun t r ht hr =>
    (put_read t ht).2 0 r t r (fun hbn => ⟨L t ht hbn, hr.mono (by have := L t ht hbn; omega)⟩) (hr.mono (by omega)) (.stop hr)
  have h2 := H b y hb hy
  rw [← h] at h2
  exact (H a x ha hx).det h2
/-- Right trees that are put alike are the same. -/
theorem putT_inj {a b : Tr} (ha : a.ok = true) (hb : b.ok = true) (h : putT a = putT b) : a = b := by
  have H : ∀ (t : Tr), t.ok = true → PR (.whole 0) (putT t) t [] := fun t ht => by
    have := (put_read t ht).2 0 [] t [] (fun hbn => ⟨?_, Or.inl rfl⟩) (Or.inl rfl) (.stop (Or.inl rfl))
    · simpa using this
    · cases t with
      | bin op x y =>
        unfold Tr.ok at ht
        simp only [Bool.and_eq_true, decide_eq_true_eq] at ht
        exact Int.le_of_lt ht.1.1
      | _ => cases hbn
  have h2 := H b hb
  rw [← h] at h2
  exact ((H a ha).det h2).1
end Go.Proofs.YtenmbahfgfmjjaaDoor
