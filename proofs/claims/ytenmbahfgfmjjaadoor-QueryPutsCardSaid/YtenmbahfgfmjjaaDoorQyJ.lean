/- What is put of two right queries is alike just if they are the same: mathematics. -/
import Derived.Test.YtenmbahfgfmjjaaDoorQ30
import Derived.Test.YtenmbahfgfmjjaaDoorQ25
import Derived.Test.YtenmbahfgfmjjaaDoorQ37
import Derived.Test.YtenmbahfgfmjjaaDoorInj

namespace Go.Proofs.YtenmbahfgfmjjaaDoor
open Go.ChangeShapes Go.WideShapes Go.ChangeAt Go.RowKit
set_option linter.unusedVariables false
set_option linter.unusedSimpArgs false

abbrev NB (c : UInt8) : Bool := letB c.toNat || digB c.toNat
/-- Where a name ends: nothing, or a byte that no name has. -/
def FolN (r : List UInt8) : Prop := r = [] ∨ ∃ (c : UInt8) (s : List UInt8), r = c :: s ∧ NB c = false
theorem name_cut {a b : ByteArray} {x y : List UInt8} (ha : nameB a = true) (hb : nameB b = true) (hx : FolN x) (hy : FolN y) (h : a.data.toList ++ x = b.data.toList ++ y) : a = b ∧ x = y := by
  have f : ∀ {r : List UInt8}, FolN r → r = [] ∨ ∃ c s, r = c :: s ∧ (!NB c) = true := fun hr => by
    rcases hr with h | ⟨c, s, h, hc⟩
    · exact Or.inl h
    · exact Or.inr ⟨c, s, h, by rw [hc]; rfl⟩
  have g : ∀ {a : ByteArray}, nameB a = true → ∀ c ∈ a.data.toList, (!NB c) = false := fun ha c hc => by
    have := name_byte ha c (by rw [Lib.toList_data]; exact hc)
    show (!(letB c.toNat || digB c.toNat)) = false
    rw [this]; rfl
  obtain ⟨e1, e2⟩ := span_inj (p := fun c => !NB c) (g ha) (g hb) (f hx) (f hy) h
  exact ⟨toList_inj (by rw [Lib.toList_data, Lib.toList_data]; exact e1), e2⟩
theorem name_dhead {s : ByteArray} (h : nameB s = true) : ∃ c l, s.data.toList = c :: l ∧ letB c.toNat = true := by
  have := name_head h
  rw [Lib.toList_data] at this
  exact this
theorem join_two (a b : List UInt8) (l : List (List UInt8)) (sep : List UInt8) : Lib.join (a :: b :: l) sep = a ++ (sep ++ Lib.join (b :: l) sep) := by
  rw [Lib.join_cons, Lib.join_cons]
  simp [Lib.joinTail, List.append_assoc]
theorem join_cut {α : Type} {P : α → Prop} {F G : List UInt8 → Prop} {T : α → List UInt8} {sep : List UInt8}
    (hc : ∀ a b x y, P a → P b → F x → F y → T a ++ x = T b ++ y → a = b ∧ x = y) (hs : ∀ s, F (sep ++ s)) (hG : ∀ x, G x → F x ∧ ∀ s, x ≠ sep ++ s) :
    ∀ (l l' : List α) (x y : List UInt8), l ≠ [] → l' ≠ [] → (∀ a ∈ l, P a) → (∀ a ∈ l', P a) → G x → G y → Lib.join (l.map T) sep ++ x = Lib.join (l'.map T) sep ++ y → l = l' ∧ x = y
  | [], _, _, _, h, _, _, _, _, _, _ => absurd rfl h
  | _ :: _, [], _, _, _, h, _, _, _, _, _ => absurd rfl h
  | [a], [b], x, y, _, _, ha, hb, hx, hy, h => by
    simp only [List.map_cons, List.map_nil, Lib.join_one] at h
    obtain ⟨e1, e2⟩ := hc a b x y (ha a (by simp)) (hb b (by simp)) (hG x hx).1 (hG y hy).1 h
    exact ⟨by rw [e1], e2⟩
  | [a], b :: c :: r, x, y, _, _, ha, hb, hx, hy, h => by
    simp only [List.map_cons, List.map_nil, Lib.join_one, join_two, List.append_assoc] at h
    obtain ⟨e1, e2⟩ := hc a b x _ (ha a (by simp)) (hb b (by simp)) (hG x hx).1 (hs _) h
    exact absurd e2 ((hG x hx).2 _)
  | a :: c :: r, [b], x, y, _, _, ha, hb, hx, hy, h => by
    simp only [List.map_cons, List.map_nil, Lib.join_one, join_two, List.append_assoc] at h
    obtain ⟨e1, e2⟩ := hc a b _ y (ha a (by simp)) (hb b (by simp)) (hs _) (hG y hy).1 h
    exact absurd e2.symm ((hG y hy).2 _)
  | a :: c :: r, b :: d :: r', x, y, _, _, ha, hb, hx, hy, h => by
    rw [List.map_cons, List.map_cons, List.map_cons, List.map_cons, join_two, join_two, List.append_assoc, List.append_assoc, List.append_assoc, List.append_assoc] at h
    obtain ⟨e1, e2⟩ := hc a b _ _ (ha a (by simp)) (hb b (by simp)) (hs _) (hs _) h
    have e3 := List.append_cancel_left e2
    rw [← List.map_cons, ← List.map_cons] at e3
    obtain ⟨e4, e5⟩ := join_cut hc hs hG (c :: r) (d :: r') x y (by simp) (by simp) (fun z hz => ha z (List.mem_cons_of_mem _ hz)) (fun z hz => hb z (List.mem_cons_of_mem _ hz)) hx hy e3
    exact ⟨by rw [e1, e4], e5⟩
theorem let_ne {c : UInt8} (h : letB c.toNat = true) : c ≠ 33 ∧ c ≠ 124 ∧ c ≠ 32 := by
  refine ⟨?_, ?_, ?_⟩ <;> (intro e; subst e; revert h; decide)
theorem partB_out {p : Pt} (h : partB p = true) : p.ss ≠ [] ∧ (∀ s ∈ p.ss, nameB s = true) ∧ p.pd.length ≤ 1 ∧ (∀ t ∈ p.pd, t.ok = true) := by
  unfold partB at h
  simp only [Bool.and_eq_true, decide_eq_true_eq, List.all_eq_true] at h
  refine ⟨fun e => ?_, (namesB_iff.1 h.2).1, h.1.1.2, h.1.2⟩
  have := h.1.1.1.1.1
  rw [e] at this; simp at this
/-- What begins with a stream's name. -/
theorem ss_head {p : Pt} (h : partB p = true) : ∃ (s : ByteArray) (z : List UInt8), nameB s = true ∧ Lib.join (p.ss.map (·.data.toList)) [32, 124, 32] = s.data.toList ++ z ∧ (z = [] ∨ ∃ u, z = 32 :: u) := by
  obtain ⟨h1, h2, _⟩ := partB_out h
  cases hs : p.ss with
  | nil => exact absurd hs h1
  | cons s r =>
    refine ⟨s, _, h2 s (by rw [hs]; simp), by rw [List.map_cons, Lib.join_cons], ?_⟩
    cases r with
    | nil => exact Or.inl rfl
    | cons t r => exact Or.inr ⟨_, by simp [Lib.joinTail]; rfl⟩
abbrev RP (p : Pt) : Prop := partB p = true ∧ nameB p.v = true
def FolP (r : List UInt8) : Prop := (∃ s, r = 32 :: 59 :: s) ∨ ∃ s, r = 32 :: 87 :: s
def tailP (p : Pt) (x : List UInt8) : List UInt8 := (if p.pl then [43] else []) ++ ((if p.pd.length = 0 then [] else [91] ++ (Lib.join (p.pd.map putT) [44, 32] ++ [93])) ++ x)
theorem partT_eq (p : Pt) (x : List UInt8) : partT p ++ x = (if p.nt then [33] else []) ++ (Lib.join (p.ss.map (·.data.toList)) [32, 124, 32] ++ (32 :: (p.v.data.toList ++ tailP p x))) := by
  unfold partT tailP
  simp [List.append_assoc]
theorem predT {l : List Tr} (h : l.length ≤ 1) : l = [] ∨ ∃ t, l = [t] := by
  match l, h with
  | [], _ => exact Or.inl rfl
  | [t], _ => exact Or.inr ⟨t, rfl⟩
theorem tail_head {p : Pt} {x : List UInt8} (hx : FolP x) : ∃ c s, tailP p x = c :: s ∧ (c = 43 ∨ c = 91 ∨ c = 32) := by
  unfold tailP
  cases p.pl with
  | true => exact ⟨43, _, rfl, Or.inl rfl⟩
  | false =>
    by_cases h : p.pd.length = 0
    · rw [if_pos h]
      rcases hx with ⟨s, rfl⟩ | ⟨s, rfl⟩ <;> exact ⟨32, _, rfl, Or.inr (Or.inr rfl)⟩
    · rw [if_neg h]
      exact ⟨91, _, rfl, Or.inr (Or.inl rfl)⟩
theorem tail_fol {p : Pt} {x : List UInt8} (hx : FolP x) : FolN (tailP p x) := by
  obtain ⟨c, s, h, hc⟩ := tail_head (p := p) hx
  exact Or.inr ⟨c, s, h, by rcases hc with rfl | rfl | rfl <;> decide⟩
theorem tail_cut {a b : Pt} {x y : List UInt8} (ha : a.pd.length ≤ 1) (hb : b.pd.length ≤ 1) (oa : ∀ t ∈ a.pd, t.ok = true) (ob : ∀ t ∈ b.pd, t.ok = true) (hx : FolP x) (hy : FolP y) (h : tailP a x = tailP b y) : a.pl = b.pl ∧ a.pd = b.pd ∧ x = y := by
  obtain ⟨ant, apl, ass, av, apd⟩ := a
  obtain ⟨bnt, bpl, bss, bv, bpd⟩ := b
  simp only at ha hb oa ob ⊢
  have hz : ∀ {r : List UInt8}, FolP r → ∃ s, r = 32 :: s := fun hr => by rcases hr with ⟨s, rfl⟩ | ⟨s, rfl⟩ <;> exact ⟨_, rfl⟩
  obtain ⟨x', rfl⟩ := hz hx
  obtain ⟨y', rfl⟩ := hz hy
  unfold tailP at h
  simp only at h
  have hp : apl = bpl := by
    cases apl <;> cases bpl
    · rfl
    · exfalso
      rcases predT ha with rfl | ⟨t, rfl⟩ <;> simp at h
    · exfalso
      rcases predT hb with rfl | ⟨t, rfl⟩ <;> simp at h
    · rfl
  subst hp
  have h2 := List.append_cancel_left h
  refine ⟨rfl, ?_⟩
  rcases predT ha with rfl | ⟨t, rfl⟩ <;> rcases predT hb with rfl | ⟨u, rfl⟩
  · exact ⟨rfl, by simpa using h2⟩
  · exfalso; simp at h2
  · exfalso; simp at h2
  · simp only [List.length_singleton, if_neg (by decide : ¬ (1 = 0)), List.map_cons, List.map_nil, Lib.join_one, List.append_assoc, List.singleton_append] at h2
    have h4 : (putT t ++ [93]) ++ (32 :: x') = (putT u ++ [93]) ++ (32 :: y') := (List.cons.inj h2).2
    rw [List.append_assoc, List.append_assoc] at h4
    obtain ⟨e1, e2⟩ := putT_cut (oa t (by simp)) (ob u (by simp)) (Or.inr (Or.inl ⟨93, _, Or.inr (Or.inl rfl), rfl⟩)) (Or.inr (Or.inl ⟨93, _, Or.inr (Or.inl rfl), rfl⟩)) h4
    exact ⟨by rw [e1], (List.cons.inj e2).2⟩
theorem part_cut (a b : Pt) (x y : List UInt8) (ha : RP a) (hb : RP b) (hx : FolP x) (hy : FolP y) (h : partT a ++ x = partT b ++ y) : a = b ∧ x = y := by
  rw [partT_eq, partT_eq] at h
  obtain ⟨a1, a2, a3, a4⟩ := partB_out ha.1
  obtain ⟨b1, b2, b3, b4⟩ := partB_out hb.1
  have hd : ∀ {p : Pt}, partB p = true → ∃ (c : UInt8) (l : List UInt8), Lib.join (p.ss.map (·.data.toList)) [32, 124, 32] = c :: l ∧ letB c.toNat = true := fun hp => by
    obtain ⟨s, z, hs, e, _⟩ := ss_head hp
    obtain ⟨c, l, e2, hc⟩ := name_dhead hs
    exact ⟨c, l ++ z, by rw [e, e2]; rfl, hc⟩
  have hnt : a.nt = b.nt := by
    obtain ⟨c, l, e1, hc⟩ := hd ha.1
    obtain ⟨d, m, e2, hd⟩ := hd hb.1
    rw [e1, e2] at h
    cases h1 : a.nt <;> cases h2 : b.nt
    · rfl
    · rw [h1, h2] at h
      exact absurd (List.cons.inj h).1 (let_ne hc).1
    · rw [h1, h2] at h
      exact absurd (List.cons.inj h).1.symm (let_ne hd).1
    · rfl
  rw [hnt] at h
  have h2 := List.append_cancel_left h
  have G : ∀ (p : Pt) (z : List UInt8), nameB p.v = true → ∃ c s, (32 : UInt8) :: (p.v.data.toList ++ z) = 32 :: c :: s ∧ letB c.toNat = true := fun p z hp => by
    obtain ⟨c, l, e, hc⟩ := name_dhead hp
    exact ⟨c, l ++ z, by rw [e]; rfl, hc⟩
  obtain ⟨e1, e2⟩ := join_cut (P := fun s => nameB s = true) (F := FolN) (G := fun r => ∃ (c : UInt8) (s : List UInt8), r = 32 :: c :: s ∧ letB c.toNat = true) (T := fun s : ByteArray => s.data.toList) (sep := [32, 124, 32])
    (fun a b x y h1 h2 h3 h4 h5 => name_cut h1 h2 h3 h4 h5) (fun s => Or.inr ⟨32, _, rfl, by decide⟩)
    (fun x hx => by
      obtain ⟨c, s, rfl, hc⟩ := hx
      refine ⟨Or.inr ⟨32, _, rfl, by decide⟩, fun s' e => ?_⟩
      exact (let_ne hc).2.1 (List.cons.inj (List.cons.inj e).2).1)
    a.ss b.ss _ _ a1 b1 a2 b2 (G a _ ha.2) (G b _ hb.2) h2
  obtain ⟨e3, e4⟩ := name_cut ha.2 hb.2 (tail_fol hx) (tail_fol hy) (List.cons.inj e2).2
  obtain ⟨e5, e6, e7⟩ := tail_cut a3 b3 a4 b4 hx hy e4
  refine ⟨?_, e7⟩
  cases a; cases b
  simp only at hnt e1 e3 e5 e6
  subst hnt e1 e3 e5 e6
  rfl
abbrev RO (o : Ot) : Prop := nameB o.f = true ∧ o.e.ok = true
def FolO (r : List UInt8) : Prop := r = [] ∨ ∃ s, r = 44 :: s
theorem out_cut (a b : Ot) (x y : List UInt8) (ha : RO a) (hb : RO b) (hx : FolO x) (hy : FolO y) (h : outT a ++ x = outT b ++ y) : a = b ∧ x = y := by
  have hf : ∀ {r : List UInt8}, FolO r → Fol 0 r := fun hr => by
    rcases hr with h | ⟨s, h⟩
    · exact Or.inl h
    · exact Or.inr (Or.inl ⟨44, s, Or.inr (Or.inr rfl), h⟩)
  unfold outT at h
  simp only [List.append_assoc] at h
  obtain ⟨e1, e2⟩ := name_cut ha.1 hb.1 (Or.inr ⟨58, _, rfl, by decide⟩) (Or.inr ⟨58, _, rfl, by decide⟩) h
  have e2' : ([58, 32] : List UInt8) ++ (putT a.e ++ x) = [58, 32] ++ (putT b.e ++ y) := e2
  obtain ⟨e3, e4⟩ := putT_cut ha.2 hb.2 (hf hx) (hf hy) (List.append_cancel_left e2')
  refine ⟨?_, e4⟩
  cases a; cases b
  simp only at e1 e3
  subst e1 e3
  rfl
theorem itoa_cut {n m : Int} {x y : List UInt8} (hn : 0 ≤ n) (hm : 0 ≤ m) (hx : x = [] ∨ ∃ s, x = 32 :: s) (hy : y = [] ∨ ∃ s, y = 32 :: s) (h : Lib.itoa n ++ x = Lib.itoa m ++ y) : n = m ∧ x = y := by
  have g : ∀ {n : Int}, 0 ≤ n → ∀ c ∈ Lib.itoa n, (c == 32) = false := fun hn c hc => by
    have := itoa_digs hn c hc
    have h2 : c ≠ 32 := fun e => by subst e; revert this; decide
    simpa using h2
  have f : ∀ {r : List UInt8}, (r = [] ∨ ∃ s, r = 32 :: s) → r = [] ∨ ∃ (c : UInt8) (s : List UInt8), r = c :: s ∧ (c == 32) = true := fun hr => by
    rcases hr with h | ⟨s, h⟩
    · exact Or.inl h
    · exact Or.inr ⟨32, s, h, by decide⟩
  obtain ⟨e1, e2⟩ := span_inj (p := fun c => c == 32) (g hn) (g hm) (f hx) (f hy) h
  exact ⟨itoa_inj e1, e2⟩
theorem size0 {b : ByteArray} (h : b.size = 0) : b = ⟨#[]⟩ := by
  cases b with
  | mk d =>
    have : d.size = 0 := h
    rw [Array.eq_empty_of_size_eq_zero this]
def outsT (q : Qy) : List UInt8 := if q.os.length = 0 then [] else [32, 69, 77, 73, 84, 32] ++ Lib.join (q.os.map outT) [44, 32]
def byT (q : Qy) : List UInt8 := if q.by_.size = 0 then [] else [32, 66, 89, 32] ++ q.by_.data.toList
theorem outs_head (q : Qy) : outsT q = [] ∨ ∃ s, outsT q = 32 :: 69 :: s := by
  unfold outsT
  split
  · exact Or.inl rfl
  · exact Or.inr ⟨_, rfl⟩
theorem by_head (q : Qy) : byT q ++ outsT q = [] ∨ ∃ s, byT q ++ outsT q = 32 :: s := by
  unfold byT
  split
  · rcases outs_head q with h | ⟨s, h⟩
    · exact Or.inl h
    · exact Or.inr ⟨_, h⟩
  · exact Or.inr ⟨_, rfl⟩
theorem queryT_eq (q : Qy) : queryT q = q.nm.data.toList ++ ([32, 61, 32] ++ ((if q.st then [83, 84, 82, 73, 67, 84, 32] else []) ++ (Lib.join (q.ps.map partT) [32, 59, 32] ++ ([32, 87, 73, 84, 72, 73, 78, 32] ++ (Lib.itoa q.wi ++ (byT q ++ outsT q)))))) := rfl
theorem partsB_out {st : Bool} {ps : List Pt} (h : partsB st ps = true) : ps ≠ [] ∧ ∀ p ∈ ps, RP p := by
  unfold partsB at h
  simp only [Bool.and_eq_true, decide_eq_true_eq, List.all_eq_true] at h
  refine ⟨fun e => ?_, fun p hp => ⟨h.1.2 p hp, (namesB_iff.1 h.2).1 _ (List.mem_map.2 ⟨p, hp, rfl⟩)⟩⟩
  have := h.1.1.1.1.1
  rw [e] at this; simp at this
theorem outsB_out {os : List Ot} (h : outsB os = true) : ∀ o ∈ os, RO o := by
  unfold outsB at h
  simp only [Bool.and_eq_true, decide_eq_true_eq, List.all_eq_true] at h
  exact fun o ho => ⟨(namesB_iff.1 h.2).1 _ (List.mem_map.2 ⟨o, ho, rfl⟩), h.1.2 o ho⟩
/-- STRICT is no stream's name. -/
theorem strict_no {ps : List Pt} {X Y : List UInt8} (h1 : ps ≠ []) (h2 : ∀ p ∈ ps, RP p) (h : ([83, 84, 82, 73, 67, 84, 32] : List UInt8) ++ X = Lib.join (ps.map partT) [32, 59, 32] ++ Y) : False := by
  cases ps with
  | nil => exact h1 rfl
  | cons p r =>
    have hp := h2 p (by simp)
    rw [List.map_cons, Lib.join_cons, List.append_assoc, partT_eq] at h
    obtain ⟨s, z, hs, e, hz⟩ := ss_head hp.1
    rw [e] at h
    cases hnt : p.nt with
    | true =>
      rw [hnt] at h
      exact absurd (List.cons.inj h).1 (by decide)
    | false =>
      rw [hnt] at h
      simp only [Bool.false_eq_true, if_false, List.nil_append, List.append_assoc] at h
      have hf : ∀ {q : List UInt8}, (z ++ (32 :: q)) = [] ∨ ∃ (c : UInt8) (u : List UInt8), z ++ (32 :: q) = c :: u ∧ (!NB c) = true := fun {q} => by
        rcases hz with rfl | ⟨u, rfl⟩
        · exact Or.inr ⟨32, _, rfl, by decide⟩
        · exact Or.inr ⟨32, _, rfl, by decide⟩
      have h' : ([83, 84, 82, 73, 67, 84] : List UInt8) ++ (32 :: X) = s.data.toList ++ (z ++ (32 :: (p.v.data.toList ++ tailP p (Lib.joinTail [32, 59, 32] (r.map partT) ++ Y)))) := h
      obtain ⟨e1, _⟩ := span_inj (p := fun c => !NB c) (by decide) (fun c hc => by
        have := name_byte hs c (by rw [Lib.toList_data]; exact hc)
        show (!(letB c.toNat || digB c.toNat)) = false
        rw [this]; rfl) (Or.inr ⟨32, _, rfl, by decide⟩) hf h'
      have hk : keyB s = true := by
        unfold keyB
        rw [Lib.toList_data, ← e1]
        decide
      unfold nameB at hs
      rw [hk] at hs
      simp at hs
theorem query_inj {a b : Qy} (ha : queryB a = true) (hb : queryB b = true) (h : queryT a = queryT b) : a = b := by
  unfold queryB at ha hb
  simp only [Bool.and_eq_true, Bool.or_eq_true, decide_eq_true_eq] at ha hb
  obtain ⟨⟨⟨⟨⟨a1, a2⟩, a3⟩, a4⟩, a5⟩, a6⟩ := ha
  obtain ⟨⟨⟨⟨⟨b1, b2⟩, b3⟩, b4⟩, b5⟩, b6⟩ := hb
  rw [queryT_eq, queryT_eq] at h
  obtain ⟨e1, h2⟩ := name_cut a1 b1 (Or.inr ⟨32, _, rfl, by decide⟩) (Or.inr ⟨32, _, rfl, by decide⟩) h
  have h2' : ([32, 61, 32] : List UInt8) ++ _ = [32, 61, 32] ++ _ := h2
  have h3 := List.append_cancel_left h2'
  obtain ⟨p1, p2⟩ := partsB_out a5
  obtain ⟨q1, q2⟩ := partsB_out b5
  have e2 : a.st = b.st := by
    cases s1 : a.st <;> cases s2 : b.st
    · rfl
    · rw [s1, s2] at h3
      simp only [Bool.false_eq_true, if_false, if_true, List.nil_append] at h3
      exact (strict_no p1 p2 h3.symm).elim
    · rw [s1, s2] at h3
      simp only [Bool.false_eq_true, if_false, if_true, List.nil_append] at h3
      exact (strict_no q1 q2 h3).elim
    · rfl
  rw [e2] at h3
  have h4 := List.append_cancel_left h3
  obtain ⟨e3, h5⟩ := join_cut (P := RP) (F := FolP) (G := fun r => ∃ s, r = 32 :: 87 :: s) (T := partT) (sep := [32, 59, 32]) part_cut (fun s => Or.inl ⟨_, rfl⟩)
    (fun x hx => by
      obtain ⟨s, rfl⟩ := hx
      exact ⟨Or.inr ⟨_, rfl⟩, fun s' e => absurd (List.cons.inj (List.cons.inj e).2).1 (by decide)⟩)
    a.ps b.ps _ _ p1 q1 p2 q2 ⟨_, rfl⟩ ⟨_, rfl⟩ h4
  have h5' : ([32, 87, 73, 84, 72, 73, 78, 32] : List UInt8) ++ (Lib.itoa a.wi ++ (byT a ++ outsT a)) = [32, 87, 73, 84, 72, 73, 78, 32] ++ (Lib.itoa b.wi ++ (byT b ++ outsT b)) := h5
  obtain ⟨e4, h6⟩ := itoa_cut a2 b2 (by_head a) (by_head b) (List.append_cancel_left h5')
  have hby : a.by_ = b.by_ ∧ outsT a = outsT b := by
    unfold byT at h6
    by_cases s1 : a.by_.size = 0 <;> by_cases s2 : b.by_.size = 0
    · rw [if_pos s1, if_pos s2] at h6
      exact ⟨by rw [size0 s1, size0 s2], h6⟩
    · rw [if_pos s1, if_neg s2] at h6
      rcases outs_head a with h | ⟨s, h⟩ <;> (rw [h] at h6; simp at h6)
    · rw [if_neg s1, if_pos s2] at h6
      rcases outs_head b with h | ⟨s, h⟩ <;> (rw [h] at h6; simp at h6)
    · rw [if_neg s1, if_neg s2, List.append_assoc, List.append_assoc] at h6
      have f : ∀ (q : Qy), FolN (outsT q) := fun q => by
        rcases outs_head q with h | ⟨s, h⟩
        · exact Or.inl h
        · exact Or.inr ⟨32, _, h, by decide⟩
      exact name_cut (a4.resolve_left s1) (b4.resolve_left s2) (f a) (f b) (List.append_cancel_left h6)
  have e6 : a.os = b.os := by
    have h7 := hby.2
    unfold outsT at h7
    by_cases s1 : a.os.length = 0 <;> by_cases s2 : b.os.length = 0
    · rw [List.eq_nil_of_length_eq_zero s1, List.eq_nil_of_length_eq_zero s2]
    · rw [if_pos s1, if_neg s2] at h7; simp at h7
    · rw [if_neg s1, if_pos s2] at h7; simp at h7
    · rw [if_neg s1, if_neg s2] at h7
      have h8 := List.append_cancel_left h7
      refine (join_cut (P := RO) (F := FolO) (G := fun r => r = []) (T := outT) (sep := [44, 32]) out_cut (fun s => Or.inr ⟨_, rfl⟩) (fun x hx => by subst hx; exact ⟨Or.inl rfl, fun s e => by simp at e⟩) a.os b.os [] [] (fun e => s1 (by rw [e]; rfl)) (fun e => s2 (by rw [e]; rfl)) (outsB_out a6) (outsB_out b6) rfl rfl (by rw [h8])).1
  cases a; cases b
  simp only at e1 e2 e3 e4 e6 hby
  obtain ⟨e5, _⟩ := hby
  subst e1 e2 e3 e4 e5 e6
  rfl
end Go.Proofs.YtenmbahfgfmjjaaDoor
