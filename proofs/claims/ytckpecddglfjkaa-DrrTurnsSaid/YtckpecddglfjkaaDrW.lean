/- Turns by deficits: who has been given how much. -/
import Derived.Test.YtckpecddglfjkaaDrN
namespace Go.Proofs.Ytckpecddglfjkaa
open Go.ChangeShapes Go.WideShapes Go.ChangeAt Go.RowKit
open Dr
set_option linter.unusedVariables false
set_option linter.unusedSimpArgs false

/-- What it spent and its deficit are g quantums. -/
def IsG (sp : Int → Int) (f : Fl) (g : Int) : Prop := sp f.1 + f.2.2.1 = g * f.2.1
def bump (sp : Int → Int) (i c : Int) : Int → Int := fun x => if x = i then sp x + c else sp x
def FairS (sp : Int → Int) (L : List Fl) (fr : Bool) : Prop :=
  ∃ (G : Int) (A B : List Fl), 0 ≤ G ∧ ((fr = true ∧ L = A ++ B) ∨ (fr = false ∧ ∃ x, L = x :: (A ++ B) ∧ IsG sp x (G + 1))) ∧ (∀ f ∈ A, IsG sp f G) ∧ ∀ f ∈ B, IsG sp f (G + 1)
theorem FairS.all {sp : Int → Int} {L : List Fl} {fr : Bool} (h : FairS sp L fr) : ∃ G : Int, 0 ≤ G ∧ ∀ f ∈ L, IsG sp f G ∨ IsG sp f (G + 1) := by
  obtain ⟨G, A, B, h0, h1, hA, hB⟩ := h
  refine ⟨G, h0, fun f hf => ?_⟩
  rcases h1 with ⟨_, rfl⟩ | ⟨_, x, rfl, hx⟩
  · rcases List.mem_append.1 hf with hf | hf
    · exact Or.inl (hA f hf)
    · exact Or.inr (hB f hf)
  · rcases List.mem_cons.1 hf with rfl | hf
    · exact Or.inr hx
    · rcases List.mem_append.1 hf with hf | hf
      · exact Or.inl (hA f hf)
      · exact Or.inr (hB f hf)
theorem isG_add {sp : Int → Int} {f : Fl} {g : Int} (h : IsG sp f g) (c : Int) : IsG sp (f.1, f.2.1, f.2.2.1 + f.2.1, c) (g + 1) := by
  unfold IsG at h ⊢
  simp only
  rw [Int.add_mul, ← h]; omega
theorem isG_same {sp : Int → Int} {f : Fl} {g : Int} (h : IsG sp f g) (c : Int) : IsG sp (f.1, f.2.1, f.2.2.1, c) g := h
theorem isG_pay {sp : Int → Int} {i q d g : Int} (c k : Int) (h : IsG sp (i, q, d, k) g) : IsG (bump sp i c) (i, q, d - c, k) g := by
  unfold IsG bump at *
  simp only [if_true] at *
  omega
theorem isG_other {sp : Int → Int} {f : Fl} {g i c : Int} (h : IsG sp f g) (hne : f.1 ≠ i) : IsG (bump sp i c) f g := by
  unfold IsG bump at *
  rw [if_neg hne]; exact h
theorem serve_pass {f : Fl} {fr : Bool} (h0 : f.2.2.2 ≠ 0) (hs : (serveF f fr).1 = false) : (serveF f fr).2.1 = (f.1, f.2.1, if fr then f.2.2.1 + f.2.1 else f.2.2.1, f.2.2.2) ∧ (if fr then f.2.2.1 + f.2.1 else f.2.2.1) < f.2.2.2 := by
  unfold serveF at hs ⊢
  rw [if_neg h0] at hs ⊢
  by_cases c1 : (if fr then f.2.2.1 + f.2.1 else f.2.2.1) < f.2.2.2
  · rw [if_pos c1]; exact ⟨rfl, c1⟩
  · rw [if_neg c1] at hs; simp at hs
theorem serve_pays {f : Fl} {fr : Bool} (hs : (serveF f fr).1 = true) : (serveF f fr).2.1 = (f.1, f.2.1, (if fr then f.2.2.1 + f.2.1 else f.2.2.1) - f.2.2.2, f.2.2.2) ∧ (serveF f fr).2.2 = false ∧ f.2.2.2 ≤ (if fr then f.2.2.1 + f.2.1 else f.2.2.1) := by
  unfold serveF at hs ⊢
  by_cases h0 : f.2.2.2 = 0
  · rw [if_pos h0] at hs; simp at hs
  · rw [if_neg h0] at hs ⊢
    by_cases c1 : (if fr then f.2.2.1 + f.2.1 else f.2.2.1) < f.2.2.2
    · rw [if_pos c1] at hs; simp at hs
    · rw [if_neg c1]; exact ⟨rfl, rfl, by omega⟩
theorem fair_pass {sp : Int → Int} {f : Fl} {r : List Fl} {fr : Bool} (h : FairS sp (f :: r) fr) (h0 : f.2.2.2 ≠ 0) (hs : (serveF f fr).1 = false) : FairS sp (r ++ [(serveF f fr).2.1]) true := by
  obtain ⟨e, _⟩ := serve_pass h0 hs
  rw [e]
  obtain ⟨G, A, B, hG, h1, hA, hB⟩ := h
  rcases h1 with ⟨rfl, hl⟩ | ⟨rfl, x, hl, hx⟩
  · cases A with
    | nil =>
      rw [List.nil_append] at hl
      subst hl
      refine ⟨G + 1, r, [(f.1, f.2.1, f.2.2.1 + f.2.1, f.2.2.2)], by omega, Or.inl ⟨rfl, rfl⟩, fun g hg => hB g (List.mem_cons_of_mem _ hg), fun g hg => ?_⟩
      obtain rfl : g = _ := by simpa using hg
      exact isG_add (hB f (List.mem_cons_self ..)) _
    | cons a A =>
      simp only [List.cons_append, List.cons.injEq] at hl
      obtain ⟨rfl, rfl⟩ := hl
      refine ⟨G, A, B ++ [(f.1, f.2.1, f.2.2.1 + f.2.1, f.2.2.2)], hG, Or.inl ⟨rfl, by simp⟩, fun g hg => hA g (List.mem_cons_of_mem _ hg), fun g hg => ?_⟩
      rcases List.mem_append.1 hg with hg | hg
      · exact hB g hg
      · obtain rfl : g = _ := by simpa using hg
        exact isG_add (hA f (List.mem_cons_self ..)) _
  · simp only [List.cons.injEq] at hl
    obtain ⟨rfl, rfl⟩ := hl
    refine ⟨G, A, B ++ [(f.1, f.2.1, f.2.2.1, f.2.2.2)], hG, Or.inl ⟨rfl, by simp⟩, hA, fun g hg => ?_⟩
    rcases List.mem_append.1 hg with hg | hg
    · exact hB g hg
    · obtain rfl : g = _ := by simpa using hg
      exact isG_same hx _
theorem fair_serve {sp : Int → Int} {f : Fl} {r : List Fl} {fr : Bool} (h : FairS sp (f :: r) fr) (hn : ((f :: r).map (·.1)).Nodup) (hs : (serveF f fr).1 = true) : FairS (bump sp f.1 f.2.2.2) ((serveF f fr).2.1 :: r) (serveF f fr).2.2 := by
  obtain ⟨e, e2, _⟩ := serve_pays hs
  rw [e, e2]
  rw [List.map_cons, List.nodup_cons] at hn
  have ho : ∀ g ∈ r, g.1 ≠ f.1 := fun g hg e => hn.1 (by rw [← e]; exact List.mem_map.2 ⟨g, hg, rfl⟩)
  obtain ⟨G, A, B, hG, h1, hA, hB⟩ := h
  rcases h1 with ⟨rfl, hl⟩ | ⟨rfl, x, hl, hx⟩
  · cases A with
    | nil =>
      rw [List.nil_append] at hl
      subst hl
      refine ⟨G + 1, r, [], by omega, Or.inr ⟨rfl, _, by rw [List.append_nil]; rfl, isG_pay _ _ (isG_add (hB f (List.mem_cons_self ..)) f.2.2.2)⟩, fun g hg => isG_other (hB g (List.mem_cons_of_mem _ hg)) (ho g hg), by simp⟩
    | cons a A =>
      simp only [List.cons_append, List.cons.injEq] at hl
      obtain ⟨rfl, rfl⟩ := hl
      refine ⟨G, A, B, hG, Or.inr ⟨rfl, _, rfl, isG_pay _ _ (isG_add (hA f (List.mem_cons_self ..)) f.2.2.2)⟩, fun g hg => isG_other (hA g (List.mem_cons_of_mem _ hg)) (ho g (List.mem_append_left _ hg)), fun g hg => isG_other (hB g hg) (ho g (List.mem_append_right _ hg))⟩
  · simp only [List.cons.injEq] at hl
    obtain ⟨rfl, rfl⟩ := hl
    refine ⟨G, A, B, hG, Or.inr ⟨rfl, _, rfl, isG_pay _ _ (isG_same hx f.2.2.2)⟩, fun g hg => isG_other (hA g hg) (ho g (List.mem_append_left _ hg)), fun g hg => isG_other (hB g hg) (ho g (List.mem_append_right _ hg))⟩
/-- What stays true of whoever has no turn: nothing was turned, or it could not pay. -/
def Poor (c : Int) (L : List Fl) : Prop := ∀ f ∈ L, f.1 = c → f.2.2.1 < f.2.2.2
theorem fair_turn : ∀ {n : Nat} {sp : Int → Int} {L : List Fl} {fr : Bool} {f : Fl} {r : List Fl} {fr' : Bool}, (∀ g ∈ L, g.2.2.2 ≠ 0) → FairS sp L fr → (L.map (·.1)).Nodup → turn n L fr = some (f :: r, fr') →
    FairS (bump sp f.1 f.2.2.2) (f :: r) fr' ∧ (∀ k, Poor k L → f.1 ≠ k → Poor k (f :: r))
  | 0, _, _, _, _, _, _, _, _, _, h => by simp [Dr.turn] at h
  | n + 1, _, [], _, _, _, _, _, _, _, h => by simp [Dr.turn] at h
  | n + 1, sp, a :: t, fr, f, r, fr', hc, hF, hn, h => by
    unfold Dr.turn at h
    by_cases c : (serveF a fr).1 = true
    · rw [if_pos c] at h
      have h := Option.some.inj h
      simp only [Prod.mk.injEq, List.cons.injEq] at h
      obtain ⟨⟨rfl, rfl⟩, rfl⟩ := h
      have := fair_serve hF hn c
      rw [(serve_ids a fr).1, (serve_ids a fr).2.2]
      refine ⟨this, fun k hp hne g hg e => ?_⟩
      rcases List.mem_cons.1 hg with rfl | hg
      · rw [(serve_ids a fr).1] at e
        exact absurd e hne
      · exact hp g (List.mem_cons_of_mem _ hg) e
    · rw [if_neg c] at h
      have ca : (serveF a fr).1 = false := by simpa using c
      have h0 := hc a (List.mem_cons_self ..)
      obtain ⟨e1, e2⟩ := serve_pass h0 ca
      have hc' : ∀ g ∈ t ++ [(serveF a fr).2.1], g.2.2.2 ≠ 0 := fun g hg => by
        rcases List.mem_append.1 hg with hg | hg
        · exact hc g (List.mem_cons_of_mem _ hg)
        · obtain rfl : g = _ := by simpa using hg
          rw [(serve_ids a fr).2.2]; exact h0
      have hn' : ((t ++ [(serveF a fr).2.1]).map (·.1)).Nodup := by
        rw [List.map_append, List.map_cons, List.map_nil, (serve_ids a fr).1]
        rw [List.map_cons] at hn
        exact (List.perm_append_singleton _ _).nodup_iff.2 hn
      obtain ⟨y1, y2⟩ := fair_turn hc' (fair_pass hF h0 ca) hn' h
      refine ⟨y1, fun k hp hne => y2 k (fun g hg e => ?_) hne⟩
      rcases List.mem_append.1 hg with hg | hg
      · exact hp g (List.mem_cons_of_mem _ hg) e
      · obtain rfl : g = _ := by simpa using hg
        rw [e1]; exact e2
theorem fair_priced {sp : Int → Int} {L : List Fl} {fr : Bool} (h : FairS sp L fr) (cs : List (Int × Int)) : FairS sp (priced cs L) fr := by
  obtain ⟨G, A, B, hG, h1, hA, hB⟩ := h
  have hm : ∀ {X : List Fl} {g : Int}, (∀ f ∈ X, IsG sp f g) → ∀ f ∈ priced cs X, IsG sp f g := fun hX f hf => by
    obtain ⟨x, hx, rfl⟩ := List.mem_map.1 hf
    exact hX x hx
  refine ⟨G, priced cs A, priced cs B, hG, ?_, hm hA, hm hB⟩
  rcases h1 with ⟨hf, rfl⟩ | ⟨hf, x, rfl, hx⟩
  · exact Or.inl ⟨hf, by unfold priced; rw [List.map_append]⟩
  · exact Or.inr ⟨hf, (x.1, x.2.1, x.2.2.1, costOf cs x.1), by unfold priced; rw [List.map_cons, List.map_append], hx⟩
theorem fair_TurnR {sp : Int → Int} {cs : List (Int × Int)} {L : List Fl} {fr : Bool} {id : Int} {ok : Bool} {L' : List Fl} {fr' : Bool} (hF : FairS sp L fr) (hO : OkS L fr) (hc : ∀ f ∈ L, 0 < costOf cs f.1) (hne : L ≠ []) (h : TurnR cs L fr id ok L' fr') :
    ok = true ∧ FairS (bump sp id (costOf cs id)) L' fr' ∧ (∀ k, (∀ f ∈ L, f.1 = k → f.2.2.1 < costOf cs k) → id ≠ k → ∀ f ∈ L', f.1 = k → f.2.2.1 < costOf cs k) := by
  have hP := priced_ok (cs := cs) hO
  rcases h with ⟨h0, _⟩ | ⟨_, h1, n, f, r, ht, rfl, rfl⟩
  · obtain ⟨f, hf⟩ := List.exists_mem_of_ne_nil _ hne
    have : ready (priced cs L) = true := by
      unfold ready priced
      rw [List.any_map, List.any_eq_true]
      exact ⟨f, hf, by simpa using hc f hf⟩
    rw [this] at h0; cases h0
  · obtain ⟨y1, y2⟩ := fair_turn (fun g hg => by
      obtain ⟨x, hx, rfl⟩ := List.mem_map.1 hg
      have := hc x hx
      simp only; omega) (fair_priced hF cs) hP.2.2.1 ht
    have hcost : ∀ g ∈ f :: r, g.2.2.2 = costOf cs g.1 := by
      have gen : ∀ {n : Nat} {X : List Fl} {b : Bool} {S : List Fl × Bool}, (∀ g ∈ X, g.2.2.2 = costOf cs g.1) → turn n X b = some S → ∀ g ∈ S.1, g.2.2.2 = costOf cs g.1 := by
        intro n
        induction n with
        | zero => intro X b S _ h; simp [Dr.turn] at h
        | succ n ih =>
          intro X b S hX h
          cases X with
          | nil => simp [Dr.turn] at h
          | cons a t =>
            have ha : (serveF a b).2.1.2.2.2 = costOf cs (serveF a b).2.1.1 := by
              rw [(serve_ids a b).1, (serve_ids a b).2.2]; exact hX a (List.mem_cons_self ..)
            unfold Dr.turn at h
            by_cases c : (serveF a b).1 = true
            · rw [if_pos c] at h
              obtain rfl := Option.some.inj h
              intro g hg
              rcases List.mem_cons.1 hg with rfl | hg
              · exact ha
              · exact hX g (List.mem_cons_of_mem _ hg)
            · rw [if_neg c] at h
              refine ih (fun g hg => ?_) h
              rcases List.mem_append.1 hg with hg | hg
              · exact hX g (List.mem_cons_of_mem _ hg)
              · obtain rfl : g = _ := by simpa using hg
                exact ha
      exact gen (fun g hg => by
        obtain ⟨x, _, rfl⟩ := List.mem_map.1 hg
        rfl) ht
    have hcf := hcost f (List.mem_cons_self ..)
    rw [hcf] at y1
    refine ⟨h1, y1, fun k hp hk g hg e => ?_⟩
    have := y2 k (fun x hx ex => by
      obtain ⟨z, hz, rfl⟩ := List.mem_map.1 hx
      simp only at ex ⊢
      rw [ex]
      exact hp z hz ex) hk g hg e
    rw [hcost g hg, e] at this
    exact this
theorem findG_some {L : List Fl} {id : Int} (h : id ∈ L.map (·.1)) : ∃ f ∈ L, f.1 = id ∧ findG (L.map gl) id = some (gl f) := by
  induction L with
  | nil => simp at h
  | cons a r ih =>
    unfold findG
    rw [List.map_cons, List.find?_cons]
    by_cases e : a.1 = id
    · have : ((gl a).1 == id) = true := by unfold gl; simpa using e
      rw [this]
      exact ⟨a, List.mem_cons_self .., e, rfl⟩
    · have : ((gl a).1 == id) = false := by unfold gl; simpa using e
      rw [this]
      have hr : id ∈ r.map (·.1) := by
        rw [List.map_cons] at h
        rcases List.mem_cons.1 h with h | h
        · exact absurd h.symm e
        · exact h
      obtain ⟨f, hf, e1, e2⟩ := ih hr
      exact ⟨f, List.mem_cons_of_mem _ hf, e1, e2⟩
theorem cost_priceL (l : List UInt8) (m k : Nat) (h : k < m) : costOf (priceL l m) (k : Int) = prI l k := by
  have gen : ∀ (n b : Nat) (j : Nat), j < n → costOf ((List.range' b n).map fun (i : Nat) => ((i : Int), prI l i)) ((b + j : Nat) : Int) = prI l (b + j) := by
    intro n
    induction n with
    | zero => intro b j h; omega
    | succ n ih =>
      intro b j hj
      rw [List.range'_succ, List.map_cons]
      unfold costOf
      have hp := prI_pos l b
      cases j with
      | zero => simp only [Nat.add_zero, if_true]; omega
      | succ j =>
        rw [if_neg (by simp only; omega)]
        have := ih (b + 1) j (by omega)
        rw [show b + (j + 1) = b + 1 + j by omega]
        exact this
  have := gen m 0 k h
  unfold priceL
  rw [List.range_eq_range', ← Nat.zero_add k, this]
theorem priceL_get (l : List UInt8) (m k : Nat) (h : k < m) : ∃ h2 : k < (priceL l m).length, (priceL l m)[k]'h2 = ((k : Int), prI l k) := by
  refine ⟨by rw [priceL_len]; exact h, ?_⟩
  have : (priceL l m)[k]? = some ((k : Int), prI l k) := by
    unfold priceL
    rw [List.getElem?_map, List.getElem?_range h]; rfl
  rw [List.getElem?_eq_getElem (by rw [priceL_len]; exact h)] at this
  exact Option.some.inj this
theorem cost_all {L : List Fl} {m : Nat} (hids : ∀ x : Int, x ∈ L.map (·.1) ↔ 0 ≤ x ∧ x < (m : Int)) (c : List UInt8) : ∀ f ∈ L, 0 < costOf (priceL c m) f.1 := by
  intro f hf
  obtain ⟨h1, h2⟩ := (hids f.1).1 (List.mem_map.2 ⟨f, hf, rfl⟩)
  obtain ⟨k, hk⟩ := Int.eq_ofNat_of_zero_le h1
  rw [hk, cost_priceL c m k (by omega)]
  have := prI_pos c k; omega
abbrev rowN (n : Int) : List Value := [.int .i64 n]
def spL (sp : Int → Int) (m : Nat) : List Int := (List.range m).map fun (j : Nat) => sp (j : Int)
theorem spL_len (sp : Int → Int) (m : Nat) : (spL sp m).length = m := by unfold spL; simp
theorem spL_get (sp : Int → Int) (m k : Nat) (h : k < (spL sp m).length) : (spL sp m)[k]'h = sp (k : Int) := by
  have hk : k < m := by rw [spL_len] at h; exact h
  have : (spL sp m)[k]? = some (sp (k : Int)) := by
    unfold spL
    rw [List.getElem?_map, List.getElem?_range hk]; rfl
  rw [List.getElem?_eq_getElem h] at this
  exact Option.some.inj this
theorem spL_bump (sp : Int → Int) (m k : Nat) (c : Int) : (spL sp m).set k (sp (k : Int) + c) = spL (bump sp (k : Int) c) m := by
  apply List.ext_getElem?
  intro i
  rw [List.getElem?_set]
  unfold spL bump
  simp only [List.length_map, List.length_range, List.getElem?_map]
  by_cases h : i < m
  · rw [List.getElem?_range h]
    by_cases e : k = i
    · subst e; simp [h]
    · have : ¬ (i : Int) = (k : Int) := by omega
      simp [e, this]
  · rw [List.getElem?_eq_none (by simp; omega)]
    by_cases e : k = i
    · subst e; simp [h]
    · simp [e]
theorem own_num {w : World} {b : Nat} {e : TypeId} {g n c : Nat} {l : List Int} (h : Own w b e 1 rowN (.slice (some ⟨g, 0, none⟩) n c) l) (j : Nat) (hj : j < l.length) : w.cell? ⟨g, j, none⟩ = some (.int .i64 (l[j]'hj)) ∧ ∀ o, w.frozen? ⟨g, o, none⟩ = false := by
  obtain ⟨g', hg, _, _, hf, hc⟩ := h.cells (f := rowN) (k := 1) (fun _ => rfl) rfl (by omega)
  obtain rfl : g = g' := by simpa using hg
  have := hc j hj 0 _ rfl
  rw [Nat.mul_one, Nat.add_zero] at this
  exact ⟨this, hf⟩
theorem own_nput {w : World} {b : Nat} {e : TypeId} {g n c : Nat} {l : List Int} (h : Own w b e 1 rowN (.slice (some ⟨g, 0, none⟩) n c) l) (j : Nat) (hj : j < l.length) (x : Int) : Own (w.setCell ⟨g, j, none⟩ (.int .i64 x)) b e 1 rowN (.slice (some ⟨g, 0, none⟩) n c) (l.set j x) := by
  have := Own.put (f := rowN) (k := 1) (fun _ => rfl) h j hj (i := 0) (by decide) (x := x) (u := .int .i64 x) rfl
  rw [Nat.mul_one, Nat.add_zero] at this
  exact this
theorem own_oset {α : Type} {w : World} {B g : Nat} {e e' : TypeId} {k : Nat} {f : α → List Value} {v : Value} {l : List α} (hO : Own w B e k f v l) (hc : ∃ cs, w.heap[g]? = some (.cells cs e' (0, 0))) (hne : e ≠ e') (o : Nat) (u : Value) : Own (w.setCell ⟨g, o, none⟩ u) B e k f v l :=
  hO.grown (grown_set w g o u) (fun b hb he => by
    obtain rfl : g = b := by simpa using hb
    obtain ⟨_, cs', h2⟩ := hO.block he
    obtain ⟨cs, h1⟩ := hc
    have := h1.symm.trans h2
    simp only [Option.some.injEq, Obj.cells.injEq] at this
    exact hne this.2.1.symm)
theorem Own.heap {α : Type} {w w' : World} {B : Nat} {e : TypeId} {k : Nat} {f : α → List Value} {v : Value} {l : List α} (h : Own w B e k f v l) (hh : w'.heap = w.heap) : Own w' B e k f v l := by
  unfold Own World.ownsRow at h ⊢; rw [hh]; exact h
theorem Kp.same {w W W' : World} {d : Nat} {L : List Fl} {fr : Bool} (h : Kp w W d L fr) (hh : W'.heap = W.heap) (h1 : W'.os = W.os) (h2 : W'.tape = W.tape) (h3 : W'.output = W.output) : Kp w W' d L fr := h.later ⟨h1, h2, h3, by rw [hh]; exact Nat.le_refl _, fun k _ => by rw [hh]⟩
theorem Kp.far {w W W' : World} {d g : Nat} {L : List Fl} {fr : Bool} {e : TypeId} (h : Kp w W d L fr) (hg : W.grownBy W' (some g)) (hc : ∃ cs, W.heap[g]? = some (.cells cs e (0, 0))) (he1 : e ≠ 65) (he2 : e ≠ 68) (hw : w.heap.size ≤ g) : Kp w W' d L fr := by
  obtain ⟨v, l, c, h1, h2⟩ := h.drs
  obtain ⟨cs, hcs⟩ := hc
  refine ⟨⟨v, l, c, ⟨h1.low, h1.blk.grown hg (fun e => ?_), h1.row.grown hg (fun b hb hv => ?_), h1.cur⟩, h2⟩, h.ok, below_some h.bel hg h.bel.size hw⟩
  · obtain rfl : d = g := by simpa using e
    have := hcs.symm.trans h1.blk
    simp only [Option.some.injEq, Obj.cells.injEq] at this
    exact he1 this.2.1
  · obtain rfl : g = b := by simpa using hb
    obtain ⟨_, cs', h9⟩ := h1.row.block hv
    have := hcs.symm.trans h9
    simp only [Option.some.injEq, Obj.cells.injEq] at this
    exact he2 this.2.1
theorem okS_defs {L : List Fl} {fr : Bool} (h : OkS L fr) (f : Fl) (hf : f ∈ L) : 0 ≤ f.2.2.1 ∧ f.2.2.1 < f.2.1 + 512 ∧ f.2.1 ≤ 1000 ∧ 1 ≤ f.2.1 := by
  obtain ⟨h1, h2, _⟩ := h
  obtain ⟨a, b, c, _⟩ := h1 f hf
  refine ⟨c, ?_, b, a⟩
  cases L with
  | nil => simp at hf
  | cons x r =>
    rcases List.mem_cons.1 hf with rfl | hf
    · have := h2.1
      cases fr
      · simp only [Bool.false_eq_true, if_false] at this; exact this
      · simp only [if_true] at this; omega
    · have := h2.2 f hf
      omega
theorem spL_zero (m : Nat) : (spL (fun _ => 0) m).flatMap rowN = (madeCells (Value.int .i64 0).cells (m * 1)).toList := by
  have h1 : (spL (fun _ => 0) m).flatMap rowN = List.replicate m (.int .i64 0) := by
    refine List.eq_replicate_iff.2 ⟨by rw [flat_len (f := rowN) (k := 1) (fun _ => rfl), spL_len]; omega, fun v hv => ?_⟩
    obtain ⟨x, hx, hv⟩ := List.mem_flatMap.1 hv
    unfold spL at hx
    obtain ⟨j, _, rfl⟩ := List.mem_map.1 hx
    simpa using hv
  have h2 : (madeCells (Value.int .i64 0).cells (m * 1)).toList = List.replicate m (.int .i64 0) := by
    refine List.eq_replicate_iff.2 ⟨by rw [Array.length_toList, size_madeCells]; omega, fun v hv => ?_⟩
    unfold madeCells at hv
    simp only [Array.toList_map, List.mem_map] at hv
    obtain ⟨j, _, rfl⟩ := hv
    have : j % (Value.int .i64 0).cells.size = 0 := by show j % 1 = 0; omega
    rw [this]; rfl
  rw [h1, h2]
theorem fair_start (q : List UInt8) (m : Nat) (hm : 0 < q.length) : FairS (fun _ => 0) (roundL q) true := by
  refine ⟨0, roundL q, [], Int.le_refl 0, Or.inl ⟨rfl, by rw [List.append_nil]⟩, fun f hf => ?_, by simp⟩
  unfold roundL at hf
  obtain ⟨x, _, rfl⟩ := List.mem_map.1 hf
  unfold IsG roundF
  simp
theorem isG_small {sp : Int → Int} {f : Fl} {g : Int} (h : IsG sp f g) (hg : 0 ≤ g) (hq : 1 ≤ f.2.1) (b : Int) (hs : sp f.1 + f.2.2.1 ≤ b) : g ≤ b := by
  unfold IsG at h
  have := Int.mul_le_mul_of_nonneg_left hq hg
  omega
theorem isG_div {sp : Int → Int} {f : Fl} {g : Int} (h : IsG sp f g) (hq : 1 ≤ f.2.1) (h0 : 0 ≤ sp f.1 + f.2.2.1) : (sp f.1 + f.2.2.1) % f.2.1 = 0 ∧ (sp f.1 + f.2.2.1) / f.2.1 = g ∧ (sp f.1 + f.2.2.1).tmod f.2.1 = 0 ∧ (sp f.1 + f.2.2.1).tdiv f.2.1 = g := by
  unfold IsG at h
  have h1 : (sp f.1 + f.2.2.1) % f.2.1 = 0 := by rw [h]; exact Int.mul_emod_left g _
  have h2 : (sp f.1 + f.2.2.1) / f.2.1 = g := by rw [h]; exact Int.mul_ediv_cancel g (by omega)
  exact ⟨h1, h2, by rw [Int.tmod_eq_emod_of_nonneg h0]; exact h1, by rw [Int.tdiv_eq_ediv_of_nonneg h0]; exact h2⟩
end Go.Proofs.Ytckpecddglfjkaa
