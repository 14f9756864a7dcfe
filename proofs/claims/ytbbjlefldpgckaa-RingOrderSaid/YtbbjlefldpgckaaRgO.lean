/- RingOrder: three rows of numbers; the readers. -/
import Derived.Test.YtbbjlefldpgckaaRgW
namespace Go.Proofs.Ytbbjlefldpgckaa
open Go.ChangeShapes Go.WideShapes Go.ChangeAt Go.RowKit Go.Maps
open Ev (V3 rightV OkV)
set_option linter.unusedVariables false
set_option linter.unusedSimpArgs false
set_option maxRecDepth 20000

theorem own_seti {w : World} {b : Nat} {e : TypeId} {g n c : Nat} {cs : List Int} (h : Own w b e 1 i64r (.slice (some ⟨g, 0, none⟩) n c) cs) (k : Nat) (u : Int) : Own (w.setCell ⟨g, k, none⟩ (.int .i64 u)) b e 1 i64r (.slice (some ⟨g, 0, none⟩) n c) (cs.set k u) := by
  obtain ⟨_, _, he, _, _, _⟩ := h.shape
  simp only [Value.slice.injEq] at he
  obtain ⟨_, rfl, rfl⟩ := he
  have := (World.ownsRow.stored h k (.int .i64 u)).1
  unfold Own
  rw [List.length_set]
  have e : ∀ (cs : List Int) (k : Nat), (cs.flatMap i64r).set k (.int .i64 u) = (cs.set k u).flatMap i64r := by
    intro cs
    induction cs with
    | nil => intro k; simp
    | cons x r ih => intro k; cases k <;> simp [ih]
  rw [← e]; exact this
/-- Three rows of numbers, in blocks of their own. -/
structure T3 (w : World) (b ga na ca : Nat) (la : List Int) (gf nf cf : Nat) (lf : List Int) (gg ng cg : Nat) (lg : List Int) : Prop where
  a : Own w b 3 1 i64r (.slice (some ⟨ga, 0, none⟩) na ca) la
  f : Own w b 3 1 i64r (.slice (some ⟨gf, 0, none⟩) nf cf) lf
  g : Own w b 3 1 i64r (.slice (some ⟨gg, 0, none⟩) ng cg) lg
  af : ga ≠ gf
  ag : ga ≠ gg
  fg : gf ≠ gg
section
variable {w w' : World} {b ga na ca : Nat} {la : List Int} {gf nf cf : Nat} {lf : List Int} {gg ng cg : Nat} {lg : List Int}
theorem T3.later (h : T3 w b ga na ca la gf nf cf lf gg ng cg lg) (hb : Below w.heap.size w w') : T3 w' b ga na ca la gf nf cf lf gg ng cg lg := ⟨h.a.later hb, h.f.later hb, h.g.later hb, h.af, h.ag, h.fg⟩
theorem T3.frr (h : T3 w b ga na ca la gf nf cf lf gg ng cg lg) (hF : FrR w w') : T3 w' b ga na ca la gf nf cf lf gg ng cg lg := ⟨h.a.frr hF (by decide) (by decide), h.f.frr hF (by decide) (by decide), h.g.frr hF (by decide) (by decide), h.af, h.ag, h.fg⟩
theorem own_lt {α : Type} {e : TypeId} {k : Nat} {f : α → List Value} {g n c : Nat} {l : List α} (h : Own w b e k f (.slice (some ⟨g, 0, none⟩) n c) l) : g < w.heap.size := by
  obtain ⟨_, cs, hc⟩ := h.block (g := g) rfl
  exact (Array.getElem?_eq_some_iff.1 hc).1
theorem own_other {g n c g' : Nat} {l : List Int} (h : Own w b 3 1 i64r (.slice (some ⟨g, 0, none⟩) n c) l) (hg : w.grownBy w' (some g')) (hne : g ≠ g') : Own w' b 3 1 i64r (.slice (some ⟨g, 0, none⟩) n c) l :=
  h.grown hg (fun k hk e => hne (by
    have e1 : g = k := by simpa [Value.ownBlock] using e
    have e2 : g' = k := by simpa using hk
    omega))
/-- The new row's block: the old one's, or the new one. -/
theorem T3.growA (h : T3 w b ga na ca la gf nf cf lf gg ng cg lg) (hg : w.grownBy w' (some ga)) {n' c' : Nat} {l' : List Int} {g' : Nat} (hO : Own w' b 3 1 i64r (.slice (some ⟨g', 0, none⟩) n' c') l') (hat : g' = ga ∨ g' = w.heap.size) : T3 w' b g' n' c' l' gf nf cf lf gg ng cg lg := by
  have h1 := own_lt h.f
  have h2 := own_lt h.g
  have h3 := h.af
  have h4 := h.ag
  exact ⟨hO, own_other h.f hg h3.symm, own_other h.g hg h4.symm, by omega, by omega, h.fg⟩
theorem T3.growF (h : T3 w b ga na ca la gf nf cf lf gg ng cg lg) (hg : w.grownBy w' (some gf)) {n' c' : Nat} {l' : List Int} {g' : Nat} (hO : Own w' b 3 1 i64r (.slice (some ⟨g', 0, none⟩) n' c') l') (hat : g' = gf ∨ g' = w.heap.size) : T3 w' b ga na ca la g' n' c' l' gg ng cg lg := by
  have h1 := own_lt h.a
  have h2 := own_lt h.g
  have h3 := h.af
  have h4 := h.fg
  exact ⟨own_other h.a hg h3, hO, own_other h.g hg h4.symm, by omega, h.ag, by omega⟩
theorem T3.growG (h : T3 w b ga na ca la gf nf cf lf gg ng cg lg) (hg : w.grownBy w' (some gg)) {n' c' : Nat} {l' : List Int} {g' : Nat} (hO : Own w' b 3 1 i64r (.slice (some ⟨g', 0, none⟩) n' c') l') (hat : g' = gg ∨ g' = w.heap.size) : T3 w' b ga na ca la gf nf cf lf g' n' c' l' := by
  have h1 := own_lt h.a
  have h2 := own_lt h.f
  have h3 := h.ag
  have h4 := h.fg
  exact ⟨own_other h.a hg h3, own_other h.f hg h4, hO, h.af, by omega, by omega⟩
theorem T3.setG (h : T3 w b ga na ca la gf nf cf lf gg ng cg lg) (k : Nat) (u : Int) : T3 (w.setCell ⟨gg, k, none⟩ (.int .i64 u)) b ga na ca la gf nf cf lf gg ng cg (lg.set k u) :=
  h.growG (grown_set w gg k _) (own_seti h.g k u) (Or.inl rfl)
end
/-- What append tells of the row that it makes, in a form for three rows. -/
theorem own_app {w w' : World} {b : Nat} {v : Value} {g n c : Nat} {l : List Int} {x : Int} (h : w'.ownsRow b 3 1 v (n + 1) (l.flatMap i64r ++ [Value.int .i64 x])) (hn : n = l.length) (hat : v.ownBlock = (Value.slice (some ⟨g, 0, none⟩) n c).ownBlock ∨ v.ownBlock = some w.heap.size) :
    ∃ g' c', v = .slice (some ⟨g', 0, none⟩) (n + 1) c' ∧ Own w' b 3 1 i64r (.slice (some ⟨g', 0, none⟩) (n + 1) c') (l ++ [x]) ∧ (g' = g ∨ g' = w.heap.size) := by
  have hO : Own w' b 3 1 i64r v (l ++ [x]) := Own.more hn h
  rcases hO.2 with ⟨rfl, h0⟩ | ⟨g', cap, cur, rfl, h1⟩
  · simp at h0
  · have e : (l ++ [x]).length = n + 1 := by rw [List.length_append, hn]; rfl
    rw [e] at hO hat ⊢
    exact ⟨g', cap, rfl, hO, by simpa [Value.ownBlock] using hat⟩
/-- Readers: from where each reads, how many it got, its time. -/
abbrev Rd3 := Nat × Nat × Int
def rdo (R : List Rd3) : Rd := fun id => if 1 ≤ id then (R[(id - 1).toNat]?).map (fun r => (r.1 + r.2.1, r.2.2)) else none
theorem rdo_at {R : List Rd3} {k : Nat} (hk : k < R.length) : rdo R ((k : Int) + 1) = some ((R[k]'hk).1 + (R[k]'hk).2.1, (R[k]'hk).2.2) := by
  unfold rdo
  rw [if_pos (by omega), show ((k : Int) + 1 - 1).toNat = k by omega, List.getElem?_eq_getElem hk]
  rfl
theorem rdo_add (R : List Rd3) (n : Nat) (lo : Int) : upd (rdo R) ((R.length : Int) + 1) (some (n, lo)) = rdo (R ++ [(n, 0, lo)]) := by
  funext x
  unfold upd rdo
  by_cases h : x = (R.length : Int) + 1
  · rw [if_pos h, if_pos (by omega), h, show ((R.length : Int) + 1 - 1).toNat = R.length by omega, List.getElem?_append_right (Nat.le_refl _)]
    simp
  · rw [if_neg h]
    by_cases h1 : 1 ≤ x
    · rw [if_pos h1, if_pos h1]
      rcases Nat.lt_or_ge (x - 1).toNat R.length with h2 | h2
      · rw [List.getElem?_append_left h2]
      · rw [List.getElem?_eq_none h2, List.getElem?_eq_none (by simp; omega)]
    · rw [if_neg h1, if_neg h1]
theorem rdo_set (R : List Rd3) {k : Nat} (hk : k < R.length) (a g : Nat) (lo : Int) : upd (rdo R) ((k : Int) + 1) (some (a + g, lo)) = rdo (R.set k (a, g, lo)) := by
  funext x
  unfold upd rdo
  by_cases h : x = (k : Int) + 1
  · rw [if_pos h, if_pos (by omega), h, show ((k : Int) + 1 - 1).toNat = k by omega, List.getElem?_set_self hk]
    rfl
  · rw [if_neg h]
    by_cases h1 : 1 ≤ x
    · rw [if_pos h1, if_pos h1, List.getElem?_set_ne (by omega)]
    · rw [if_neg h1, if_neg h1]
def ho : Nat → List It
  | 0 => []
  | k + 1 => ho k ++ [(false, (k : Int), oneV (k : Int))]
theorem ho_len : ∀ k : Nat, (ho k).length = k
  | 0 => rfl
  | k + 1 => by rw [ho, List.length_append, ho_len k]; rfl
theorem ho_at : ∀ {k a : Nat}, a < k → (ho k)[a]? = some (false, (a : Int), oneV (a : Int))
  | k + 1, a, h => by
    rw [ho]
    rcases Nat.lt_or_ge a k with h1 | h1
    · rw [List.getElem?_append_left (by rw [ho_len]; exact h1)]; exact ho_at h1
    · obtain rfl : a = k := by omega
      rw [List.getElem?_append_right (by rw [ho_len]; exact Nat.le_refl _), ho_len]; simp
abbrev ro (c n : Nat) (R : List Rd3) : Rg := ⟨c, ho n, (n : Int), false, rdo R, R.length, R.length⟩
theorem ro_put {c n : Nat} {R : List Rd3} {e : Int} {s' : Rg} (h : PutR (ro c n R) false (n : Int) (oneV (n : Int)) e s') (hn : n < 1000) : (e = 9 ∧ s' = ro c n R) ∨ (e = 0 ∧ s' = ro c (n + 1) R) :=
  h.either (right_one _ _ (by omega) (by omega)) rfl (fun h => by
    rcases h with h | ⟨h, _⟩
    · have h' : (n : Int) < (n : Int) := h
      omega
    · cases h)
theorem ro_add {c n : Nat} {R : List Rd3} {id : Int} {s' : Rg} (h : AddR (ro c n R) id s') (hR : R.length < 16) : id = (R.length : Int) + 1 ∧ s' = ro c n (R ++ [(n, 0, (n : Int))]) := by
  obtain ⟨h1, h2⟩ := h.yes hR
  refine ⟨h1, h2.trans ?_⟩
  show (⟨c, ho n, (n : Int), false, upd (rdo R) ((R.length : Int) + 1) (some ((ho n).length, (n : Int))), R.length + 1, R.length + 1⟩ : Rg) = _
  rw [ho_len, rdo_add]
  simp
theorem ro_next {c n : Nat} {R : List Rd3} {k : Nat} (hk : k < R.length) {a g : Nat} {lo : Int} (hr : R[k]'hk = (a, g, lo)) {x : Option It} {s' : Rg} (h : NextR (ro c n R) ((k : Int) + 1) x s') (hlt : a + g < n) :
    x = some (false, ((a + g : Nat) : Int), oneV ((a + g : Nat) : Int)) ∧ s' = ro c n (R.set k (a, g + 1, ((a + g : Nat) : Int) + 1)) := by
  have h0 := rdo_at hk
  rw [hr] at h0
  obtain ⟨h1, h2⟩ := h.yes (r := (a + g, lo)) h0 (ho_at hlt)
  refine ⟨h1, h2.trans ?_⟩
  show (⟨c, ho n, (n : Int), false, upd (rdo R) ((k : Int) + 1) (some (a + (g + 1), ((a + g : Nat) : Int) + 1)), R.length, R.length⟩ : Rg) = _
  rw [rdo_set R hk]
  simp
theorem ro_none {c n : Nat} {R : List Rd3} {k : Nat} (hk : k < R.length) {a g : Nat} {lo : Int} (hr : R[k]'hk = (a, g, lo)) {x : Option It} {s' : Rg} (h : NextR (ro c n R) ((k : Int) + 1) x s') (hge : a + g = n) : x = none ∧ s' = ro c n R := by
  have h0 := rdo_at hk
  rw [hr] at h0
  refine h.no ?_
  unfold waitR
  show (match rdo R ((k : Int) + 1) with | none => (0 : Int) | some r => ((ho n).length : Int) - (r.1 : Int)) = 0
  rw [h0, ho_len]
  simp only
  omega
end Go.Proofs.Ytbbjlefldpgckaa
