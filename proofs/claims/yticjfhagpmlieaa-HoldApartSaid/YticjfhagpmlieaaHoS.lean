/- Waits, numbered: how they stand in a hold. -/
import Derived.Test.YticjfhagpmlieaaWalkHoldDue
import Derived.Deep.OwnRows
namespace Go.Proofs.Yticjfhagpmlieaa
open Go.ChangeShapes Go.WideShapes Go.ChangeAt Go.RowKit
open Ho
set_option linter.unusedVariables false
set_option linter.unusedSimpArgs false

theorem flat_set {α : Type} {f : α → List Value} {k : Nat} (hf : ∀ x, (f x).length = k) {i : Nat} (hi : i < k) {u : Value} {x : α} : ∀ (l : List α) (j : Nat) (hj : j < l.length), f x = (f (l[j]'hj)).set i u → (l.set j x).flatMap f = (l.flatMap f).set (j * k + i) u
  | [], j, hj, _ => absurd hj (by simp)
  | a :: r, 0, hj, h => by
    simp only [List.set_cons_zero, List.flatMap_cons, Nat.zero_mul, Nat.zero_add]
    rw [List.set_append_left _ _ (by rw [hf]; exact hi), h]; rfl
  | a :: r, j + 1, hj, h => by
    simp only [List.set_cons_succ, List.flatMap_cons]
    rw [List.set_append_right _ _ (by rw [hf, Nat.add_mul]; omega), flat_set hf hi r j (by simpa using hj) h, hf]
    congr 2
    rw [Nat.add_mul]; omega
/-- A cell of an element is written. -/
theorem Own.put {α : Type} {f : α → List Value} {k : Nat} (hf : ∀ x, (f x).length = k) {w : World} {b : Nat} {e : TypeId} {g n c : Nat} {l : List α} (h : Own w b e k f (.slice (some ⟨g, 0, none⟩) n c) l) (j : Nat) (hj : j < l.length) {i : Nat} (hi : i < k) {x : α} {u : Value} (hx : f x = (f (l[j]'hj)).set i u) :
    Own (w.setCell ⟨g, j * k + i, none⟩ u) b e k f (.slice (some ⟨g, 0, none⟩) n c) (l.set j x) := by
  obtain ⟨_, _, he, _, _, _⟩ := h.shape
  simp only [Value.slice.injEq] at he
  obtain ⟨_, rfl, rfl⟩ := he
  have := World.ownsRow.stored h (j * k + i) u
  unfold Own
  rw [List.length_set, flat_set hf hi l j hj hx]
  exact this.1
/-- The first k acts have their places as numbers. -/
def numb (a : Ac) (j : Nat) : Ac := { a with x := (j : Int) }
def numd (L : List Ac) (k : Nat) : List Ac := (List.range L.length).map fun j => if j < k then numb (L.getD j ⟨0, 0, (none, 0, 0), 0, []⟩) j else L.getD j ⟨0, 0, (none, 0, 0), 0, []⟩
theorem numd_len (L : List Ac) (k : Nat) : (numd L k).length = L.length := by unfold numd; simp
theorem numd_get (L : List Ac) (k j : Nat) (hj : j < L.length) (h : j < (numd L k).length) : (numd L k)[j]'h = if j < k then numb (L[j]'hj) j else L[j]'hj := by
  unfold numd
  simp [List.getD, List.getElem?_eq_getElem hj]
theorem numd_zero (L : List Ac) : numd L 0 = L := by
  apply List.ext_getElem (numd_len L 0)
  intro j h1 h2
  rw [numd_get L 0 j h2 h1, if_neg (by omega)]
theorem numd_set (L : List Ac) (k : Nat) (hk : k < L.length) : (numd L k).set k (numb (L[k]'hk) k) = numd L (k + 1) := by
  apply List.ext_getElem (by rw [List.length_set, numd_len, numd_len])
  intro j h1 h2
  have hj : j < L.length := by rw [numd_len] at h2; exact h2
  rw [numd_get L (k + 1) j hj h2, List.getElem_set]
  by_cases e : k = j
  · subst e; rw [if_pos rfl, if_pos (by omega)]
  · rw [if_neg e, numd_get L k j hj (by rw [numd_len]; exact hj)]
    by_cases h : j < k
    · rw [if_pos h, if_pos (by omega)]
    · rw [if_neg h, if_neg (by omega)]
theorem numd_at (L : List Ac) (k : Nat) (hk : k < L.length) (h : k < (numd L k).length) : (numd L k)[k]'h = L[k]'hk := by
  rw [numd_get L k k hk h, if_neg (by omega)]
/-- How a hold's waits stand: those that are alike as they were added. -/
def Rk (a b : D) : Prop := kc a b < 0 ∨ (kc a b = 0 ∧ a.2.2 < b.2.2)
theorem flk_all (L : List Ac) (hL : ∀ j (h : j < L.length), (L[j]'h).x = (j : Int)) : ∀ k, k ≤ L.length → (∀ y ∈ flk L k, ∃ j, ∃ h : j < L.length, j < k ∧ y = (L[j]'h).d) ∧ (flk L k).Pairwise Rk
  | 0, _ => by unfold flk; simp
  | k + 1, hk => by
    obtain ⟨ih1, ih2⟩ := flk_all L hL k (by omega)
    rw [flk_succ L k (by omega)]
    refine ⟨fun y hy => ?_, ?_⟩
    · unfold ins at hy
      rcases List.mem_append.1 hy with hy | hy
      · obtain ⟨j, h, hj, e⟩ := ih1 y (List.mem_of_mem_take hy)
        exact ⟨j, h, by omega, e⟩
      · rcases List.mem_cons.1 hy with rfl | hy
        · exact ⟨k, by omega, by omega, rfl⟩
        · obtain ⟨j, h, hj, e⟩ := ih1 y (List.mem_of_mem_drop hy)
          exact ⟨j, h, by omega, e⟩
    · have hs := flk_sorted L k
      have hx : ∀ y ∈ flk L k, y.2.2 < (k : Int) := fun y hy => by
        obtain ⟨j, h, hj, rfl⟩ := ih1 y hy
        show (L[j]'h).x < k
        rw [hL j h]; omega
      have hw : ((L[k]'(by omega)).d).2.2 = (k : Int) := hL k (by omega)
      generalize (L[k]'(by omega)).d = w at *
      unfold ins
      rw [List.pairwise_append, List.pairwise_cons]
      have hbe : ∀ x ∈ (flk L k).take (pos w (flk L k)), Rk x w := fun x hx' => by
        have h1 := pos_before hx'
        have h2 := hx x (List.mem_of_mem_take hx')
        unfold Rk
        omega
      have hwb : ∀ x ∈ (flk L k).drop (pos w (flk L k)), Rk w x := fun x hx' => by
        have h1 := pos_behind hs hx'
        have := kc_neg x w
        unfold Rk
        omega
      refine ⟨List.Pairwise.sublist (List.take_sublist _ _) ih2, ⟨hwb, List.Pairwise.sublist (List.drop_sublist _ _) ih2⟩, fun a ha b hb => ?_⟩
      rcases List.mem_cons.1 hb with rfl | hb
      · exact hbe a ha
      · have h1 := pos_before ha
        have h2 := pos_behind hs hb
        have := kc_neg b w
        left
        exact c3K.lt' (b := (w.1, w.2.1)) (show kk (a.1, a.2.1) (w.1, w.2.1) ≤ 0 from h1) (by show kc w b < 0; omega)
/-- Which numbers have been met. -/
def metL (n : Nat) (T : List D) (i : Nat) : List Bool := (List.range n).map fun (j : Nat) => (T.take i).any fun y => y.2.2 == (j : Int)
theorem metL_len (n : Nat) (T : List D) (i : Nat) : (metL n T i).length = n := by unfold metL; simp
theorem metL_get (n : Nat) (T : List D) (i j : Nat) (h : j < (metL n T i).length) : (metL n T i)[j]'h = (T.take i).any fun y => y.2.2 == (j : Int) := by
  have hj : j < n := by rw [metL_len] at h; exact h
  have e : (metL n T i)[j]? = some ((T.take i).any fun y => y.2.2 == (j : Int)) := by
    unfold metL
    rw [List.getElem?_map, List.getElem?_range hj]; rfl
  rw [List.getElem?_eq_getElem h] at e
  exact Option.some.inj e
theorem metL_zero (n : Nat) (T : List D) : metL n T 0 = List.replicate n false := by
  apply List.ext_getElem (by rw [metL_len, List.length_replicate])
  intro j h1 h2
  rw [metL_get]; simp
theorem metL_set (n : Nat) (T : List D) (i j : Nat) (hi : i < T.length) (hj : j < n) (e : (T[i]'hi).2.2 = (j : Int)) : (metL n T i).set j true = metL n T (i + 1) := by
  apply List.ext_getElem (by rw [List.length_set, metL_len, metL_len])
  intro q h1 h2
  have hq : q < n := by rw [metL_len] at h2; exact h2
  rw [List.getElem_set, metL_get, metL_get, List.take_succ_eq_append_getElem hi, List.any_append]
  by_cases h : j = q
  · subst h; rw [if_pos rfl]; simp [e]
  · rw [if_neg h]
    have : ((T[i]'hi).2.2 == (q : Int)) = false := by rw [e, beq_eq_false_iff_ne]; omega
    simp [this]
theorem metL_no (n : Nat) (T : List D) (i j : Nat) (hi : i < T.length) (e : (T[i]'hi).2.2 = (j : Int)) (hT : T.Pairwise Rk) (hd : ∀ a ∈ T, ∀ b ∈ T, a.2.2 = b.2.2 → a = b) (h : j < (metL n T i).length) : (metL n T i)[j]'h = false := by
  rw [metL_get, List.any_eq_false]
  intro y hy
  obtain ⟨q, hq, rfl⟩ := List.getElem_of_mem hy
  rw [List.getElem_take]
  rw [List.length_take] at hq
  have hR := (List.pairwise_iff_getElem.1 hT) q i (by omega) hi (by omega)
  intro he
  have he' : (T[q]'(by omega)).2.2 = (j : Int) := by simpa using he
  have hab := hd _ (List.getElem_mem (by omega : q < T.length)) _ (List.getElem_mem hi) (by rw [he', e])
  unfold Rk at hR
  rw [hab] at hR
  have : kc (T[i]'hi) (T[i]'hi) = 0 := c3K.self _
  omega
abbrev rowZ (b : Bool) : List Value := [.bool b]
theorem own_made (w : World) (n : Nat) (hn : n ≤ maxLen) : Own (w.alloc (.cells (madeCells #[.bool false] n) 4)) w.heap.size 4 1 rowZ (.slice (some ⟨w.heap.size, 0, none⟩) n n) (List.replicate n false) := by
  refine own_lit (List.replicate n false) rfl (Nat.le_refl _) (by simp) hn ?_ ?_
  · simp [madeCells]
  · apply List.ext_getElem
    · rw [flat_len (f := rowZ) (k := 1) (fun _ => rfl)]; simp [madeCells]
    · intro j h1 h2
      have hj : j < n := by rw [flat_len (f := rowZ) (k := 1) (fun _ => rfl), List.length_replicate] at h1; omega
      have e := flat_get (f := rowZ) (k := 1) (fun _ => rfl) (List.replicate n false) j 0 (by simpa using hj) (by omega)
      simp only [Nat.mul_one, Nat.add_zero, List.getElem_replicate, List.getElem?_cons_zero, List.getElem?_eq_getElem h1] at e
      rw [Option.some.inj e]
      simp [madeCells, Nat.mod_one]
/-- What a write to a block of another type leaves of a Hold. -/
theorem HX.dset {X : Nat → Prop} {w : World} {B d g : Nat} {T : List D} {t : TypeId} {cs : Array Value} (h : HX X w B d T) (hB : Blk w g t cs) (n1 : 62 ≠ t) (n2 : 35 ≠ t) (n3 : 3 ≠ t) (n4 : 60 ≠ t) (o : Nat) (u : Value) : HX X (w.setCell ⟨g, o, none⟩ u) B d T := by
  obtain ⟨v, l, h1, h2, h3, h4, h5, h6, h7⟩ := h
  refine ⟨v, l, ⟨h1.low, h1.blk.far (p := ⟨g, o, none⟩) (fun e => ?_) u, h1.row.dset hB n2 o u, fun y hy => (h1.pts y hy).dset hB n3 n4 o u, h1.fit⟩, h2, h3, h4, h5, h6, fun k hk => by simpa [World.setCell] using h7 k hk⟩
  have e' : d = g := e
  subst e'
  have := h1.blk.symm.trans hB
  simp at this
  exact n1 this.2
end Go.Proofs.Yticjfhagpmlieaa
