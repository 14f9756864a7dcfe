/- How often each input has come: the mathematics, and the counters in memory. -/
import Derived.Test.YtcggkbopipnnoaaSame16
namespace Go.Proofs.Ytcggkbopipnnoaa
open Go.ChangeShapes Go.WideShapes Go.ChangeAt Go.RowKit
set_option linter.unusedVariables false
set_option linter.unusedSimpArgs false

/-- How many of the first i come of each input. -/
def cnts (l : List Pr) (n i : Nat) : List Int := (List.range n).map fun k : Nat => (((Mrg.one (k : Int) (l.take i)).length : Nat) : Int)
theorem cnts_len (l : List Pr) (n i : Nat) : (cnts l n i).length = n := by unfold cnts; simp
theorem cnts_zero (l : List Pr) (n : Nat) : cnts l n 0 = List.replicate n 0 := by
  apply List.ext_getElem
  · simp [cnts_len]
  · intro j h1 h2; simp [cnts, Mrg.one]
theorem cnts_get (l : List Pr) (n i k : Nat) (hk : k < (cnts l n i).length) : (cnts l n i)[k]'hk = (((Mrg.one (k : Int) (l.take i)).length : Nat) : Int) :=
  (List.getElem_map (fun k : Nat => (((Mrg.one (k : Int) (l.take i)).length : Nat) : Int)) (l := List.range n) (h := hk)).trans (by rw [List.getElem_range])
theorem cnts_step (l : List Pr) (n i k : Nat) (hi : i < l.length) (hk : (l[i]'hi).1 = (k : Int)) (hkn : k < n) :
    cnts l n (i + 1) = (cnts l n i).set k ((((Mrg.one (k : Int) (l.take i)).length : Nat) : Int) + 1) := by
  apply List.ext_getElem
  · simp [cnts_len]
  · intro j h1 h2
    rw [cnts_get, List.take_succ_eq_append_getElem hi, Mrg.one_app, List.getElem_set]
    have e : Mrg.one (j : Int) [l[i]'hi] = if (k : Int) = (j : Int) then [(l[i]'hi).2] else [] := by
      rw [show [l[i]'hi] = l[i]'hi :: [] from rfl, Mrg.one_cons, hk]; simp [Mrg.one]
    rw [e]
    by_cases hkj : k = j
    · subst hkj; simp
    · rw [if_neg (by omega), if_neg hkj, cnts_get]; simp
/-- The next one of input k. -/
theorem all_next {ins : List (List Ev2)} (i : Nat) (hi : i < (Mrg.all tmE ins).length) :
    ∃ (k : Nat) (hk : k < ins.length) (c : Nat) (hc : c < (ins[k]'hk).length), ((Mrg.all tmE ins)[i]'hi).1 = (k : Int) ∧ c = (Mrg.one (k : Int) ((Mrg.all tmE ins).take i)).length ∧ ((Mrg.all tmE ins)[i]'hi).2 = (ins[k]'hk)[c]'hc := by
  have hin := Mrg.all_in tmE ins _ (List.getElem_mem hi)
  obtain ⟨k, hk⟩ := Int.eq_ofNat_of_zero_le hin.1
  have hkl : k < ins.length := by omega
  have h1 := Mrg.all_one tmE ins k
  have e : Mrg.all tmE ins = (Mrg.all tmE ins).take i ++ ((Mrg.all tmE ins)[i]'hi :: (Mrg.all tmE ins).drop (i + 1)) := by
    rw [← List.drop_eq_getElem_cons hi, List.take_append_drop]
  have h2 : Mrg.one (k : Int) ((Mrg.all tmE ins).take i) ++ (((Mrg.all tmE ins)[i]'hi).2 :: Mrg.one (k : Int) ((Mrg.all tmE ins).drop (i + 1))) = ins[k]'hkl := by
    have : Mrg.one (k : Int) (Mrg.all tmE ins) = ins[k]'hkl := by rw [h1]; simp [hkl]
    rw [← this]
    conv => rhs; rw [e]
    rw [Mrg.one_app, Mrg.one_cons, if_pos hk]
  have hc : (Mrg.one (k : Int) ((Mrg.all tmE ins).take i)).length < (ins[k]'hkl).length := by rw [← h2]; simp
  refine ⟨k, hkl, _, hc, hk, rfl, ?_⟩
  have hm : ∀ (a b : List Ev2) (x : Ev2) (c : List Ev2) (h : a ++ x :: b = c) (hc : a.length < c.length), x = c[a.length]'hc := by
    intro a b x c h hc
    subst h
    simp
  exact hm _ _ _ _ h2 hc
theorem all_count {ins : List (List Ev2)} (k : Nat) (hk : k < ins.length) : (Mrg.one (k : Int) (Mrg.all tmE ins)).length = (ins[k]'hk).length := by
  rw [Mrg.all_one tmE ins k]; simp [hk]
theorem all_lex {ins : List (List Ev2)} (h : ∀ L ∈ ins, Rises 100 L) (i : Nat) (hi : i + 1 < (Mrg.all tmE ins).length) :
    Mrg.lex tmE ((Mrg.all tmE ins)[i]'(by omega)) ((Mrg.all tmE ins)[i + 1]'hi) := by
  have := Mrg.all_sorted tmE ins (fun L hL => (h L hL).1)
  exact List.pairwise_iff_getElem.1 this i (i + 1) (by omega) hi (by omega)
theorem all_total {ins : List (List Ev2)} : (Mrg.all tmE ins).length = ins.flatten.length := by
  unfold Mrg.all; rw [Mrg.whole_len, tags_flat]
theorem ins_total : ∀ {ins : List (List Ev2)}, (∀ L ∈ ins, L.length ≤ 6) → ins.flatten.length ≤ 6 * ins.length
  | [], _ => by simp
  | a :: r, h => by
    have h1 := h a (by simp)
    have h2 := ins_total (ins := r) (fun L hL => h L (by simp [hL]))
    simp only [List.flatten_cons, List.length_append, List.length_cons]; omega
/-- The law's lists in memory. -/
def St (w : World) (g n : Nat) (lv uv : Value) (l : List Pr) (us : List SV) (ins : List (List Ev2)) (rise : Bool) (cs : List Int) : Prop :=
  Own w 0 3 1 i64c (.slice (some ⟨g, 0, none⟩) n n) cs ∧ Own w 0 52 3 rowP lv l ∧ Own w 0 25 1 slc uv us ∧ Each w 46 2 rowE us ins ∧ InsOk w rise ins
theorem St.later {w w' : World} {g n : Nat} {lv uv : Value} {l : List Pr} {us : List SV} {ins : List (List Ev2)} {rise : Bool} {cs : List Int} (h : St w g n lv uv l us ins rise cs) (hb : Below w.heap.size w w') : St w' g n lv uv l us ins rise cs :=
  ⟨h.1.later hb, h.2.1.later hb, h.2.2.1.later hb, h.2.2.2.1.later hb, h.2.2.2.2.later hb⟩
theorem own_set {w : World} {b : Nat} {e : TypeId} {g n c : Nat} {cs : List Int} (h : Own w b e 1 i64c (.slice (some ⟨g, 0, none⟩) n c) cs) (k : Nat) (u : Int) : Own (w.setCell ⟨g, k, none⟩ (.int .i64 u)) b e 1 i64c (.slice (some ⟨g, 0, none⟩) n c) (cs.set k u) := by
  obtain ⟨_, _, he, _, _, _⟩ := h.shape
  simp only [Value.slice.injEq] at he
  obtain ⟨_, rfl, rfl⟩ := he
  have := (World.ownsRow.stored h k (.int .i64 u)).1
  unfold Own
  rw [List.length_set]
  have e : ∀ (cs : List Int) (k : Nat), (cs.flatMap i64c).set k (.int .i64 u) = (cs.set k u).flatMap i64c := by
    intro cs
    induction cs with
    | nil => intro k; simp
    | cons x r ih => intro k; cases k <;> simp [ih]
  rw [← e]; exact this
theorem St.put {w : World} {g n : Nat} {lv uv : Value} {l : List Pr} {us : List SV} {ins : List (List Ev2)} {rise : Bool} {cs : List Int} (h : St w g n lv uv l us ins rise cs) (k : Nat) (u : Int) : St (w.setCell ⟨g, k, none⟩ (.int .i64 u)) g n lv uv l us ins rise (cs.set k u) := by
  have h0 := h.1
  obtain ⟨_, _, he, _, _, _⟩ := h0.shape
  simp only [Value.slice.injEq] at he
  obtain ⟨_, rfl, _⟩ := he
  have hg := (World.ownsRow.stored h0 k (.int .i64 u)).2
  have hg' : w.grownBy (w.setCell ⟨g, k, none⟩ (.int .i64 u)) (Value.slice (some ⟨g, 0, none⟩) cs.length cs.length).ownBlock := hg
  exact ⟨own_set h0 k u, h.2.1.grown hg' (fun b hb => h.2.1.apart h0 (by decide) b hb), h.2.2.1.grown hg' (fun b hb => h.2.2.1.apart h0 (by decide) b hb), h.2.2.2.1.grown h0 (by decide) hg', h.2.2.2.2.grown h0 (by decide) hg'⟩
end Go.Proofs.Ytcggkbopipnnoaa
