/- Layer 9: rows and maps of a query: what Waits, Inputs stand on (general). -/
import Derived.Test.YtkmboffbohndjaaQyM
import Derived.Test.YtkmboffbohndjaaMetS
import Derived.Test.YtkmboffbohndjaaAppLoc
import Derived.Deep.QuietTactic
import Derived.BigQuiet
namespace Go.Proofs.Ytkmboffbohndjaa
open Go.ChangeShapes Go.WideShapes Go.ChangeAt Go.RowKit Go.Maps
set_option linter.unusedVariables false
set_option linter.unusedSimpArgs false

theorem CellsOf.row5 {α : Type} {w : World} {k : Nat} {f : α → List Value} {l : List α} {a : Addr} (h : CellsOf w k f a l) (j : Nat) (hj : j < l.length) {x y z u v : Value} (hx : f (l[j]'hj) = [x, y, z, u, v]) : w.cell? (a.add (j * k)) = some x ∧ w.cell? ⟨(a.add (j * k)).block, (a.add (j * k)).off + 1, none⟩ = some y ∧ w.cell? ⟨(a.add (j * k)).block, (a.add (j * k)).off + 2, none⟩ = some z ∧ w.cell? ⟨(a.add (j * k)).block, (a.add (j * k)).off + 3, none⟩ = some u ∧ w.cell? ⟨(a.add (j * k)).block, (a.add (j * k)).off + 4, none⟩ = some v :=
  ⟨h j hj 0 x (by rw [hx]; rfl), by rw [addr_in _ _ _ (by omega)]; exact h j hj 1 y (by rw [hx]; rfl), by rw [addr_in _ _ _ (by omega)]; exact h j hj 2 z (by rw [hx]; rfl), by rw [addr_in _ _ _ (by omega)]; exact h j hj 3 u (by rw [hx]; rfl), by rw [addr_in _ _ _ (by omega)]; exact h j hj 4 v (by rw [hx]; rfl)⟩
theorem take_snoc {α : Type} {T : List α} {t : Nat} (h : t < T.length) : T.take (t + 1) = T.take t ++ [T[t]'h] := by
  rw [List.take_add_one, List.getElem?_eq_getElem h]; rfl
theorem inputs_more {ps : List Pt} {i : Nat} (h : i < ps.length) : inputs (ps.take (i + 1)) = (ps[i]'h).ss.foldl inPut (inputs (ps.take i)) := by
  unfold inputs
  rw [take_snoc h, List.foldl_append]; rfl
theorem inPut_len (l : List ByteArray) (s : ByteArray) : (inPut l s).length ≤ l.length + 1 := by
  unfold inPut
  split
  · omega
  · simp
theorem inPuts_len : ∀ (ss l : List ByteArray), (ss.foldl inPut l).length ≤ l.length + ss.length
  | [], l => by simp
  | s :: ss, l => by
    have h1 := inPuts_len ss (inPut l s)
    have h2 := inPut_len l s
    simp only [List.foldl_cons, List.length_cons]; omega
theorem inputs_len {ps : List Pt} {M : Nat} (h : ∀ p ∈ ps, p.ss.length ≤ M) : ∀ i, i ≤ ps.length → (inputs (ps.take i)).length ≤ i * M
  | 0, _ => by simp [inputs]
  | i + 1, hi => by
    rw [inputs_more (by omega)]
    have h1 := inputs_len h i (by omega)
    have h2 := inPuts_len (ps[i]'(by omega)).ss (inputs (ps.take i))
    have h3 := h _ (List.getElem_mem (show i < ps.length by omega))
    rw [Nat.add_mul]; omega
theorem one_scV (s : ByteArray) : ∀ u ∈ scV s, u.oneCell' = true := fun u hu => by simp at hu; subst hu; rfl
theorem new_cellsI {w : World} {g : Nat} (hg : g = w.heap.size) (t : TypeId) (cs : Array Value) : ∀ j u, cs.toList[j]? = some u → (w.alloc (.cells cs t)).cell? ((⟨g, 0, none⟩ : Addr).add j) = some u := by
  subst hg
  exact blk_cells (Blk.new w t cs)
theorem at_newS (w : World) (s : ByteArray) : At (w.alloc (.cells #[.string s] 9)) 1 scV (.slice (some ⟨w.heap.size, 0, none⟩) 1 1) [s] := by
  refine ⟨some ⟨w.heap.size, 0, none⟩, 1, rfl, by simp, by unfold maxLen; omega, fun h => by simp at h, fun b hb j hj i v hv => ?_⟩
  obtain rfl : (⟨w.heap.size, 0, none⟩ : Addr) = b := by simpa using hb
  have hj0 : j = 0 := by simpa using hj
  subst hj0
  simp only [List.getElem_cons_zero] at hv
  rw [Nat.zero_mul, Nat.zero_add]
  exact new_cellsI rfl 9 _ i v hv
theorem ownBI {α : Type} {w : World} {b : Nat} {e : TypeId} {k : Nat} {f : α → List Value} {v : Value} {l : List α} (h : Own w b e k f v l) {g : Nat} (hg : v.ownBlock = some g) : b ≤ g ∧ ∃ cs, w.heap[g]? = some (.cells cs e (0, 0)) := by
  rcases h.2 with ⟨rfl, _⟩ | ⟨g', cap, cur, rfl, h1, h2, _⟩
  · simp [Value.ownBlock] at hg
  · simp [Value.ownBlock] at hg
    subst hg
    exact ⟨h1, _, h2⟩
/-- The map's block is no row of texts. -/
theorem MetS.grown {w w' : World} {m cnt : Nat} {l : List ByteArray} (h : MetS w m cnt l) {row : Option Nat} (hg : w.grownBy w' row) (hr : ∀ b, row = some b → ∃ cs e, w.heap[b]? = some (.cells cs e (0, 0))) : MetS w' m cnt l := by
  obtain ⟨D, h1, h2⟩ := h
  have hmb : row ≠ some m := fun e => by
    obtain ⟨cs, e', hc⟩ := hr m e
    obtain ⟨es, clock, g1, _⟩ := h1
    rw [hc] at g1
    simp at g1
  exact ⟨D, h1.kept hg (fun e => hmb e.symm), h2⟩
end Go.Proofs.Ytkmboffbohndjaa
