/- Blocks that are known whole; rows of three cells that the call owns. -/
import Derived.Test.YtbmkbpehkpdcmaaEvent
import Derived.Test.YtbmkbpehkpdcmaaMem
import Derived.Laws.OwnMore
import Derived.OwnWalk
import Derived.Deep.Draws
import Derived.Below
namespace Go.Proofs.Ytbmkbpehkpdcmaa
open Go.ChangeShapes Go.WideShapes Go.ChangeAt Go.RowKit
open Ev (V3 rightV OkV)
set_option linter.unusedVariables false
set_option linter.unusedSimpArgs false

/-- A list of values, cell by cell. -/
def cells3 (l : List V3) : List Value := l.flatMap fun x => [.int .i64 x.1, .int .i64 x.2.1, .string x.2.2]
theorem cells3_snoc (l : List V3) (x : V3) : cells3 (l ++ [x]) = cells3 l ++ [.int .i64 x.1, .int .i64 x.2.1, .string x.2.2] := by simp [cells3]
theorem cells3_length (l : List V3) : (cells3 l).length = l.length * 3 := by
  induction l with
  | nil => rfl
  | cons x l ih => rw [show cells3 (x :: l) = [.int .i64 x.1, .int .i64 x.2.1, .string x.2.2] ++ cells3 l from rfl, List.length_append, ih]; simp; omega
theorem cells3_at : ∀ (l : List V3) (j : Nat) (h : j < l.length), (cells3 l)[j * 3]? = some (.int .i64 (l[j]'h).1) ∧ (cells3 l)[j * 3 + 1]? = some (.int .i64 (l[j]'h).2.1) ∧ (cells3 l)[j * 3 + 2]? = some (.string (l[j]'h).2.2)
  | x :: l, 0, h => ⟨rfl, rfl, rfl⟩
  | x :: l, j + 1, h => by
    have ih := cells3_at l j (by simpa using h)
    have e : cells3 (x :: l) = .int .i64 x.1 :: .int .i64 x.2.1 :: .string x.2.2 :: cells3 l := rfl
    rw [e, show (j + 1) * 3 = j * 3 + 1 + 1 + 1 by omega]
    simp only [List.getElem?_cons_succ, List.getElem_cons_succ]
    exact ih
theorem valsAt_own {w : World} {base : Nat} {e : TypeId} {v : Value} {l : List V3} (h : w.ownsRow base e 3 v l.length (cells3 l)) : ValsAt w v l := by
  rcases h.2 with ⟨rfl, h0⟩ | ⟨g, cap, cur, rfl, h1, h2, h3, h4, h5, h6⟩
  · have := List.length_eq_zero_iff.1 h0
    subst this
    exact ValsAt.nil w
  · refine ⟨some ⟨g, 0, none⟩, cap, rfl, h3, h4, fun h0 => ⟨_, rfl, fun j hj => ?_⟩⟩
    have hc := h.cellAt
    obtain ⟨a0, a1, a2⟩ := cells3_at l j hj
    unfold Row3
    rw [addr_pl]
    simp only [Nat.zero_add]
    exact ⟨by rw [hc _ (by omega)]; exact a0, by rw [hc _ (by omega)]; exact a1, by rw [hc _ (by omega)]; exact a2⟩
/-- A slice of values in memory of the call's own, from block base on. -/
def NewAt (base : Nat) (w : World) (v : Value) (l : List V3) : Prop := w.ownsRow base 35 3 v l.length (cells3 l)
theorem NewAt.vals {base : Nat} {w : World} {v : Value} {l : List V3} (h : NewAt base w v l) : ValsAt w v l := valsAt_own h
theorem NewAt.nil (base : Nat) (w : World) : NewAt base w (.slice none 0 0) [] := World.ownsRow_nil _ _ _ _
theorem NewAt.later {base : Nat} {w w' : World} {v : Value} {l : List V3} (h : NewAt base w v l) (hb : Below w.heap.size w w') : NewAt base w' v l := ownsRow_later h hb
theorem NewAt.far {base : Nat} {w : World} {v : Value} {l : List V3} (h : NewAt base w v l) {p : Addr} (hp : p.block < base) (u : Value) : NewAt base (w.setCell p u) v l := ownsRow_far h hp u
theorem NewAt.put2 {base : Nat} {w : World} {v : Value} {l : List V3} (h : NewAt base w v l) {g : Nat} (hp : g < base) (x y : Value) : NewAt base ((w.setCell ⟨g, 0, none⟩ x).setCell ⟨g, 1, none⟩ y) v l := (h.far (p := ⟨g, 0, none⟩) hp x).far (p := ⟨g, 1, none⟩) hp y
theorem NewAt.put3 {base : Nat} {w : World} {v : Value} {l : List V3} (h : NewAt base w v l) {g : Nat} (hp : g < base) (x y z : Value) : NewAt base (((w.setCell ⟨g, 0, none⟩ x).setCell ⟨g, 1, none⟩ y).setCell ⟨g, 2, none⟩ z) v l := (h.put2 hp x y).far (p := ⟨g, 2, none⟩) hp z
theorem NewAt.weak {base base' : Nat} {w : World} {v : Value} {l : List V3} (h : NewAt base w v l) (hb : base' ≤ base) : NewAt base' w v l := by
  refine ⟨h.1, ?_⟩
  rcases h.2 with h0 | ⟨g, cap, cur, rfl, h1, h2⟩
  · exact Or.inl h0
  · exact Or.inr ⟨g, cap, cur, rfl, by omega, h2⟩
theorem NewAt.shape {base : Nat} {w : World} {v : Value} {l : List V3} (h : NewAt base w v l) : ∃ A c, v = .slice A l.length c := by
  rcases h.2 with ⟨rfl, h0⟩ | ⟨g, cap, cur, rfl, _⟩
  · exact ⟨none, 0, by rw [h0]⟩
  · exact ⟨_, _, rfl⟩
theorem value_info : (Try.prog.info? 35).map (fun i => (i.zero, i.size, i.bytes)) = some (some (.agg #[.int .i64 0, .int .i64 0, .string ⟨#[]⟩]), 3, 32) := by kernel_rfl
/-- A new block of one value. -/
theorem three_new (w : World) (x y z : Value) (ty : TypeId) : ∀ j u, [x, y, z][j]? = some u → (w.alloc (.cells #[x, y, z] ty)).cell? ((⟨w.heap.size, 0, none⟩ : Addr).add j) = some u := by
  intro j u h
  rw [addr_pl, World.cell?_alloc_new, Nat.zero_add]
  match j, h with
  | 0, h => exact h
  | 1, h => exact h
  | 2, h => exact h
  | j + 3, h => simp at h
theorem three_one (x y : Int) (z : ByteArray) : ∀ u ∈ [Value.int .i64 x, Value.int .i64 y, Value.string z], u.oneCell' = true := by
  intro u hu
  simp only [List.mem_cons, List.not_mem_nil, or_false] at hu
  rcases hu with rfl | rfl | rfl <;> rfl
end Go.Proofs.Ytbmkbpehkpdcmaa
