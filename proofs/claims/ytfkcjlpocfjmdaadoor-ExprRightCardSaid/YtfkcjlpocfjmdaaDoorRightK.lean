/- ExprRight: the kids of a node as a row. -/
import Derived.Test.YtfkcjlpocfjmdaaDoorRightE
namespace Go.Proofs.YtfkcjlpocfjmdaaDoor
open Go.ChangeShapes Go.WideShapes Go.ChangeAt Go.RowKit
set_option linter.unusedVariables false
set_option linter.unusedSimpArgs false

abbrev E8 := Int × ByteArray × Int × Int × ByteArray × ByteArray × ByteArray × (Option Addr × Nat × Nat)
abbrev e8 (x : E8) : List Value := [.int .i64 x.1, .string x.2.1, .int .i64 x.2.2.1, .int .i64 x.2.2.2.1, .string x.2.2.2.2.1, .string x.2.2.2.2.2.1, .string x.2.2.2.2.2.2.1, .slice x.2.2.2.2.2.2.2.1 x.2.2.2.2.2.2.2.2.1 x.2.2.2.2.2.2.2.2.2]
theorem e8_one (x : E8) : ∀ u ∈ e8 x, u.oneCell' = true := fun u hu => by
  simp at hu
  rcases hu with rfl | rfl | rfl | rfl | rfl | rfl | rfl | rfl <;> rfl
theorem row8_cells {w : World} {a : Addr} {x : E8} (h : Row8 w a x.1 x.2.1 x.2.2.1 x.2.2.2.1 x.2.2.2.2.1 x.2.2.2.2.2.1 x.2.2.2.2.2.2.1 (.slice x.2.2.2.2.2.2.2.1 x.2.2.2.2.2.2.2.2.1 x.2.2.2.2.2.2.2.2.2)) :
    ∀ i u, (e8 x)[i]? = some u → w.cell? (a.add i) = some u := fun i u hu => by
  obtain ⟨h0, h1, h2, h3, h4, h5, h6, h7⟩ := h
  rcases (by omega : i = 0 ∨ i = 1 ∨ i = 2 ∨ i = 3 ∨ i = 4 ∨ i = 5 ∨ i = 6 ∨ i = 7 ∨ 8 ≤ i) with rfl | rfl | rfl | rfl | rfl | rfl | rfl | rfl | h8
  · obtain rfl := Option.some.inj hu; exact h0
  · obtain rfl := Option.some.inj hu; exact h1
  · obtain rfl := Option.some.inj hu; exact h2
  · obtain rfl := Option.some.inj hu; exact h3
  · obtain rfl := Option.some.inj hu; exact h4
  · obtain rfl := Option.some.inj hu; exact h5
  · obtain rfl := Option.some.inj hu; exact h6
  · obtain rfl := Option.some.inj hu; exact h7
  · rw [List.getElem?_eq_none (by simpa using h8)] at hu; cases hu
theorem node_e8 {w : World} {x : Tr} {K : Value} (h : TrAt w x K) : ∃ y : E8, x.node K = (y.1, y.2.1, y.2.2.1, y.2.2.2.1, y.2.2.2.2.1, y.2.2.2.2.2.1, y.2.2.2.2.2.2.1, .slice y.2.2.2.2.2.2.2.1 y.2.2.2.2.2.2.2.2.1 y.2.2.2.2.2.2.2.2.2) := by
  obtain ⟨A, n, c, e⟩ := node_sl h
  exact ⟨((x.node K).1, (x.node K).2.1, (x.node K).2.2.1, (x.node K).2.2.2.1, (x.node K).2.2.2.2.1, (x.node K).2.2.2.2.2.1, (x.node K).2.2.2.2.2.2.1, A, n, c), by rw [← e]⟩
theorem add_add (a : Addr) (i : Nat) : (a.add 8).add i = a.add (8 + i) := by
  have e : a.add 8 = ⟨a.block, a.off + 8, none⟩ := rfl
  rw [e, addr_pl]
  unfold Addr.add
  rw [if_neg (by omega)]
  show (⟨_, _, _⟩ : Addr) = ⟨_, _, _⟩
  rw [Nat.add_assoc]
theorem kids_at {t : Tr} {w : World} {K : Value} (hT : TrAt w t K) {k : Int} {op : ByteArray} {vk vn : Int} {vs va f : ByteArray} {A : Option Addr} {n c : Nat} (e : t.val K = ev k op vk vn vs va f (.slice A n c)) :
    ∃ l : List E8, n = l.length ∧ At w 8 e8 (.slice A n c) l := by
  cases t with
  | lit k' n' s' =>
    obtain rfl : K = nilk := hT
    simp only [Tr.val, Tr.node, ev, Value.agg.injEq, Array.mk.injEq, List.cons.injEq, Value.int.injEq, Value.string.injEq, Value.slice.injEq, true_and, and_true] at e
    obtain ⟨rfl, rfl, rfl, rfl, rfl, rfl, rfl, rfl, rfl, rfl⟩ := e
    exact ⟨[], rfl, At.nil _ _ _⟩
  | ref v' f' =>
    obtain rfl : K = nilk := hT
    simp only [Tr.val, Tr.node, ev, Value.agg.injEq, Array.mk.injEq, List.cons.injEq, Value.int.injEq, Value.string.injEq, Value.slice.injEq, true_and, and_true] at e
    obtain ⟨rfl, rfl, rfl, rfl, rfl, rfl, rfl, rfl, rfl, rfl⟩ := e
    exact ⟨[], rfl, At.nil _ _ _⟩
  | cnt v' =>
    obtain rfl : K = nilk := hT
    simp only [Tr.val, Tr.node, ev, Value.agg.injEq, Array.mk.injEq, List.cons.injEq, Value.int.injEq, Value.string.injEq, Value.slice.injEq, true_and, and_true] at e
    obtain ⟨rfl, rfl, rfl, rfl, rfl, rfl, rfl, rfl, rfl, rfl⟩ := e
    exact ⟨[], rfl, At.nil _ _ _⟩
  | un op' x =>
    obtain ⟨a, c', rfl, h1, h2, kx, hx, hr⟩ := hT
    simp only [Tr.val, Tr.node, ev, Value.agg.injEq, Array.mk.injEq, List.cons.injEq, Value.int.injEq, Value.string.injEq, Value.slice.injEq, true_and, and_true] at e
    obtain ⟨rfl, rfl, rfl, rfl, rfl, rfl, rfl, rfl, rfl, rfl⟩ := e
    obtain ⟨y, hy⟩ := node_e8 hx
    rw [hy] at hr
    refine ⟨[y], rfl, some a, _, rfl, h1, h2, (fun h => by cases h), fun a' ha j hj i u hu => ?_⟩
    obtain rfl := Option.some.inj ha
    obtain rfl : j = 0 := by simpa using hj
    rw [Nat.zero_mul, Nat.zero_add]
    exact row8_cells hr i u hu
  | bin op' x y =>
    obtain ⟨a, c', rfl, h1, h2, ⟨kx, hx, hr⟩, ky, hy, hq⟩ := hT
    simp only [Tr.val, Tr.node, ev, Value.agg.injEq, Array.mk.injEq, List.cons.injEq, Value.int.injEq, Value.string.injEq, Value.slice.injEq, true_and, and_true] at e
    obtain ⟨rfl, rfl, rfl, rfl, rfl, rfl, rfl, rfl, rfl, rfl⟩ := e
    obtain ⟨z1, hz1⟩ := node_e8 hx
    obtain ⟨z2, hz2⟩ := node_e8 hy
    rw [hz1] at hr
    rw [hz2] at hq
    refine ⟨[z1, z2], rfl, some a, _, rfl, h1, h2, (fun h => by cases h), fun a' ha j hj i u hu => ?_⟩
    obtain rfl := Option.some.inj ha
    rcases (by simp at hj; omega : j = 0 ∨ j = 1) with rfl | rfl
    · rw [Nat.zero_mul, Nat.zero_add]; exact row8_cells hr i u hu
    · rw [Nat.one_mul, ← add_add]; exact row8_cells hq i u hu
theorem new_e8 (w : World) (t : TypeId) (x : E8) : At (w.alloc (.cells (e8 x).toArray t)) 8 e8 (.slice (some ⟨w.heap.size, 0, none⟩) 1 1) [x] := by
  refine ⟨some _, 1, rfl, Nat.le_refl _, by decide, (fun h => by cases h), fun a' ha j hj i u hu => ?_⟩
  obtain rfl := Option.some.inj ha
  obtain rfl : j = 0 := by simpa using hj
  have := blk_cells (Blk.new w t (e8 x).toArray) i u (by simpa using hu)
  simpa using this
end Go.Proofs.YtfkcjlpocfjmdaaDoor
