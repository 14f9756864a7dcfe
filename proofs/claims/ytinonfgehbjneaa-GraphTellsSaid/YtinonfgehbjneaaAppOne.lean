/- append of one element onto a row of the call's own, asking no more than Go asks. Nothing of one package. -/
import Derived.Test.YtinonfgehbjneaaAppLoc
import Derived.Test.YtinonfgehbjneaaCells3
import Derived.Lib.AppendZeros
namespace Go.Proofs.Ytinonfgehbjneaa
open Go.ChangeShapes Go.WideShapes Go.ChangeAt Go.RowKit
set_option linter.unusedVariables false
set_option linter.unusedSimpArgs false

theorem wpList_append_one_loc {α : Type} {P : Program} (w : World) {ops : Array Oper} {rest : List Oper} {o : Oper} {a : Act} {Q : Exit → Act → World → Prop} (hgd : o.guard = none) (s x : Operand) (t : TypeId)
    (ho : o.op = .call { callee := .builtin .append, args := #[s, x], argTypes := #[t, t] })
    (base : Nat) (e : TypeId) (i : TypeInfo) (z : Value) (size bytes : Nat) (ht : P.underlying t = some (.slice e)) (hi : P.info? e = some i) (hz : i.zero = some z)
    (hsize : i.size = size) (hby : i.bytes = bytes) (hzs : z.cells.size = size) (hsz : 0 < size)
    {f : α → List Value} (hf : ∀ x, (f x).length = size) (h1 : ∀ x, ∀ u ∈ f x, u.oneCell' = true)
    (v : Value) (l : List α) (hs : a.eval s = v) (hown : Own w base e size f v l)
    (ad : Addr) (c : Nat) (y : α) (hx : a.eval x = .slice (some ad) 1 c) (hat : At w size f (.slice (some ad) 1 c) [y])
    (h63 : l.length + 1 ≤ maxLen) (hb1 : bytes ≤ 140737488355328) (hbytes : (l.length + l.length / 4 + 1000) * bytes ≤ 281474976710656) (hbase : base ≤ w.heap.size)
    (h : ∀ v' w', Own w' base e size f v' (l ++ [y]) → w.grownBy w' v.ownBlock → (∀ x, v'.ownBlock = some x → v.ownBlock = some x ∨ w.heap.size ≤ x) → wpList P ops Q rest (a.put o.dst v') w') : wpList P ops Q (o :: rest) a w := by
  by_cases hsm : (l.length + 1) * bytes ≤ 140737488355328
  · exact wpList_append_loc w hgd s x t ho base e i z size bytes ht hi hz hsize hby hzs hsz hf h1 v l hs hown (some ad) 1 c [y] rfl hx hat h63 hsm hbase h
  have hl0 : l.length ≠ 0 := fun e0 => hsm (by rw [e0]; omega)
  rcases hown.2 with ⟨_, he⟩ | ⟨g, cap, cur, hv, g1, g2, g3, g4, g5, g6⟩
  · exact absurd he hl0
  by_cases hr : l.length + 1 ≤ cap
  · subst hv
    obtain ⟨_, _, hv, _, _, _, h4⟩ := hat
    simp only [Value.slice.injEq] at hv
    obtain ⟨rfl, _, rfl⟩ := hv
    have hgb : Blk w g e cur.toList.toArray := by simpa [Blk] using g2
    have hfit : l.length * size + (f y).length ≤ cur.toList.length := by
      have e0 : cur.toList.length = cap * size := by rw [Array.length_toList]; exact g5
      have := Nat.mul_le_mul_right size hr
      rw [Nat.add_mul, Nat.one_mul] at this
      rw [hf, e0]; exact this
    refine wpList_append_roomK hgd s x t ho e i size ht hi hsize g l.length cap hs ad 1 _ hx cur.toList hgb (f y) (by rw [hf]; omega) (fun j u hu => ?_) (h1 y) hr hfit ?_
    · have := h4 ad rfl 0 (by simp) j u (by simpa using hu)
      simpa using this
    · intro w' q1 q2
      refine h _ w' ?_ q2 (fun x hx => Or.inl hx)
      have e1 : (splice cur.toList (l.length * size) (f y)).take ((l.length + 1) * size) = (l ++ [y]).flatMap f := by
        have e2 : (l.length + 1) * size = l.length * size + (f y).length := by rw [hf, Nat.add_mul]; omega
        have e3 : (splice cur.toList (l.length * size) (f y)).take (l.length * size + (f y).length) = cur.toList.take (l.length * size) ++ f y := by
          unfold splice
          rw [← List.append_assoc, List.take_append_of_le_length (by rw [List.length_append, List.length_take]; omega), List.take_of_length_le (by rw [List.length_append, List.length_take]; omega)]
        rw [e2, e3, List.flatMap_append]
        congr 1
        simp
      exact own_of hf q1 (by rw [length_splice _ _ _ hfit, Array.length_toList]; exact g5) e1 (by rw [List.length_append]; rfl) g1 hr g4
  · have hcap : cap = l.length := by omega
    subst hcap
    have hoc : ∀ j u, (l.flatMap f)[j]? = some u → w.cell? ((⟨g, 0, none⟩ : Addr).add j) = some u := by
      intro j u hu
      have hj : j < l.length * size := by have := (List.getElem?_eq_some_iff.1 hu).1; rwa [flat_len hf] at this
      rw [addr_pl, Nat.zero_add]
      subst hv
      rw [World.ownsRow.cellAt hown j hj]; exact hu
    subst hv
    obtain ⟨_, _, hv, _, _, _, h4⟩ := hat
    simp only [Value.slice.injEq] at hv
    obtain ⟨rfl, _, rfl⟩ := hv
    obtain ⟨v', w', hrun, r1, r2⟩ := run_append_one_more (P := P) (w := w) t o.type e i z size bytes ht hi hz hsize hby hzs hsz ⟨g, 0, none⟩ l.length (l.flatMap f) (flat_len hf l) hoc ad _ (f y) (hf y) (fun j u hu => by
      have := h4 ad rfl 0 (by simp) j u (by simpa using hu)
      simpa using this) h63 hbytes
    have hO : Own w' w.heap.size e size f v' (l ++ [y]) := Own.more rfl r1
    exact Lib.wpList_append_run w hgd s x t t ho _ _ hs hx v' w' hrun (h v' w' (hO.lift hbase) ⟨r2.os, r2.tape, r2.output, r2.size, fun k hk _ => r2.block k hk (by simp)⟩ (fun x hx => by
      rcases hO.2 with ⟨rfl, _⟩ | ⟨g', _, _, rfl, q1, _⟩
      · simp [Value.ownBlock] at hx
      · simp [Value.ownBlock] at hx
        subst hx
        exact Or.inr q1))
end Go.Proofs.Ytinonfgehbjneaa
