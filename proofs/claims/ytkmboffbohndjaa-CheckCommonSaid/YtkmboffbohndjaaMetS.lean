/- A map of texts to truths (GENERAL). -/
import Derived.Test.YtkmboffbohndjaaCells2
import Derived.Maps.Own
import Derived.Maps.Views
import Derived.Maps.OwnSet
import Derived.StringKeys
namespace Go.Proofs.Ytkmboffbohndjaa
open Go.ChangeShapes Go.WideShapes Go.ChangeAt Go.RowKit Go.Maps
set_option linter.unusedVariables false
set_option linter.unusedSimpArgs false

theorem strKeys : Keyed Try.prog 9 := string_keyed Try.underlying9
theorem keyOf_str {s : ByteArray} (hs : s.size ≤ maxLen) : keyOf Try.prog 9 (.string s) = some (.string s.data.toList) := WideMaps.keyOf_string_mk Try.underlying9 hs
theorem blZero (w : World) : (zeroValue 4).run Try.prog w = .ok (.bool false) w := by kernel_rfl
theorem strKey_inj {s t : ByteArray} (h : (Lit.string s.data.toList) = .string t.data.toList) : s = t := by
  simp only [Lit.string.injEq] at h
  exact toList_inj (by rw [Lib.toList_data, Lib.toList_data]; exact h)
/-- Block m is a map that holds true at just the names of l. -/
def MetS (w : World) (m cnt : Nat) (l : List ByteArray) : Prop :=
  ∃ D : DataW Unit, w.ownsMap Try.prog 9 (plainElem Try.prog 4) m cnt D ∧ IsMap D ∧ ∀ s, s.size ≤ maxLen → ∃ b, D.atKey (.string s.data.toList) (.lit (.bool false)) = .lit (.bool b) ∧ (b = true ↔ s ∈ l)
theorem MetS.made (w : World) : MetS (w.alloc (.map #[] 0)) w.heap.size 0 [] :=
  ⟨.map [], World.ownsMap_made w _ _ _, ⟨_, rfl⟩, fun s _ => ⟨false, rfl, by simp⟩⟩
theorem MetS.later {w w' : World} {m cnt : Nat} {l : List ByteArray} (h : MetS w m cnt l) (hb : Below w.heap.size w w') : MetS w' m cnt l := by
  obtain ⟨D, ⟨es, clock, g1, g2⟩, h2⟩ := h
  exact ⟨D, ⟨es, clock, (hb.block m (Array.getElem?_eq_some_iff.1 g1).1).trans g1, g2⟩, h2⟩
theorem MetS.lt {w : World} {m cnt : Nat} {l : List ByteArray} (h : MetS w m cnt l) : m < w.heap.size := by
  obtain ⟨D, h1, _⟩ := h
  exact h1.lt
theorem plainElem_bool_inv {H : Type} {P : Program} {e : TypeId} (he : P.underlying e = some .bool) {v : Value} {z : DataW H × List MemPlace} (h : plainElem P e v = some z) : ∃ x, v = .bool x ∧ z = (.lit (.bool x), []) := by
  unfold plainElem at h
  rw [he] at h
  cases v <;> simp at h
  exact ⟨_, rfl, h.symm⟩
theorem MetS.look {w : World} {m cnt : Nat} {l : List ByteArray} (h : MetS w m cnt l) {s : ByteArray} (hs : s.size ≤ maxLen) :
    ∃ b, (Instr.lookup 119 (.map (some m)) (.string s) false).run Try.prog w = .ok (.bool b) w ∧ (b = true ↔ s ∈ l) := by
  obtain ⟨D, h1, _, h4⟩ := h
  obtain ⟨v, ps, hr, hv⟩ := h1.lookup strKeys Try.underlying119 (blZero w) (plainElem_bool Try.underlying4 false) (keyOf_str hs)
  obtain ⟨B, e, hB⟩ := h4 s hs
  rw [e] at hv
  obtain ⟨x, rfl, hx⟩ := plainElem_bool_inv Try.underlying4 hv
  simp only [Prod.mk.injEq, DataW.lit.injEq, Lit.bool.injEq] at hx
  obtain ⟨rfl, _⟩ := hx
  exact ⟨_, hr, hB⟩
theorem MetS.put {w : World} {m cnt : Nat} {l : List ByteArray} (h : MetS w m cnt l) (hn : cnt < maxLen) {s : ByteArray} (hs : s.size ≤ maxLen) :
    ∃ w', (Instr.mapUpdate 119 (.map (some m)) (.string s) (.bool true)).run Try.prog w = .ok () w' ∧ MetS w' m (cnt + 1) (s :: l) ∧ w.grownBy w' (some m) := by
  obtain ⟨D, h1, h2, h4⟩ := h
  obtain ⟨w', r, o, g⟩ := h1.update strKeys Try.underlying119 hn (keyOf_str hs) (plainElem_bool Try.underlying4 true)
  refine ⟨w', r, ⟨_, o, o.isMap, fun s' hs' => ?_⟩, g⟩
  by_cases he : s' = s
  · subst he
    exact ⟨true, atKey_put_same h2 (strKeys.key (keyOf_str hs)) _ _, by simp⟩
  · obtain ⟨B, e, hB⟩ := h4 s' hs'
    refine ⟨B, by rw [atKey_put_other (fun e => he (strKey_inj e))]; exact e, ?_⟩
    rw [hB, List.mem_cons]
    exact ⟨Or.inr, fun h => h.elim (fun e => absurd e he) id⟩
theorem wpList_mapUpdate_met (w : World) {ops : Array Oper} {rest : List Oper} {o : Oper} {a : Act} {Q : Exit → Act → World → Prop}
    (hg : o.guard = none) (m x v : Operand) (hop : o.op = Op.mapUpdate 119 m x v)
    (b n : Nat) (l : List ByteArray) (hm : a.eval m = .map (some b)) (hown : MetS w b n l) (hn : n < maxLen) (s : ByteArray) (hx : a.eval x = .string s) (hv : a.eval v = .bool true) (hs : s.size ≤ maxLen)
    (hK : ∀ w', MetS w' b (n + 1) (s :: l) → w.grownBy w' (some b) → wpList Try.prog ops Q rest (a.put o.dst undef) w') :
    wpList Try.prog ops Q (o :: rest) a w := by
  refine wpList_plain hg fun K' hK' => ?_
  obtain ⟨w', hrun, r1, r2⟩ := hown.put hn hs
  unfold Oper.wp
  simp [execOp, hop, hm, hx, hv, hrun, Result.andThen]
  exact hK' _ _ (hK w' r1 r2)
end Go.Proofs.Ytkmboffbohndjaa
