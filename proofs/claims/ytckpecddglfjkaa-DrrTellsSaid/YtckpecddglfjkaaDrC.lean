/- Turns by deficits: what each step costs. -/
import Derived.Test.YtckpecddglfjkaaDrB
import Derived.Maps.Own
import Derived.Maps.Views
import Derived.Maps.OwnSet
namespace Go.Proofs.Ytckpecddglfjkaa
open Go.ChangeShapes Go.WideShapes Go.ChangeAt Go.RowKit Go.Maps
set_option linter.unusedVariables false
set_option linter.unusedSimpArgs false

theorem intKeys : Keyed Try.prog 3 := int_keyed Try.underlying3
theorem intZero (w : World) : (zeroValue 3).run Try.prog w = .ok (.int .i64 0) w := by kernel_rfl
abbrev wfI (n : Int) : Prop := -9223372036854775808 ≤ n ∧ n ≤ 9223372036854775807
theorem wf_mk {n : Int} (h : wfI n) : (Lit.int .i64 n).wf = true := by
  have e1 : IntKind.i64.min = -9223372036854775808 := by decide
  have e2 : IntKind.i64.max = 9223372036854775807 := by decide
  obtain ⟨h1, h2⟩ := h
  simp [Lit.wf]; omega
theorem keyOf_int {n : Int} (h : wfI n) : keyOf Try.prog 3 (.int .i64 n) = some (.int .i64 n) := keyOf_int_mk Try.underlying3 (wf_mk h)
/-- Block b is a map of at most n entries that holds what each costs. -/
def CostAt (w : World) (b n : Nat) (cs : List (Int × Int)) : Prop :=
  ∃ D : DataW Unit, w.ownsMap Try.prog 3 (plainElem Try.prog 3) b n D ∧ IsMap D ∧
    (∀ id, wfI id → D.atKey (.int .i64 id) (.lit (.int .i64 0)) = .lit (.int .i64 (Dr.costOf cs id))) ∧ ∀ id, wfI id → has D (.int .i64 id) = cs.any (fun x => x.1 == id)
theorem CostAt.made (w : World) : CostAt (w.alloc (.map #[] 0)) w.heap.size 0 [] :=
  ⟨.map [], World.ownsMap_made w _ _ _, ⟨_, rfl⟩, fun id _ => rfl, fun id _ => rfl⟩
theorem CostAt.later {w w' : World} {b n : Nat} {cs : List (Int × Int)} (h : CostAt w b n cs) (hb : Below w.heap.size w w') : CostAt w' b n cs := by
  obtain ⟨D, ⟨es, clock, g1, g2⟩, h2⟩ := h
  exact ⟨D, ⟨es, clock, (hb.block b (Array.getElem?_eq_some_iff.1 g1).1).trans g1, g2⟩, h2⟩
theorem CostAt.frm {t1 t2 : TypeId} {w w' : World} {b n : Nat} {cs : List (Int × Int)} (h : CostAt w b n cs) (hb : Frm t1 t2 w w') : CostAt w' b n cs := by
  obtain ⟨D, ⟨es, clock, g1, g2⟩, h2⟩ := h
  exact ⟨D, ⟨es, clock, (hb.same b (Array.getElem?_eq_some_iff.1 g1).1 (fun cs fr => by rw [g1]; simp) (fun cs fr => by rw [g1]; simp)).trans g1, g2⟩, h2⟩
theorem CostAt.same {w w' : World} {b n : Nat} {cs : List (Int × Int)} (h : CostAt w b n cs) (hh : w'.heap = w.heap) : CostAt w' b n cs := by
  obtain ⟨D, ⟨es, clock, g1, g2⟩, h2⟩ := h
  exact ⟨D, ⟨es, clock, by rw [hh]; exact g1, g2⟩, h2⟩
theorem CostAt.lt {w : World} {b n : Nat} {cs : List (Int × Int)} (h : CostAt w b n cs) : b < w.heap.size := by
  obtain ⟨D, h1, _⟩ := h
  exact h1.lt
theorem CostAt.more {w : World} {b n : Nat} {cs : List (Int × Int)} (h : CostAt w b n cs) : CostAt w b (n + 1) cs := by
  obtain ⟨D, h1, h2⟩ := h
  exact ⟨D, h1.mono (Nat.le_succ n), h2⟩
theorem CostAt.look {w : World} {b n : Nat} {cs : List (Int × Int)} (h : CostAt w b n cs) {id : Int} (hi : wfI id) :
    (Instr.lookup 80 (.map (some b)) (.int .i64 id) false).run Try.prog w = .ok (.int .i64 (Dr.costOf cs id)) w := by
  obtain ⟨D, h1, _, h3, _⟩ := h
  obtain ⟨c, hr, hv, _⟩ := h1.lookup_int intKeys Try.underlying80 Try.underlying3 (intZero w) (keyOf_int hi)
  rw [h3 id hi] at hv
  simp only [DataW.lit.injEq, Lit.int.injEq, true_and] at hv
  rw [hv]; exact hr
theorem CostAt.ok {w : World} {b n : Nat} {cs : List (Int × Int)} (h : CostAt w b n cs) {id : Int} (hi : wfI id) :
    (Instr.lookup 80 (.map (some b)) (.int .i64 id) true).run Try.prog w = .ok (.tuple #[.int .i64 (Dr.costOf cs id), .bool (cs.any (fun x => x.1 == id))]) w := by
  obtain ⟨D, h1, _, h3, h4⟩ := h
  obtain ⟨v, ps, hr, hv⟩ := h1.look_ok intKeys Try.underlying80 (intZero w) (plainElem_int Try.underlying3 (by decide)) (keyOf_int hi)
  rw [h3 id hi] at hv
  obtain ⟨a, rfl, ha, _⟩ := plainElem_int_inv Try.underlying3 hv
  simp only [Prod.mk.injEq, DataW.lit.injEq, Lit.int.injEq, true_and] at ha
  obtain ⟨rfl, _⟩ := ha
  rw [h4 id hi] at hr
  exact hr
theorem CostAt.put {w : World} {b n : Nat} {cs : List (Int × Int)} (h : CostAt w b n cs) (hn : n < maxLen) {id k : Int} (hi : wfI id) (hno : cs.any (fun x => x.1 == id) = false) :
    ∃ w', (Instr.mapUpdate 80 (.map (some b)) (.int .i64 id) (.int .i64 (max 0 (min k 512)))).run Try.prog w = .ok () w' ∧ CostAt w' b (n + 1) (cs ++ [(id, k)]) ∧ w.grownBy w' (some b) := by
  obtain ⟨D, h1, h2, h3, h4⟩ := h
  obtain ⟨w', r, o, g⟩ := h1.update intKeys Try.underlying80 hn (keyOf_int hi) (plainElem_int Try.underlying3 (a := max 0 (min k 512)) (wf_mk ⟨by omega, by omega⟩))
  refine ⟨w', r, ⟨_, o, o.isMap, fun id' hi' => ?_, fun id' hi' => ?_⟩, g⟩
  · rw [Dr.cost_snoc]
    by_cases he : id' = id
    · subst he
      rw [atKey_put_same h2 (intKeys.key (keyOf_int hi)), hno]; simp
    · rw [atKey_put_other (by simpa using he), h3 id' hi']
      simp only [Ne.symm he, if_false]
      cases hc : cs.any (fun x => x.1 == id')
      · congr 2
        have : ∀ l : List (Int × Int), l.any (fun x => x.1 == id') = false → Dr.costOf l id' = 0 := by
          intro l hl
          induction l with
          | nil => rfl
          | cons a r ih =>
            simp only [List.any_cons, Bool.or_eq_false_iff] at hl
            unfold Dr.costOf
            rw [if_neg (by simpa using hl.1)]
            exact ih hl.2
        rw [this cs hc]; simp
      · simp
  · rw [List.any_append]
    by_cases he : id' = id
    · subst he
      rw [has_put_same h2 (intKeys.key (keyOf_int hi))]; simp
    · rw [has_put_other (by simpa using he), h4 id' hi']
      have : (id == id') = false := by simpa using Ne.symm he
      simp [this]
theorem wpList_mapUpdate_cost (w : World) {ops : Array Oper} {rest : List Oper} {o : Oper} {a : Act} {Q : Exit → Act → World → Prop}
    (hg : o.guard = none) (m x v : Operand) (hop : o.op = Op.mapUpdate 80 m x v)
    (b n : Nat) (cs : List (Int × Int)) (hm : a.eval m = .map (some b)) (hown : CostAt w b n cs) (hn : n < maxLen) (id k : Int) (hx : a.eval x = .int .i64 id) (hv : a.eval v = .int .i64 (max 0 (min k 512))) (hi : wfI id) (hno : cs.any (fun x => x.1 == id) = false)
    (hK : ∀ w', CostAt w' b (n + 1) (cs ++ [(id, k)]) → w.grownBy w' (some b) → wpList Try.prog ops Q rest (a.put o.dst undef) w') :
    wpList Try.prog ops Q (o :: rest) a w := by
  refine wpList_plain hg fun K' hK' => ?_
  obtain ⟨w', hrun, r1, r2⟩ := hown.put hn (k := k) hi hno
  unfold Oper.wp
  simp [execOp, hop, hm, hx, hv, hrun, Result.andThen]
  exact hK' _ _ (hK w' r1 r2)
theorem cost_again (cs : List (Int × Int)) (c : Int × Int) (h : cs.any (fun x => x.1 == c.1) = true) (w : World) (b n : Nat) (hc : CostAt w b n cs) : CostAt w b n (cs ++ [c]) := by
  obtain ⟨D, h1, h2, h3, h4⟩ := hc
  refine ⟨D, h1, h2, fun id hi => ?_, fun id hi => ?_⟩
  · rw [h3 id hi, Dr.cost_snoc]
    by_cases he : cs.any (fun x => x.1 == id) = true
    · rw [if_pos he]
    · rw [if_neg he]
      have hne : ¬ c.1 = id := fun e => he (by rw [← e]; exact h)
      rw [if_neg hne]
      have : ∀ l : List (Int × Int), ¬ l.any (fun x => x.1 == id) = true → Dr.costOf l id = 0 := by
        intro l hl
        induction l with
        | nil => rfl
        | cons a r ih =>
          simp only [List.any_cons, Bool.or_eq_true, not_or] at hl
          unfold Dr.costOf
          rw [if_neg (by simpa using hl.1)]
          exact ih hl.2
      rw [this cs he]
  · rw [h4 id hi, List.any_append]
    by_cases he : c.1 = id
    · rw [← he, h]; rfl
    · simp [he]
end Go.Proofs.Ytckpecddglfjkaa
