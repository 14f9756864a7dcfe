/- Texts of the proof of RingTells, part 10. -/
import Derived.Test.YtbbjlefldpgckaaPRingTells7
import Derived.Test.YtbbjlefldpgckaaPRingTells9
import Derived.Deep.QuietTactic
import Derived.Maps.Own
import Derived.Maps.Views
import Derived.Maps.OwnSet
import Derived.Maps.RangeWalk
namespace Go.Proofs.Ytbbjlefldpgckaa
open Go.ChangeShapes Go.WideShapes Go.ChangeAt Go.RowKit Go.Maps
open Ev (V3 rightV OkV)
set_option linter.unusedVariables false
set_option linter.unusedSimpArgs false

/-- All blocks of cells, but those of two types, are as they were. -/
structure FrR (w w' : World) : Prop where
  size : w.heap.size ≤ w'.heap.size
  same : ∀ (k : Nat) (cs : Array Value) (t : TypeId) (fr : Nat × Nat), w.heap[k]? = some (Obj.cells cs t fr) → t ≠ 63 → t ≠ 37 → w'.heap[k]? = w.heap[k]?
theorem FrR.refl (w : World) : FrR w w := ⟨Nat.le_refl _, fun _ _ _ _ _ _ _ => rfl⟩
theorem FrR.trans {a b c : World} (h : FrR a b) (k : FrR b c) : FrR a c :=
  ⟨Nat.le_trans h.size k.size, fun i cs t fr hi n1 n2 => by
    have e := h.same i cs t fr hi n1 n2
    rw [k.same i cs t fr (e.trans hi) n1 n2, e]⟩
theorem FrR.below {w w' : World} (h : Below w.heap.size w w') : FrR w w' := ⟨h.size, fun k _ _ _ hk _ _ => h.block k (Array.getElem?_eq_some_iff.1 hk).1⟩
theorem FrR.grown {w w' : World} {row : Option Nat} (hg : w.grownBy w' row) (h : ∀ g, row = some g → ∀ (cs : Array Value) (t : TypeId) (fr : Nat × Nat), w.heap[g]? = some (Obj.cells cs t fr) → t = 63 ∨ t = 37) : FrR w w' :=
  ⟨hg.size, fun k cs t fr hk n1 n2 => hg.block k (Array.getElem?_eq_some_iff.1 hk).1 (fun e => by
    rcases h k e.symm cs t fr hk with h1 | h1
    · exact n1 h1
    · exact n2 h1)⟩
theorem FrR.set {w : World} {g : Nat} {cs : Array Value} {t : TypeId} (h : Blk w g t cs) (ht : t = 63 ∨ t = 37) (o : Nat) (u : Value) : FrR w (w.setCell ⟨g, o, none⟩ u) :=
  ⟨by simp [World.setCell], fun k cs' t' fr hk n1 n2 => Below.heap_setCell _ _ _ _ (fun e => by
    have e' : k = g := e
    subst e'
    have h' := hk.symm.trans h
    simp only [Option.some.injEq, Obj.cells.injEq] at h'
    obtain ⟨_, rfl, _⟩ := h'
    rcases ht with rfl | rfl
    · exact n1 rfl
    · exact n2 rfl)⟩
theorem Own.frr {α : Type} {w w' : World} {b : Nat} {e : TypeId} {k : Nat} {f : α → List Value} {v : Value} {l : List α} (h : Own w b e k f v l) (hF : FrR w w') (n1 : e ≠ 63) (n2 : e ≠ 37) : Own w' b e k f v l := by
  refine ⟨h.1, ?_⟩
  rcases h.2 with h0 | ⟨g, cap, cur, rfl, h1, h2, h3⟩
  · exact Or.inl h0
  · exact Or.inr ⟨g, cap, cur, rfl, h1, by rw [hF.same g _ _ _ h2 n1 n2]; exact h2, h3⟩
theorem NewAt.frr {w w' : World} {b : Nat} {v : Value} {l : List V3} (h : NewAt b w v l) (hF : FrR w w') : NewAt b w' v l := by
  refine ⟨h.1, ?_⟩
  rcases h.2 with h0 | ⟨g, cap, cur, rfl, h1, h2, h3⟩
  · exact Or.inl h0
  · exact Or.inr ⟨g, cap, cur, rfl, h1, by rw [hF.same g _ _ _ h2 (by decide) (by decide)]; exact h2, h3⟩
theorem Own.block {α : Type} {w : World} {b : Nat} {e : TypeId} {k : Nat} {f : α → List Value} {v : Value} {l : List α} (h : Own w b e k f v l) {g : Nat} (hg : v.ownBlock = some g) : b ≤ g ∧ ∃ cs, w.heap[g]? = some (.cells cs e (0, 0)) := by
  rcases h.2 with ⟨rfl, _⟩ | ⟨g', cap, cur, rfl, h1, h2, _⟩
  · simp [Value.ownBlock] at hg
  · simp [Value.ownBlock] at hg
    subst hg
    exact ⟨h1, _, h2⟩
/-- What a call on a ring leaves of all else. -/
structure Chg (B : Nat) (w w' : World) : Prop where
  bel : Below B w w'
  frm : FrR w w'
theorem Chg.refl (B : Nat) (w : World) : Chg B w w := ⟨Below.refl _ _, FrR.refl _⟩
theorem Chg.trans {B : Nat} {a b c : World} (h : Chg B a b) (k : Chg B b c) : Chg B a c := ⟨h.bel.trans k.bel, h.frm.trans k.frm⟩
theorem Chg.later {B : Nat} {w w' : World} (hB : B ≤ w.heap.size) (h : Below w.heap.size w w') : Chg B w w' := ⟨h.mono hB, FrR.below h⟩

abbrev wfI (n : Int) : Prop := -9223372036854775808 ≤ n ∧ n ≤ 9223372036854775807
theorem wf_mk {n : Int} (h : wfI n) : (Lit.int .i64 n).wf = true := by
  have e1 : IntKind.i64.min = -9223372036854775808 := by decide
  have e2 : IntKind.i64.max = 9223372036854775807 := by decide
  obtain ⟨h1, h2⟩ := h
  simp [Lit.wf]; omega
theorem wf_inv {n : Int} (h : (Lit.int .i64 n).wf = true) : wfI n := by
  have e1 : IntKind.i64.min = -9223372036854775808 := by decide
  have e2 : IntKind.i64.max = 9223372036854775807 := by decide
  simp [Lit.wf] at h; constructor <;> omega
theorem intKeys : Keyed Try.prog 3 := int_keyed Try.underlying3
theorem keyOf_int {n : Int} (h : wfI n) : keyOf Try.prog 3 (.int .i64 n) = some (.int .i64 n) := keyOf_int_mk Try.underlying3 (wf_mk h)
/-- A reader: how many items it has read, its time. -/
abbrev Rdr := Nat × Int
abbrev Rd := Int → Option Rdr
abbrev rv (r : Rdr) : Value := .agg #[.int .i64 (r.1 : Int), .int .i64 r.2]
def rdD (r : Rdr) : DataW Unit := .agg [.lit (.int .i64 (r.1 : Int)), .lit (.int .i64 r.2)]
def rdElem : Value → Option (DataW Unit × List MemPlace)
  | .agg cs => match cs.toList with
    | [.int .i64 (.ofNat a), .int .i64 b] => some (rdD (a, b), [])
    | _ => none
  | _ => none
theorem rdElem_mk (r : Rdr) : rdElem (rv r) = some (rdD r, []) := rfl
theorem rdElem_inv {v : Value} {z : DataW Unit × List MemPlace} (h : rdElem v = some z) : ∃ r, v = rv r ∧ z = (rdD r, []) := by
  unfold rdElem at h
  split at h
  · rename_i cs
    split at h
    · rename_i a b hcs
      simp only [Option.some.injEq] at h
      refine ⟨(a, b), ?_, h.symm⟩
      have : cs = #[.int .i64 (.ofNat a), .int .i64 b] := by rw [← Array.toArray_toList (xs := cs), hcs]
      rw [this]; rfl
    · cases h
  · cases h
theorem rdD_inj {r s : Rdr} (h : rdD r = rdD s) : r = s := by
  unfold rdD at h
  simp only [DataW.agg.injEq, List.cons.injEq, DataW.lit.injEq, Lit.int.injEq, true_and, and_true] at h
  exact Prod.ext (by omega) h.2
theorem rdZero (w : World) : (zeroValue 79).run Try.prog w = .ok (rv (0, 0)) w := by kernel_rfl
/-- Block m is the map of these readers. -/
def RdAt (w : World) (m cnt : Nat) (rd : Rd) : Prop :=
  ∃ D : DataW Unit, w.ownsMap Try.prog 3 rdElem m cnt D ∧ Maps.size D = cnt ∧ (∀ id, wfI id → has D (.int .i64 id) = (rd id).isSome) ∧ ∀ id r, wfI id → rd id = some r → ∀ z, D.atKey (.int .i64 id) z = rdD r
theorem RdAt.made (w : World) : RdAt (w.alloc (.map #[] 0)) w.heap.size 0 (fun _ => none) :=
  ⟨.map [], World.ownsMap_made w _ _ _, rfl, fun id _ => rfl, fun id r _ h => by cases h⟩
theorem RdAt.lt {w : World} {m cnt : Nat} {rd : Rd} (h : RdAt w m cnt rd) : m < w.heap.size := by
  obtain ⟨D, h1, _⟩ := h
  exact h1.lt
theorem RdAt.grown {w w' : World} {m cnt : Nat} {rd : Rd} {row : Option Nat} (h : RdAt w m cnt rd) (hg : w.grownBy w' row) (hne : some m ≠ row) : RdAt w' m cnt rd := by
  obtain ⟨D, h1, h2⟩ := h
  exact ⟨D, h1.kept hg hne, h2⟩
theorem RdAt.later {w w' : World} {m cnt : Nat} {rd : Rd} (h : RdAt w m cnt rd) (hb : Below w.heap.size w w') : RdAt w' m cnt rd := by
  obtain ⟨D, ⟨es, clock, g1, g2⟩, h2⟩ := h
  exact ⟨D, ⟨es, clock, (hb.block m (Array.getElem?_eq_some_iff.1 g1).1).trans g1, g2⟩, h2⟩
theorem RdAt.heap {w w' : World} {m cnt : Nat} {rd : Rd} (h : RdAt w m cnt rd) (hh : w'.heap = w.heap) : RdAt w' m cnt rd := by
  obtain ⟨D, ⟨es, clock, g1, g2⟩, h2⟩ := h
  exact ⟨D, ⟨es, clock, by rw [hh]; exact g1, g2⟩, h2⟩
theorem RdAt.setCell {w : World} {m cnt : Nat} {rd : Rd} (h : RdAt w m cnt rd) {g : Nat} {t : TypeId} {cs : Array Value} (hB : Blk w g t cs) (o : Nat) (u : Value) : RdAt (w.setCell ⟨g, o, none⟩ u) m cnt rd := by
  obtain ⟨D, h1, h2⟩ := h
  refine ⟨D, h1.setCell (a := ⟨g, o, none⟩) (fun e => ?_) u, h2⟩
  have e' : m = g := e
  subst e'
  obtain ⟨es, clock, hm, _⟩ := h1
  have := hm.symm.trans hB
  simp at this
theorem owns_tight {w : World} {k : TypeId} {R : Value → Option (DataW Unit × List MemPlace)} {b n : Nat} {D : DataW Unit} (h : w.ownsMap Try.prog k R b n D) {q : Nat} (hq : Maps.size D = q) : w.ownsMap Try.prog k R b q D := by
  obtain ⟨es, clock, hb, F, _, rfl⟩ := h
  refine ⟨es, clock, hb, F, ?_, rfl⟩
  rw [← hq]
  simp [Maps.size, length_read]
theorem RdAt.ok {w : World} {m cnt : Nat} {rd : Rd} (h : RdAt w m cnt rd) {id : Int} (hi : wfI id) :
    (Instr.lookup 60 (.map (some m)) (.int .i64 id) true).run Try.prog w = .ok (.tuple #[rv ((rd id).getD (0, 0)), .bool (rd id).isSome]) w := by
  obtain ⟨D, h1, _, h3, h4⟩ := h
  obtain ⟨v, ps, hr, hv⟩ := h1.look_ok intKeys Try.underlying60 (rdZero w) (rdElem_mk (0, 0)) (keyOf_int hi)
  obtain ⟨r, rfl, hz⟩ := rdElem_inv hv
  have hz' : D.atKey (.int .i64 id) (rdD (0, 0)) = rdD r := congrArg Prod.fst hz
  rw [h3 id hi] at hr
  rcases hh : rd id with _ | s
  · have : has D (.int .i64 id) = false := by rw [h3 id hi, hh]; rfl
    rw [atKey_of_not_has this] at hz'
    rw [← rdD_inj hz', hh] at hr
    exact hr
  · rw [h4 id s hi hh] at hz'
    rw [← rdD_inj hz', hh] at hr
    exact hr
theorem RdAt.look {w : World} {m cnt : Nat} {rd : Rd} (h : RdAt w m cnt rd) {id : Int} (hi : wfI id) :
    (Instr.lookup 60 (.map (some m)) (.int .i64 id) false).run Try.prog w = .ok (rv ((rd id).getD (0, 0))) w := by
  obtain ⟨D, h1, _, h3, h4⟩ := h
  obtain ⟨v, ps, hr, hv⟩ := h1.lookup intKeys Try.underlying60 (rdZero w) (rdElem_mk (0, 0)) (keyOf_int hi)
  obtain ⟨r, rfl, hz⟩ := rdElem_inv hv
  have hz' : D.atKey (.int .i64 id) (rdD (0, 0)) = rdD r := congrArg Prod.fst hz
  rcases hh : rd id with _ | s
  · have : has D (.int .i64 id) = false := by rw [h3 id hi, hh]; rfl
    rw [atKey_of_not_has this] at hz'
    rw [← rdD_inj hz'] at hr
    exact hr
  · rw [h4 id s hi hh] at hz'
    rw [← rdD_inj hz'] at hr
    exact hr
def upd (rd : Rd) (id : Int) (r : Option Rdr) : Rd := fun x => if x = id then r else rd x
theorem upd_same (rd : Rd) (id : Int) (r : Option Rdr) : upd rd id r id = r := if_pos rfl
theorem upd_other (rd : Rd) {id x : Int} (r : Option Rdr) (h : x ≠ id) : upd rd id r x = rd x := if_neg h
theorem RdAt.put {w : World} {m cnt : Nat} {rd : Rd} (h : RdAt w m cnt rd) (hn : cnt < maxLen) {id : Int} (r : Rdr) (hi : wfI id) :
    ∃ w', (Instr.mapUpdate 60 (.map (some m)) (.int .i64 id) (rv r)).run Try.prog w = .ok () w' ∧ RdAt w' m (if (rd id).isSome then cnt else cnt + 1) (upd rd id (some r)) ∧ w.grownBy w' (some m) := by
  obtain ⟨D, h1, h2, h3, h4⟩ := h
  obtain ⟨w', hr, o, g⟩ := h1.update intKeys Try.underlying60 hn (keyOf_int hi) (rdElem_mk r)
  have hsz : Maps.size (D.put (.int .i64 id) (rdD r)) = if (rd id).isSome then cnt else cnt + 1 := by rw [size_put (h1.tidy intKeys), h3 id hi, h2]
  refine ⟨w', hr, ⟨_, owns_tight o hsz, hsz, fun x hx => ?_, fun x s hx hs z => ?_⟩, g⟩
  · by_cases he : x = id
    · subst he
      rw [has_put_same h1.isMap (intKeys.key (keyOf_int hi)), upd_same]; rfl
    · rw [has_put_other (by simpa using he), h3 x hx, upd_other _ _ he]
  · by_cases he : x = id
    · subst he
      rw [upd_same] at hs
      cases hs
      rw [atKey_put_same h1.isMap (intKeys.key (keyOf_int hi))]
    · rw [upd_other _ _ he] at hs
      rw [atKey_put_other (by simpa using he)]
      exact h4 x s hx hs z
theorem RdAt.drop {w : World} {m cnt : Nat} {rd : Rd} (h : RdAt w m cnt rd) {id : Int} (hi : wfI id) (hs : (rd id).isSome = true) (ty : TypeId) :
    ∃ w', (Builtin.delete_ #[60, 3] ty #[.map (some m), .int .i64 id]).run Try.prog w = .ok (.tuple #[]) w' ∧ RdAt w' m (cnt - 1) (upd rd id none) ∧ w.grownBy w' (some m) := by
  obtain ⟨D, h1, h2, h3, h4⟩ := h
  obtain ⟨w', hr, o, g⟩ := h1.drop intKeys Try.underlying60 (keyOf_int hi) ty
  have hsz : Maps.size (D.del (.int .i64 id)) = cnt - 1 := by
    have := size_del (k := .int .i64 id) (h1.tidy intKeys)
    rw [h3 id hi, hs, h2] at this
    simp at this; omega
  refine ⟨w', hr, ⟨_, owns_tight o hsz, hsz, fun x hx => ?_, fun x s hx hs z => ?_⟩, g.grown⟩
  · by_cases he : x = id
    · subst he
      rw [has_del_same, upd_same]; rfl
    · rw [has_del_other (by simpa using he), h3 x hx, upd_other _ _ he]
  · by_cases he : x = id
    · subst he
      rw [upd_same] at hs
      cases hs
    · rw [upd_other _ _ he] at hs
      rw [atKey_del_other (by simpa using he)]
      exact h4 x s hx hs z
theorem RdAt.len {w : World} {m cnt : Nat} {rd : Rd} (h : RdAt w m cnt rd) (ty : TypeId) : (Builtin.len_ #[60] ty #[.map (some m)]).run Try.prog w = .ok (.int .i64 (cnt : Int)) w := by
  obtain ⟨D, h1, h2, _⟩ := h
  rw [← h2]
  exact h1.len Try.underlying60 ty
section
variable {w : World} {ops : Array Oper} {rest : List Oper} {o : Oper} {a : Act} {Q : Exit → Act → World → Prop}
theorem wpList_put_rd (hg : o.guard = none) (m x v : Operand) (hop : o.op = Op.mapUpdate 60 m x v) (b cnt : Nat) (rd : Rd) (hm : a.eval m = .map (some b)) (h : RdAt w b cnt rd) (hn : cnt < maxLen) (id : Int) (r : Rdr) (hx : a.eval x = .int .i64 id) (hv : a.eval v = rv r) (hi : wfI id)
    (hK : ∀ w', RdAt w' b (if (rd id).isSome then cnt else cnt + 1) (upd rd id (some r)) → w.grownBy w' (some b) → wpList Try.prog ops Q rest (a.put o.dst undef) w') : wpList Try.prog ops Q (o :: rest) a w := by
  refine wpList_plain hg fun K' hK' => ?_
  obtain ⟨w', hrun, r1, r2⟩ := h.put hn r hi
  unfold Oper.wp
  simp [execOp, hop, hm, hx, hv, hrun, Result.andThen]
  exact hK' _ _ (hK w' r1 r2)
theorem wpList_drop_rd (hg : o.guard = none) (m x : Operand) (hop : o.op = Op.call { callee := Callee.builtin Builtin.delete, args := #[m, x], argTypes := #[60, 3] }) (b cnt : Nat) (rd : Rd) (hm : a.eval m = .map (some b)) (h : RdAt w b cnt rd) (id : Int) (hx : a.eval x = .int .i64 id) (hi : wfI id) (hs : (rd id).isSome = true)
    (hK : ∀ w', RdAt w' b (cnt - 1) (upd rd id none) → w.grownBy w' (some b) → wpList Try.prog ops Q rest (a.put o.dst (.tuple #[])) w') : wpList Try.prog ops Q (o :: rest) a w := by
  refine wpList_plain hg fun K' hK' => ?_
  obtain ⟨w', hrun, r1, r2⟩ := h.drop hi hs o.type
  unfold Oper.wp
  simp [execOp, hop, resolve, invoke, builtin, hm, hx, hrun, Result.andThen]
  exact hK' _ _ (hK w' r1 r2)
end

/-- How many items the reader that is last has to read, of n that were put. -/
def IsLen (n : Nat) (rd : Rd) (m : Nat) : Prop := (∀ id r, rd id = some r → n - r.1 ≤ m) ∧ (m = 0 ∨ ∃ id r, rd id = some r ∧ m = n - r.1)
theorem IsLen.one {n : Nat} {rd : Rd} {m m' : Nat} (h : IsLen n rd m) (h' : IsLen n rd m') : m = m' := by
  obtain ⟨h1, h2⟩ := h
  obtain ⟨k1, k2⟩ := h'
  rcases h2 with h2 | ⟨id, r, e, h2⟩ <;> rcases k2 with k2 | ⟨id', r', e', k2⟩
  · omega
  · have := h1 _ _ e'; omega
  · have := k1 _ _ e; omega
  · have := h1 _ _ e'; have := k1 _ _ e; omega
theorem IsLen.le {n : Nat} {rd : Rd} {m : Nat} (h : IsLen n rd m) : m ≤ n := by
  rcases h.2 with h2 | ⟨_, _, _, h2⟩ <;> omega
/-- The item: is it a mark, its time, its values. -/
abbrev It := Bool × Int × List V3
structure Rg where
  room : Nat
  hist : List It
  edge : Int
  shut : Bool
  rd : Rd
  cnt : Nat
  given : Nat
abbrev Raw := Bool × Int × SV
abbrev rowI (x : Raw) : List Value := [.bool x.1, .int .i64 x.2.1, sl x.2.2]
/-- The rows of items that are kept read so. -/
def Kept (w : World) (B : Nat) : List Raw → List It → Prop
  | [], [] => True
  | x :: L, y :: K => (x.1 = y.1 ∧ x.2.1 = y.2.1 ∧ NewAt B w (sl x.2.2) y.2.2) ∧ Kept w B L K
  | _, _ => False
theorem Kept.mono {w w' : World} {B : Nat} (h : ∀ v l, NewAt B w v l → NewAt B w' v l) : ∀ {L : List Raw} {K : List It}, Kept w B L K → Kept w' B L K
  | [], [], _ => trivial
  | _ :: _, _ :: _, ⟨⟨h1, h2, h3⟩, h4⟩ => ⟨⟨h1, h2, h _ _ h3⟩, Kept.mono h h4⟩
  | [], _ :: _, hk => hk.elim
  | _ :: _, [], hk => hk.elim
theorem Kept.length {w : World} {B : Nat} : ∀ {L : List Raw} {K : List It}, Kept w B L K → L.length = K.length
  | [], [], _ => rfl
  | _ :: _, _ :: _, ⟨_, h4⟩ => congrArg (· + 1) (Kept.length h4)
  | [], _ :: _, hk => hk.elim
  | _ :: _, [], hk => hk.elim
theorem Kept.snoc {w : World} {B : Nat} {x : Raw} {y : It} (h : x.1 = y.1 ∧ x.2.1 = y.2.1 ∧ NewAt B w (sl x.2.2) y.2.2) : ∀ {L : List Raw} {K : List It}, Kept w B L K → Kept w B (L ++ [x]) (K ++ [y])
  | [], [], _ => ⟨h, trivial⟩
  | _ :: _, _ :: _, ⟨h1, h4⟩ => ⟨h1, Kept.snoc h h4⟩
  | [], _ :: _, hk => hk.elim
  | _ :: _, [], hk => hk.elim
theorem Kept.drop {w : World} {B : Nat} : ∀ (n : Nat) {L : List Raw} {K : List It}, Kept w B L K → Kept w B (L.drop n) (K.drop n)
  | 0, _, _, h => h
  | _ + 1, [], [], _ => trivial
  | n + 1, _ :: _, _ :: _, ⟨_, h4⟩ => Kept.drop n h4
  | _ + 1, [], _ :: _, hk => hk.elim
  | _ + 1, _ :: _, [], hk => hk.elim
theorem Kept.get {w : World} {B : Nat} : ∀ {L : List Raw} {K : List It}, Kept w B L K → ∀ (j : Nat) (h : j < L.length), ∃ y, K[j]? = some y ∧ (L[j]'h).1 = y.1 ∧ (L[j]'h).2.1 = y.2.1 ∧ NewAt B w (sl (L[j]'h).2.2) y.2.2
  | _ :: _, y :: _, ⟨⟨h1, h2, h3⟩, _⟩, 0, _ => ⟨y, rfl, h1, h2, h3⟩
  | _ :: L, _ :: K, ⟨_, h4⟩, j + 1, hj => by
    obtain ⟨y, e, h⟩ := Kept.get h4 j (by simpa using hj)
    exact ⟨y, e, h⟩
  | _ :: _, [], hk, _, _ => hk.elim
abbrev rgCells (s : Rg) (v : Value) (m : Nat) : Array Value := #[.int .i64 (s.room : Int), v, .int .i64 (s.hist.length : Int), .int .i64 s.edge, .bool s.shut, .map (some m), .int .i64 (s.given : Int)]
def behindI (mk : Bool) (t : Int) : Int := if mk then t else t + 1
/-- What always holds of a ring. -/
structure OkG (s : Rg) : Prop where
  room : 1 ≤ s.room ∧ s.room ≤ 256
  cnt : s.cnt ≤ 16
  rd : ∀ id r, s.rd id = some r → 1 ≤ id ∧ id ≤ s.given ∧ r.1 ≤ s.hist.length ∧ r.2 ≤ s.edge
  edge : 0 ≤ s.edge ∧ s.edge ≤ 2305843009213693953
  total : s.hist.length ≤ 4000000000000000000
  given : s.given ≤ 4000000000000000000
  items : ∀ x ∈ s.hist, x.2.2.length ≤ 6 ∧ 0 ≤ x.2.1 ∧ x.2.1 ≤ 2305843009213693952
/-- Block d is a ring of that state; all lies from block B on; it may keep too many items. -/
structure RPre (w : World) (B d : Nat) (v : Value) (m : Nat) (L : List Raw) (s : Rg) : Prop where
  low : B ≤ d
  mlow : B ≤ m
  blk : Blk w d 63 (rgCells s v m)
  row : Own w B 37 3 rowI v L
  kept : Kept w B L (s.hist.drop (s.hist.length - L.length))
  map : RdAt w m s.cnt s.rd
  ok : OkG s
/-- .. just those that are still to be read. -/
structure RAt (w : World) (B d : Nat) (v : Value) (m : Nat) (L : List Raw) (s : Rg) : Prop where
  pre : RPre w B d v m L s
  len : IsLen s.hist.length s.rd L.length
  fits : L.length ≤ s.room
  times : ∀ x ∈ s.hist, behindI x.1 x.2.1 ≤ s.edge
def RS (w : World) (B d : Nat) (s : Rg) : Prop := ∃ v m L, RAt w B d v m L s
theorem RPre.later {w w' : World} {B d : Nat} {v : Value} {m : Nat} {L : List Raw} {s : Rg} (h : RPre w B d v m L s) (hb : Below w.heap.size w w') : RPre w' B d v m L s :=
  ⟨h.low, h.mlow, h.blk.later hb, h.row.later hb, h.kept.mono (fun _ _ hn => hn.later hb), h.map.later hb, h.ok⟩
theorem RAt.later {w w' : World} {B d : Nat} {v : Value} {m : Nat} {L : List Raw} {s : Rg} (h : RAt w B d v m L s) (hb : Below w.heap.size w w') : RAt w' B d v m L s :=
  ⟨h.pre.later hb, h.len, h.fits, h.times⟩
theorem RS.later {w w' : World} {B d : Nat} {s : Rg} (h : RS w B d s) (hb : Below w.heap.size w w') : RS w' B d s := by
  obtain ⟨v, m, L, h⟩ := h
  exact ⟨v, m, L, h.later hb⟩
/-- .. and these blocks are none of its own. -/
def RX (X : Nat → Prop) (w : World) (B d : Nat) (s : Rg) : Prop := ∃ v m L, RAt w B d v m L s ∧ ∀ k, X k → k < w.heap.size ∧ k ≠ d ∧ k ≠ m ∧ some k ≠ v.ownBlock
/-- These blocks are as they were. -/
def Kx (X : Nat → Prop) (w w' : World) : Prop := ∀ k, X k → w'.heap[k]? = w.heap[k]?
theorem Kx.refl (X : Nat → Prop) (w : World) : Kx X w w := fun _ _ => rfl
theorem Kx.trans {X : Nat → Prop} {a b c : World} (h : Kx X a b) (k : Kx X b c) : Kx X a c := fun i hi => (k i hi).trans (h i hi)
theorem RX.rs {X : Nat → Prop} {w : World} {B d : Nat} {s : Rg} (h : RX X w B d s) : RS w B d s := by
  obtain ⟨v, m, L, h, _⟩ := h
  exact ⟨v, m, L, h⟩
theorem RS.rx {w : World} {B d : Nat} {s : Rg} (h : RS w B d s) : RX (fun _ => False) w B d s := by
  obtain ⟨v, m, L, h⟩ := h
  exact ⟨v, m, L, h, fun _ hk => hk.elim⟩
theorem RX.later {X : Nat → Prop} {w w' : World} {B d : Nat} {s : Rg} (h : RX X w B d s) (hb : Below w.heap.size w w') : RX X w' B d s ∧ Kx X w w' := by
  obtain ⟨v, m, L, h, hX⟩ := h
  exact ⟨⟨v, m, L, h.later hb, fun k hk => ⟨Nat.lt_of_lt_of_le (hX k hk).1 hb.size, (hX k hk).2⟩⟩, fun k hk => hb.block k (hX k hk).1⟩
theorem RX.of {X X' : Nat → Prop} {w : World} {B d : Nat} {s : Rg} (h : RX X w B d s) (hx : ∀ k, X' k → X k) : RX X' w B d s := by
  obtain ⟨v, m, L, h, hX⟩ := h
  exact ⟨v, m, L, h, fun k hk => hX k (hx k hk)⟩
theorem RX.add {X : Nat → Prop} {w w' : World} {B d : Nat} {s : Rg} (h : RX X w B d s) (hb : Below w.heap.size w w') {g : Nat} (h1 : w.heap.size ≤ g) (h2 : g < w'.heap.size) : RX (fun k => k = g ∨ X k) w' B d s := by
  obtain ⟨v, m, L, h, hX⟩ := h
  refine ⟨v, m, L, h.later hb, fun k hk => ?_⟩
  rcases hk with rfl | hk
  · have a1 := h.pre.blk.lt
    have a2 := h.pre.map.lt
    refine ⟨h2, by omega, by omega, fun e => ?_⟩
    obtain ⟨_, cs, hc⟩ := h.pre.row.block e.symm
    have := (Array.getElem?_eq_some_iff.1 hc).1
    omega
  · exact ⟨Nat.lt_of_lt_of_le (hX k hk).1 hb.size, (hX k hk).2⟩
theorem Kx.blk {X : Nat → Prop} {w w' : World} (h : Kx X w w') {g : Nat} {t : TypeId} {cs : Array Value} (hB : Blk w g t cs) (hX : X g) : Blk w' g t cs := (h g hX).trans hB
theorem Kx.set {X : Nat → Prop} {w : World} {d : Nat} (hX : ∀ k, X k → k ≠ d) (o : Nat) (u : Value) : Kx X w (w.setCell ⟨d, o, none⟩ u) := fun k hk => Below.heap_setCell _ _ _ _ (hX k hk)
theorem RPre.low' {w : World} {B d : Nat} {v : Value} {m : Nat} {L : List Raw} {s : Rg} (h : RPre w B d v m L s) : B ≤ w.heap.size := by have := h.low; have := h.blk.lt; omega
theorem RPre.cells {w : World} {B d : Nat} {v : Value} {m : Nat} {L : List Raw} {s : Rg} (h : RPre w B d v m L s) :
    w.cell? ⟨d, 0, none⟩ = some (.int .i64 (s.room : Int)) ∧ w.cell? ⟨d, 1, none⟩ = some v ∧ w.cell? ⟨d, 2, none⟩ = some (.int .i64 (s.hist.length : Int)) ∧ w.cell? ⟨d, 3, none⟩ = some (.int .i64 s.edge) ∧ w.cell? ⟨d, 4, none⟩ = some (.bool s.shut) ∧ w.cell? ⟨d, 5, none⟩ = some (.map (some m)) ∧ w.cell? ⟨d, 6, none⟩ = some (.int .i64 (s.given : Int)) ∧ d < w.heap.size ∧ (∀ o, w.frozen? ⟨d, o, none⟩ = false) :=
  ⟨h.blk.cell 0, h.blk.cell 1, h.blk.cell 2, h.blk.cell 3, h.blk.cell 4, h.blk.cell 5, h.blk.cell 6, h.blk.lt, h.blk.frozen⟩
theorem RPre.apart {w : World} {B d : Nat} {v : Value} {m : Nat} {L : List Raw} {s : Rg} (h : RPre w B d v m L s) : (∀ g, v.ownBlock = some g → g ≠ d) ∧ m ≠ d ∧ ∀ g, v.ownBlock = some g → g ≠ m := by
  obtain ⟨D, ⟨es, clock, hm, _⟩, _⟩ := h.map
  refine ⟨fun g hg => ?_, ?_, fun g hg => ?_⟩
  · obtain ⟨_, cs, hc⟩ := h.row.block hg
    rintro rfl
    have := hc.symm.trans h.blk
    simp at this
  · rintro rfl
    have := hm.symm.trans h.blk
    simp at this
  · obtain ⟨_, cs, hc⟩ := h.row.block hg
    rintro rfl
    have := hc.symm.trans hm
    simp at this
theorem grown_set (w : World) (g o : Nat) (u : Value) : w.grownBy (w.setCell ⟨g, o, none⟩ u) (some g) :=
  ⟨rfl, rfl, rfl, by simp [World.setCell], fun k hk hne => Below.heap_setCell _ _ _ _ (fun e => hne (by rw [e]))⟩
/-- A cell of the ring's block is written. -/
theorem RPre.rest {w : World} {B d : Nat} {v : Value} {m : Nat} {L : List Raw} {s : Rg} (h : RPre w B d v m L s) (o : Nat) (u : Value) :
    Own (w.setCell ⟨d, o, none⟩ u) B 37 3 rowI v L ∧ Kept (w.setCell ⟨d, o, none⟩ u) B L (s.hist.drop (s.hist.length - L.length)) ∧ RdAt (w.setCell ⟨d, o, none⟩ u) m s.cnt s.rd ∧ Chg B w (w.setCell ⟨d, o, none⟩ u) :=
  have hF := FrR.set h.blk (Or.inl rfl) o u
  ⟨h.row.grown (grown_set w d o u) (fun b hb he => h.apart.1 b he (by simpa using hb.symm)), h.kept.mono (fun _ _ hn => hn.frr hF), h.map.setCell h.blk o u, ⟨(Below.refl _ _).setCell (p := ⟨d, o, none⟩) h.low _, hF⟩⟩
end Go.Proofs.Ytbbjlefldpgckaa
