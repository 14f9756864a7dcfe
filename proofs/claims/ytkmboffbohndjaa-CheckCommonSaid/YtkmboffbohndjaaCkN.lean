/- Layer 11: maps keyed by fields, and by spots, of ints. -/
import Derived.Test.YtkmboffbohndjaaCkM
import Derived.Test.YtkmboffbohndjaaStrmM
import Derived.WideKeyEntry
namespace Go.Proofs.Ytkmboffbohndjaa
open Go.ChangeShapes Go.WideShapes Go.ChangeAt Go.RowKit Go.Maps
set_option linter.unusedVariables false
set_option linter.unusedSimpArgs false

theorem intZero (w : World) : (zeroValue 3).run Try.prog w = .ok (.int .i64 0) w := by kernel_rfl
abbrev wfI (n : Int) : Prop := -9223372036854775808 ≤ n ∧ n ≤ 9223372036854775807
theorem wf_mk {n : Int} (h : wfI n) : (Lit.int .i64 n).wf = true := by
  have e1 : IntKind.i64.min = -9223372036854775808 := by decide
  have e2 : IntKind.i64.max = 9223372036854775807 := by decide
  obtain ⟨h1, h2⟩ := h
  simp [Lit.wf]; omega
abbrev okFld (x : Fld) : Prop := x.1.size ≤ maxLen ∧ (Lit.int .i64 x.2).wf = true
/-- Block b is a map of at most n entries that counts fields. -/
def CntAt (w : World) (b n : Nat) (c : Fld → Nat) : Prop :=
  ∃ D : DataW Unit, w.ownsMap Try.prog 26 (plainElem Try.prog 3) b n D ∧ IsMap D ∧
    ∀ x : Fld, okFld x → D.atKey (fldKey x.1 x.2) (.lit (.int .i64 0)) = .lit (.int .i64 (c x : Int))
theorem CntAt.made (w : World) : CntAt (w.alloc (.map #[] 0)) w.heap.size 0 (fun _ => 0) :=
  ⟨.map [], World.ownsMap_made w _ _ _, ⟨_, rfl⟩, fun x _ => rfl⟩
theorem CntAt.later {w w' : World} {b n : Nat} {c : Fld → Nat} (h : CntAt w b n c) (hb : Below w.heap.size w w') : CntAt w' b n c := by
  obtain ⟨D, ⟨es, clock, g1, g2⟩, h2⟩ := h
  exact ⟨D, ⟨es, clock, (hb.block b (Array.getElem?_eq_some_iff.1 g1).1).trans g1, g2⟩, h2⟩
theorem CntAt.grown {w w' : World} {b n : Nat} {c : Fld → Nat} (h : CntAt w b n c) {row : Option Nat} (hg : w.grownBy w' row) (hr : ∀ k, row = some k → ∃ cs e, w.heap[k]? = some (.cells cs e (0, 0))) : CntAt w' b n c := by
  obtain ⟨D, h1, h2⟩ := h
  have hmb : row ≠ some b := fun e => by
    obtain ⟨cs, e', hc⟩ := hr b e
    obtain ⟨es, clock, g1, _⟩ := h1
    rw [hc] at g1
    simp at g1
  exact ⟨D, h1.kept hg (fun e => hmb e.symm), h2⟩
theorem CntAt.lt {w : World} {b n : Nat} {c : Fld → Nat} (h : CntAt w b n c) : b < w.heap.size := by
  obtain ⟨D, h1, _⟩ := h
  exact h1.lt
theorem CntAt.eq {w : World} {b n : Nat} {c c' : Fld → Nat} (h : CntAt w b n c) (e : ∀ x, c x = c' x) : CntAt w b n c' := by
  obtain rfl : c = c' := funext e
  exact h
theorem CntAt.look {w : World} {b n : Nat} {c : Fld → Nat} (h : CntAt w b n c) {s : ByteArray} {k : Int} (hs : s.size ≤ maxLen) (hk : (Lit.int .i64 k).wf = true) :
    (Instr.lookup 74 (.map (some b)) (.agg #[.string s, .int .i64 k]) false).run Try.prog w = .ok (.int .i64 (c (s, k) : Int)) w := by
  obtain ⟨D, h1, _, h3⟩ := h
  obtain ⟨v, hr, hv, _⟩ := h1.lookup_int fldLaw Try.underlying74 Try.underlying3 (intZero w) (keyOf_fld hs hk)
  rw [h3 (s, k) ⟨hs, hk⟩] at hv
  simp only [DataW.lit.injEq, Lit.int.injEq, true_and] at hv
  rw [hv]; exact hr
theorem CntAt.put {w : World} {b n : Nat} {c : Fld → Nat} (h : CntAt w b n c) (hn : n < maxLen) {s : ByteArray} {k : Int} (hs : s.size ≤ maxLen) (hk : (Lit.int .i64 k).wf = true) {v : Nat} (hv : v ≤ 1000000) :
    ∃ w', (Instr.mapUpdate 74 (.map (some b)) (.agg #[.string s, .int .i64 k]) (.int .i64 (v : Int))).run Try.prog w = .ok () w' ∧ CntAt w' b (n + 1) (fun x => if sameB x.1 s = true ∧ x.2 = k then v else c x) ∧ w.grownBy w' (some b) := by
  obtain ⟨D, h1, h2, h3⟩ := h
  obtain ⟨w', r, o, g⟩ := h1.update fldLaw Try.underlying74 hn (keyOf_fld hs hk) (plainElem_int Try.underlying3 (a := (v : Int)) (wf_mk ⟨by omega, by omega⟩))
  refine ⟨w', r, ⟨_, o, o.isMap, fun x hx => ?_⟩, g⟩
  by_cases he : fldKey x.1 x.2 = fldKey s k
  · obtain ⟨e1, e2⟩ := fldKey_inj hx.1 hx.2 hs hk he
    rw [he, atKey_put_same h2 (fldLaw.key (keyOf_fld hs hk)) _ _]
    dsimp only
    rw [if_pos ⟨sameB_iff.2 e1, e2⟩]
  · rw [atKey_put_other he, h3 x hx]
    dsimp only
    rw [if_neg]
    rintro ⟨e1, e2⟩
    exact he (by rw [sameB_iff.1 e1, e2])
theorem wpList_mapUpdate_cnt (w : World) {ops : Array Oper} {rest : List Oper} {o : Oper} {a : Act} {Q : Exit → Act → World → Prop}
    (hg : o.guard = none) (m x v : Operand) (hop : o.op = Op.mapUpdate 74 m x v)
    (b n : Nat) (c : Fld → Nat) (hm : a.eval m = .map (some b)) (hown : CntAt w b n c) (hn : n < maxLen) (s : ByteArray) (k : Int) (u : Nat) (hx : a.eval x = .agg #[.string s, .int .i64 k]) (hv : a.eval v = .int .i64 (u : Int)) (hu : u ≤ 1000000) (hs : s.size ≤ maxLen) (hk : (Lit.int .i64 k).wf = true)
    (hK : ∀ w', CntAt w' b (n + 1) (fun x => if sameB x.1 s = true ∧ x.2 = k then u else c x) → w.grownBy w' (some b) → wpList Try.prog ops Q rest (a.put o.dst undef) w') :
    wpList Try.prog ops Q (o :: rest) a w := by
  refine wpList_plain hg fun K' hK' => ?_
  obtain ⟨w', hrun, r1, r2⟩ := hown.put hn hs hk hu
  unfold Oper.wp
  simp [execOp, hop, hm, hx, hv, hrun, Result.andThen]
  exact hK' _ _ (hK w' r1 r2)
theorem CntAt.of_block {w w' : World} {b n : Nat} {c : Fld → Nat} (h : CntAt w b n c) (e : w'.heap[b]? = w.heap[b]?) : CntAt w' b n c := by
  obtain ⟨D, ⟨es, clock, g1, g2⟩, h2⟩ := h
  exact ⟨D, ⟨es, clock, e.trans g1, g2⟩, h2⟩
theorem CntAt.more {w : World} {b n : Nat} {c : Fld → Nat} (h : CntAt w b n c) : CntAt w b (n + 1) c := by
  obtain ⟨D, h1, h2⟩ := h
  exact ⟨D, h1.mono (Nat.le_succ n), h2⟩
theorem setB_grown (w : World) (b : Nat) (o : Obj) (hb : b < w.heap.size) : w.grownBy (ChangeMaps.setBlock w b o) (some b) :=
  ⟨rfl, rfl, rfl, by simp [ChangeMaps.setBlock], fun k hk hn => by
    have : b ≠ k := fun e => hn (by rw [e])
    simp [ChangeMaps.setBlock, Array.getElem?_setIfInBounds, this]⟩
theorem setB_self (w : World) (b : Nat) (o : Obj) (hb : b < w.heap.size) : (ChangeMaps.setBlock w b o).heap[b]? = some o := by
  simp [ChangeMaps.setBlock, hb]
/-- An entry is made ready: what the map counts stays; what is stored then is counted. -/
theorem CntAt.entry {w : World} {b n : Nat} {c : Fld → Nat} (h : CntAt w b n c) (hn : n < maxLen) {s : ByteArray} {k : Int} (hs : s.size ≤ maxLen) (hk : (Lit.int .i64 k).wf = true) :
    ∃ (v0 : Value) (st : Nat) (w1 : World), (Instr.mapEntry 74 (.map (some b)) (.agg #[.string s, .int .i64 k])).run Try.prog w = .ok (.tuple #[v0, .int .i64 (st : Int)]) w1 ∧ CntAt w1 b (n + 1) c ∧ w.grownBy w1 (some b) ∧
      ∀ (w2 : World) (v : Nat), v ≤ 1000000 → w2.heap[b]? = w1.heap[b]? → ∃ w3, (Instr.entryStore 74 (.map (some b)) (.int .i64 (st : Int)) (.int .i64 (v : Int))).run Try.prog w2 = .ok () w3 ∧ CntAt w3 b (n + 1) (fun x => if sameB x.1 s = true ∧ x.2 = k then v else c x) ∧ w2.grownBy w3 (some b) := by
  have hlt := h.lt
  have hlook := h.look hs hk
  have hput := fun v hv => h.put hn hs hk (v := v) hv
  have hc := h
  obtain ⟨D, ⟨es, clock, hb, F, hsz, rfl⟩, hM, hD⟩ := h
  obtain ⟨v0, st, es1, clock1, r1, r2, r3⟩ := WideElems.entry_then_store fldKL Try.underlying74 intZero hb F (keyOf_fld hs hk)
  refine ⟨v0, st, _, r1, ?_, setB_grown w b _ hlt, fun w2 v hv hw2 => ?_⟩
  · rcases fldKL.find w (keyOf_fld hs hk) es.toList F.keys with ⟨h1, h2⟩ | ⟨j, e0, h1, h2, h3⟩
    · -- the key is not there: a nought is stored
      have hr : (Instr.mapEntry 74 (.map (some b)) (.agg #[.string s, .int .i64 k])).run Try.prog w = .ok (.tuple #[.int .i64 0, .int .i64 (clock : Int)]) (ChangeMaps.setBlock w b (.map (es.push ⟨.agg #[.string s, .int .i64 k], .int .i64 0, clock⟩) (clock + 1))) := by
        simp [Instr.mapEntry, run_underlying Try.underlying74, MapKept.run_getObj_map hb, fldKL.check w false (keyOf_fld hs hk), h1, intZero, MapKept.run_setObj_map _ hb, Result.andThen, ChangeMaps.setBlock, goInt]
      have hu : (Instr.mapUpdate 74 (.map (some b)) (.agg #[.string s, .int .i64 k]) (.int .i64 ((0 : Nat) : Int))).run Try.prog w = .ok () (ChangeMaps.setBlock w b (.map (es.push ⟨.agg #[.string s, .int .i64 k], .int .i64 0, clock⟩) (clock + 1))) := by
        simp [Instr.mapUpdate, run_underlying Try.underlying74, MapKept.run_getObj_map hb, fldKL.check w false (keyOf_fld hs hk), h1, MapKept.run_setObj_map _ hb, Result.andThen, ChangeMaps.setBlock]
      have hl : (Instr.lookup 74 (.map (some b)) (.agg #[.string s, .int .i64 k]) false).run Try.prog w = .ok (.int .i64 0) w := by
        simp [Instr.lookup, run_underlying Try.underlying74, MapKept.run_getObj_map hb, fldKL.check w es.isEmpty (keyOf_fld hs hk), h1, intZero, Result.andThen]
      rw [hr] at r1
      obtain ⟨w', p1, p2, _⟩ := hput 0 (by omega)
      rw [hu] at p1
      rw [hl] at hlook
      have ec : c (s, k) = 0 := by simpa using hlook.symm
      have e1 := (Result.ok.inj r1).2
      have e2 := (Result.ok.inj p1).2
      rw [← e1, e2]
      refine p2.eq (fun x => ?_)
      by_cases hx : sameB x.1 s = true ∧ x.2 = k
      · rw [if_pos hx, ← ec, show x = (s, k) from Prod.ext (sameB_iff.1 hx.1) hx.2]
      · rw [if_neg hx]
    · -- it is there: nothing turns
      have hj : es[j]? = some e0 := by simpa using h2
      have hsame : es.modify j (fun e => { e with key := .agg #[.string s, .int .i64 k] }) = es := by
        apply Array.ext'
        rw [Array.toList_modify, ChangeMaps.modify_eq_set _ _ _ _ h2]
        have : ({ e0 with key := .agg #[.string s, .int .i64 k] } : MapEntry) = e0 := by rw [← h3]
        rw [this]
        exact WideElems.set_self _ _ _ h2
      have hr : (Instr.mapEntry 74 (.map (some b)) (.agg #[.string s, .int .i64 k])).run Try.prog w = .ok (.tuple #[e0.val, .int .i64 (e0.born : Int)]) (ChangeMaps.setBlock w b (.map es clock)) := by
        simp [Instr.mapEntry, run_underlying Try.underlying74, MapKept.run_getObj_map hb, fldKL.check w false (keyOf_fld hs hk), h1, hj, h3, fldKL.stays w (keyOf_fld hs hk), hsame, MapKept.run_setObj_map _ hb, Result.andThen, ChangeMaps.setBlock, goInt]
      rw [hr] at r1
      have e1 := (Result.ok.inj r1).2
      rw [← e1]
      exact (hc.of_block (by rw [setB_self w b _ hlt, hb])).more
  · rw [setB_self w b _ hlt] at hw2
    obtain ⟨es', clock', q1, q2⟩ := r3 w2 (.int .i64 (v : Int)) hw2
    obtain ⟨w', p1, p2, p3⟩ := hput v hv
    rw [q2] at p1
    have e : ChangeMaps.setBlock w b (.map es' clock') = w' := by simpa using p1
    have hl2 : b < w2.heap.size := (Array.getElem?_eq_some_iff.1 hw2).1
    refine ⟨_, q1, p2.of_block ?_, setB_grown w2 b _ hl2⟩
    rw [setB_self w2 b _ hl2, ← e, setB_self w b _ hlt]
theorem spotRow : (87 : TypeId) < Try.prog.types.size := of_decide_eq_true (by kernel_rfl)
theorem spotKT : Try.prog.keyTypeAt 3 87 = true := by kernel_rfl
theorem spotDeep : Try.prog.keyTypeAt (Try.prog.types.size + 1) 87 = true := by kernel_rfl
theorem spotKL : WideMaps.KeyLaw Try.prog 87 := deep_law_laid fldLaid (m := 3) (by omega) spotRow spotKT (by rw [Try.underlying87])
theorem spotLaw : Keyed Try.prog 87 := Keyed.of_law spotKL
def spotKey (s f : ByteArray) (b : Bool) : Lit := .string (keyBytes [.string s.data.toList, .string f.data.toList, .bool b])
theorem keyOf_spot {s f : ByteArray} {b : Bool} (hs : s.size ≤ maxLen) (hf : f.size ≤ maxLen) : keyOf Try.prog 87 (.agg #[.string s, .string f, .bool b]) = some (spotKey s f b) := by
  have h1 : Try.prog.keyType 87 = true := spotDeep
  have h2 : (Value.agg #[.string s, .string f, .bool b]).formed Try.prog 87 = true := by
    simp [Value.formed, Try.underlying87, show Try.prog.cellsOf 87 = 3 by kernel_rfl]
  obtain ⟨d, hd'⟩ : ∃ d, Try.prog.types.size = d + 1 := Nat.exists_eq_succ_of_ne_zero (Nat.ne_of_gt (Nat.lt_of_le_of_lt (Nat.zero_le _) spotRow))
  have hd : Try.prog.types.size + 1 = d + 2 := by rw [hd']
  have h3 : Try.prog.keyLits (Try.prog.types.size + 1) 87 [.string s, .string f, .bool b] = some [.string s.data.toList, .string f.data.toList, .bool b] := by
    rw [hd]
    simp [Program.keyLits, Try.underlying87, Try.underlying9, Try.underlying4, show Try.prog.cellsOf 87 = 3 by kernel_rfl, show Try.prog.cellsOf 9 = 1 by kernel_rfl, show Try.prog.cellsOf 4 = 1 by kernel_rfl, hs, hf]
  unfold keyOf
  rw [Try.underlying87]
  simp only [h1, h2, Bool.and_self, if_true]
  show (Try.prog.keyLits (Try.prog.types.size + 1) 87 [.string s, .string f, .bool b]).map _ = _
  rw [h3]; rfl
theorem spotKey_inj {s s' f f' : ByteArray} {b b' : Bool} (hs : s.size ≤ maxLen) (hf : f.size ≤ maxLen) (hs' : s'.size ≤ maxLen) (hf' : f'.size ≤ maxLen) (h : spotKey s f b = spotKey s' f' b') : s = s' ∧ f = f' ∧ b = b' := by
  have h1 := keyOf_spot (b := b) hs hf
  rw [h] at h1
  have := spotLaw.inj h1 (keyOf_spot hs' hf')
  simpa using this
/-- Block b is a map of at most n entries: what is known of each spot. -/
def KnAt (w : World) (b n : Nat) (c : ByteArray → ByteArray → Bool → Option Int) : Prop :=
  ∃ D : DataW Unit, w.ownsMap Try.prog 87 (plainElem Try.prog 3) b n D ∧ IsMap D ∧
    (∀ s f k, s.size ≤ maxLen → f.size ≤ maxLen → D.atKey (spotKey s f k) (.lit (.int .i64 0)) = .lit (.int .i64 ((c s f k).getD 0))) ∧ ∀ s f k, s.size ≤ maxLen → f.size ≤ maxLen → has D (spotKey s f k) = (c s f k).isSome
theorem KnAt.made (w : World) : KnAt (w.alloc (.map #[] 0)) w.heap.size 0 (fun _ _ _ => none) :=
  ⟨.map [], World.ownsMap_made w _ _ _, ⟨_, rfl⟩, fun _ _ _ _ _ => rfl, fun _ _ _ _ _ => rfl⟩
theorem KnAt.later {w w' : World} {b n : Nat} {c : ByteArray → ByteArray → Bool → Option Int} (h : KnAt w b n c) (hb : Below w.heap.size w w') : KnAt w' b n c := by
  obtain ⟨D, ⟨es, clock, g1, g2⟩, h2⟩ := h
  exact ⟨D, ⟨es, clock, (hb.block b (Array.getElem?_eq_some_iff.1 g1).1).trans g1, g2⟩, h2⟩
theorem KnAt.lt {w : World} {b n : Nat} {c : ByteArray → ByteArray → Bool → Option Int} (h : KnAt w b n c) : b < w.heap.size := by
  obtain ⟨D, h1, _⟩ := h
  exact h1.lt
theorem KnAt.ok {w : World} {b n : Nat} {c : ByteArray → ByteArray → Bool → Option Int} (h : KnAt w b n c) {s f : ByteArray} {k : Bool} (hs : s.size ≤ maxLen) (hf : f.size ≤ maxLen) :
    (Instr.lookup 71 (.map (some b)) (.agg #[.string s, .string f, .bool k]) true).run Try.prog w = .ok (.tuple #[.int .i64 ((c s f k).getD 0), .bool (c s f k).isSome]) w := by
  obtain ⟨D, h1, _, h3, h4⟩ := h
  obtain ⟨v, ps, hr, hv⟩ := h1.look_ok spotLaw Try.underlying71 (intZero w) (plainElem_int Try.underlying3 (by decide)) (keyOf_spot hs hf)
  rw [h3 s f k hs hf] at hv
  obtain ⟨a, rfl, ha, _⟩ := plainElem_int_inv Try.underlying3 hv
  simp only [Prod.mk.injEq, DataW.lit.injEq, Lit.int.injEq, true_and] at ha
  obtain ⟨rfl, _⟩ := ha
  rw [h4 s f k hs hf] at hr
  exact hr
theorem KnAt.put {w : World} {b n : Nat} {c : ByteArray → ByteArray → Bool → Option Int} (h : KnAt w b n c) (hn : n < maxLen) {s f : ByteArray} {k : Bool} (hs : s.size ≤ maxLen) (hf : f.size ≤ maxLen) {v : Int} (hv : (Lit.int .i64 v).wf = true) :
    ∃ w', (Instr.mapUpdate 71 (.map (some b)) (.agg #[.string s, .string f, .bool k]) (.int .i64 v)).run Try.prog w = .ok () w' ∧ KnAt w' b (n + 1) (fun s' f' k' => if sameB s' s = true ∧ sameB f' f = true ∧ k' = k then some v else c s' f' k') ∧ w.grownBy w' (some b) := by
  obtain ⟨D, h1, h2, h3, h4⟩ := h
  obtain ⟨w', r, o, g⟩ := h1.update spotLaw Try.underlying71 hn (keyOf_spot hs hf) (plainElem_int Try.underlying3 hv)
  refine ⟨w', r, ⟨_, o, o.isMap, fun s' f' k' hs' hf' => ?_, fun s' f' k' hs' hf' => ?_⟩, g⟩
  · by_cases he : spotKey s' f' k' = spotKey s f k
    · obtain ⟨e1, e2, e3⟩ := spotKey_inj hs' hf' hs hf he
      rw [he, atKey_put_same h2 (spotLaw.key (keyOf_spot hs hf)) _ _]
      dsimp only
      rw [if_pos ⟨sameB_iff.2 e1, sameB_iff.2 e2, e3⟩]
      rfl
    · rw [atKey_put_other he, h3 s' f' k' hs' hf']
      dsimp only
      rw [if_neg]
      rintro ⟨e1, e2, e3⟩
      exact he (by rw [sameB_iff.1 e1, sameB_iff.1 e2, e3])
  · by_cases he : spotKey s' f' k' = spotKey s f k
    · obtain ⟨e1, e2, e3⟩ := spotKey_inj hs' hf' hs hf he
      rw [he, has_put_same h2 (spotLaw.key (keyOf_spot hs hf))]
      dsimp only
      rw [if_pos ⟨sameB_iff.2 e1, sameB_iff.2 e2, e3⟩]
      rfl
    · rw [has_put_other he, h4 s' f' k' hs' hf']
      dsimp only
      rw [if_neg]
      rintro ⟨e1, e2, e3⟩
      exact he (by rw [sameB_iff.1 e1, sameB_iff.1 e2, e3])
set_option maxRecDepth 20000 in
theorem wpList_mapUpdate_kn (w : World) {ops : Array Oper} {rest : List Oper} {o : Oper} {a : Act} {Q : Exit → Act → World → Prop}
    (hg : o.guard = none) (m x v : Operand) (hop : o.op = Op.mapUpdate 71 m x v)
    (b n : Nat) (c : ByteArray → ByteArray → Bool → Option Int) (hm : a.eval m = .map (some b)) (hown : KnAt w b n c) (hn : n < maxLen) (s f : ByteArray) (k : Bool) (u : Int) (hx : a.eval x = .agg #[.string s, .string f, .bool k]) (hv : a.eval v = .int .i64 u) (hu : (Lit.int .i64 u).wf = true) (hs : s.size ≤ maxLen) (hf : f.size ≤ maxLen)
    (hK : ∀ w', KnAt w' b (n + 1) (fun s' f' k' => if sameB s' s = true ∧ sameB f' f = true ∧ k' = k then some u else c s' f' k') → w.grownBy w' (some b) → wpList Try.prog ops Q rest (a.put o.dst undef) w') :
    wpList Try.prog ops Q (o :: rest) a w := by
  refine wpList_plain hg fun K' hK' => ?_
  obtain ⟨w', hrun, r1, r2⟩ := hown.put hn hs hf hu
  unfold Oper.wp
  simp [execOp, hop, hm, hx, hv]
  rw [hrun]
  simp [Result.andThen, Oper.upon]
  exact hK' _ _ (hK w' r1 r2)
end Go.Proofs.Ytkmboffbohndjaa
