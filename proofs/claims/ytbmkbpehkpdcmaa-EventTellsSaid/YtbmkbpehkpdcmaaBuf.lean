/- A slice of bytes that a conversion of a string has made, and what is appended to it: behind its cells its block bears a mark. -/
import Derived.Test.YtbmkbpehkpdcmaaConv
import Derived.Lib.ConvBytes
import Derived.Lib.FrozenHead2
import Derived.Below
namespace Go.Proofs.Ytbmkbpehkpdcmaa
open Go.ChangeShapes Go.WideShapes Go.ChangeAt Go.RowKit
set_option linter.unusedVariables false
set_option linter.unusedSimpArgs false

def byteV (c : UInt8) : Value := .int .u8 (c.toNat : Int)
theorem byteV_one (l : List UInt8) : ∀ u ∈ l.map byteV, u.oneCell' = true := by
  intro u hu
  obtain ⟨c, _, rfl⟩ := List.mem_map.1 hu
  rfl
/-- No cell of the row is marked. -/
def Free (fz : Nat × Nat) (n : Nat) : Prop := ∀ j, j < n → ¬ (fz.1 ≤ j ∧ j < fz.2)
/-- v is a slice of the bytes bs, in a block of the call's own (from base on) no cell of which is marked. -/
def BufAt (w : World) (base : Nat) (e : TypeId) (v : Value) (bs : List UInt8) : Prop :=
  ∃ g cap cur fz, v = .slice (some ⟨g, 0, none⟩) bs.length cap ∧ base ≤ g ∧ w.heap[g]? = some (.cells cur e fz) ∧ Free fz cap ∧ bs.length ≤ cap ∧ cap ≤ maxLen ∧ cur.size = cap ∧ cur.toList.take bs.length = bs.map byteV
theorem BufAt.later {w w' : World} {base : Nat} {e : TypeId} {v : Value} {bs : List UInt8} (h : BufAt w base e v bs) (hb : Below w.heap.size w w') : BufAt w' base e v bs := by
  obtain ⟨g, cap, cur, fz, rfl, h1, h2, h3⟩ := h
  exact ⟨g, cap, cur, fz, rfl, h1, by rw [hb.block g (Array.getElem?_eq_some_iff.1 h2).1]; exact h2, h3⟩
theorem BufAt.cell {w : World} {base : Nat} {e : TypeId} {g n cap : Nat} {bs : List UInt8} (h : BufAt w base e (.slice (some ⟨g, 0, none⟩) n cap) bs) (j : Nat) (hj : j < bs.length) : w.cell? ⟨g, j, none⟩ = some (byteV (bs[j]'hj)) := by
  obtain ⟨g', cap', cur, fz, he, h1, h2, h3, h4, h5, h6, h7⟩ := h
  injection he with e1 e2 e3
  injection e1 with e1
  injection e1 with e1
  subst e1
  rw [cell_of_row w g j cur e fz h2]
  have h8 : (cur.toList.take bs.length)[j]? = (bs.map byteV)[j]? := by rw [h7]
  rw [List.getElem?_take, if_pos hj, List.getElem?_map, List.getElem?_eq_getElem hj] at h8
  simpa using h8
theorem store_free (P : Program) (g : Nat) (t : TypeId) (fz : Nat × Nat) (o : Nat) : ∀ (vs : List Value) (i : Nat) (cur : Array Value) (w : World), w.heap[g]? = some (.cells cur t fz) → Free fz cur.size → o + i + vs.length ≤ cur.size → (∀ v ∈ vs, v.oneCell' = true) →
    (storeCells ⟨g, o, none⟩ vs i).run P w = .ok () (w.setRow g (cur.toList.take (o + i) ++ vs ++ cur.toList.drop (o + i + vs.length)).toArray) := by
  intro vs
  induction vs with
  | nil =>
    intro i cur w hg _ _ _
    have e : (cur.toList.take (o + i) ++ [] ++ cur.toList.drop (o + i + ([] : List Value).length)).toArray = cur := by simp
    rw [e, setRow_self w g cur t fz hg]
    rfl
  | cons x xs ih =>
    intro i cur w hg hf hl h1
    rw [List.length_cons] at hl
    have hi : o + i < cur.size := by omega
    have hadd : (⟨g, o, none⟩ : Addr).add i = ⟨g, o + i, none⟩ := addr_plain g o i
    have hc : w.cell? ⟨g, o + i, none⟩ = some cur[o + i] := by rw [cell_of_row w g (o + i) cur t fz hg]; simp [hi]
    have hz : w.frozen? ⟨g, o + i, none⟩ = false := by
      have := hf (o + i) hi
      simp only [World.frozen?, hg]
      simpa using this
    have hs : (store ((⟨g, o, none⟩ : Addr).add i) x).run P w = .ok () (w.setRow g (cur.setIfInBounds (o + i) x)) := by
      rw [hadd, run_store P w _ x _ (h1 x (by simp)), hc]
      simp [hz, setCell_eq_setRow w g (o + i) cur t fz x hg]
    have hn := ih (i + 1) (cur.setIfInBounds (o + i) x) (w.setRow g (cur.setIfInBounds (o + i) x)) (setRow_heap w g cur _ t _ hg) (by simpa using hf) (by simp; omega) (fun y hy => h1 y (by simp [hy]))
    simp only [storeCells, Sem.run_bind, hs, Result.andThen_ok, hn, setRow_setRow]
    congr 3
    have e := list_seg_step cur.toList (o + i) x xs (by simpa using by omega)
    simpa [Array.toList_setIfInBounds, Nat.add_assoc] using e

section
variable {P : Program}
/-- append of what reads as the bytes ns. -/
theorem run_append_buf (w : World) (base : Nat) (t u ty e : TypeId) (i : TypeInfo) (x : Value) (hi : P.info? e = some i) (hs1 : i.size = 1) (v : Value) (bs ns : List UInt8) (hv : BufAt w base e v bs)
    (hroom : ∀ g cap cur fz, w.heap[g]? = some (.cells cur e fz) → Free fz cur.size → bs.length + ns.length ≤ cap → bs.length + ns.length ≤ cur.size →
      (Builtin.append_ #[t, u] ty #[.slice (some ⟨g, 0, none⟩) bs.length cap, x]).run P w = .ok (.slice (some ⟨g, 0, none⟩) (bs.length + ns.length) cap) (w.setRow g (cur.toList.take bs.length ++ ns.map byteV ++ cur.toList.drop (bs.length + ns.length)).toArray))
    (hgrow : ∀ g cap, (∀ j y, (bs.map byteV)[j]? = some y → w.cell? ((⟨g, 0, none⟩ : Addr).add j) = some y) → cap < bs.length + ns.length →
      (Builtin.append_ #[t, u] ty #[.slice (some ⟨g, 0, none⟩) bs.length cap, x]).run P w = .ok (.slice (some ⟨w.heap.size, 0, none⟩) (bs.length + ns.length) (grownCap w (bs.length + ns.length) cap e))
        (w.drew.alloc (.cells ((bs.map byteV).toArray ++ (ns.map byteV).toArray ++ Builtin.zeroCells (Value.int .u8 0).cells (grownCap w (bs.length + ns.length) cap e - (bs.length + ns.length))) e)))
    (h63 : bs.length + ns.length ≤ maxLen) (hbase : base ≤ w.heap.size) :
    ∃ v' w', (Builtin.append_ #[t, u] ty #[v, x]).run P w = .ok v' w' ∧ BufAt w' base e v' (bs ++ ns) ∧ w.grownBy w' v.ownBlock := by
  obtain ⟨g, cap, cur, fz, rfl, h1, h2, h3, h4, h5, h6, h7⟩ := hv
  have hL : (bs ++ ns).length = bs.length + ns.length := by simp
  by_cases hr : bs.length + ns.length ≤ cap
  · have hrun := hroom g cap cur fz h2 (by rw [h6]; exact h3) hr (by omega)
    refine ⟨_, _, hrun, ⟨g, cap, _, fz, by rw [hL], h1, setRow_heap w g cur _ e _ h2, h3, by omega, h5, ?_, ?_⟩, ⟨rfl, rfl, rfl, by simp, fun k _ hk => setRow_other w g k _ (fun e => hk (by simp [Value.ownBlock, e]))⟩⟩
    · simp; omega
    · rw [h7]
      have hm : (bs ++ ns).length = (bs.map byteV ++ ns.map byteV).length := by simp
      rw [hm, List.map_append]
      exact List.take_left
  · have hcells : ∀ j y, (bs.map byteV)[j]? = some y → w.cell? ((⟨g, 0, none⟩ : Addr).add j) = some y := by
      intro j y hy
      rw [addr_plain, Nat.zero_add, cell_of_row w g j cur e fz h2]
      rw [← h7, List.getElem?_take] at hy
      split at hy
      · simpa using hy
      · cases hy
    have hrun := hgrow g cap hcells (by omega)
    have hge := grownCap_ge w (bs.length + ns.length) cap e
    refine ⟨_, _, hrun, ⟨w.heap.size, _, _, (0, 0), by rw [hL], hbase, heap_alloc_new w.drew _, fun j _ h => absurd h.2 (Nat.not_lt_zero _), by omega, grownCap_le_maxLen w _ cap e h63, ?_, ?_⟩, ⟨rfl, rfl, rfl, by simp, fun k hk _ => Below.heap_alloc w.drew _ k hk⟩⟩
    · have hz1 : (Value.int IntKind.u8 0).cells.size = 1 := rfl
      simp only [Array.size_append, List.size_toArray, size_zeroCells, hz1, List.length_map]
      omega
    · have hm : (bs ++ ns).length = (bs.map byteV ++ ns.map byteV).length := by simp
      simp only [Array.toList_append]
      rw [hm, List.map_append]
      exact List.take_left

theorem strCells_byteV (s : ByteArray) : Lib.strCells s = s.data.toList.map byteV := rfl
theorem run_append_buf_string (w : World) (base : Nat) (t u ty e : TypeId) (i : TypeInfo) (ht : P.underlying t = some (.slice e)) (hu : P.underlying u = some .string) (hi : P.info? e = some i) (hz : i.zero = some (.int .u8 0)) (hs1 : i.size = 1) (hby : i.bytes = 1)
    (v : Value) (bs : List UInt8) (hv : BufAt w base e v bs) (s : ByteArray) (h63 : bs.length + s.size ≤ 140737488355328) (hbase : base ≤ w.heap.size) :
    ∃ v' w', (Builtin.append_ #[t, u] ty #[v, .string s]).run P w = .ok v' w' ∧ BufAt w' base e v' (bs ++ s.data.toList) ∧ w.grownBy w' v.ownBlock := by
  have hn : s.data.toList.length = s.size := by simp
  refine run_append_buf w base t u ty e i (.string s) hi hs1 v bs s.data.toList hv (fun g cap cur fz h2 h3 hr hc => ?_) (fun g cap hcells hg => ?_) (by rw [hn]; unfold maxLen; omega) hbase
  · rw [hn] at hr hc ⊢
    have hf := Lib.run_firstCells_string (P := P) w 1 s
    have hst := store_free P g e fz bs.length (Lib.strCells s) 0 cur w h2 h3 (by simpa [Lib.strCells_length] using hc) (Lib.strCells_oneCell s)
    simp only [Nat.add_zero, Lib.strCells_length] at hst
    rw [strCells_byteV] at hst hf
    simp [Builtin.append_, run_underlying ht, run_underlying hu, sizeOf, typeInfo, hi, hs1, Builtin.lenOf, hr, hf, Addr.add_lit, hst]
  · rw [hn] at hg ⊢
    exact Lib.run_append_grow_string (P := P) w t u ty e i (.int .u8 0) ht hu hi hz ⟨g, 0, none⟩ bs.length cap (bs.map byteV) (by rw [hs1]; simp) hcells s (by omega) (by omega) (by rw [hby]; exact growslice_fits (by omega) (by omega))
theorem run_append_buf_slice (w : World) (base : Nat) (t ty e : TypeId) (i : TypeInfo) (ht : P.underlying t = some (.slice e)) (hi : P.info? e = some i) (hz : i.zero = some (.int .u8 0)) (hs1 : i.size = 1) (hby : i.bytes = 1)
    (v : Value) (bs : List UInt8) (hv : BufAt w base e v bs) (ns : List UInt8) (a : Addr) (c : Nat) (hns : ∀ j y, (ns.map byteV)[j]? = some y → w.cell? (a.add j) = some y) (h63 : bs.length + ns.length ≤ 140737488355328) (hbase : base ≤ w.heap.size) :
    ∃ v' w', (Builtin.append_ #[t, t] ty #[v, .slice (some a) ns.length c]).run P w = .ok v' w' ∧ BufAt w' base e v' (bs ++ ns) ∧ w.grownBy w' v.ownBlock := by
  have hl : (ns.map byteV).length = ns.length * i.size := by rw [hs1]; simp
  refine run_append_buf w base t t ty e i (.slice (some a) ns.length c) hi hs1 v bs ns hv (fun g cap cur fz h2 h3 hr hc => ?_) (fun g cap hcells hg => ?_) (by unfold maxLen; omega) hbase
  · have hf := run_firstCells_some (P := P) w i.size ns.length a ns.length c (ns.map byteV) hl hns
    have hst := store_free P g e fz bs.length (ns.map byteV) 0 cur w h2 h3 (by simpa using hc) (byteV_one ns)
    simp only [Nat.add_zero, List.length_map] at hst
    rw [hs1] at hf
    simp [Builtin.append_, run_underlying ht, sizeOf, typeInfo, hi, hs1, Builtin.lenOf, hr, hf, Addr.add_lit, hst]
  · exact run_append_grow (P := P) w t ty e i (.int .u8 0) ht hi hz ⟨g, 0, none⟩ bs.length cap (bs.map byteV) (by rw [hs1]; simp) hcells a ns.length c (ns.map byteV) hl hns (by omega) (by omega) (by rw [hby]; exact growslice_fits (by omega) (by omega))

theorem wpList_append_buf_string {w : World} {ops : Array Oper} {rest : List Oper} {o : Oper} {a : Act} {Q : Exit → Act → World → Prop} (hgd : o.guard = none) (sl x : Operand) (t u : TypeId)
    (ho : o.op = .call { callee := .builtin .append, args := #[sl, x], argTypes := #[t, u] })
    (base : Nat) (e : TypeId) (i : TypeInfo) (ht : P.underlying t = some (.slice e)) (hu : P.underlying u = some .string) (hi : P.info? e = some i) (hz : i.zero = some (.int .u8 0)) (hs1 : i.size = 1) (hby : i.bytes = 1)
    (v : Value) (bs : List UInt8) (hs : a.eval sl = v) (hv : BufAt w base e v bs) (s : ByteArray) (hx : a.eval x = .string s)
    (h63 : bs.length + s.size ≤ 140737488355328) (hbase : base ≤ w.heap.size)
    (h : ∀ v' w', BufAt w' base e v' (bs ++ s.data.toList) → w.grownBy w' v.ownBlock → wpList P ops Q rest (a.put o.dst v') w') : wpList P ops Q (o :: rest) a w := by
  refine wpList_plain hgd fun K hK => ?_
  obtain ⟨v', w', hr, h2, h3⟩ := run_append_buf_string (P := P) w base t u o.type e i ht hu hi hz hs1 hby v bs hv s h63 hbase
  unfold Oper.wp execOp
  simp only [ho, resolve, invoke, builtin, Sem.run_bind, Sem.run_pure, Result.andThen_ok, List.map_toArray, List.map_cons, List.map_nil, hs, hx, hr]
  exact hK _ _ (h v' w' h2 h3)
theorem wpList_append_buf_slice {w : World} {ops : Array Oper} {rest : List Oper} {o : Oper} {a : Act} {Q : Exit → Act → World → Prop} (hgd : o.guard = none) (sl x : Operand) (t : TypeId)
    (ho : o.op = .call { callee := .builtin .append, args := #[sl, x], argTypes := #[t, t] })
    (base : Nat) (e : TypeId) (i : TypeInfo) (ht : P.underlying t = some (.slice e)) (hi : P.info? e = some i) (hz : i.zero = some (.int .u8 0)) (hs1 : i.size = 1) (hby : i.bytes = 1)
    (v : Value) (bs : List UInt8) (hs : a.eval sl = v) (hv : BufAt w base e v bs) (ns : List UInt8) (ad : Addr) (c : Nat) (hx : a.eval x = .slice (some ad) ns.length c) (hns : ∀ j y, (ns.map byteV)[j]? = some y → w.cell? (ad.add j) = some y)
    (h63 : bs.length + ns.length ≤ 140737488355328) (hbase : base ≤ w.heap.size)
    (h : ∀ v' w', BufAt w' base e v' (bs ++ ns) → w.grownBy w' v.ownBlock → wpList P ops Q rest (a.put o.dst v') w') : wpList P ops Q (o :: rest) a w := by
  refine wpList_plain hgd fun K hK => ?_
  obtain ⟨v', w', hr, h2, h3⟩ := run_append_buf_slice (P := P) w base t o.type e i ht hi hz hs1 hby v bs hv ns ad c hns h63 hbase
  unfold Oper.wp execOp
  simp only [ho, resolve, invoke, builtin, Sem.run_bind, Sem.run_pure, Result.andThen_ok, List.map_toArray, List.map_cons, List.map_nil, hs, hx, hr]
  exact hK _ _ (h v' w' h2 h3)
end
/-- What a conversion of a string makes. -/
theorem buf_made (w : World) (base : Nat) (e : TypeId) (s : ByteArray) (hb : base ≤ w.heap.size) (hs : s.size ≤ maxLen) : BufAt (Lib.bytesWorld w e s) base e (.slice (some ⟨w.heap.size, 0, none⟩) s.size (grownCap w s.size 0 e)) s.data.toList := by
  have hge := grownCap_ge w s.size 0 e
  have hsz : (Lib.bytesCells w e s).size = grownCap w s.size 0 e := by unfold Lib.bytesCells; simp; omega
  refine ⟨w.heap.size, _, _, _, by simp, hb, Lib.bytesWorld_at_new w e s, ?_, by simpa using hge, grownCap_le_maxLen w s.size 0 e hs, hsz, ?_⟩
  · intro j hj h
    rw [hsz] at h
    have h1 := h.1
    simp only at h1
    omega
  · unfold Lib.bytesCells
    have h1 : (s.data.toList).length = ((s.data.map fun b => Value.int .u8 b.toNat).toList).length := by simp
    rw [h1, Array.toList_append, List.take_left]
    simp [byteV]
theorem below_made {B : Nat} (w : World) (e : TypeId) (s : ByteArray) (hB : B ≤ w.heap.size) : Below B w (Lib.bytesWorld w e s) :=
  ⟨rfl, rfl, rfl, by rw [Lib.bytesWorld_size]; omega, fun j hj => Lib.bytesWorld_at_old w e s j (by omega)⟩
/-- The whole slice, as a string again. -/
theorem buf_string (P : Program) (w : World) (src dst e : TypeId) (hs : P.underlying src = some (.slice e)) (he : P.underlying e = some (.int .u8)) (hd : P.underlying dst = some .string) {base : Nat} {v : Value} {bs : List UInt8} (h : BufAt w base e v bs) :
    (convert src dst v).run P w = .ok (.string ⟨bs.toArray⟩) w := by
  have h' := h
  obtain ⟨g, cap, cur, fz, rfl, _⟩ := h'
  exact run_convert_bytes_back (P := P) w src dst e ⟨g, 0, none⟩ cap bs hs he hd (fun j hj => by
    rw [addr_plain, Nat.zero_add]
    exact h.cell j hj)
theorem BufAt.free {w : World} {base : Nat} {e : TypeId} {g n cap : Nat} {bs : List UInt8} (h : BufAt w base e (.slice (some ⟨g, 0, none⟩) n cap) bs) (j : Nat) (hj : j < bs.length) : w.frozen? ⟨g, j, none⟩ = false := by
  obtain ⟨g', cap', cur, fz, he, h1, h2, h3, h4, h5, h6, h7⟩ := h
  injection he with e1 e2 e3
  injection e1 with e1
  injection e1 with e1
  subst e1
  have := h3 j (by omega)
  simp only [World.frozen?, h2]
  simpa using this
theorem BufAt.put {w : World} {base : Nat} {e : TypeId} {g n cap : Nat} {bs : List UInt8} (h : BufAt w base e (.slice (some ⟨g, 0, none⟩) n cap) bs) (j : Nat) (hj : j < bs.length) (c : UInt8) : BufAt (w.setCell ⟨g, j, none⟩ (byteV c)) base e (.slice (some ⟨g, 0, none⟩) n cap) (bs.set j c) := by
  obtain ⟨g', cap', cur, fz, he, h1, h2, h3, h4, h5, h6, h7⟩ := h
  injection he with e1 e2 e3
  injection e1 with e1
  injection e1 with e1
  subst e1 e2 e3
  refine ⟨g, cap, cur.setIfInBounds j (byteV c), fz, by simp, h1, ?_, h3, by simpa using h4, h5, by simpa using h6, ?_⟩
  · simp [World.setCell, Array.getElem?_modify, h2]
  · rw [Array.toList_setIfInBounds, List.length_set, List.take_set, h7, List.map_set]
end Go.Proofs.Ytbmkbpehkpdcmaa
