/- Layer 11: streams in memory; which fields are common. -/
import Derived.Test.YtkmboffbohndjaaCkN
import Derived.Test.YtkmboffbohndjaaAppLoc
import Derived.Test.YtkmboffbohndjaaQyG
import Derived.Deep.RegionHeld3
import Derived.Deep.DeepCutAuto
import Derived.OwnWalk
namespace Go.Proofs.Ytkmboffbohndjaa
open Go.ChangeShapes Go.WideShapes Go.ChangeAt Go.RowKit Go.Maps
set_option linter.unusedVariables false
set_option linter.unusedSimpArgs false

abbrev fldF (x : Fld) : List Value := [.string x.1, .int .i64 x.2]
abbrev Sx := SF × SV
abbrev sxF (x : Sx) : List Value := [.string x.1.1, sl x.2]
/-- A slice of streams (or of slots) that reads as ls. -/
def SAt (w : World) (v : Value) (ls : List SF) : Prop := ∃ r : List Sx, At w 2 sxF v r ∧ r.map (·.1) = ls ∧ ∀ x ∈ r, At w 2 fldF (sl x.2) x.1.2
theorem SAt.later {w w' : World} {v : Value} {l : List SF} (h : SAt w v l) (hb : Below w.heap.size w w') : SAt w' v l := by
  obtain ⟨r, h1, h2, h3⟩ := h
  exact ⟨r, h1.later hb, h2, fun x hx => (h3 x hx).later hb⟩
theorem SAt.shape {w : World} {v : Value} {l : List SF} (h : SAt w v l) : ∃ A c, v = .slice A l.length c ∧ l.length ≤ c ∧ c ≤ maxLen := by
  obtain ⟨r, h1, h2, _⟩ := h
  obtain ⟨A, c, hv, h3, h4, _⟩ := h1.shape
  rw [← h2, List.length_map]
  exact ⟨A, c, hv, h3, h4⟩
theorem rowsF_of_at {w : World} {v : Value} {l : List Fld} (h : At w 2 fldF v l) : RowsAt rowF w v l := by
  obtain ⟨A, c, rfl, h1, h2, _⟩ := h.shape
  refine ⟨A, c, rfl, h1, h2, fun h0 => ?_⟩
  obtain ⟨a, ha, hc⟩ := h.cells rfl h0
  exact ⟨a, ha, fun j hj => hc.row2 j hj rfl⟩
theorem SAt.stms {w : World} {v : Value} {ls : List SF} (h : SAt w v ls) : StmsAt w v ls := by
  obtain ⟨r, h1, rfl, h3⟩ := h
  refine ⟨r.map (fun x => (x.1.1, sl x.2)), ?_, by simp, fun j hj hj2 => ?_⟩
  · obtain ⟨A, c, rfl, k1, k2, _⟩ := h1.shape
    refine ⟨A, c, by rw [List.length_map], by rw [List.length_map]; exact k1, k2, fun h0 => ?_⟩
    rw [List.length_map] at h0
    obtain ⟨a, ha, hc⟩ := h1.cells rfl h0
    refine ⟨a, ha, fun j hj => ?_⟩
    rw [List.getElem_map]
    exact hc.row2 j (by simpa using hj) rfl
  · simp only [List.getElem_map]
    exact ⟨by first | rfl | trivial, rowsF_of_at (h3 _ (List.getElem_mem (by simpa using hj)))⟩
/-- Where a stream's fields lie, in whatever world that comes. -/
theorem stm_row {w0 : World} {A : Option Addr} {c n : Nat} {ls : List SF} (h : SAt w0 (.slice A n c) ls) (hn : n = ls.length) (h0 : 0 < n) :
    ∃ a, A = some a ∧ ∀ (i : Nat) (hi : i < ls.length), ∃ (sA : Option Addr) (sc : Nat), (∀ W, Below w0.heap.size w0 W → W.cell? (a.add (i * 2)) = some (.string (ls[i]'hi).1) ∧ W.cell? ⟨(a.add (i * 2)).block, (a.add (i * 2)).off + 1, none⟩ = some (.slice sA (ls[i]'hi).2.length sc)) ∧
      At w0 2 fldF (.slice sA (ls[i]'hi).2.length sc) (ls[i]'hi).2 ∧
      (0 < (ls[i]'hi).2.length → ∃ a2, sA = some a2 ∧ ∀ (k : Nat) (hk : k < (ls[i]'hi).2.length) (W : World), Below w0.heap.size w0 W → W.cell? (a2.add (k * 2)) = some (.string ((ls[i]'hi).2[k]'hk).1) ∧ W.cell? ⟨(a2.add (k * 2)).block, (a2.add (k * 2)).off + 1, none⟩ = some (.int .i64 ((ls[i]'hi).2[k]'hk).2)) := by
  obtain ⟨r, h1, rfl, h3⟩ := h
  rw [List.length_map] at hn
  subst hn
  obtain ⟨a, ha, hc⟩ := h1.cells rfl (by omega)
  refine ⟨a, ha, fun i hi => ?_⟩
  have hi' : i < r.length := by rw [List.length_map] at hi; exact hi
  obtain ⟨e0, e1⟩ := hc.row2 i hi' rfl
  have g1 := h3 _ (List.getElem_mem hi')
  have hp : (r.map (·.1))[i]'hi = (r[i]'hi').1 := List.getElem_map ..
  generalize (r.map (·.1))[i]'hi = p at hp ⊢
  clear hi h3
  generalize r[i]'hi' = x at *
  obtain ⟨⟨nm, F⟩, ⟨sA, sn, sc⟩⟩ := x
  simp only at e0 e1 g1 hp
  subst hp
  simp only
  obtain ⟨B1, cc, hv, q4, q5, _⟩ := g1.shape
  simp only [Value.slice.injEq] at hv
  obtain ⟨rfl, rfl, rfl⟩ := hv
  change w0.cell? ⟨(a.add (i * 2)).block, (a.add (i * 2)).off + 1, none⟩ = some (.slice sA F.length sc) at e1
  refine ⟨sA, sc, fun W hW => ⟨by rw [hW.cell (World.block_lt_of_cell? w0 _ e0)]; exact e0, by rw [hW.cell (World.block_lt_of_cell? w0 _ e1)]; exact e1⟩, g1, fun hs => ?_⟩
  obtain ⟨a2, ha2, hc2⟩ := g1.cells rfl hs
  refine ⟨a2, ha2, fun k hk W hW => ?_⟩
  obtain ⟨z0, z1⟩ := hc2.row2 k hk rfl
  exact ⟨by rw [hW.cell (World.block_lt_of_cell? w0 _ z0)]; exact z0, by rw [hW.cell (World.block_lt_of_cell? w0 _ z1)]; exact z1⟩
theorem fldF_one (x : Fld) : ∀ u ∈ fldF x, u.oneCell' = true := fun u hu => by
  simp at hu; rcases hu with rfl | rfl <;> rfl
theorem at_newF (w : World) (y : Fld) : At (w.alloc (.cells (fldF y).toArray 26)) 2 fldF (.slice (some ⟨w.heap.size, 0, none⟩) 1 1) [y] := by
  refine ⟨some ⟨w.heap.size, 0, none⟩, 1, rfl, by simp, by unfold maxLen; omega, fun h => by simp at h, fun b hb j hj i v hv => ?_⟩
  obtain rfl : (⟨w.heap.size, 0, none⟩ : Addr) = b := by simpa using hb
  have hj0 : j = 0 := by simpa using hj
  subst hj0
  simp only [List.getElem_cons_zero] at hv
  rw [Nat.zero_mul, Nat.zero_add]
  exact new_cellsI rfl 26 _ i v hv
theorem at_blkC {α : Type} {w : World} {g : Nat} {t : TypeId} {cs : Array Value} {k n : Nat} {f : α → List Value} (hf : ∀ x, (f x).length = k) (l : List α) (h : Blk w g t cs) (hn : n = l.length) (hm : n ≤ maxLen) (hcs : l.flatMap f = cs.toList) : At w k f (.slice (some ⟨g, 0, none⟩) n n) l := by
  subst hn
  refine ⟨some ⟨g, 0, none⟩, l.length, rfl, Nat.le_refl _, hm, fun h => by simp at h, fun b hb j hj i u hu => ?_⟩
  obtain rfl : (⟨g, 0, none⟩ : Addr) = b := by simpa using hb
  have hi : i < k := by
    have := (List.getElem?_eq_some_iff.1 hu).1
    rw [hf] at this; exact this
  have e := flat_get hf l j i hj hi
  rw [hcs] at e
  rw [addr_pl, Nat.zero_add, h.cell (j * k + i)]
  rw [← Array.getElem?_toList, e]; exact hu
theorem gb_setC {g : Nat} (w : World) (j : Nat) (v : Value) : w.grownBy (w.setCell ⟨g, j, none⟩ v) (some g) :=
  ⟨rfl, rfl, rfl, by simp, fun k _ hk => Below.heap_setCell w ⟨g, j, none⟩ v k (fun e => hk (by rw [e]))⟩
theorem addr_zero (a : Addr) : a.add 0 = a := by unfold Addr.add; simp
theorem step_mapEntry_cnt {ops : Array Oper} {o : Oper} {a : Act} {w : World} {K : Act → World → Prop} {Q : Exit → Act → World → Prop} {E : Prop} (hgd : o.guard = none) (m x : Operand) (hop : o.op = Op.mapEntry 74 m x)
    (b n : Nat) (c : Fld → Nat) (hm : a.eval m = .map (some b)) (hown : CntAt w b n c) (hn : n < maxLen) (s : ByteArray) (k : Int) (hx : a.eval x = .agg #[.string s, .int .i64 k]) (hs : s.size ≤ maxLen) (hk : (Lit.int .i64 k).wf = true)
    (hK : ∀ (v0 : Value) (st : Nat) (w1 : World), CntAt w1 b (n + 1) c → w.grownBy w1 (some b) → (∀ (w2 : World) (v : Nat), v ≤ 1000000 → w2.heap[b]? = w1.heap[b]? → ∃ w3, (Instr.entryStore 74 (.map (some b)) (.int .i64 (st : Int)) (.int .i64 (v : Int))).run Try.prog w2 = .ok () w3 ∧ CntAt w3 b (n + 1) (fun x => if sameB x.1 s = true ∧ x.2 = k then v else c x) ∧ w2.grownBy w3 (some b)) →
      K (a.put o.dst (.tuple #[v0, .int .i64 (st : Int)])) w1) : if Region.wanted o (yielded ops a.tmps) = true then Oper.wp Try.prog o a w K Q else E := by
  rw [if_pos (by simp [Region.wanted, hgd])]
  obtain ⟨v0, st, w1, r1, r2, r3, r4⟩ := hown.entry hn hs hk
  unfold Oper.wp
  simp [execOp, hop, hm, hx]
  rw [r1]
  simp [Result.andThen, Oper.upon]
  exact hK v0 st w1 r2 r3 r4
theorem step_entryStore_cnt {ops : Array Oper} {o : Oper} {a : Act} {w2 w3 : World} {K : Act → World → Prop} {Q : Exit → Act → World → Prop} {E : Prop} (hgd : o.guard = none) (m x v : Operand) (hop : o.op = Op.entryStore 74 m x v)
    (b st u : Nat) (hm : a.eval m = .map (some b)) (hx : a.eval x = .int .i64 (st : Int)) (hv : a.eval v = .int .i64 (u : Int)) (hr : (Instr.entryStore 74 (.map (some b)) (.int .i64 (st : Int)) (.int .i64 (u : Int))).run Try.prog w2 = .ok () w3)
    (hK : K (a.put o.dst undef) w3) : if Region.wanted o (yielded ops a.tmps) = true then Oper.wp Try.prog o a w2 K Q else E := by
  rw [if_pos (by simp [Region.wanted, hgd])]
  unfold Oper.wp
  simp [execOp, hop, hm, hx, hv]
  rw [hr]
  simp [Result.andThen, Oper.upon]
  exact hK
end Go.Proofs.Ytkmboffbohndjaa
