/- Lists that are written by whom they belong to: what stays. -/
import Derived.Test.YticjfhagpmlieaaHoS
namespace Go.Proofs.Yticjfhagpmlieaa
open Go.ChangeShapes Go.WideShapes Go.ChangeAt Go.RowKit
open Ho
set_option linter.unusedVariables false
set_option linter.unusedSimpArgs false

theorem Rws.same2 {w w' : World} {B : Nat} {vs : List SV} {p : List (List Int)} (h : Rws w B vs p) (hk : ∀ k, B ≤ k → k < w.heap.size → w'.heap[k]? = w.heap[k]?) : Rws w' B vs p :=
  ⟨h.1, fun j hj hj' => (h.2 j hj hj').same (fun g hg => by
    obtain ⟨hb, cs, hc⟩ := (h.2 j hj hj').block hg
    exact hk g hb (Array.getElem?_eq_some_iff.1 hc).1)⟩
theorem PtsO.same2 {w w' : World} {B : Nat} {v : Value} {p : List (List Int)} (h : PtsO w B v p) (hk : ∀ k, B ≤ k → k < w.heap.size → w'.heap[k]? = w.heap[k]?) : PtsO w' B v p := by
  obtain ⟨vs, h1, h2⟩ := h
  exact ⟨vs, h1.same (fun g hg => by
    obtain ⟨hb, cs, hc⟩ := h1.block hg
    exact hk g hb (Array.getElem?_eq_some_iff.1 hc).1), h2.same2 hk⟩
theorem Two.re {Z : Nat → Prop} {w1 w2 W W' : World} {d1 d2 : Nat} {T1 T2 : List D} (h : Two Z w1 W d1 d2 T1 T2) (hs : W.heap.size ≤ W'.heap.size) (hk : ∀ k, w1.heap.size ≤ k → k < W.heap.size → W'.heap[k]? = W.heap[k]?) (h2 : w2.heap.size = w1.heap.size) (hb : Below w2.heap.size w2 W') : Two Z w2 W' d1 d2 T1 T2 := by
  obtain ⟨B1, B2, v1, v2, l1, l2, g1, g2, m1, m2, hd, hz, b1, b2, _⟩ := h
  have hkB : ∀ (B d : Nat) (v : Value) (l : List Wy), w1.heap.size ≤ B → HAt W B d v l → HAt W' B d v l := fun B d v l hB g => by
    refine ⟨g.low, (hk d (Nat.le_trans hB g.low) g.blk.lt).trans g.blk, g.row.same (fun x hx => ?_), fun y hy => (g.pts y hy).same2 (fun k h1 h2 => hk k (Nat.le_trans hB h1) h2), g.fit⟩
    obtain ⟨hb, cs, hc⟩ := g.row.block hx
    exact hk x (Nat.le_trans hB hb) (Array.getElem?_eq_some_iff.1 hc).1
  exact ⟨B1, B2, v1, v2, l1, l2, hkB _ _ _ _ b1 g1, hkB _ _ _ _ b2 g2, m1, m2, hd, fun k hk => ⟨(hz k hk).1, (hz k hk).2.1, Nat.lt_of_lt_of_le (hz k hk).2.2 hs⟩, by rw [h2]; exact b1, by rw [h2]; exact b2, hb⟩
/-- The first N blocks alone. -/
def tr (N : Nat) (W : World) : World := { W with heap := W.heap.extract 0 N }
theorem tr_size (N : Nat) (W : World) (h : N ≤ W.heap.size) : (tr N W).heap.size = N := by unfold tr; simp; omega
theorem tr_below (N : Nat) (W : World) (h : N ≤ W.heap.size) : Below (tr N W).heap.size (tr N W) W := by
  have e := tr_size N W h
  refine ⟨rfl, rfl, rfl, by rw [e]; exact h, fun k hk => ?_⟩
  rw [e] at hk
  unfold tr
  simp only [Array.getElem?_extract]
  rw [if_pos (by omega)]
  congr 1; omega
theorem below_tr {w W : World} {N : Nat} (hb : Below w.heap.size w W) (h1 : w.heap.size ≤ N) (h2 : N ≤ W.heap.size) : Below w.heap.size w (tr N W) := by
  refine ⟨hb.os, hb.tape, hb.output, by rw [tr_size N W h2]; exact h1, fun k hk => ?_⟩
  rw [← hb.block k hk]
  have := (tr_below N W h2).block k (by rw [tr_size N W h2]; omega)
  exact this.symm
/-- A row of numbers in which any cell of any row of numbers is written is still one. -/
theorem Own.int_put {w : World} {B : Nat} {v : Value} {l : List Int} (h : Own w B 3 1 rowI v l) (g o : Nat) (z : Int) : ∃ l' : List Int, l'.length = l.length ∧ Own (w.setCell ⟨g, o, none⟩ (.int .i64 z)) B 3 1 rowI v l' := by
  by_cases hg : v.ownBlock = some g
  · obtain ⟨A, c, rfl, _⟩ := h.shape
    rcases h.2 with ⟨e, _⟩ | ⟨g', cap, cur, e, _⟩
    · rw [e] at hg; simp [Value.ownBlock] at hg
    · simp only [Value.slice.injEq] at e
      obtain ⟨rfl, _, rfl⟩ := e
      obtain rfl : g' = g := by simpa [Value.ownBlock] using hg
      have := (World.ownsRow.stored h o (.int .i64 z)).1
      refine ⟨l.set o z, List.length_set, ?_⟩
      unfold Own
      rw [List.length_set]
      have e : (l.set o z).flatMap rowI = (l.flatMap rowI).set o (.int .i64 z) := by
        by_cases ho : o < l.length
        · have := flat_set (f := rowI) (k := 1) (fun _ => rfl) (i := 0) (by decide) (u := .int .i64 z) (x := z) l o ho rfl
          rw [Nat.mul_one, Nat.add_zero] at this
          exact this
        · rw [List.set_eq_of_length_le (by omega), List.set_eq_of_length_le (by rw [flat_len (f := rowI) (k := 1) (fun _ => rfl)]; omega)]
      rw [e]
      exact this
  · exact ⟨l, rfl, h.grown (grown_set w g o _) (fun b hb he => by
      obtain rfl : g = b := by simpa using hb
      exact hg he)⟩
/-- Headers that stay, of lists of numbers that may be written; their blocks lie below N. -/
def Heads (W : World) (B N : Nat) (v : Value) (vs : List SV) : Prop := Own W B 60 1 slc v vs ∧ ∀ s ∈ vs, ∃ q : List Int, q.length = s.2.1 ∧ Own W B 3 1 rowI (sl s) q ∧ ∀ g, (sl s).ownBlock = some g → g < N
theorem Heads.later {W W' : World} {B N : Nat} {v : Value} {vs : List SV} (h : Heads W B N v vs) (hb : Below W.heap.size W W') : Heads W' B N v vs := ⟨h.1.later hb, fun s hs => by
  obtain ⟨q, h1, h2, h3⟩ := h.2 s hs
  exact ⟨q, h1, h2.later hb, h3⟩⟩
theorem PtsO.heads {W : World} {B : Nat} {v : Value} {p : List (List Int)} (h : PtsO W B v p) : ∃ vs, Heads W B W.heap.size v vs ∧ vs.length = p.length := by
  obtain ⟨vs, h1, h2, h3⟩ := h
  refine ⟨vs, ⟨h1, fun s hs => ?_⟩, h2⟩
  obtain ⟨j, hj, rfl⟩ := List.getElem_of_mem hs
  have ho := h3 j hj (by rw [← h2]; exact hj)
  refine ⟨_, ?_, ho, fun g hg => ?_⟩
  · obtain ⟨A, c, e, _⟩ := ho.shape
    simp only [sl, Value.slice.injEq] at e
    exact e.2.1.symm
  · obtain ⟨_, cs, hc⟩ := ho.block hg
    exact (Array.getElem?_eq_some_iff.1 hc).1
/-- A cell of one of the lists is written. -/
theorem Heads.put {W : World} {B N : Nat} {v : Value} {vs : List SV} (h : Heads W B N v vs) {g : Nat} {cs : Array Value} (hB : Blk W g 3 cs) (o : Nat) (z : Int) : Heads (W.setCell ⟨g, o, none⟩ (.int .i64 z)) B N v vs :=
  ⟨h.1.dset hB (by decide) o _, fun s hs => by
    obtain ⟨q, h1, h2, h3⟩ := h.2 s hs
    obtain ⟨q', e, h'⟩ := h2.int_put g o z
    exact ⟨q', by rw [e]; exact h1, h', h3⟩⟩
/-- What is there to be written: list k, place n. -/
theorem Heads.cell {W : World} {B N : Nat} {v : Value} {vs : List SV} (h : Heads W B N v vs) (k : Nat) (hk : k < vs.length) (n : Nat) (hn : n < (vs[k]'hk).2.1) :
    ∃ (g c : Nat) (z : Int) (cs : Array Value), vs[k]'hk = (some ⟨g, 0, none⟩, (vs[k]'hk).2.1, c) ∧ B ≤ g ∧ g < N ∧ W.cell? ⟨g, n, none⟩ = some (.int .i64 z) ∧ (∀ o, W.frozen? ⟨g, o, none⟩ = false) ∧ g < W.heap.size ∧ Blk W g 3 cs := by
  obtain ⟨q, h1, h2, h3⟩ := h.2 _ (List.getElem_mem hk)
  generalize vs[k]'hk = s at *
  obtain ⟨sA, sn, sc⟩ := s
  simp only at hn h1
  obtain ⟨g, rfl, hg1, hg2, hgf, hc⟩ := h2.cells (f := rowI) (k := 1) (fun _ => rfl) rfl (by omega)
  obtain ⟨_, cs, hcs⟩ := h2.block (g := g) rfl
  have hx := hc n (by omega) 0 _ rfl
  rw [Nat.mul_one, Nat.add_zero] at hx
  exact ⟨g, sc, _, cs, rfl, hg1, h3 g rfl, hx, hgf, hg2, hcs⟩
end Go.Proofs.Yticjfhagpmlieaa
