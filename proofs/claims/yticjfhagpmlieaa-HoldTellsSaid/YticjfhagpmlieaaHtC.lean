/- The document's own hold: how it lies. -/
import Derived.Test.YticjfhagpmlieaaHtB
import Derived.Deep.DeepCutAuto
import Derived.Deep.CutBlock
namespace Go.Proofs.Yticjfhagpmlieaa
open Go.ChangeShapes Go.WideShapes Go.ChangeAt Go.RowKit
open Ho
set_option linter.unusedVariables false
set_option linter.unusedSimpArgs false

abbrev FrQ := Frm 29 38
structure RhAt (w0 w : World) (m : Nat) (v : Value) (l : List Wy) : Prop where
  low : w0.heap.size ≤ m
  blk : Blk w m 29 #[v]
  row : Own w w0.heap.size 38 3 rowW v l
  pts : ∀ y ∈ l, PtsAt w0 (sl y.2) y.1.2.1
  bel : Below w0.heap.size w0 w
theorem RhAt.later {w0 w w' : World} {m : Nat} {v : Value} {l : List Wy} (h : RhAt w0 w m v l) (hb : Below w.heap.size w w') : RhAt w0 w' m v l := ⟨h.low, h.blk.later hb, h.row.later hb, h.pts, bt h.bel hb⟩
def RhS (w0 w : World) (m : Nat) (T : List D) : Prop := ∃ v l, RhAt w0 w m v l ∧ l.map (·.1) = T
theorem RhS.later {w0 w w' : World} {m : Nat} {T : List D} (h : RhS w0 w m T) (hb : Below w.heap.size w w') : RhS w0 w' m T := by
  obtain ⟨v, l, h, e⟩ := h
  exact ⟨v, l, h.later hb, e⟩
structure ChQ (B : Nat) (w w' : World) : Prop where
  bel : Below B w w'
  frm : FrQ w w'
theorem ChQ.trans {B : Nat} {a b c : World} (h : ChQ B a b) (k : ChQ B b c) : ChQ B a c := ⟨h.bel.trans k.bel, h.frm.trans k.frm⟩
theorem ChQ.later {B : Nat} {w w' : World} (hB : B ≤ w.heap.size) (h : Below w.heap.size w w') : ChQ B w w' := ⟨h.mono hB, Frm.below h⟩
theorem RhAt.cells {w0 w : World} {m : Nat} {v : Value} {l : List Wy} (h : RhAt w0 w m v l) : w.cell? ⟨m, 0, none⟩ = some v ∧ m < w.heap.size ∧ (∀ o, w.frozen? ⟨m, o, none⟩ = false) := ⟨h.blk.cell 0, h.blk.lt, h.blk.frozen⟩
theorem RhAt.low' {w0 w : World} {m : Nat} {v : Value} {l : List Wy} (h : RhAt w0 w m v l) : w0.heap.size ≤ w.heap.size := h.bel.size
/-- A new row is stored. -/
theorem RhAt.rowto {w0 W : World} {N m : Nat} {v v' : Value} {l l' : List Wy} (g : RhAt w0 W m v l) (hN : w0.heap.size ≤ N) (hO : Own W N 38 3 rowW v' l') (hp : ∀ y ∈ l', PtsAt w0 (sl y.2) y.1.2.1) : RhAt w0 (W.setCell ⟨m, 0, none⟩ v') m v' l' ∧ ChQ w0.heap.size W (W.setCell ⟨m, 0, none⟩ v') := by
  have hs := g.blk.set_ 0 v'
  have b2 : Below w0.heap.size W (W.setCell ⟨m, 0, none⟩ v') := (Below.refl _ _).setCell (p := ⟨m, 0, none⟩) g.low _
  exact ⟨⟨g.low, by simpa using hs, (hO.lift hN).dset g.blk (by decide) 0 v', hp, g.bel.trans b2⟩, ⟨b2, Frm.set1 g.blk 0 _⟩⟩
theorem new_in {W Wa w6 : World} {t : TypeId} {cs : Array Value} (hW : Wa.heap.size = W.heap.size) (hb : Below (Wa.alloc (.cells cs t)).heap.size (Wa.alloc (.cells cs t)) w6) : ∀ j u, cs.toList[j]? = some u → w6.cell? ((⟨W.heap.size, 0, none⟩ : Addr).add j) = some u := by
  intro j u hu
  have := new_cells (w := Wa) hW.symm t cs j u hu
  rw [hb.cell (World.block_lt_of_cell? _ _ this)]
  exact this
theorem undQ : Try.prog.underlying 27 = some (.slice (Try.prog.elem 27)) := by kernel_rfl
theorem szQ : ∀ W, (sizeOf (Try.prog.elem 27)).run Try.prog W = .ok 3 W := fun W => by kernel_rfl
theorem kc_neg (a b : D) : kc b a = - kc a b := c3K.neg _ _
theorem kc_trans (a b d : D) (h1 : kc a b ≤ 0) (h2 : kc b d ≤ 0) : kc a d ≤ 0 := c3K.trans _ _ _ h1 h2
theorem pos_from {T : List D} (hS : Sorted T) (t : D) (k : Nat) (hk : k ≤ T.length) (h1 : ∀ j (hj : j < T.length), k ≤ j → kc t (T[j]'hj) < 0) (h2 : ∀ h : k - 1 < T.length, 0 < k → ¬ kc t (T[k - 1]'h) < 0) : pos t T = k := by
  refine find_at _ T k hk (fun j hj hlt => ?_) (fun h => ?_)
  · have e1 := h2 (by omega) (by omega)
    have e2 := kc_neg t (T[k - 1]'(by omega))
    have e3 := sorted_get hS (i := j) (j := k - 1) hj (by omega) (by omega)
    have e4 := kc_trans _ _ _ e3 (show kc (T[k - 1]'(by omega)) t ≤ 0 by omega)
    exact decide_eq_false (by omega)
  · have e1 := h1 k h (Nat.le_refl _)
    have e2 := kc_neg t (T[k]'h)
    exact decide_eq_true (by omega)
end Go.Proofs.Yticjfhagpmlieaa
