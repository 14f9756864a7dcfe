/- What a call keeps: rows of its own that it writes, and what stays true behind calls that make memory. -/
import Derived.Test.YtbmkbpehkpdcmaaMem
namespace Go.Proofs.Ytbmkbpehkpdcmaa
open Go.ChangeShapes Go.WideShapes Go.ChangeAt Go.RowKit
set_option linter.unusedVariables false

abbrev RowB := Nat × TypeId × Array Value
/-- The world W stands above w; the rows bs (the youngest first) are as they are, and may be written; P held of a world of N blocks below W, and goes on holding. -/
structure Keep (w W : World) (N : Nat) (bs : List RowB) (P : World → Prop) : Prop where
  bel : Below w.heap.size w W
  low : w.heap.size ≤ N
  rows : ∀ b ∈ bs, Blk W b.1 b.2.1 b.2.2 ∧ N ≤ b.1
  apart : bs.Pairwise (fun a b => b.1 < a.1)
  was : ∃ W0 : World, W0.heap.size = N ∧ P W0 ∧ Below N W0 W
  stays : ∀ A B : World, Below A.heap.size A B → P A → P B
theorem Keep.start (w : World) (P : World → Prop) (hp : P w) (hs : ∀ A B : World, Below A.heap.size A B → P A → P B) : Keep w w w.heap.size [] P :=
  ⟨Below.refl _ _, Nat.le_refl _, fun b hb => by simp at hb, List.Pairwise.nil, ⟨w, rfl, hp, Below.refl _ _⟩, hs⟩
theorem Keep.p {w W : World} {N : Nat} {bs : List RowB} {P : World → Prop} (h : Keep w W N bs P) : P W := by
  obtain ⟨W0, rfl, hp, hb⟩ := h.was
  exact h.stays _ _ hb hp
theorem Keep.size {w W : World} {N : Nat} {bs : List RowB} {P : World → Prop} (h : Keep w W N bs P) : N ≤ W.heap.size := by
  obtain ⟨W0, rfl, hp, hb⟩ := h.was
  exact hb.size
theorem Keep.go {w W W1 : World} {N : Nat} {bs : List RowB} {P : World → Prop} (h : Keep w W N bs P) (hb : Below W.heap.size W W1) : Keep w W1 N bs P := by
  refine ⟨bt h.bel hb, h.low, fun b hm => ⟨(h.rows b hm).1.later hb, (h.rows b hm).2⟩, h.apart, ?_, h.stays⟩
  obtain ⟨W0, e, hp, hw⟩ := h.was
  exact ⟨W0, e, hp, hw.trans (hb.mono h.size)⟩
theorem Keep.drw {w W : World} {N : Nat} {bs : List RowB} {P : World → Prop} (h : Keep w W N bs P) : Keep w W.drew N bs P := h.go (below_drew (Below.refl _ _))
theorem Keep.more {w W : World} {N : Nat} {bs : List RowB} {P : World → Prop} (h : Keep w W N bs P) (t : TypeId) (c : Array Value) : Keep w (W.alloc (.cells c t)) N ((W.heap.size, t, c) :: bs) P := by
  have h1 := h.go (ba W (.cells c t))
  refine ⟨h1.bel, h1.low, fun b hm => ?_, List.Pairwise.cons (fun b hb => (h.rows b hb).1.lt) h.apart, h1.was, h1.stays⟩
  rcases List.mem_cons.1 hm with rfl | hm
  · exact ⟨Blk.new W t c, h.size⟩
  · exact h1.rows b hm
/-- What holds by now holds on: the rows are given up, or go into what holds. -/
theorem Keep.and {w W : World} {N : Nat} {bs : List RowB} {P Q : World → Prop} (h : Keep w W N bs P) (hq : Q W) (hQ : ∀ A B : World, Below A.heap.size A B → Q A → Q B) : Keep w W W.heap.size [] (fun X => P X ∧ Q X) :=
  ⟨h.bel, Nat.le_trans h.low h.size, fun b hb => by simp at hb, List.Pairwise.nil, ⟨W, rfl, ⟨h.p, hq⟩, Below.refl _ _⟩, fun A B hb hp => ⟨h.stays A B hb hp.1, hQ A B hb hp.2⟩⟩
theorem Keep.blk {w W : World} {N : Nat} {bs : List RowB} {P : World → Prop} (h : Keep w W N bs P) {g : Nat} {t : TypeId} {c : Array Value} (hm : (g, t, c) ∈ bs) : Blk W g t c := (h.rows _ hm).1
theorem Keep.keepRow {w W : World} {N : Nat} {bs : List RowB} {P : World → Prop} (h : Keep w W N bs P) {g : Nat} {t : TypeId} {c : Array Value} (hm : (g, t, c) ∈ bs) : Keep w W W.heap.size [] (fun X => P X ∧ Blk X g t c) :=
  h.and (h.blk hm) (fun _ _ hb hB => hB.later hb)
theorem Keep.weak {w W : World} {N : Nat} {bs : List RowB} {P Q : World → Prop} (h : Keep w W N bs P) (hq : ∀ X, P X → Q X) (hQ : ∀ A B : World, Below A.heap.size A B → Q A → Q B) : Keep w W N bs Q := by
  obtain ⟨W0, e, hp, hw⟩ := h.was
  exact ⟨h.bel, h.low, h.rows, h.apart, ⟨W0, e, hq _ hp, hw⟩, hQ⟩
theorem Keep.put {w W : World} {N : Nat} {l1 l2 : List RowB} {P : World → Prop} {g : Nat} {t : TypeId} {c : Array Value} (h : Keep w W N (l1 ++ (g, t, c) :: l2) P) (j : Nat) (v : Value) : Keep w (W.setCell ⟨g, j, none⟩ v) N (l1 ++ (g, t, c.setIfInBounds j v) :: l2) P := by
  have hg := h.rows (g, t, c) (by simp)
  have ha := h.apart
  rw [List.pairwise_append, List.pairwise_cons] at ha
  obtain ⟨a1, ⟨a2, a3⟩, a4⟩ := ha
  refine ⟨h.bel.setCell (p := ⟨g, j, none⟩) (Nat.le_trans h.low hg.2) v, h.low, fun b hm => ?_, ?_, ?_, h.stays⟩
  · rcases List.mem_append.1 hm with hm | hm
    · exact ⟨(h.rows b (List.mem_append_left _ hm)).1.far (p := ⟨g, j, none⟩) (by have := a4 b hm (g, t, c) (List.mem_cons_self ..); simp at this; show b.1 ≠ g; omega) v, (h.rows b (List.mem_append_left _ hm)).2⟩
    · rcases List.mem_cons.1 hm with rfl | hm
      · exact ⟨hg.1.set_ j v, hg.2⟩
      · exact ⟨(h.rows b (List.mem_append_right _ (List.mem_cons_of_mem _ hm))).1.far (p := ⟨g, j, none⟩) (by have := a2 b hm; simp at this; show b.1 ≠ g; omega) v, (h.rows b (List.mem_append_right _ (List.mem_cons_of_mem _ hm))).2⟩
  · rw [List.pairwise_append, List.pairwise_cons]
    refine ⟨a1, ⟨a2, a3⟩, fun x hx y hy => ?_⟩
    rcases List.mem_cons.1 hy with rfl | hy
    · exact a4 x hx (g, t, c) (List.mem_cons_self ..)
    · exact a4 x hx y (List.mem_cons_of_mem _ hy)
  · obtain ⟨W0, e, hp, hw⟩ := h.was
    exact ⟨W0, e, hp, hw.setCell (p := ⟨g, j, none⟩) hg.2 v⟩
theorem Keep.put3 {w W : World} {N : Nat} {l2 : List RowB} {P : World → Prop} {g : Nat} {t : TypeId} {a b c : Value} (h : Keep w W N ((g, t, #[a, b, c]) :: l2) P) (x y z : Value) : Keep w (((W.setCell ⟨g, 0, none⟩ x).setCell ⟨g, 1, none⟩ y).setCell ⟨g, 2, none⟩ z) N ((g, t, #[x, y, z]) :: l2) P :=
  (((h.put (l1 := []) 0 x).put (l1 := []) 1 y).put (l1 := []) 2 z)
theorem Keep.cells {w W : World} {N : Nat} {bs : List RowB} {P : World → Prop} (h : Keep w W N bs P) {g : Nat} {t : TypeId} {c : Array Value} (hm : (g, t, c) ∈ bs) : (∀ j, W.cell? ⟨g, j, none⟩ = c[j]?) ∧ (∀ j, W.frozen? ⟨g, j, none⟩ = false) ∧ g < W.heap.size :=
  ⟨fun j => (h.blk hm).cell j, fun j => (h.blk hm).frozen j, (h.blk hm).lt⟩
theorem Keep.head {w W : World} {N : Nat} {l : List RowB} {P : World → Prop} {g : Nat} {t : TypeId} {c : Array Value} (h : Keep w W N ((g, t, c) :: l) P) : (∀ j, W.cell? ⟨g, j, none⟩ = c[j]?) ∧ (∀ j, W.frozen? ⟨g, j, none⟩ = false) ∧ g < W.heap.size :=
  h.cells (List.mem_cons_self ..)
theorem Keep.dmore {w W : World} {N : Nat} {bs : List RowB} {P : World → Prop} (h : Keep w W N bs P) (t : TypeId) (c : Array Value) : Keep w (W.drew.alloc (.cells c t)) N ((W.heap.size, t, c) :: bs) P := h.drw.more t c
end Go.Proofs.Ytbmkbpehkpdcmaa
