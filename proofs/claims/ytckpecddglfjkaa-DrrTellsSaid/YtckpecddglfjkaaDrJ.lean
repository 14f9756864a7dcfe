/- Turns by deficits: Add. -/
import Derived.Test.YtckpecddglfjkaaDrI
namespace Go.Proofs.Ytckpecddglfjkaa
open Go.ChangeShapes Go.WideShapes Go.ChangeAt Go.RowKit
open Dr
set_option linter.unusedVariables false
set_option linter.unusedSimpArgs false

theorem idx_cases (l : List Fl) (x : Int) : (idxI l x = -1 ∧ x ∉ l.map (·.1)) ∨ ∃ k, ∃ h : k < l.length, idxI l x = (k : Int) ∧ (l[k]'h).1 = x ∧ ∀ j (hj : j < l.length), j < k → (l[j]'hj).1 ≠ x := by
  unfold idxI idxB
  by_cases h : l.findIdx (fun y : Fl => isI x y.1) < l.length
  · rw [if_pos h]
    have := List.findIdx_getElem (p := fun y : Fl => isI x y.1) (w := h)
    refine Or.inr ⟨_, h, rfl, by simpa [isI] using this, fun j hj hlt e => ?_⟩
    have := List.not_of_lt_findIdx hlt
    exact absurd e (by simpa [isI] using this)
  · rw [if_neg h]
    refine Or.inl ⟨rfl, fun hm => ?_⟩
    obtain ⟨y, hy, e⟩ := List.mem_map.1 hm
    have h2 := List.findIdx_eq_length.1 (Nat.le_antisymm List.findIdx_le_length (Nat.le_of_not_lt h)) y hy
    exact absurd e (by simpa [isI] using h2)
def AddR (L : List Fl) (fr : Bool) (id q : Int) (e : Int) (L' : List Fl) (fr' : Bool) : Prop :=
  ((q < 1 ∨ 1000 < q) ∧ e = 1 ∧ L' = L ∧ fr' = fr) ∨ (1 ≤ q ∧ q ≤ 1000 ∧ id ∈ L.map (·.1) ∧ e = 11 ∧ L' = L ∧ fr' = fr) ∨ (1 ≤ q ∧ q ≤ 1000 ∧ id ∉ L.map (·.1) ∧ e = 0 ∧ L' = L ++ [(id, q, 0, 0)] ∧ fr' = (fr || L.isEmpty))
def AddP (B d : Nat) (L : List Fl) (fr : Bool) (id q : Int) (w : World) (e : Ending) (w' : World) : Prop :=
  ∃ r L' fr', (e = .returned (.int .i64 r) ∧ AddR L fr id q r L' fr' ∧ DrS w' B d L' fr') ∧ Chg B w w'
theorem rot_ids (l : List Fl) (c : Nat) (x : Int) : x ∈ (rot l c).map (·.1) ↔ x ∈ l.map (·.1) := by rw [rot_map, rot_mem]
theorem DrAt.chg {w w' : World} {B d : Nat} {v : Value} {l : List Fl} {c : Nat} {fr : Bool} (h : DrAt w B d v l c fr) (hb : Below w.heap.size w w') : Chg B w w' := Chg.later h.low' hb
/-- A slice that is written out. -/
theorem own_lit {α : Type} {W : World} {e : TypeId} {k : Nat} {f : α → List Value} {B : Nat} (l : List α) {cs : Array Value} {g n : Nat} (hg : g = W.heap.size) (hB : B ≤ g) (hn : n = l.length) (hm : n ≤ maxLen) (hs : cs.size = n * k) (hcs : l.flatMap f = cs.toList) : Own (W.alloc (.cells cs e)) B e k f (.slice (some ⟨g, 0, none⟩) n n) l := by
  subst hg; subst hn
  unfold Own
  rw [hcs]
  exact World.ownsRow_lit W cs l.length hB hm hs
theorem drr_three {w : World} {B d : Nat} {cs : Array Value} (h : Blk w d 65 cs) (hB : B ≤ d) (hs : cs.size = 3) (a b c : Value) :
    Blk (((w.setCell ⟨d, 0, none⟩ a).setCell ⟨d, 1, none⟩ b).setCell ⟨d, 2, none⟩ c) d 65 #[a, b, c] ∧ Chg B w (((w.setCell ⟨d, 0, none⟩ a).setCell ⟨d, 1, none⟩ b).setCell ⟨d, 2, none⟩ c) := by
  obtain ⟨x, y, z, rfl⟩ : ∃ x y z, cs = #[x, y, z] := by
    obtain ⟨l⟩ := cs
    match l, hs with
    | [x, y, z], _ => exact ⟨x, y, z, rfl⟩
  have h1 := h.set_ 0 a
  have h2 := h1.set_ 1 b
  have h3 := h2.set_ 2 c
  refine ⟨by simpa using h3, ⟨below_put3 (Below.refl _ _) hB a b c, (Frm.set1 h 0 a).trans ((Frm.set1 h1 1 b).trans (Frm.set1 h2 2 c))⟩⟩
theorem own_dset {w : World} {B d : Nat} {v : Value} {l : List Fl} {cs : Array Value} (hO : Own w B 68 4 rowF v l) (hB : Blk w d 65 cs) (o : Nat) (u : Value) : Own (w.setCell ⟨d, o, none⟩ u) B 68 4 rowF v l :=
  hO.grown (grown_set w d o u) (fun b hb he => by
    obtain rfl : d = b := by simpa using hb
    obtain ⟨_, cs', hc⟩ := hO.block he
    have := hc.symm.trans hB
    simp at this)
theorem chg_row {w w5 : World} {B g : Nat} (hg : w.grownBy w5 (some g)) (hB : B ≤ g) (hw : B ≤ w.heap.size) (hc : ∃ cs, w.heap[g]? = some (.cells cs 68 (0, 0))) : Chg B w w5 := by
  refine ⟨grownBy_below hg hw (fun b hb => ?_), Frm.grown hg (fun b hb => ?_)⟩
  · obtain rfl : g = b := by simpa using hb
    exact hB
  · obtain rfl : g = b := by simpa using hb
    exact hc
set_option maxHeartbeats 1000000 in
theorem Add_any (B d : Nat) (L : List Fl) (fr : Bool) (id q : Int) (w : World) (h : DrS w B d L fr) (hn : L.length < 1000) :
    Calls Try.prog 11 #[.pointer (some ⟨d, 0, none⟩), .int .i64 id, .int .i64 q] w (AddP B d L fr id q w) := by
  obtain ⟨v, l, c, h, rfl⟩ := h
  rw [rot_len] at hn
  by_cases hq : q < 1 ∨ 1000 < q
  · have hR : AddR (rot l c) fr id q 1 (rot l c) fr := Or.inl ⟨hq, rfl, rfl, rfl⟩
    have H := Lib.hid (And.intro h hR); clear h hR
    rcases hq with hq | hq
    · go_enter Try.func11, Try.ntmps11
      go_wp2
      go_ret
      exact ⟨1, _, _, ⟨rfl, H.out.2, ⟨_, _, _, H.out.1, rfl⟩⟩, Chg.refl _ _⟩
    · have hq2 : ¬ q < 1 := by omega
      go_enter Try.func11, Try.ntmps11
      go_wp2
      go_ret
      exact ⟨1, _, _, ⟨rfl, H.out.2, ⟨_, _, _, H.out.1, rfl⟩⟩, Chg.refl _ _⟩
  · have q1 : ¬ q < 1 := by omega
    have q2 : ¬ 1000 < q := by omega
    have cF := find_any B d v l c fr id w h
    rcases idx_cases l id with ⟨hi, hno⟩ | ⟨k, hk, hi, _, _⟩
    · rw [hi] at cF
      obtain ⟨A, n, rfl, hA, n1, n2⟩ := h.row.shape
      by_cases h0 : l = []
      · subst h0
        have hR : AddR (rot [] c) fr id q 0 [(id, q, 0, 0)] true := Or.inr (Or.inr ⟨by omega, by omega, by rw [rot_ids]; exact hno, rfl, by simp [rot], by simp [rot]⟩)
        have H := Lib.hid (And.intro cF (And.intro h hR)); clear cF h hR hno hi hA n1 hn hq
        go_enter Try.func11, Try.ntmps11
        go_wp2_with (go_at_call 23; ((with_reducible refine (H.out.1).mono ?_); rintro e w1 ⟨rfl, b1⟩; obtain ⟨d0, d1, d2, dl, df⟩ := (H.out.2.1.later b1).cells; have K := Lib.hid b1; clear b1))
        go_ret
        have h1 := H.out.2.1.later K.out
        obtain ⟨y1, y2⟩ := drr_three h1.blk h1.low rfl (.slice (some ⟨w1.heap.size + 1, 0, none⟩) 1 1) (.int .i64 0) (.bool true)
        refine ⟨_, _, _, ⟨rfl, H.out.2.2, ⟨_, [(id, q, 0, 0)], 0, ⟨h1.low, (y1.alloc _).alloc _, own_lit [(id, q, 0, 0)] (by simp [World.setCell]) (by have := h1.low'; omega) rfl (by decide) rfl rfl, fun _ => by simp⟩, rfl⟩⟩, ?_⟩
        exact (Chg.later H.out.2.1.low' K.out).trans (y2.trans (Chg.later (by have := h1.low'; simpa [World.setCell] using this) (bt (ba _ _) (ba _ _))))
      · have hc := h.cur h0
        have hR : AddR (rot l c) fr id q 0 (rot l c ++ [(id, q, 0, 0)]) fr := Or.inr (Or.inr ⟨by omega, by omega, by rw [rot_ids]; exact hno, rfl, rfl, by
          have : (rot l c).isEmpty = false := by
            rw [List.isEmpty_eq_false_iff_exists_mem]
            obtain ⟨y, hy⟩ := List.exists_mem_of_ne_nil _ h0
            exact ⟨y, (rot_mem _ _ _).2 hy⟩
          rw [this, Bool.or_false]⟩)
        have hrr : rot (l.take c ++ (id, q, 0, 0) :: l.drop c) (c + 1) = rot l c ++ [(id, q, 0, 0)] := by
          have e1 : (l.take c).length = c := by rw [List.length_take]; omega
          have e2 : l.take c ++ (id, q, 0, 0) :: l.drop c = (l.take c ++ [(id, q, 0, 0)]) ++ l.drop c := by simp
          have e3 : (l.take c ++ [(id, q, (0 : Int), (0 : Int))]).length = c + 1 := by rw [List.length_append, e1]; rfl
          unfold rot
          rw [e2]
          conv => lhs; arg 1; rw [← e3, List.drop_left]
          conv => lhs; arg 2; rw [← e3, List.take_left]
          simp
        obtain ⟨g, rfl, _, hgl, _, _⟩ := h.row.cells (f := rowF) (k := 4) (fun _ => rfl) rfl (by omega)
        have hgd := h.apart (g := g) rfl
        have hHI : ∀ (w1 W : World) (x : Nat), Below w.heap.size w w1 → Below w1.heap.size w1 W → w1.heap.size ≤ x → Blk W x 68 #[.int .i64 id, .int .i64 q, .int .i64 0, .int .i64 0] → Calls Try.prog 24 #[.slice (some ⟨g, 0, none⟩) l.length n, .int .i64 (c : Int), .slice (some ⟨x, 0, none⟩) 1 1] W (InsP B g (l.take c ++ (id, q, 0, 0) :: l.drop c) W) := fun w1 W x hb1 hb2 hx hB => by
          have := hb1.size
          exact Insert_any B g x n l (id, q, 0, 0) c W (h.row.later (bt hb1 hb2)) hc hB (by omega) (by omega)
        have hcm : (c : Int) ≤ 1000 := by omega
        have hw1 : IntKind.i64.wrap ((c : Int) + 1) = (c : Int) + 1 := IntWalk.i64_in _ (by omega)
        have hl0 : ¬ l.length = 0 := by omega
        have hl1 : ¬ (l.length : Int) = 0 := by omega
        have H := Lib.hid (And.intro cF (And.intro h (And.intro hR (And.intro hHI (And.intro hrr (And.intro hgd hgl))))))
        clear cF h hR hHI hrr hgd hgl hno hi hA n1 hn hq h0
        go_enter Try.func11, Try.ntmps11
        go_wp2_with (go_at_call 23; ((with_reducible refine (H.out.1).mono ?_); rintro e w1 ⟨rfl, b1⟩; obtain ⟨d0, d1, d2, dl, df⟩ := (H.out.2.1.later b1).cells; have K := Lib.hid b1; clear b1))
        obtain ⟨W0, hW0⟩ : ∃ W0, W0 = w1.alloc (.cells #[.int .i64 id, .int .i64 q, .int .i64 0, .int .i64 0] 68) := ⟨_, rfl⟩
        have hb0 : Below w1.heap.size w1 W0 := by rw [hW0]; exact ba _ _
        have hp : Blk W0 w1.heap.size 68 #[.int .i64 id, .int .i64 q, .int .i64 0, .int .i64 0] := by rw [hW0]; exact Blk.new _ _ _
        have hsz0 : W0.heap.size = w1.heap.size + 1 := by rw [hW0]; simp
        rw [← hW0]
        clear d0 d1 d2 dl df hW0
        have hSS : ∀ W, Below W0.heap.size W0 W → (W.cell? ⟨d, 0, none⟩ = some (.slice (some ⟨g, 0, none⟩) l.length n) ∧ W.cell? ⟨d, 1, none⟩ = some (.int .i64 (c : Int))) ∧ (∀ j, W.cell? ⟨w1.heap.size, j, none⟩ = (#[.int .i64 id, .int .i64 q, .int .i64 0, .int .i64 0] : Array Value)[j]?) := fun W hW => by
          obtain ⟨a0, a1, _⟩ := ((H.out.2.1.later K.out).later (bt hb0 hW)).cells
          exact ⟨⟨a0, a1⟩, fun j => (hp.later hW).cell j⟩
        have hp0 := hp.cell 0
        have hp1 := hp.cell 1
        have hp2 := hp.cell 2
        have hp3 := hp.cell 3
        obtain ⟨d0, d1, d2, dl, df⟩ := ((H.out.2.1.later K.out).later hb0).cells
        have Y := Lib.hid (And.intro hSS (And.intro hb0 (And.intro hp hsz0))); clear hSS hb0 hp hsz0
        go_region_law (first
          | (go_simp; go_at_call 24; refine (H.out.2.2.2.1 w1 _ W0.heap.size K.out (bt Y.out.2.1 (below_drew (ba W0 (.cells #[.int .i64 id, .int .i64 q, .int .i64 0, .int .i64 0] 68)))) (by have := Y.out.2.2.2; omega) (blk_drew (Blk.new W0 _ _))).mono ?_; rintro e w5 ⟨v5, ⟨rfl, hO5⟩, hg5⟩; obtain ⟨A5, n5, c5, rfl⟩ := own_shape hO5; have hbW : Below w1.heap.size w1 (W0.alloc (.cells #[.int .i64 id, .int .i64 q, .int .i64 0, .int .i64 0] 68)).drew := bt Y.out.2.1 (below_drew (ba W0 _)); have hbD := (((H.out.2.1.later K.out).later hbW).blk).grown hg5 (by simpa using Ne.symm H.out.2.2.2.2.2.1); have Z5 := Lib.hid (And.intro hO5 (And.intro hg5 (And.intro hbW hbD))); obtain ⟨e0, e1, e2, el, ef⟩ : w5.cell? ⟨d, 0, none⟩ = some (.slice (some ⟨g, 0, none⟩) l.length n) ∧ w5.cell? ⟨d, 1, none⟩ = some (.int .i64 (c : Int)) ∧ w5.cell? ⟨d, 2, none⟩ = some (.bool fr) ∧ d < w5.heap.size ∧ (∀ o, w5.frozen? ⟨d, o, none⟩ = false) := (⟨hbD.cell 0, hbD.cell 1, hbD.cell 2, hbD.lt, hbD.frozen⟩); clear hO5 hg5 hbD hbW))
        all_goals go_wp2
        all_goals go_ret
        all_goals
          have s0 := Z5.out.2.2.2.set_ 0 (.slice A5 n5 c5)
          have s1 := s0.set_ 1 (.int .i64 ((c : Int) + 1))
          have o1 := own_dset (own_dset Z5.out.1 Z5.out.2.2.2 0 (.slice A5 n5 c5)) s0 1 (.int .i64 ((c : Int) + 1))
          have hlow := H.out.2.1.low
          have hrb := (H.out.2.1.later (bt K.out Z5.out.2.2.1)).row.block (g := g) rfl
          have x1 : Chg B w w5 := (Chg.later H.out.2.1.low' (bt K.out Z5.out.2.2.1)).trans (chg_row Z5.out.2.1 hrb.1 (H.out.2.1.later (bt K.out Z5.out.2.2.1)).low' hrb.2)
          have x2 : Chg B w5 ((w5.setCell ⟨d, 0, none⟩ (.slice A5 n5 c5)).setCell ⟨d, 1, none⟩ (.int .i64 ((c : Int) + 1))) := ⟨below_put2 (Below.refl _ _) hlow _ _, (Frm.set1 Z5.out.2.2.2 0 _).trans (Frm.set1 s0 1 _)⟩
          refine ⟨_, _, _, ⟨rfl, H.out.2.2.1, ⟨_, _, c + 1, ⟨hlow, ?_, o1, fun _ => ?_⟩, H.out.2.2.2.2.1⟩⟩, x1.trans x2⟩
          · simpa using s1
          · rw [List.length_append, List.length_cons, List.length_take, List.length_drop]; omega
    · have hR : AddR (rot l c) fr id q 11 (rot l c) fr := Or.inr (Or.inl ⟨by omega, by omega, (by rw [rot_ids, ← ‹(l[k]'hk).1 = id›]; exact List.mem_map.2 ⟨_, List.getElem_mem hk, rfl⟩), rfl, rfl, rfl⟩)
      rw [hi] at cF
      have H := Lib.hid (And.intro cF (And.intro h hR)); clear cF h hR hi hn hq
      have hk0 : ¬ (k : Int) < 0 := by omega
      go_enter Try.func11, Try.ntmps11
      go_wp2_with (go_at_call 23; ((with_reducible refine (H.out.1).mono ?_); rintro e w1 ⟨rfl, b1⟩; have K := Lib.hid b1; clear b1))
      go_ret
      exact ⟨11, _, _, ⟨rfl, H.out.2.2, ⟨_, _, _, H.out.2.1.later K.out, rfl⟩⟩, Chg.later H.out.2.1.low' K.out⟩
end Go.Proofs.Ytckpecddglfjkaa
