/- Waits that are held: Add. -/
import Derived.Test.YticjfhagpmlieaaHoK
namespace Go.Proofs.Yticjfhagpmlieaa
open Go.ChangeShapes Go.WideShapes Go.ChangeAt Go.RowKit
open Ho
set_option linter.unusedVariables false
set_option linter.unusedSimpArgs false

theorem searchL (l : List Wy) (p : D → Bool) (m : Nat) (hm : m ≤ l.length) (h0 : ∀ k, k < m → (fun k : Nat => if h : k < l.length then p (l[k]'h).1 else true) k = false) (h1 : m < l.length → (fun k : Nat => if h : k < l.length then p (l[k]'h).1 else true) m = true) : (l.map (·.1)).findIdx p = m := by
  refine find_at p _ m (by simpa using hm) (fun j hj hlt => ?_) (fun h => ?_)
  · have := h0 j hlt
    have hj' : j < l.length := by simpa using hj
    simp only [hj', dif_pos] at this
    simpa using this
  · have h' : m < l.length := by simpa using h
    have := h1 h'
    simp only [h', dif_pos] at this
    simpa using this
theorem map_ins (l : List Wy) (y : Wy) (m : Nat) (hm : pos y.1 (l.map (·.1)) = m) : (l.take m ++ y :: l.drop m).map (·.1) = ins (l.map (·.1)) y.1 := by
  unfold ins
  rw [hm, List.map_append, List.map_cons, List.map_take, List.map_drop]
/-- The row of a Hold is another one: all else stands as it did. -/
theorem HX.turned {X : Nat → Prop} {w W w' : World} {B d : Nat} {v v' : Value} {l l' : List Wy} {T' : List D} (h : HAt w B d v l) (hX : ¬ X d) (hXr : ∀ g, v.ownBlock = some g → ¬ X g) (hXl : ∀ k, X k → k < w.heap.size) (hbW : Below w.heap.size w W)
    (hO : Own w' B 35 3 rowW v' l') (hq : ∀ x, v'.ownBlock = some x → v.ownBlock = some x ∨ W.heap.size ≤ x) (hg : W.grownBy w' v.ownBlock) (hp : ∀ y ∈ l', PtsO W B (sl y.2) y.1.2.1) (hf : ∀ y ∈ l', Fit y.1.2.1) (hT : l'.map (·.1) = T') (hS : Sorted T') (hn : T'.length ≤ 1000) :
    HX X (w'.setCell ⟨d, 0, none⟩ v') B d T' ∧ Hc X B w (w'.setCell ⟨d, 0, none⟩ v') := by
  have hW := h.later hbW
  have hdr : some d ≠ v.ownBlock := hW.row.ne_blk hW.blk (by decide)
  have hB' := hW.blk.grown hg hdr
  have hs := hB'.set_ 0 v'
  have hrow : ∀ g, v.ownBlock = some g → B ≤ g ∧ ∃ cs, W.heap[g]? = some (.cells cs 35 (0, 0)) := fun g hg => hW.row.block hg
  have f1 : FrH W w' := Frm.grown hg (fun g hg => (hrow g hg).2)
  have b1 : Below B W w' := grownBy_below hg hW.low' (fun g hg => (hrow g hg).1)
  have f2 : FrH w' (w'.setCell ⟨d, 0, none⟩ v') := Frm.set1 hB' 0 v'
  have b2 : Below B w' (w'.setCell ⟨d, 0, none⟩ v') := (Below.refl _ _).setCell (p := ⟨d, 0, none⟩) h.low _
  refine ⟨⟨v', l', ⟨h.low, by simpa using hs, hO.dset hB' (by decide) 0 v', fun y hy => ((hp y hy).frm f1).dset hB' (by decide) (by decide) 0 v', hf⟩, hT, hS, hn, hX, fun g hg' hx => ?_, fun k hk => ?_⟩, ⟨(hbW.mono h.low').trans (b1.trans b2), (Frm.below hbW).trans (f1.trans f2), fun k hk => ?_⟩⟩
  · rcases hq g hg' with h1 | h1
    · exact hXr g h1 hx
    · have := hXl g hx
      have := hbW.size
      omega
  · have := hXl k hk
    have := hbW.size
    have := hg.size
    simp only [World.setCell, Array.size_modify]; omega
  · have hk' := hXl k hk
    rw [Below.heap_setCell w' ⟨d, 0, none⟩ v' k (fun e => hX (by have e' : k = d := e; rw [← e']; exact hk))]
    rw [hg.block k (Nat.lt_of_lt_of_le hk' hbW.size) (fun e => hXr k e.symm hk)]
    exact hbW.block k hk'
def AddP (X : Nat → Prop) (B d : Nat) (T : List D) (t : D) (w : World) (e : Ending) (w' : World) : Prop := e = .returned (.tuple #[]) ∧ HX X w' B d (ins T t) ∧ Hc X B w w'
set_option maxHeartbeats 4000000 in
theorem Add_any (X : Nat → Prop) (B d : Nat) (T : List D) (u : Int) (s : SV) (x : Int) (p : List (List Int)) (w : World) (h : HX X w B d T) (hp : PtsAt w (sl s) p) (hf : Fit p) (hn : T.length < 1000) :
    Calls Try.prog 10 #[.pointer (some ⟨d, 0, none⟩), waitV u s x] w (AddP X B d T (u, p, x) w) := by
  obtain ⟨v, l, h1, rfl, h3, h4, h5, h6, h7⟩ := h
  obtain ⟨A, c, rfl, ha0, _, _⟩ := h1.row.shape
  obtain ⟨sA, sn, sc⟩ := s
  rw [List.length_map] at hn h4
  have hlm : (l.length : Int) ≤ 9223372036854775807 := by omega
  obtain ⟨W0, hW0⟩ : ∃ W0, W0 = (w.alloc (.cells #[.pointer (some ⟨d, 0, none⟩)] 24)).alloc (.cells #[.int .i64 u, .slice sA sn sc, .int .i64 x] 35) := ⟨_, rfl⟩
  have hb0 : Below w.heap.size w W0 := by rw [hW0]; exact bt (ba w _) (ba _ _)
  have hBh : Blk W0 w.heap.size 24 #[.pointer (some ⟨d, 0, none⟩)] := by rw [hW0]; exact (Blk.new _ _ _).alloc _
  have hBw : Blk W0 (w.heap.size + 1) 35 #[.int .i64 u, .slice sA sn sc, .int .i64 x] := by rw [hW0]; have := Blk.new (w.alloc (.cells #[.pointer (some ⟨d, 0, none⟩)] 24)) 35 #[.int .i64 u, .slice sA sn sc, .int .i64 x]; rwa [World.size_alloc] at this
  have hs0 : W0.heap.size = w.heap.size + 2 := by rw [hW0]; simp
  have cS : ∀ W, Below W0.heap.size W0 W → Calls Try.prog 27 #[.int .i64 (l.length : Int), .func (.func 28) #[] #[.pointer (some ⟨w.heap.size, 0, none⟩), .pointer (some ⟨w.heap.size + 1, 0, none⟩)]] W (SearchP l.length (fun k => if h : k < l.length then decide (0 < kc (l[k]'h).1 (u, p, x)) else true) W) := fun W hW =>
    searchA_any l.length _ ⟨w.heap.size, 0, none⟩ ⟨w.heap.size + 1, 0, none⟩ W (by omega) (fun i j hij hj hi => by
      have hi' : i < l.length := by omega
      simp only [hi', hj, dif_pos] at hi ⊢
      have := pos_mono h3 (u, p, x) (i := i) (j := j) (by simpa using hi') (by simpa using hj) hij (by simpa using hi)
      simpa using this) (fun W' k hW' hk => by
      have hh := ((h1.later hb0).later hW).later hW'
      have := addClo_any B d w.heap.size (w.heap.size + 1) _ l u x (sA, sn, sc) p k W' hh hk (by omega) (((hBh.later hW).later hW').cell 0) ((hBw.later hW).later hW') (((hp.later hb0).later hW).later hW')
      simpa only [hk, dif_pos] using this)
  have cC : ∀ W, Below w.heap.size w W → Calls Try.prog 32 #[waitV u (sA, sn, sc) x] W (CopyP u x p W) := fun W hW => copyOf_any u _ x p W (hp.later hW) hf
  have H := Lib.hid (And.intro cS (And.intro cC (And.intro h1 (And.intro h3 (And.intro h5 (And.intro h6 (And.intro h7 (And.intro hb0 (And.intro hBh (And.intro hBw (And.intro hs0 (And.intro hf hn)))))))))))); clear cS cC h1 h3 h5 h6 h7 hp hf hn h4
  obtain ⟨d0, dl, df⟩ := (H.out.2.2.1.later H.out.2.2.2.2.2.2.2.1).cells
  have p0 := H.out.2.2.2.2.2.2.2.2.1.cell 0
  have q := H.out.2.2.2.2.2.2.2.2.2.1.three
  obtain ⟨q0, q1, q2⟩ := q
  rw [hW0] at d0 dl df p0 q0 q1 q2
  go_enter Try.func10, Try.ntmps10
  go_wp2_with (go_at_call 27; rw [← hW0]; (refine (H.out.1 _ (Below.refl _ _)).mono ?_); rintro e w1 ⟨m, ⟨rfl, hm, hm0, hm1⟩, b1⟩; have K := Lib.hid (And.intro hm (And.intro hm0 (And.intro hm1 b1))); clear hm hm0 hm1 b1)
  have hb1 : Below w.heap.size w w1 := bt H.out.2.2.2.2.2.2.2.1 K.out.2.2.2
  have hF : ∀ W, Below w1.heap.size w1 W → HAt W B d (.slice A l.length c) l ∧ Blk W w.heap.size 24 #[.pointer (some ⟨d, 0, none⟩)] ∧ Blk W (w.heap.size + 1) 35 #[.int .i64 u, .slice sA sn sc, .int .i64 x] := fun W hW =>
    ⟨(H.out.2.2.1.later hb1).later hW, (H.out.2.2.2.2.2.2.2.2.1.later K.out.2.2.2).later hW, (H.out.2.2.2.2.2.2.2.2.2.1.later K.out.2.2.2).later hW⟩
  have hdb : d < w.heap.size := H.out.2.2.1.blk.lt
  have hI : ∀ (w2 : World) (s' : SV), Below w1.heap.size w1 w2 → Calls Try.prog 31 #[.slice A l.length c, .int .i64 (m : Int), .slice (some ⟨w2.heap.size, 0, none⟩) 1 1] (w2.alloc (.cells #[.int .i64 u, sl s', .int .i64 x] 35)) (InsQ B (.slice A l.length c) (l.take m ++ ((u, p, x), s') :: l.drop m) (w2.alloc (.cells #[.int .i64 u, sl s', .int .i64 x] 35))) := fun w2 s' hW => by
    have h1 := (hF w2 hW).1
    refine Insert_all B w2.heap.size _ l ((u, p, x), s') m _ (h1.row.later (ba _ _)) K.out.1 (Blk.new _ _ _) (fun e => ?_) (by have := H.out.2.2.2.2.2.2.2.2.2.2.2.2; omega) (by rw [World.size_alloc]; have := h1.low'; omega)
    obtain ⟨_, cs, hc⟩ := h1.row.block e
    have := (Array.getElem?_eq_some_iff.1 hc).1
    omega
  have Y := Lib.hid (And.intro hb1 (And.intro hF hI)); clear hb1 hF hI
  clear d0 dl df p0 q0 q1 q2 hb0 hBh hBw hs0
  obtain ⟨d0, dl, df⟩ := (Y.out.2.1 w1 (Below.refl _ _)).1.cells
  have p0 := (Y.out.2.1 w1 (Below.refl _ _)).2.1.cell 0
  obtain ⟨q0, q1, q2⟩ := (Y.out.2.1 w1 (Below.refl _ _)).2.2.three
  go_region_law (first
    | (go_simp; go_at_call 32; (refine (H.out.2.1 _ (by first | exact below_drew Y.out.1)).mono ?_); rintro e w2 ⟨s', ⟨rfl, hS⟩, b2⟩; obtain ⟨tA, tn, tc⟩ := s'; have Z := Lib.hid (And.intro (hS.lift (by have := Y.out.1.size; simpa using this)) (bt (below_drew (Below.refl _ w1)) b2)); clear hS b2; obtain ⟨d0, dl, df⟩ := (Y.out.2.1 w2 Z.out.2).1.cells; have p0 := (Y.out.2.1 w2 Z.out.2).2.1.cell 0; obtain ⟨q0, q1, q2⟩ := (Y.out.2.1 w2 Z.out.2).2.2.three; have d0a : ∀ o, (w2.alloc o).cell? ⟨d, 0, none⟩ = some (.slice A l.length c) := (fun o => (Y.out.2.1 (w2.alloc o) (bt Z.out.2 (ba w2 o))).1.cells.1); have p0a : ∀ o, (w2.alloc o).cell? ⟨w.heap.size, 0, none⟩ = some (.pointer (some ⟨d, 0, none⟩)) := (fun o => (Y.out.2.1 (w2.alloc o) (bt Z.out.2 (ba w2 o))).2.1.cell 0))
    | (go_simp; go_at_call 31; (refine (Y.out.2.2 w2 (tA, tn, tc) Z.out.2).mono ?_); rintro e w5 ⟨v5, ⟨rfl, hO5, hq5⟩, hg5⟩; obtain ⟨A5, n5, c5, rfl⟩ := own_shape hO5; have hW2 := Y.out.2.1 (w2.alloc (.cells #[.int .i64 u, .slice tA tn tc, .int .i64 x] 35)) (bt Z.out.2 (ba w2 _)); have hD5 := hW2.1.blk.grown hg5 (hW2.1.row.ne_blk hW2.1.blk (by decide)); have hH5 := hW2.2.1.grown hg5 (hW2.1.row.ne_blk hW2.2.1 (by decide)); obtain ⟨d0, dl, df⟩ : w5.cell? ⟨d, 0, none⟩ = some (.slice A l.length c) ∧ d < w5.heap.size ∧ (∀ o, w5.frozen? ⟨d, o, none⟩ = false) := (⟨hD5.cell 0, hD5.lt, hD5.frozen⟩); have p0 := hH5.cell 0; have Z5 := Lib.hid (And.intro hO5 (And.intro hq5 hg5)); clear hO5 hq5 hg5 hW2 hD5 hH5))
  all_goals go_wp2
  all_goals refine bodyPost_ret (v := .tuple #[]) (by simp only [results, Try.results10]; simp [go_sem]) rfl ?_
  all_goals
    have hbW : Below w.heap.size w (w2.alloc (.cells #[.int .i64 u, .slice tA tn tc, .int .i64 x] 35)) := bt Y.out.1 (bt Z.out.2 (ba w2 _))
    have hmp : pos (u, p, x) (l.map (·.1)) = m := searchL l (fun e => decide (0 < kc e (u, p, x))) m K.out.1 K.out.2.1 K.out.2.2.1
    obtain ⟨r1, r2⟩ := HX.turned (X := X) (T' := ins (l.map (·.1)) (u, p, x)) H.out.2.2.1 H.out.2.2.2.2.1 H.out.2.2.2.2.2.1 H.out.2.2.2.2.2.2.1 hbW Z5.out.1 Z5.out.2.1 Z5.out.2.2 (fun y hy => by
        rcases List.mem_append.1 hy with hy | hy
        · exact (H.out.2.2.1.pts y (List.mem_of_mem_take hy)).later hbW
        · rcases List.mem_cons.1 hy with rfl | hy
          · exact ((Z.out.1.lift (H.out.2.2.1.low')).later (ba w2 _))
          · exact (H.out.2.2.1.pts y (List.mem_of_mem_drop hy)).later hbW) (fun y hy => by
        rcases List.mem_append.1 hy with hy | hy
        · exact H.out.2.2.1.fit y (List.mem_of_mem_take hy)
        · rcases List.mem_cons.1 hy with rfl | hy
          · exact H.out.2.2.2.2.2.2.2.2.2.2.2.1
          · exact H.out.2.2.1.fit y (List.mem_of_mem_drop hy)) (map_ins l ((u, p, x), (tA, tn, tc)) m hmp) (sorted_ins H.out.2.2.2.1 _) (by rw [ins_len, List.length_map]; have := H.out.2.2.2.2.2.2.2.2.2.2.2.2; omega)
    exact ⟨rfl, r1, r2⟩
end Go.Proofs.Yticjfhagpmlieaa
