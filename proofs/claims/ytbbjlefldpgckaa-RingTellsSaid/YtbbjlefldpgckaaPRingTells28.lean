/- Texts of the proof of RingTells, part 28. -/
import Derived.Test.YtbbjlefldpgckaaPRingTells27
import Derived.Test.YtbbjlefldpgckaaPRingTells1
namespace Go.Proofs.Ytbbjlefldpgckaa
open Go.ChangeShapes Go.WideShapes Go.ChangeAt Go.RowKit Go.Maps
open Ev (V3 rightV OkV)
set_option linter.unusedVariables false
set_option linter.unusedSimpArgs false
set_option maxRecDepth 20000

abbrev actV (x : ActD) : Value := .agg #[.int .u8 x.k, .int .u8 x.n, .int .u8 x.t, .bool x.ma, .int .i64 x.tm, .slice x.sv.1 x.sv.2.1 x.sv.2.2]
/-- The item of an act, near an edge: is it a mark, its time, its values. -/
def itA (x : ActD) (edge : Int) : Bool × Int × List V3 :=
  if x.k % 16 = 5 then (x.ma, x.tm, x.vs)
  else (decide (x.k % 16 = 4), edge + x.t % 5 - 1 + (if x.k % 16 = 4 ∨ x.k % 16 = 3 then x.t / 16 else 0), if x.k % 16 = 4 then [] else [(1, x.n, ⟨#[]⟩)])
theorem itA_ok {W : World} {x : ActD} (hx : ActOk W x) (edge : Int) (he : 0 ≤ edge ∧ edge ≤ 2305843009213693953) : wfI (itA x edge).2.1 ∧ ∀ y ∈ (itA x edge).2.2, y.2.2.size ≤ maxLen := by
  have h1 := hx.t
  unfold itA
  split
  · exact ⟨hx.tm, hx.sz⟩
  · refine ⟨?_, ?_⟩
    · simp only
      constructor <;> split <;> omega
    · simp only
      split
      · intro y hy; cases hy
      · exact one_size _
def ItemP (x : ActD) (edge : Int) (w : World) (e : Ending) (w' : World) : Prop := ∃ v, (e = .returned (item (itA x edge).1 (itA x edge).2.1 v) ∧ ((v = sl x.sv ∧ (itA x edge).2.2 = x.vs) ∨ NewAt w.heap.size w' v (itA x edge).2.2)) ∧ Below w.heap.size w w'
theorem act_way (k : Int) (h0 : 0 ≤ k) : k % 16 = 4 ∨ k % 16 = 3 ∨ k % 16 = 5 ∨ ((k % 16 == 4) = false ∧ decide (k % 16 = 4) = false ∧ (k % 16 == 3) = false ∧ decide (k % 16 = 3) = false ∧ (k % 16 == 5) = false ∧ decide (k % 16 = 5) = false) := by
  by_cases h4 : k % 16 = 4
  · exact Or.inl h4
  · by_cases h3 : k % 16 = 3
    · exact Or.inr (Or.inl h3)
    · by_cases h5 : k % 16 = 5
      · exact Or.inr (Or.inr (Or.inl h5))
      · exact Or.inr (Or.inr (Or.inr ⟨by simpa using h4, decide_eq_false h4, by simpa using h3, decide_eq_false h3, by simpa using h5, decide_eq_false h5⟩))
set_option maxHeartbeats 2000000 in
theorem Item_any (x : ActD) (edge : Int) (w : World) (hx : ActOk w x) (he : 0 ≤ edge ∧ edge ≤ 2305843009213693953) :
    Calls Try.prog 24 #[actV x, .int .i64 edge] w (ItemP x edge w) := by
  obtain ⟨k, n, t, ma, tm, ⟨sA, sn, sc⟩, vs⟩ := x
  obtain ⟨⟨k0, k1⟩, ⟨n0, n1⟩, ⟨t0, t1⟩, ⟨tm0, tm1⟩, hvs, hsz⟩ := hx
  simp only at k0 k1 n0 n1 t0 t1 tm0 tm1
  obtain ⟨e0, e1⟩ := he
  have H := Lib.hid (And.intro hvs hsz); clear hvs hsz
  have hm5 : 0 ≤ t % 5 ∧ t % 5 ≤ 4 := by omega
  have hd16 : 0 ≤ t / 16 ∧ t / 16 ≤ 15 := by omega
  obtain ⟨m5a, m5b⟩ := hm5
  obtain ⟨d16a, d16b⟩ := hd16
  rcases act_way k k0 with hq | hq | hq | ⟨q1, q2, q3, q4, q5, q6⟩
  all_goals
    go_enter Try.func24, Try.ntmps24
    go_wp2
  · skip
    have hR := (Blk.new (w.alloc (.cells #[.int .u8 k, .int .u8 n, .int .u8 t, .bool ma, .int .i64 tm, .slice sA sn sc] 39)) 37 #[.bool true, .int .i64 (edge + t % 5 - 1 + t / 16), .slice none 0 0]).alloc (.cells #[.bool true, .int .i64 (edge + t % 5 - 1 + t / 16), .slice none 0 0] 37)
    rw [World.size_alloc] at hR
    obtain ⟨z0, z1, z2⟩ := hR.three
    refine bodyPost_ret (v := item true (edge + t % 5 - 1 + t / 16) (.slice none 0 0)) (by simp only [results, Try.results24]; simp [go_sem, z0, z1, z2]) rfl ?_
    refine ⟨.slice none 0 0, ⟨by unfold itA; simp [hq], ?_⟩, bt (bt (ba w _) (ba _ _)) (ba _ _)⟩
    have e : (itA ⟨k, n, t, ma, tm, (sA, sn, sc), vs⟩ edge).2.2 = [] := by unfold itA; simp [hq]
    rw [e]; exact Or.inr (NewAt.nil _ _)
  · skip
    have hR := ((Blk.new (w.alloc (.cells #[.int .u8 k, .int .u8 n, .int .u8 t, .bool ma, .int .i64 tm, .slice sA sn sc] 39)) 37 #[.bool false, .int .i64 (edge + t % 5 - 1 + t / 16), .slice (some ⟨w.heap.size + 1 + 1 + 1, 0, none⟩) 1 1]).alloc (.cells #[.bool false, .int .i64 (edge + t % 5 - 1 + t / 16), .slice (some ⟨w.heap.size + 1 + 1 + 1, 0, none⟩) 1 1] 37)).alloc (.cells #[.int .i64 1, .int .i64 n, .string ⟨#[]⟩] 84)
    rw [World.size_alloc] at hR
    obtain ⟨z0, z1, z2⟩ := hR.three
    have hO : Own (((((w.alloc (.cells #[.int .u8 k, .int .u8 n, .int .u8 t, .bool ma, .int .i64 tm, .slice sA sn sc] 39))).alloc (.cells #[.bool false, .int .i64 (edge + t % 5 - 1 + t / 16), .slice (some ⟨w.heap.size + 1 + 1 + 1, 0, none⟩) 1 1] 37)).alloc (.cells #[.bool false, .int .i64 (edge + t % 5 - 1 + t / 16), .slice (some ⟨w.heap.size + 1 + 1 + 1, 0, none⟩) 1 1] 37)).alloc (.cells #[.int .i64 1, .int .i64 n, .string ⟨#[]⟩] 84)) w.heap.size 84 3 row3 (.slice (some ⟨w.heap.size + 1 + 1 + 1, 0, none⟩) 1 1) (oneV n) := own_lit (g := w.heap.size + 1 + 1 + 1) (n := 1) (oneV n) (by simp) (by omega) rfl (by decide) rfl rfl
    refine bodyPost_ret (v := item false (edge + t % 5 - 1 + t / 16) (.slice (some ⟨w.heap.size + 1 + 1 + 1, 0, none⟩) 1 1)) (by simp only [results, Try.results24]; simp [go_sem, z0, z1, z2]) rfl ?_
    refine ⟨_, ⟨by unfold itA; simp [hq]; rfl, ?_⟩, bt (bt (bt (ba w _) (ba _ _)) (ba _ _)) (ba _ _)⟩
    have e : (itA ⟨k, n, t, ma, tm, (sA, sn, sc), vs⟩ edge).2.2 = oneV n := by unfold itA; simp [hq]
    rw [e]; exact Or.inr (show NewAt w.heap.size _ _ (oneV n) from hO)
  · skip
    have hR := ((Blk.new (w.alloc (.cells #[.int .u8 k, .int .u8 n, .int .u8 t, .bool ma, .int .i64 tm, .slice sA sn sc] 39)) 37 #[.bool ma, .int .i64 tm, .slice sA sn sc]).alloc (.cells #[.bool false, .int .i64 (edge + t % 5 - 1), .slice (some ⟨w.heap.size + 1 + 1 + 1, 0, none⟩) 1 1] 37)).alloc (.cells #[.int .i64 1, .int .i64 n, .string ⟨#[]⟩] 84)
    rw [World.size_alloc] at hR
    obtain ⟨z0, z1, z2⟩ := hR.three
    have hO : Own (((((w.alloc (.cells #[.int .u8 k, .int .u8 n, .int .u8 t, .bool ma, .int .i64 tm, .slice sA sn sc] 39))).alloc (.cells #[.bool ma, .int .i64 tm, .slice sA sn sc] 37)).alloc (.cells #[.bool false, .int .i64 (edge + t % 5 - 1), .slice (some ⟨w.heap.size + 1 + 1 + 1, 0, none⟩) 1 1] 37)).alloc (.cells #[.int .i64 1, .int .i64 n, .string ⟨#[]⟩] 84)) w.heap.size 84 3 row3 (.slice (some ⟨w.heap.size + 1 + 1 + 1, 0, none⟩) 1 1) (oneV n) := own_lit (g := w.heap.size + 1 + 1 + 1) (n := 1) (oneV n) (by simp) (by omega) rfl (by decide) rfl rfl
    refine bodyPost_ret (v := item ma tm (.slice sA sn sc)) (by simp only [results, Try.results24]; simp [go_sem, z0, z1, z2]) rfl ?_
    refine ⟨_, ⟨by unfold itA; simp [hq]; rfl, ?_⟩, bt (bt (bt (ba w _) (ba _ _)) (ba _ _)) (ba _ _)⟩
    have e : (itA ⟨k, n, t, ma, tm, (sA, sn, sc), vs⟩ edge).2.2 = vs := by unfold itA; simp [hq]
    exact Or.inl ⟨rfl, e⟩
  · have p4 : ¬ k % 16 = 4 := of_decide_eq_false q2
    have p3 : ¬ k % 16 = 3 := of_decide_eq_false q4
    have p5 : ¬ k % 16 = 5 := of_decide_eq_false q6
    have hR := ((Blk.new (w.alloc (.cells #[.int .u8 k, .int .u8 n, .int .u8 t, .bool ma, .int .i64 tm, .slice sA sn sc] 39)) 37 #[.bool false, .int .i64 (edge + t % 5 - 1), .slice (some ⟨w.heap.size + 1 + 1 + 1, 0, none⟩) 1 1]).alloc (.cells #[.bool false, .int .i64 (edge + t % 5 - 1), .slice (some ⟨w.heap.size + 1 + 1 + 1, 0, none⟩) 1 1] 37)).alloc (.cells #[.int .i64 1, .int .i64 n, .string ⟨#[]⟩] 84)
    rw [World.size_alloc] at hR
    obtain ⟨z0, z1, z2⟩ := hR.three
    have hO : Own (((((w.alloc (.cells #[.int .u8 k, .int .u8 n, .int .u8 t, .bool ma, .int .i64 tm, .slice sA sn sc] 39))).alloc (.cells #[.bool false, .int .i64 (edge + t % 5 - 1), .slice (some ⟨w.heap.size + 1 + 1 + 1, 0, none⟩) 1 1] 37)).alloc (.cells #[.bool false, .int .i64 (edge + t % 5 - 1), .slice (some ⟨w.heap.size + 1 + 1 + 1, 0, none⟩) 1 1] 37)).alloc (.cells #[.int .i64 1, .int .i64 n, .string ⟨#[]⟩] 84)) w.heap.size 84 3 row3 (.slice (some ⟨w.heap.size + 1 + 1 + 1, 0, none⟩) 1 1) (oneV n) := own_lit (g := w.heap.size + 1 + 1 + 1) (n := 1) (oneV n) (by simp) (by omega) rfl (by decide) rfl rfl
    refine bodyPost_ret (v := item false (edge + t % 5 - 1) (.slice (some ⟨w.heap.size + 1 + 1 + 1, 0, none⟩) 1 1)) (by simp only [results, Try.results24]; simp [go_sem, z0, z1, z2]) rfl ?_
    refine ⟨_, ⟨by unfold itA; simp [p4, p3, p5]; rfl, ?_⟩, bt (bt (bt (ba w _) (ba _ _)) (ba _ _)) (ba _ _)⟩
    have e : (itA ⟨k, n, t, ma, tm, (sA, sn, sc), vs⟩ edge).2.2 = oneV n := by unfold itA; simp [p4, p5]
    rw [e]; exact Or.inr (show NewAt w.heap.size _ _ (oneV n) from hO)
end Go.Proofs.Ytbbjlefldpgckaa
namespace Go.Proofs.Ytbbjlefldpgckaa
open Go.ChangeShapes Go.WideShapes Go.ChangeAt Go.RowKit
set_option linter.unusedVariables false

abbrev RowB := Nat × TypeId × Array Value
/-- The world W stands above w; the rows bs (the youngest first) are as they are, and may be written; P held of a world of N blocks below W, and goes on holding. -/
structure Keep (w W : World) (N : Nat) (bs : List RowB) (P : World → Prop) : Prop where
  bel : Below w.heap.size w W
  low : w.heap.size ≤ N
  rows : ∀ b ∈ bs, Blk W b.1 b.2.1 b.2.2 ∧ N ≤ b.1
  apart : bs.Pairwise (fun a b => b.1 < a.1)
  was : ∃ W0 : World, W0.heap.size = N ∧ P W0 ∧ Below N W0 W
  stays : ∀ A B : World, Below A.heap.size A B → P A → P B
theorem Keep.start (w : World) (P : World → Prop) (hp : P w) (hs : ∀ A B : World, Below A.heap.size A B → P A → P B) : Keep w w w.heap.size [] P :=
  ⟨Below.refl _ _, Nat.le_refl _, fun b hb => by simp at hb, List.Pairwise.nil, ⟨w, rfl, hp, Below.refl _ _⟩, hs⟩
theorem Keep.p {w W : World} {N : Nat} {bs : List RowB} {P : World → Prop} (h : Keep w W N bs P) : P W := by
  obtain ⟨W0, rfl, hp, hb⟩ := h.was
  exact h.stays _ _ hb hp
theorem Keep.size {w W : World} {N : Nat} {bs : List RowB} {P : World → Prop} (h : Keep w W N bs P) : N ≤ W.heap.size := by
  obtain ⟨W0, rfl, hp, hb⟩ := h.was
  exact hb.size
theorem Keep.go {w W W1 : World} {N : Nat} {bs : List RowB} {P : World → Prop} (h : Keep w W N bs P) (hb : Below W.heap.size W W1) : Keep w W1 N bs P := by
  refine ⟨bt h.bel hb, h.low, fun b hm => ⟨(h.rows b hm).1.later hb, (h.rows b hm).2⟩, h.apart, ?_, h.stays⟩
  obtain ⟨W0, e, hp, hw⟩ := h.was
  exact ⟨W0, e, hp, hw.trans (hb.mono h.size)⟩
theorem Keep.drw {w W : World} {N : Nat} {bs : List RowB} {P : World → Prop} (h : Keep w W N bs P) : Keep w W.drew N bs P := h.go (below_drew (Below.refl _ _))
theorem Keep.more {w W : World} {N : Nat} {bs : List RowB} {P : World → Prop} (h : Keep w W N bs P) (t : TypeId) (c : Array Value) : Keep w (W.alloc (.cells c t)) N ((W.heap.size, t, c) :: bs) P := by
  have h1 := h.go (ba W (.cells c t))
  refine ⟨h1.bel, h1.low, fun b hm => ?_, List.Pairwise.cons (fun b hb => (h.rows b hb).1.lt) h.apart, h1.was, h1.stays⟩
  rcases List.mem_cons.1 hm with rfl | hm
  · exact ⟨Blk.new W t c, h.size⟩
  · exact h1.rows b hm
/-- What holds by now holds on: the rows are given up, or go into what holds. -/
theorem Keep.and {w W : World} {N : Nat} {bs : List RowB} {P Q : World → Prop} (h : Keep w W N bs P) (hq : Q W) (hQ : ∀ A B : World, Below A.heap.size A B → Q A → Q B) : Keep w W W.heap.size [] (fun X => P X ∧ Q X) :=
  ⟨h.bel, Nat.le_trans h.low h.size, fun b hb => by simp at hb, List.Pairwise.nil, ⟨W, rfl, ⟨h.p, hq⟩, Below.refl _ _⟩, fun A B hb hp => ⟨h.stays A B hb hp.1, hQ A B hb hp.2⟩⟩
theorem Keep.blk {w W : World} {N : Nat} {bs : List RowB} {P : World → Prop} (h : Keep w W N bs P) {g : Nat} {t : TypeId} {c : Array Value} (hm : (g, t, c) ∈ bs) : Blk W g t c := (h.rows _ hm).1
theorem Keep.keepRow {w W : World} {N : Nat} {bs : List RowB} {P : World → Prop} (h : Keep w W N bs P) {g : Nat} {t : TypeId} {c : Array Value} (hm : (g, t, c) ∈ bs) : Keep w W W.heap.size [] (fun X => P X ∧ Blk X g t c) :=
  h.and (h.blk hm) (fun _ _ hb hB => hB.later hb)
theorem Keep.weak {w W : World} {N : Nat} {bs : List RowB} {P Q : World → Prop} (h : Keep w W N bs P) (hq : ∀ X, P X → Q X) (hQ : ∀ A B : World, Below A.heap.size A B → Q A → Q B) : Keep w W N bs Q := by
  obtain ⟨W0, e, hp, hw⟩ := h.was
  exact ⟨h.bel, h.low, h.rows, h.apart, ⟨W0, e, hq _ hp, hw⟩, hQ⟩
theorem Keep.put {w W : World} {N : Nat} {l1 l2 : List RowB} {P : World → Prop} {g : Nat} {t : TypeId} {c : Array Value} (h : Keep w W N (l1 ++ (g, t, c) :: l2) P) (j : Nat) (v : Value) : Keep w (W.setCell ⟨g, j, none⟩ v) N (l1 ++ (g, t, c.setIfInBounds j v) :: l2) P := by
  have hg := h.rows (g, t, c) (by simp)
  have ha := h.apart
  rw [List.pairwise_append, List.pairwise_cons] at ha
  obtain ⟨a1, ⟨a2, a3⟩, a4⟩ := ha
  refine ⟨h.bel.setCell (p := ⟨g, j, none⟩) (Nat.le_trans h.low hg.2) v, h.low, fun b hm => ?_, ?_, ?_, h.stays⟩
  · rcases List.mem_append.1 hm with hm | hm
    · exact ⟨(h.rows b (List.mem_append_left _ hm)).1.far (p := ⟨g, j, none⟩) (by have := a4 b hm (g, t, c) (List.mem_cons_self ..); simp at this; show b.1 ≠ g; omega) v, (h.rows b (List.mem_append_left _ hm)).2⟩
    · rcases List.mem_cons.1 hm with rfl | hm
      · exact ⟨hg.1.set_ j v, hg.2⟩
      · exact ⟨(h.rows b (List.mem_append_right _ (List.mem_cons_of_mem _ hm))).1.far (p := ⟨g, j, none⟩) (by have := a2 b hm; simp at this; show b.1 ≠ g; omega) v, (h.rows b (List.mem_append_right _ (List.mem_cons_of_mem _ hm))).2⟩
  · rw [List.pairwise_append, List.pairwise_cons]
    refine ⟨a1, ⟨a2, a3⟩, fun x hx y hy => ?_⟩
    rcases List.mem_cons.1 hy with rfl | hy
    · exact a4 x hx (g, t, c) (List.mem_cons_self ..)
    · exact a4 x hx y (List.mem_cons_of_mem _ hy)
  · obtain ⟨W0, e, hp, hw⟩ := h.was
    exact ⟨W0, e, hp, hw.setCell (p := ⟨g, j, none⟩) hg.2 v⟩
theorem Keep.put3 {w W : World} {N : Nat} {l2 : List RowB} {P : World → Prop} {g : Nat} {t : TypeId} {a b c : Value} (h : Keep w W N ((g, t, #[a, b, c]) :: l2) P) (x y z : Value) : Keep w (((W.setCell ⟨g, 0, none⟩ x).setCell ⟨g, 1, none⟩ y).setCell ⟨g, 2, none⟩ z) N ((g, t, #[x, y, z]) :: l2) P :=
  (((h.put (l1 := []) 0 x).put (l1 := []) 1 y).put (l1 := []) 2 z)
theorem Keep.cells {w W : World} {N : Nat} {bs : List RowB} {P : World → Prop} (h : Keep w W N bs P) {g : Nat} {t : TypeId} {c : Array Value} (hm : (g, t, c) ∈ bs) : (∀ j, W.cell? ⟨g, j, none⟩ = c[j]?) ∧ (∀ j, W.frozen? ⟨g, j, none⟩ = false) ∧ g < W.heap.size :=
  ⟨fun j => (h.blk hm).cell j, fun j => (h.blk hm).frozen j, (h.blk hm).lt⟩
theorem Keep.head {w W : World} {N : Nat} {l : List RowB} {P : World → Prop} {g : Nat} {t : TypeId} {c : Array Value} (h : Keep w W N ((g, t, c) :: l) P) : (∀ j, W.cell? ⟨g, j, none⟩ = c[j]?) ∧ (∀ j, W.frozen? ⟨g, j, none⟩ = false) ∧ g < W.heap.size :=
  h.cells (List.mem_cons_self ..)
theorem Keep.dmore {w W : World} {N : Nat} {bs : List RowB} {P : World → Prop} (h : Keep w W N bs P) (t : TypeId) (c : Array Value) : Keep w (W.drew.alloc (.cells c t)) N ((W.heap.size, t, c) :: bs) P := h.drw.more t c
end Go.Proofs.Ytbbjlefldpgckaa
