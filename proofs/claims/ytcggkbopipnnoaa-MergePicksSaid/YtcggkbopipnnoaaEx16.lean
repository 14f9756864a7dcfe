/- The chapter's examples (16). -/
import Derived.Test.YtcggkbopipnnoaaAll
import Derived.Test.YtcggkbopipnnoaaHead3
import Derived.Test.YtcggkbopipnnoaaMrg2
namespace Go.Proofs.Ytcggkbopipnnoaa
open Go.ChangeShapes Go.WideShapes Go.ChangeAt Go.RowKit
open Mrg (Hd hlt ilt Least PickIs LowIs liveB keyI holdsB IsBest NoneHas)
set_option linter.unusedVariables false
set_option linter.unusedSimpArgs false

/-- A slice that is written out. -/
theorem own_lit {α : Type} {W : World} {e : TypeId} {k : Nat} {f : α → List Value} (l : List α) {cs : Array Value} {g n : Nat} (hg : g = W.heap.size) (hn : n = l.length) (hm : n ≤ maxLen) (hs : cs.size = n * k) (hcs : l.flatMap f = cs.toList) : Own (W.alloc (.cells cs e)) 0 e k f (.slice (some ⟨g, 0, none⟩) n n) l := by
  subst hg; subst hn
  unfold Own
  rw [hcs]
  exact World.ownsRow_lit W cs l.length (Nat.zero_le _) hm hs

abbrev rowH (h : Hd) : List Value := [.bool h.1, .int .i64 h.2.1, .int .i64 h.2.2.1, .bool h.2.2.2]
theorem At.heads {w : World} {v : Value} {l : List Hd} (h : At w 4 rowH v l) : HeadsAt w v l := by
  obtain ⟨A, c, rfl, h1, h2, h3⟩ := h.shape
  refine ⟨A, c, rfl, h1, h2, fun h0 => ?_⟩
  obtain ⟨a, rfl, hc⟩ := h.cells rfl h0
  exact ⟨a, rfl, fun j hj => hc.row4 j hj rfl⟩
theorem heads_at {w : World} {b : Nat} {e : TypeId} {v : Value} {l : List Hd} (h : Own w b e 4 rowH v l) : HeadsAt w v l := (Own.at_ (f := rowH) (k := 4) (fun _ => rfl) h).heads
def insX : List (List Ev2) := [[(2, none, 0, 0), (5, none, 0, 0)], [(1, none, 0, 0), (2, none, 0, 0)]]
theorem all_X : Mrg.all tmE insX = [(1, 1, none, 0, 0), (0, 2, none, 0, 0), (1, 2, none, 0, 0), (0, 5, none, 0, 0)] := by
  simp [Mrg.all, insX, Mrg.whole, Mrg.halved, Mrg.tags, Mrg.tag, Mrg.both, tmE]
abbrev oH : Obj := .cells #[.bool true, .int .i64 3, .int .i64 0, .bool false] 28
abbrev oE1 : Obj := .cells #[.int .i64 2, .slice none 0 0, .int .i64 5, .slice none 0 0] 46
abbrev oE2 : Obj := .cells #[.int .i64 1, .slice none 0 0, .int .i64 2, .slice none 0 0] 46
abbrev oS (n : Nat) : Obj := .cells #[.slice (some ⟨n, 0, none⟩) 2 2, .slice (some ⟨n + 1, 0, none⟩) 2 2] 25
theorem ins_at (W : World) (n : Nat) (hn : n = W.heap.size) :
    At (((W.alloc oE1).alloc oE2).alloc (oS n)) 1 slc (.slice (some ⟨n + 1 + 1, 0, none⟩) 2 2) [(some ⟨n, 0, none⟩, 2, 2), (some ⟨n + 1, 0, none⟩, 2, 2)] ∧
    Ats (((W.alloc oE1).alloc oE2).alloc (oS n)) 2 rowE [(some ⟨n, 0, none⟩, 2, 2), (some ⟨n + 1, 0, none⟩, 2, 2)] insX := by
  have e1 := own_lit (W := W) (e := 46) (k := 2) (f := rowE) (g := n) (n := 2) (cs := #[.int .i64 2, .slice none 0 0, .int .i64 5, .slice none 0 0]) [(2, none, 0, 0), (5, none, 0, 0)] hn rfl (by decide) rfl rfl
  have e2 := own_lit (W := W.alloc oE1) (e := 46) (k := 2) (f := rowE) (g := n + 1) (n := 2) (cs := #[.int .i64 1, .slice none 0 0, .int .i64 2, .slice none 0 0]) [(1, none, 0, 0), (2, none, 0, 0)] (by simp [hn]) rfl (by decide) rfl rfl
  have e3 := own_lit (W := (W.alloc oE1).alloc oE2) (e := 25) (k := 1) (f := slc) (g := n + 1 + 1) (n := 2) (cs := #[.slice (some ⟨n, 0, none⟩) 2 2, .slice (some ⟨n + 1, 0, none⟩) 2 2]) [(some ⟨n, 0, none⟩, 2, 2), (some ⟨n + 1, 0, none⟩, 2, 2)] (by simp [hn]) rfl (by decide) rfl rfl
  refine ⟨Own.at_ (f := slc) (k := 1) (fun _ => rfl) e3, rfl, fun j hj hj' => ?_⟩
  rcases j with _ | _ | j
  · exact (Own.at_ (f := rowE) (k := 2) (fun _ => rfl) e1).later (bt (ba _ oE2) (ba _ (oS n)))
  · exact (Own.at_ (f := rowE) (k := 2) (fun _ => rfl) e2).later (ba _ (oS n))
  · exact absurd hj (by simp)
abbrev oL1 : Obj := .cells #[.bool true, .int .i64 3, .int .i64 0, .bool false, .bool false, .int .i64 0, .int .i64 2, .bool false] 28
abbrev oL2 : Obj := .cells #[.bool false, .int .i64 0, .int .i64 0, .bool true] 28
abbrev oP1 : Obj := .cells #[.bool true, .int .i64 3, .int .i64 0, .bool false, .bool false, .int .i64 0, .int .i64 3, .bool false] 28
abbrev oP2 : Obj := .cells #[.bool false, .int .i64 0, .int .i64 3, .bool false, .bool true, .int .i64 3, .int .i64 0, .bool false] 28
abbrev oP3 : Obj := .cells #[.bool false, .int .i64 0, .int .i64 0, .bool true, .bool true, .int .i64 3, .int .i64 0, .bool false] 28
theorem lo1 (W : World) : Calls Try.prog 10 #[.slice (some ⟨W.heap.size, 0, none⟩) 2 2] (W.alloc oL1) fun e w' => e = .returned (.tuple #[.int .i64 2, .bool true]) ∧ Below (W.alloc oL1).heap.size (W.alloc oL1) w' := by
  have e1 := own_lit (W := W) (e := 28) (k := 4) (f := rowH) (g := W.heap.size) (n := 2) (cs := #[.bool true, .int .i64 3, .int .i64 0, .bool false, .bool false, .int .i64 0, .int .i64 2, .bool false]) [(true, 3, 0, false), (false, 0, 2, false)] rfl rfl (by decide) rfl rfl
  exact (Low_any [(true, 3, 0, false), (false, 0, 2, false)] _ _ (heads_at e1) (by decide)).mono fun _ _ ⟨t, ok, ⟨he, hl⟩, hb⟩ => by obtain ⟨rfl, rfl⟩ := hl.one Mrg.ex_low1; exact ⟨he, hb⟩
theorem lo2 (W : World) : Calls Try.prog 10 #[.slice (some ⟨W.heap.size, 0, none⟩) 1 1] (W.alloc oL2) fun e w' => e = .returned (.tuple #[.int .i64 0, .bool false]) ∧ Below (W.alloc oL2).heap.size (W.alloc oL2) w' := by
  have e1 := own_lit (W := W) (e := 28) (k := 4) (f := rowH) (g := W.heap.size) (n := 1) (cs := #[.bool false, .int .i64 0, .int .i64 0, .bool true]) [(false, 0, 0, true)] rfl rfl (by decide) rfl rfl
  exact (Low_any [(false, 0, 0, true)] _ _ (heads_at e1) (by decide)).mono fun _ _ ⟨t, ok, ⟨he, hl⟩, hb⟩ => by obtain ⟨rfl, rfl⟩ := hl.one Mrg.ex_low2; exact ⟨he, hb⟩
theorem pk1 (W : World) : Calls Try.prog 12 #[.slice (some ⟨W.heap.size, 0, none⟩) 2 2] (W.alloc oP1) fun e w' => e = .returned (.int .i64 0) ∧ Below (W.alloc oP1).heap.size (W.alloc oP1) w' := by
  have e1 := own_lit (W := W) (e := 28) (k := 4) (f := rowH) (g := W.heap.size) (n := 2) (cs := #[.bool true, .int .i64 3, .int .i64 0, .bool false, .bool false, .int .i64 0, .int .i64 3, .bool false]) [(true, 3, 0, false), (false, 0, 3, false)] rfl rfl (by decide) rfl rfl
  exact (Pick_any [(true, 3, 0, false), (false, 0, 3, false)] _ _ (heads_at e1)).mono fun _ _ ⟨r, ⟨he, hl⟩, hb⟩ => by obtain rfl := Mrg.ex_pick1 hl; exact ⟨he, hb⟩
theorem pk2 (W : World) : Calls Try.prog 12 #[.slice (some ⟨W.heap.size, 0, none⟩) 2 2] (W.alloc oP2) fun e w' => e = .returned (.int .i64 (-1)) ∧ Below (W.alloc oP2).heap.size (W.alloc oP2) w' := by
  have e1 := own_lit (W := W) (e := 28) (k := 4) (f := rowH) (g := W.heap.size) (n := 2) (cs := #[.bool false, .int .i64 0, .int .i64 3, .bool false, .bool true, .int .i64 3, .int .i64 0, .bool false]) [(false, 0, 3, false), (true, 3, 0, false)] rfl rfl (by decide) rfl rfl
  exact (Pick_any [(false, 0, 3, false), (true, 3, 0, false)] _ _ (heads_at e1)).mono fun _ _ ⟨r, ⟨he, hl⟩, hb⟩ => by obtain rfl := Mrg.ex_pick2 hl; exact ⟨he, hb⟩
theorem pk3 (W : World) : Calls Try.prog 12 #[.slice (some ⟨W.heap.size, 0, none⟩) 2 2] (W.alloc oP3) fun e w' => e = .returned (.int .i64 1) ∧ Below (W.alloc oP3).heap.size (W.alloc oP3) w' := by
  have e1 := own_lit (W := W) (e := 28) (k := 4) (f := rowH) (g := W.heap.size) (n := 2) (cs := #[.bool false, .int .i64 0, .int .i64 0, .bool true, .bool true, .int .i64 3, .int .i64 0, .bool false]) [(false, 0, 0, true), (true, 3, 0, false)] rfl rfl (by decide) rfl rfl
  exact (Pick_any [(false, 0, 0, true), (true, 3, 0, false)] _ _ (heads_at e1)).mono fun _ _ ⟨r, ⟨he, hl⟩, hb⟩ => by obtain rfl := Mrg.ex_pick3 hl; exact ⟨he, hb⟩
theorem pk4 (W : World) : Calls Try.prog 12 #[.slice none 0 0] W fun e w' => e = .returned (.int .i64 (-1)) ∧ Below W.heap.size W w' :=
  (Pick_any [] _ _ (HeadsAt.nil W)).mono fun _ _ ⟨r, ⟨he, hl⟩, hb⟩ => by obtain rfl := Mrg.ex_pick4 hl; exact ⟨he, hb⟩
set_option maxRecDepth 20000 in
set_option maxHeartbeats 2000000 in
theorem examples_any (w : World) :
    Calls Try.prog 8 #[] w fun e w' => e = .returned (.bool true) ∧ Below w.heap.size w w' := by
  go_enter Try.func8, Try.ntmps8
  go_wp2_with fail
  obtain ⟨p1, p2⟩ := ins_at (w.alloc oH) (w.heap.size + 1) (by simp)
  have cA := All_any _ _ insX _ p1 p2 (by decide) (by decide)
  have bW : Below w.heap.size w ((((w.alloc oH).alloc oE1).alloc oE2).alloc (oS (w.heap.size + 1))) := bt (ba w oH) (bt (ba _ oE1) (bt (ba _ oE2) (ba _ (oS _))))
  have hBx := (Blk.new w 28 #[.bool true, .int .i64 3, .int .i64 0, .bool false]).later (bt (ba _ oE1) (bt (ba _ oE2) (ba _ (oS (w.heap.size + 1)))))
  have K := Lib.hid (And.intro cA (And.intro hBx bW)); clear cA hBx bW p1 p2
  go_at_call 16
  ((with_reducible refine (K.out.1).mono ?_); rintro e w1 ⟨v1, ⟨rfl, hO1⟩, b1⟩)
  rw [all_X] at hO1
  obtain ⟨A1, c1, rfl, _, _, _⟩ := hO1.shape
  have hl4 : ([(1, 1, none, 0, 0), (0, 2, none, 0, 0), (1, 2, none, 0, 0), (0, 5, none, 0, 0)] : List Pr).length = 4 := rfl
  rw [hl4] at hO1 ⊢
  have k0 := K.out
  replace K := Lib.hid (And.intro hO1 (And.intro (k0.2.1.later b1) (bt k0.2.2 b1)))
  obtain ⟨g, rfl, _, _, _, _⟩ := hO1.cells (f := rowP) (k := 3) (fun _ => rfl) rfl (by decide)
  clear k0 b1 hO1 hl4
  have x0 := K.out.2.1.cell 0
  have x1 := K.out.2.1.cell 1
  have x2 := K.out.2.1.cell 2
  have x3 := K.out.2.1.cell 3
  go_wp2_with fail
  clear x0 x1 x2 x3
  go_at_call 10
  ((with_reducible refine (lo1 _).mono ?_); rintro e w2 ⟨rfl, b2⟩)
  have k0 := K.out
  replace K := Lib.hid (And.intro (k0.1.later (bt (ba w1 oL1) b2)) (And.intro (k0.2.1.later (bt (ba w1 oL1) b2)) (bt k0.2.2 (bt (ba w1 oL1) b2))))
  clear k0 b2
  go_wp2_with fail
  go_at_call 10
  ((with_reducible refine (lo2 _).mono ?_); rintro e w3 ⟨rfl, b3⟩)
  have k0 := K.out
  replace K := Lib.hid (And.intro (k0.1.later (bt (ba w2 oL2) b3)) (And.intro (k0.2.1.later (bt (ba w2 oL2) b3)) (bt k0.2.2 (bt (ba w2 oL2) b3))))
  clear k0 b3
  have x0 := K.out.2.1.cell 0
  have x1 := K.out.2.1.cell 1
  have x2 := K.out.2.1.cell 2
  have x3 := K.out.2.1.cell 3
  go_wp2_with fail
  clear x0 x1 x2 x3
  go_at_call 12
  ((with_reducible refine (pk1 _).mono ?_); rintro e w4 ⟨rfl, b4⟩)
  have k0 := K.out
  replace K := Lib.hid (And.intro (k0.1.later (bt (ba w3 oP1) b4)) (And.intro (k0.2.1.later (bt (ba w3 oP1) b4)) (bt k0.2.2 (bt (ba w3 oP1) b4))))
  clear k0 b4
  have x0 := K.out.2.1.cell 0
  have x1 := K.out.2.1.cell 1
  have x2 := K.out.2.1.cell 2
  have x3 := K.out.2.1.cell 3
  go_wp2_with fail
  clear x0 x1 x2 x3
  go_at_call 12
  ((with_reducible refine (pk2 _).mono ?_); rintro e w5 ⟨rfl, b5⟩)
  have k0 := K.out
  replace K := Lib.hid (And.intro (k0.1.later (bt (ba w4 oP2) b5)) (And.intro (k0.2.1.later (bt (ba w4 oP2) b5)) (bt k0.2.2 (bt (ba w4 oP2) b5))))
  clear k0 b5
  have x0 := K.out.2.1.cell 0
  have x1 := K.out.2.1.cell 1
  have x2 := K.out.2.1.cell 2
  have x3 := K.out.2.1.cell 3
  go_wp2_with fail
  clear x0 x1 x2 x3
  go_at_call 12
  ((with_reducible refine (pk3 _).mono ?_); rintro e w6 ⟨rfl, b6⟩)
  have k0 := K.out
  replace K := Lib.hid (And.intro (k0.1.later (bt (ba w5 oP3) b6)) (And.intro (k0.2.1.later (bt (ba w5 oP3) b6)) (bt k0.2.2 (bt (ba w5 oP3) b6))))
  clear k0 b6
  have x0 := K.out.2.1.cell 0
  have x1 := K.out.2.1.cell 1
  have x2 := K.out.2.1.cell 2
  have x3 := K.out.2.1.cell 3
  go_wp2_with fail
  clear x0 x1 x2 x3
  go_at_call 12
  ((with_reducible refine (pk4 _).mono ?_); rintro e w7 ⟨rfl, b7⟩)
  have k0 := K.out
  replace K := Lib.hid (And.intro (k0.1.later (b7)) (And.intro (k0.2.1.later (b7)) (bt k0.2.2 (b7))))
  clear k0 b7
  have x0 := K.out.2.1.cell 0
  have x1 := K.out.2.1.cell 1
  have x2 := K.out.2.1.cell 2
  have x3 := K.out.2.1.cell 3
  obtain ⟨g', hg', _, _, _, hc⟩ := K.out.1.cells (f := rowP) (k := 3) (fun _ => rfl) rfl (by decide)
  obtain rfl : g = g' := by simpa using hg'
  have y0 := hc 0 (by decide) 0 _ rfl
  have y3 := hc 1 (by decide) 0 _ rfl
  have y4 := hc 1 (by decide) 1 _ rfl
  have y6 := hc 2 (by decide) 0 _ rfl
  have y10 := hc 3 (by decide) 1 _ rfl
  simp only [Nat.reduceMul, Nat.reduceAdd] at y0 y3 y4 y6 y10
  clear hc hg'
  go_wp2
  go_ret
  exact ⟨rfl, K.out.2.2⟩
end Go.Proofs.Ytcggkbopipnnoaa
