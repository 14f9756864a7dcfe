/- Contract of the law's own refItem, off one of its ref. -/
import Derived.Test.YtbmkbpehkpdcmaaRef4P
import Derived.Test.YtbmkbpehkpdcmaaCells2
import Derived.Deep.RegionHeld3
namespace Go.Proofs.Ytbmkbpehkpdcmaa
open Go.ChangeShapes Go.WideShapes Go.ChangeAt Go.RowKit
open Ev (V3 rightV OkV)
set_option linter.unusedVariables false
set_option linter.unusedSimpArgs false
set_option maxRecDepth 20000
/-- What a call of ref from a world answers. -/
abbrev RefC (t : Int) (v : Value) (l : List V3) (W : World) : Prop := Calls Try.prog 19 #[ev t v] W fun e w' => ∃ v', (e = .returned (ev t v') ∧ Own w' W.heap.size 83 3 rowV v' l) ∧ Below W.heap.size W w'
set_option maxHeartbeats 2000000 in
theorem refItem_of (m : Bool) (t : Int) (A : Option Addr) (n cap : Nat) (l : List V3) (w : World) (cR : ∀ W, Below w.heap.size w W → RefC t (.slice A n cap) l W) :
    Calls Try.prog 12 #[item m t (.slice A n cap)] w fun e w' => ∃ v', (e = .returned (item m t v') ∧ Own w' w.heap.size 83 3 rowV v' l) ∧ Below w.heap.size w w' := by
  have q1 := (Blk.new w 26 #[.bool m, .int .i64 t, .slice A n cap]).alloc (.cells #[.bool false, .int .i64 0, .slice none 0 0] 46)
  have q2 := Blk.new (w.alloc (.cells #[.bool m, .int .i64 t, .slice A n cap] 26)) 46 #[.bool false, .int .i64 0, .slice none 0 0]
  rw [World.size_alloc] at q2
  have bA : Below w.heap.size w ((w.alloc (.cells #[.bool m, .int .i64 t, .slice A n cap] 26)).alloc (.cells #[.bool false, .int .i64 0, .slice none 0 0] 46)) := bt (ba _ _) (ba _ _)
  obtain ⟨W1, hW1⟩ : ∃ W1, W1 = (w.alloc (.cells #[.bool m, .int .i64 t, .slice A n cap] 26)).alloc (.cells #[.bool false, .int .i64 0, .slice none 0 0] 46) := ⟨_, rfl⟩
  rw [← hW1] at q1 q2 bA
  have hS := fun (X : World) (hX : Below W1.heap.size W1 X) => q1.later hX
  have hT := fun (X : World) (hX : Below W1.heap.size W1 X) => q2.later hX
  have H := Lib.hid (And.intro cR (And.intro hS (And.intro hT bA))); clear cR hS hT q1 q2
  go_enter Try.func12, Try.ntmps12
  go_wp2_with fail
  rw [← hW1]
  clear hW1 bA
  obtain ⟨s0, s1, s2⟩ := (H.out.2.1 W1 (Below.refl _ _)).three
  refine wp_region_noPanic ?_
  go_region_held3 (fun X => X.cell? ⟨w.heap.size, 0, none⟩ = some (.bool m) ∧ X.cell? ⟨w.heap.size, 1, none⟩ = some (.int .i64 t) ∧ X.cell? ⟨w.heap.size, 2, none⟩ = some (.slice A n cap)) (first | exact (H.out.2.1 _ (Below.refl _ _)).three | exact (H.out.2.1 _ (below_drew (Below.refl _ _))).three | exact (H.out.2.1 _ K7.out.1).three | exact hE.out) ((go_at_call 19; refine (H.out.1 _ (by first | exact below_drew H.out.2.2.2 | exact H.out.2.2.2)).mono ?_; rintro e w7 ⟨v7, ⟨rfl, hO7⟩, b7⟩; obtain ⟨A7, n7, c7, rfl⟩ := own_shape hO7; have K7 := Lib.hid (And.intro (show Below W1.heap.size W1 w7 from (below_drew (Below.refl W1.heap.size W1)).trans b7) (show Own w7 W1.heap.size 83 3 rowV (.slice A7 n7 c7) l from hO7)); have B7 := H.out.2.2.1 w7 K7.out.1; obtain ⟨r0, r1, r2⟩ := B7.three; have rf := B7.frozen; have rl := B7.lt; have hE := Lib.hid (((((H.out.2.1 w7 K7.out.1).far (p := ⟨w.heap.size + 1, 0, none⟩) (by show w.heap.size ≠ w.heap.size + 1; omega) (.bool m)).far (p := ⟨w.heap.size + 1, 1, none⟩) (by show w.heap.size ≠ w.heap.size + 1; omega) (.int .i64 t)).far (p := ⟨w.heap.size + 1, 2, none⟩) (by show w.heap.size ≠ w.heap.size + 1; omega) (.slice A7 n7 c7)).three); have B8 := B7.put3 (.bool m) (.int .i64 t) (.slice A7 n7 c7); obtain ⟨z0, z1, z2⟩ := B8.three; clear B7 B8 b7 hO7))
  all_goals
    refine NoPanic.normal ?_
    go_wp2
    refine bodyPost_ret (v := item m t (.slice A7 n7 c7)) (by simp only [results, Try.results12]; simp [go_sem, Act.put, z0, z1, z2]) rfl ?_
    have hlt := (H.out.2.2.1 W1 (Below.refl _ _)).lt
    have hO := K7.out.2
    exact ⟨_, ⟨rfl, (((hO.far (p := ⟨w.heap.size + 1, 0, none⟩) hlt (.bool m)).far (p := ⟨w.heap.size + 1, 1, none⟩) hlt (.int .i64 t)).far (p := ⟨w.heap.size + 1, 2, none⟩) hlt (.slice A7 n7 c7)).lift (by omega)⟩, below_put3 (bt H.out.2.2.2 K7.out.1) (by omega) _ _ _⟩
end Go.Proofs.Ytbmkbpehkpdcmaa
