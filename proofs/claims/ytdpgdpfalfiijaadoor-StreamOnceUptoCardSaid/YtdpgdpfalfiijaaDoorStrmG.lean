/- Contracts of package stream: Get. -/
import Derived.Test.YtdpgdpfalfiijaaDoorStrmP
import Derived.LoopN
namespace Go.Proofs.YtdpgdpfalfiijaaDoor
open Go.ChangeShapes Go.WideShapes Go.ChangeAt Go.RowKit
set_option linter.unusedVariables false
set_option linter.unusedSimpArgs false

def kindOfN (s : ByteArray) : Int := if (kindL 1).toList = s.toList then 1 else if (kindL 2).toList = s.toList then 2 else if (kindL 3).toList = s.toList then 3 else 0
theorem eq_or (a b : List UInt8) : (a = b ∧ (a == b) = true) ∨ (¬ a = b ∧ (a == b) = false) := by
  by_cases h : a = b
  · exact Or.inl ⟨h, by simpa using h⟩
  · exact Or.inr ⟨h, by simpa using h⟩
theorem kindOf_any (s : ByteArray) (w : World) : Calls Tryd.prog 33 #[.string s] w fun e w' => e = .returned (.int .i64 (kindOfN s)) ∧ Below w.heap.size w w' := by
  have k1 := fun W => kindName_any 1 W
  have k2 := fun W => kindName_any 2 W
  have k3 := fun W => kindName_any 3 W
  unfold kindOfN
  generalize kindL 1 = K1 at *
  generalize kindL 2 = K2 at *
  generalize kindL 3 = K3 at *
  have H := Lib.hid (And.intro k1 (And.intro k2 k3)); clear k1 k2 k3
  have hb : Below w.heap.size w (w.alloc (.cells #[.int .i64 1, .int .i64 2, .int .i64 3] 3)) := ba _ _
  have c0 : (w.alloc (.cells #[.int .i64 1, .int .i64 2, .int .i64 3] 3)).cell? ⟨w.heap.size, 0, none⟩ = some (.int .i64 1) := by rw [World.cell?_alloc_new]; rfl
  have c1 : (w.alloc (.cells #[.int .i64 1, .int .i64 2, .int .i64 3] 3)).cell? ⟨w.heap.size, 1, none⟩ = some (.int .i64 2) := by rw [World.cell?_alloc_new]; rfl
  have c2 : (w.alloc (.cells #[.int .i64 1, .int .i64 2, .int .i64 3] 3)).cell? ⟨w.heap.size, 2, none⟩ = some (.int .i64 3) := by rw [World.cell?_alloc_new]; rfl
  have HB := Lib.hid hb; clear hb
  rcases eq_or K1.toList s.toList with ⟨h1, g1⟩ | ⟨h1, g1⟩
  · rw [if_pos h1]
    go_enter Tryd.func33, Tryd.ntmps33
    go_wp2
    refine wp_loop_rounds 1 ?_
    rw [rounds_succ]
    go_wp2_with (go_at_call 28; ((with_reducible refine (H.out.1 _).mono ?_); rintro e w1 ⟨rfl, rfl⟩))
    go_ret
    exact ⟨rfl, HB.out⟩
  rw [if_neg h1]
  rcases eq_or K2.toList s.toList with ⟨h2, g2⟩ | ⟨h2, g2⟩
  · rw [if_pos h2]
    go_enter Tryd.func33, Tryd.ntmps33
    go_wp2
    refine wp_loop_rounds 2 ?_
    rw [rounds_succ]
    go_wp2_with (go_at_call 28; ((with_reducible first | refine (H.out.1 _).mono ?_ | refine (H.out.2.1 _).mono ?_); rintro e w1 ⟨rfl, rfl⟩))
    rw [rounds_succ]
    go_wp2_with (go_at_call 28; ((with_reducible first | refine (H.out.1 _).mono ?_ | refine (H.out.2.1 _).mono ?_); rintro e w1 ⟨rfl, rfl⟩))
    go_ret
    exact ⟨rfl, HB.out⟩
  rw [if_neg h2]
  rcases eq_or K3.toList s.toList with ⟨h3, g3⟩ | ⟨h3, g3⟩
  · rw [if_pos h3]
    go_enter Tryd.func33, Tryd.ntmps33
    go_wp2
    refine wp_loop_rounds 3 ?_
    rw [rounds_succ]
    go_wp2_with (go_at_call 28; ((with_reducible first | refine (H.out.1 _).mono ?_ | refine (H.out.2.1 _).mono ?_ | refine (H.out.2.2 _).mono ?_); rintro e w1 ⟨rfl, rfl⟩))
    rw [rounds_succ]
    go_wp2_with (go_at_call 28; ((with_reducible first | refine (H.out.1 _).mono ?_ | refine (H.out.2.1 _).mono ?_ | refine (H.out.2.2 _).mono ?_); rintro e w1 ⟨rfl, rfl⟩))
    rw [rounds_succ]
    go_wp2_with (go_at_call 28; ((with_reducible first | refine (H.out.1 _).mono ?_ | refine (H.out.2.1 _).mono ?_ | refine (H.out.2.2 _).mono ?_); rintro e w1 ⟨rfl, rfl⟩))
    go_ret
    exact ⟨rfl, HB.out⟩
  · rw [if_neg h3]
    go_enter Tryd.func33, Tryd.ntmps33
    go_wp2
    refine wp_loop_rounds 4 ?_
    rw [rounds_succ]
    go_wp2_with (go_at_call 28; ((with_reducible first | refine (H.out.1 _).mono ?_ | refine (H.out.2.1 _).mono ?_ | refine (H.out.2.2 _).mono ?_); rintro e w1 ⟨rfl, rfl⟩))
    rw [rounds_succ]
    go_wp2_with (go_at_call 28; ((with_reducible first | refine (H.out.1 _).mono ?_ | refine (H.out.2.1 _).mono ?_ | refine (H.out.2.2 _).mono ?_); rintro e w1 ⟨rfl, rfl⟩))
    rw [rounds_succ]
    go_wp2_with (go_at_call 28; ((with_reducible first | refine (H.out.1 _).mono ?_ | refine (H.out.2.1 _).mono ?_ | refine (H.out.2.2 _).mono ?_); rintro e w1 ⟨rfl, rfl⟩))
    rw [rounds_succ]
    go_wp2
    go_ret
    exact ⟨rfl, HB.out⟩
end Go.Proofs.YtdpgdpfalfiijaaDoor
