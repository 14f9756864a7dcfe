/- StreamBack: the walk. -/
import Derived.Test.YtdpgdpfalfiijaaDoorStrmC
import Derived.BigQuiet
import Derived.Lib.QuietBelow
namespace Go.Proofs.YtdpgdpfalfiijaaDoor
open Go.ChangeShapes Go.WideShapes Go.ChangeAt Go.RowKit
set_option linter.unusedVariables false
set_option linter.unusedSimpArgs false

set_option maxRecDepth 20000 in
set_option maxHeartbeats 2000000 in
theorem sback_B (a b : Nat) (v u : Value) (l k : List UInt8) (w : World) (ha : a ≤ 255) (hb : b ≤ 255) (hv : BytesAt w v l) (hl : l.length ≤ 140737488351232) (hu : BytesAt w u k) (hk : k.length ≤ 140737488351232) (hT : Tab w) :
    Calls Tryd.prog 5 #[.int .u8 (a : Int), v, .int .u8 (b : Int), u, .bool true] w fun e w' => e = .returned (.bool true) ∧ Below w.heap.size w w' := by
  obtain ⟨m, hm⟩ := hT
  have cEx := examples_any m w hm
  have cS := fun W (h : Below w.heap.size w W) => own_any a v l W ha (hv.later h) hl
  have cT := fun W (h : Below w.heap.size w W) => own_any b u k W hb (hu.later h) hk
  have rS := own_right a l
  have rT := own_right b k
  have hmW := fun W (h : Below w.heap.size w W) => (h.cell (World.block_lt_of_cell? w _ hm)).trans hm
  generalize ownN a = N at *
  generalize ownF 0 l = F at *
  generalize ownN b = N' at *
  generalize ownF 0 k = F' at *
  have H := Lib.hid (And.intro cEx (And.intro cS (And.intro cT (And.intro rS (And.intro rT hmW))))); clear cEx cS cT rS rT hmW hm hv hu
  go_enter Tryd.func5, Tryd.ntmps5
  go_wp2_with fail
  go_at_call 9
  ((with_reducible refine (H.out.1).mono ?_); rintro e w0 ⟨rfl, b0⟩)
  have HB := Lib.hid b0
  clear b0
  go_wp2_with fail
  go_at_call 10
  ((with_reducible refine (H.out.2.1 _ HB.out).mono ?_); rintro e w1 ⟨u1, ⟨rfl, hu1⟩, b1⟩)
  obtain ⟨A1, n1, c1, rfl⟩ := own_shape hu1
  have bA := ba w1 (.cells #[.string N, .slice A1 n1 c1] 28)
  have K := Lib.hid (And.intro (bt HB.out (bt b1 bA)) (And.intro (hu1.rows.later bA) (Blk.new w1 28 #[.string N, .slice A1 n1 c1])))
  clear hu1 b1 bA HB
  go_wp2_with fail
  go_at_call 10
  ((with_reducible refine (H.out.2.2.1 _ K.out.1).mono ?_); rintro e w2 ⟨u2, ⟨rfl, hu2⟩, b2⟩)
  obtain ⟨A2, n2, c2, rfl⟩ := own_shape hu2
  have bA := bt b2 (ba w2 (.cells #[.string N', .slice A2 n2 c2] 28))
  have k0 := K.out
  have K2 := Lib.hid (And.intro (k0.2.1.later b2) (And.intro (k0.2.2.later b2) (bt k0.1 b2)))
  replace K := Lib.hid (And.intro (bt k0.1 bA) (And.intro (k0.2.1.later bA) (And.intro (k0.2.2.later bA) (And.intro (hu2.rows.later (ba w2 (.cells #[.string N', .slice A2 n2 c2] 28))) (Blk.new w2 28 #[.string N', .slice A2 n2 c2])))))
  have hlt12 : w1.heap.size < w2.heap.size := by have := b2.size; simp only [World.size_alloc] at this; omega
  clear hu2 b2 bA k0
  go_wp2_with fail
  go_at_call 10
  ((with_reducible refine (H.out.2.1 _ K.out.1).mono ?_); rintro e w3 ⟨u3, ⟨rfl, hu3⟩, b3⟩)
  obtain ⟨A3, n3, c3, rfl⟩ := own_shape hu3
  have k0 := K.out
  have B3 := k0.2.2.2.2.later b3
  have z0 := B3.cell 0
  have z1 := B3.cell 1
  have z2 := B3.frozen
  have z3 := B3.lt
  have b6 := below_put2 (B := w2.heap.size) (bt (ba w2 (.cells #[.string N', .slice A2 n2 c2] 28)) b3) (Nat.le_refl w2.heap.size) (.string N) (.slice A3 n3 c3)
  have hz9 : w.heap.size ≤ w2.heap.size := K2.out.2.2.size
  replace K := Lib.hid (And.intro (below_put2 (bt k0.1 b3) hz9 (.string N) (.slice A3 n3 c3)) (And.intro (K2.out.1.later b6) (And.intro (K2.out.2.1.later b6) (And.intro ((NewF.put2 hu3 (g := w2.heap.size) (by simp) (.string N) (.slice A3 n3 c3)).rows) (B3.put2 (.string N) (.slice A3 n3 c3))))))
  clear k0 B3 hu3 b3 b6
  have x0 := K.out.2.2.1.cell 0
  have x1 := K.out.2.2.1.cell 1
  go_wp2_with fail
  clear x0 x1
  generalize (w3.setCell ⟨w2.heap.size, 0, none⟩ (.string N)).setCell ⟨w2.heap.size, 1, none⟩ (.slice A3 n3 c3) = w33 at *
  go_at_call 12
  ((with_reducible refine (putR H.out.2.2.2.1 _ _ K.out.2.1).mono ?_); rintro e w4 ⟨rfl, b4⟩)
  have cG := getR H.out.2.2.2.1 m w4 (H.out.2.2.2.2.2 _ (bt K.out.1 b4))
  have hXs := putN_size H.out.2.2.2.1
  have hXY := put_same H.out.2.2.2.1 H.out.2.2.2.1
  have cPX := fun v W hv => putR H.out.2.2.2.1 v W hv
  have cPY := fun v W hv => putR H.out.2.2.2.1 v W hv
  generalize putN N F = X at *
  generalize putN N F = Y at *
  have HG := Lib.hid (And.intro cG (And.intro cPX (And.intro cPY hXY)))
  clear cG cPX cPY hXY hXs
  have k0 := K.out
  replace K := Lib.hid (And.intro (bt k0.1 b4) (And.intro (k0.2.1.later b4) (And.intro (k0.2.2.1.later b4) (And.intro (k0.2.2.2.1.later b4) (k0.2.2.2.2.later b4)))))
  clear k0 b4
  go_wp2_with fail
  go_at_call 13
  ((with_reducible refine (HG.out.1).mono ?_); rintro e w5 ⟨u5, ⟨rfl, hu5⟩, b5⟩)
  obtain ⟨A5, n5, c5, rfl⟩ := own_shape hu5
  have bA := bt b5 (ba w5 (.cells #[.string N, .slice A5 n5 c5] 28))
  have k0 := K.out
  replace K := Lib.hid (And.intro (bt k0.1 bA) (And.intro (k0.2.1.later bA) (And.intro (k0.2.2.1.later bA) (And.intro (k0.2.2.2.1.later bA) (And.intro (k0.2.2.2.2.later bA) (And.intro (hu5.rows.later (ba w5 (.cells #[.string N, .slice A5 n5 c5] 28))) (Blk.new w5 28 #[.string N, .slice A5 n5 c5])))))))
  clear k0 bA b5 hu5
  go_wp2_with fail
  generalize w5.alloc (.cells #[.string N, .slice A5 n5 c5] 28) = W at *
  have hq0 := fun d os => cell_regrown (K.out.2.2.1.cell 0) d os
  have hq1 := fun d os => cell_regrown (K.out.2.2.1.cell 1) d os
  have hq2 := fun d os => cell_regrown (K.out.2.2.2.2.1.cell 0) d os
  have hq3 := fun d os => cell_regrown (K.out.2.2.2.2.1.cell 1) d os
  have hq4 := fun d os => cell_regrown (K.out.2.2.2.2.2.2.cell 0) d os
  have hq5 := fun d os => cell_regrown (K.out.2.2.2.2.2.2.cell 1) d os
  have q1 := fun d os => (SameS_any N N _ _ F F _ (K.out.2.2.2.2.2.1.later (below_regrown W d os)) (K.out.2.1.later (below_regrown W d os)))
  have q2 := fun d os => HG.out.2.1 _ _ (K.out.2.1.later (below_regrown W d os))
  have q3 := fun d os => HG.out.2.2.1 _ _ (K.out.2.2.2.1.later (below_regrown W d os))
  have q4 := fun d os => (SameS_any N N _ _ F F _ (K.out.2.1.later (below_regrown W d os)) (K.out.2.2.2.1.later (below_regrown W d os)))
  have q5 := fun d os => (SameS_any N N _ _ F F _ (K.out.2.2.2.1.later (below_regrown W d os)) (K.out.2.1.later (below_regrown W d os)))
  have hXY := HG.out.2.2.2
  rw [(sameN_iff N F N F).2 ⟨rfl, rfl⟩] at q1 q4 q5 hXY
  have HQ := Lib.hid (And.intro q1 (And.intro q2 (And.intro q3 (And.intro q4 (And.intro q5 K.out.1)))))
  clear q1 q2 q3 q4 q5 HG K
  all_goals
    have hXYp := hXY
    simp only [beq_eq_false_iff_ne, ne_eq, beq_iff_eq] at hXYp
    refine wp_region_quiet_below (by kernel_rfl) (by kernel_rfl) ?_
    repeat (go_big_quiet_step (first
      | (go_at_call 27; with_reducible exact Calls.regrown_of (HQ.out.1 _ _))
      | (go_at_call 12; with_reducible exact Calls.regrown_of (HQ.out.2.1 _ _))
      | (go_at_call 12; with_reducible exact Calls.regrown_of (HQ.out.2.2.1 _ _))
      | (go_at_call 27; with_reducible exact Calls.regrown_of (HQ.out.2.2.2.1 _ _))
      | (go_at_call 27; with_reducible exact Calls.regrown_of (HQ.out.2.2.2.2.1 _ _))))
    refine wpQuiet_nil ?_
    intro wq hw'
    have bq : Below W.heap.size W wq := by obtain ⟨p, rfl⟩ := hw'; exact below_regrown _ _ _
    clear hw'
    go_wp2
    go_ret
    exact ⟨rfl, bt HQ.out.2.2.2.2.2 bq⟩
end Go.Proofs.YtdpgdpfalfiijaaDoor
