/- The item of an act on a ring. -/
import Derived.Test.YtbbjlefldpgckaaOpenA5
import Derived.Test.YtbbjlefldpgckaaRgY
namespace Go.Proofs.Ytbbjlefldpgckaa
open Go.ChangeShapes Go.WideShapes Go.ChangeAt Go.RowKit Go.Maps
open Ev (V3 rightV OkV)
set_option linter.unusedVariables false
set_option linter.unusedSimpArgs false
set_option maxRecDepth 20000

abbrev actV (x : ActD) : Value := .agg #[.int .u8 x.k, .int .u8 x.n, .int .u8 x.t, .bool x.ma, .int .i64 x.tm, .slice x.sv.1 x.sv.2.1 x.sv.2.2]
/-- The item of an act, near an edge: is it a mark, its time, its values. -/
def itA (x : ActD) (edge : Int) : Bool × Int × List V3 :=
  if x.k % 16 = 5 then (x.ma, x.tm, x.vs)
  else (decide (x.k % 16 = 4), edge + x.t % 5 - 1 + (if x.k % 16 = 4 ∨ x.k % 16 = 3 then x.t / 16 else 0), if x.k % 16 = 4 then [] else [(1, x.n, ⟨#[]⟩)])
theorem itA_ok {W : World} {x : ActD} (hx : ActOk W x) (edge : Int) (he : 0 ≤ edge ∧ edge ≤ 2305843009213693953) : wfI (itA x edge).2.1 ∧ ∀ y ∈ (itA x edge).2.2, y.2.2.size ≤ maxLen := by
  have h1 := hx.t
  unfold itA
  split
  · exact ⟨hx.tm, hx.sz⟩
  · refine ⟨?_, ?_⟩
    · simp only
      constructor <;> split <;> omega
    · simp only
      split
      · intro y hy; cases hy
      · exact one_size _
def ItemP (x : ActD) (edge : Int) (w : World) (e : Ending) (w' : World) : Prop := ∃ v, (e = .returned (item (itA x edge).1 (itA x edge).2.1 v) ∧ ((v = sl x.sv ∧ (itA x edge).2.2 = x.vs) ∨ NewAt w.heap.size w' v (itA x edge).2.2)) ∧ Below w.heap.size w w'
theorem act_way (k : Int) (h0 : 0 ≤ k) : k % 16 = 4 ∨ k % 16 = 3 ∨ k % 16 = 5 ∨ ((k % 16 == 4) = false ∧ decide (k % 16 = 4) = false ∧ (k % 16 == 3) = false ∧ decide (k % 16 = 3) = false ∧ (k % 16 == 5) = false ∧ decide (k % 16 = 5) = false) := by
  by_cases h4 : k % 16 = 4
  · exact Or.inl h4
  · by_cases h3 : k % 16 = 3
    · exact Or.inr (Or.inl h3)
    · by_cases h5 : k % 16 = 5
      · exact Or.inr (Or.inr (Or.inl h5))
      · exact Or.inr (Or.inr (Or.inr ⟨by simpa using h4, decide_eq_false h4, by simpa using h3, decide_eq_false h3, by simpa using h5, decide_eq_false h5⟩))
set_option maxHeartbeats 2000000 in
theorem Item_any (x : ActD) (edge : Int) (w : World) (hx : ActOk w x) (he : 0 ≤ edge ∧ edge ≤ 2305843009213693953) :
    Calls Try.prog 24 #[actV x, .int .i64 edge] w (ItemP x edge w) := by
  obtain ⟨k, n, t, ma, tm, ⟨sA, sn, sc⟩, vs⟩ := x
  obtain ⟨⟨k0, k1⟩, ⟨n0, n1⟩, ⟨t0, t1⟩, ⟨tm0, tm1⟩, hvs, hsz⟩ := hx
  simp only at k0 k1 n0 n1 t0 t1 tm0 tm1
  obtain ⟨e0, e1⟩ := he
  have H := Lib.hid (And.intro hvs hsz); clear hvs hsz
  have hm5 : 0 ≤ t % 5 ∧ t % 5 ≤ 4 := by omega
  have hd16 : 0 ≤ t / 16 ∧ t / 16 ≤ 15 := by omega
  obtain ⟨m5a, m5b⟩ := hm5
  obtain ⟨d16a, d16b⟩ := hd16
  rcases act_way k k0 with hq | hq | hq | ⟨q1, q2, q3, q4, q5, q6⟩
  all_goals
    go_enter Try.func24, Try.ntmps24
    go_wp2
  · skip
    have hR := (Blk.new (w.alloc (.cells #[.int .u8 k, .int .u8 n, .int .u8 t, .bool ma, .int .i64 tm, .slice sA sn sc] 39)) 37 #[.bool true, .int .i64 (edge + t % 5 - 1 + t / 16), .slice none 0 0]).alloc (.cells #[.bool true, .int .i64 (edge + t % 5 - 1 + t / 16), .slice none 0 0] 37)
    rw [World.size_alloc] at hR
    obtain ⟨z0, z1, z2⟩ := hR.three
    refine bodyPost_ret (v := item true (edge + t % 5 - 1 + t / 16) (.slice none 0 0)) (by simp only [results, Try.results24]; simp [go_sem, z0, z1, z2]) rfl ?_
    refine ⟨.slice none 0 0, ⟨by unfold itA; simp [hq], ?_⟩, bt (bt (ba w _) (ba _ _)) (ba _ _)⟩
    have e : (itA ⟨k, n, t, ma, tm, (sA, sn, sc), vs⟩ edge).2.2 = [] := by unfold itA; simp [hq]
    rw [e]; exact Or.inr (NewAt.nil _ _)
  · skip
    have hR := ((Blk.new (w.alloc (.cells #[.int .u8 k, .int .u8 n, .int .u8 t, .bool ma, .int .i64 tm, .slice sA sn sc] 39)) 37 #[.bool false, .int .i64 (edge + t % 5 - 1 + t / 16), .slice (some ⟨w.heap.size + 1 + 1 + 1, 0, none⟩) 1 1]).alloc (.cells #[.bool false, .int .i64 (edge + t % 5 - 1 + t / 16), .slice (some ⟨w.heap.size + 1 + 1 + 1, 0, none⟩) 1 1] 37)).alloc (.cells #[.int .i64 1, .int .i64 n, .string ⟨#[]⟩] 84)
    rw [World.size_alloc] at hR
    obtain ⟨z0, z1, z2⟩ := hR.three
    have hO : Own (((((w.alloc (.cells #[.int .u8 k, .int .u8 n, .int .u8 t, .bool ma, .int .i64 tm, .slice sA sn sc] 39))).alloc (.cells #[.bool false, .int .i64 (edge + t % 5 - 1 + t / 16), .slice (some ⟨w.heap.size + 1 + 1 + 1, 0, none⟩) 1 1] 37)).alloc (.cells #[.bool false, .int .i64 (edge + t % 5 - 1 + t / 16), .slice (some ⟨w.heap.size + 1 + 1 + 1, 0, none⟩) 1 1] 37)).alloc (.cells #[.int .i64 1, .int .i64 n, .string ⟨#[]⟩] 84)) w.heap.size 84 3 row3 (.slice (some ⟨w.heap.size + 1 + 1 + 1, 0, none⟩) 1 1) (oneV n) := own_lit (g := w.heap.size + 1 + 1 + 1) (n := 1) (oneV n) (by simp) (by omega) rfl (by decide) rfl rfl
    refine bodyPost_ret (v := item false (edge + t % 5 - 1 + t / 16) (.slice (some ⟨w.heap.size + 1 + 1 + 1, 0, none⟩) 1 1)) (by simp only [results, Try.results24]; simp [go_sem, z0, z1, z2]) rfl ?_
    refine ⟨_, ⟨by unfold itA; simp [hq]; rfl, ?_⟩, bt (bt (bt (ba w _) (ba _ _)) (ba _ _)) (ba _ _)⟩
    have e : (itA ⟨k, n, t, ma, tm, (sA, sn, sc), vs⟩ edge).2.2 = oneV n := by unfold itA; simp [hq]
    rw [e]; exact Or.inr (show NewAt w.heap.size _ _ (oneV n) from hO)
  · skip
    have hR := ((Blk.new (w.alloc (.cells #[.int .u8 k, .int .u8 n, .int .u8 t, .bool ma, .int .i64 tm, .slice sA sn sc] 39)) 37 #[.bool ma, .int .i64 tm, .slice sA sn sc]).alloc (.cells #[.bool false, .int .i64 (edge + t % 5 - 1), .slice (some ⟨w.heap.size + 1 + 1 + 1, 0, none⟩) 1 1] 37)).alloc (.cells #[.int .i64 1, .int .i64 n, .string ⟨#[]⟩] 84)
    rw [World.size_alloc] at hR
    obtain ⟨z0, z1, z2⟩ := hR.three
    have hO : Own (((((w.alloc (.cells #[.int .u8 k, .int .u8 n, .int .u8 t, .bool ma, .int .i64 tm, .slice sA sn sc] 39))).alloc (.cells #[.bool ma, .int .i64 tm, .slice sA sn sc] 37)).alloc (.cells #[.bool false, .int .i64 (edge + t % 5 - 1), .slice (some ⟨w.heap.size + 1 + 1 + 1, 0, none⟩) 1 1] 37)).alloc (.cells #[.int .i64 1, .int .i64 n, .string ⟨#[]⟩] 84)) w.heap.size 84 3 row3 (.slice (some ⟨w.heap.size + 1 + 1 + 1, 0, none⟩) 1 1) (oneV n) := own_lit (g := w.heap.size + 1 + 1 + 1) (n := 1) (oneV n) (by simp) (by omega) rfl (by decide) rfl rfl
    refine bodyPost_ret (v := item ma tm (.slice sA sn sc)) (by simp only [results, Try.results24]; simp [go_sem, z0, z1, z2]) rfl ?_
    refine ⟨_, ⟨by unfold itA; simp [hq]; rfl, ?_⟩, bt (bt (bt (ba w _) (ba _ _)) (ba _ _)) (ba _ _)⟩
    have e : (itA ⟨k, n, t, ma, tm, (sA, sn, sc), vs⟩ edge).2.2 = vs := by unfold itA; simp [hq]
    exact Or.inl ⟨rfl, e⟩
  · have p4 : ¬ k % 16 = 4 := of_decide_eq_false q2
    have p3 : ¬ k % 16 = 3 := of_decide_eq_false q4
    have p5 : ¬ k % 16 = 5 := of_decide_eq_false q6
    have hR := ((Blk.new (w.alloc (.cells #[.int .u8 k, .int .u8 n, .int .u8 t, .bool ma, .int .i64 tm, .slice sA sn sc] 39)) 37 #[.bool false, .int .i64 (edge + t % 5 - 1), .slice (some ⟨w.heap.size + 1 + 1 + 1, 0, none⟩) 1 1]).alloc (.cells #[.bool false, .int .i64 (edge + t % 5 - 1), .slice (some ⟨w.heap.size + 1 + 1 + 1, 0, none⟩) 1 1] 37)).alloc (.cells #[.int .i64 1, .int .i64 n, .string ⟨#[]⟩] 84)
    rw [World.size_alloc] at hR
    obtain ⟨z0, z1, z2⟩ := hR.three
    have hO : Own (((((w.alloc (.cells #[.int .u8 k, .int .u8 n, .int .u8 t, .bool ma, .int .i64 tm, .slice sA sn sc] 39))).alloc (.cells #[.bool false, .int .i64 (edge + t % 5 - 1), .slice (some ⟨w.heap.size + 1 + 1 + 1, 0, none⟩) 1 1] 37)).alloc (.cells #[.bool false, .int .i64 (edge + t % 5 - 1), .slice (some ⟨w.heap.size + 1 + 1 + 1, 0, none⟩) 1 1] 37)).alloc (.cells #[.int .i64 1, .int .i64 n, .string ⟨#[]⟩] 84)) w.heap.size 84 3 row3 (.slice (some ⟨w.heap.size + 1 + 1 + 1, 0, none⟩) 1 1) (oneV n) := own_lit (g := w.heap.size + 1 + 1 + 1) (n := 1) (oneV n) (by simp) (by omega) rfl (by decide) rfl rfl
    refine bodyPost_ret (v := item false (edge + t % 5 - 1) (.slice (some ⟨w.heap.size + 1 + 1 + 1, 0, none⟩) 1 1)) (by simp only [results, Try.results24]; simp [go_sem, z0, z1, z2]) rfl ?_
    refine ⟨_, ⟨by unfold itA; simp [p4, p3, p5]; rfl, ?_⟩, bt (bt (bt (ba w _) (ba _ _)) (ba _ _)) (ba _ _)⟩
    have e : (itA ⟨k, n, t, ma, tm, (sA, sn, sc), vs⟩ edge).2.2 = oneV n := by unfold itA; simp [p4, p5]
    rw [e]; exact Or.inr (show NewAt w.heap.size _ _ (oneV n) from hO)
end Go.Proofs.Ytbbjlefldpgckaa
