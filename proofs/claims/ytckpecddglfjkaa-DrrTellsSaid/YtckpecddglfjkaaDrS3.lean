/- The document's own round: on. -/
import Derived.Test.YtckpecddglfjkaaDrS2
namespace Go.Proofs.Ytckpecddglfjkaa
open Go.ChangeShapes Go.WideShapes Go.ChangeAt Go.RowKit
open Dr
set_option linter.unusedVariables false
set_option linter.unusedSimpArgs false

theorem new_in {W Wa w6 : World} {t : TypeId} {cs : Array Value} (hW : Wa.heap.size = W.heap.size) (hb : Below (Wa.alloc (.cells cs t)).heap.size (Wa.alloc (.cells cs t)) w6) : ∀ j u, cs.toList[j]? = some u → w6.cell? ((⟨W.heap.size, 0, none⟩ : Addr).add j) = some u := by
  intro j u hu
  have := new_cells (w := Wa) hW.symm t cs j u hu
  rw [hb.cell (World.block_lt_of_cell? _ _ this)]
  exact this
set_option maxHeartbeats 2000000 in
theorem ron_any (B m : Nat) (i q d : Int) (R : List Gl) (fr : Bool) (w : World) (h : RmS w B m ((i, q, d) :: R) fr) (hn1 : R.length < 1000) :
    Calls Try.prog 30 #[.pointer (some ⟨m, 0, none⟩)] w fun e w' => e = .returned (.tuple #[]) ∧ RmS w' B m (R ++ [(i, q, d)]) true ∧ ChR B w w' := by
  obtain ⟨i0, hi, hz0, hz1, hz2⟩ := info_parts (P := Try.prog) (e := 49) (z := .agg #[.int .i64 0, .int .i64 0, .int .i64 0]) (size := 3) (bytes := 24) (by kernel_rfl)
  obtain ⟨v, h⟩ := h
  obtain ⟨A, c, rfl, _, a1, a2⟩ := h.row.shape
  obtain ⟨g, rfl, x0, x1, x2, xf, xl⟩ := h.fl 0 (by simp)
  simp only [Nat.zero_mul, Nat.zero_add, List.getElem_cons_zero] at x0 x1 x2
  have hat := Own.at_ (f := rowG) (k := 3) (fun _ => rfl) h.row
  obtain ⟨A2, c3, hr2, hat2⟩ := At.from_ (P := Try.prog) undG szG hat 1 (by simp)
  obtain ⟨r, hr⟩ : ∃ r, r = R.length := ⟨_, rfl⟩
  have hr3 : ∀ W, (Instr.slice 27 (.slice (some ⟨g, 0, none⟩) (R.length + 1) c) (some (.int .i64 1)) none none).run Try.prog W = .ok (.slice A2 R.length c3) W := hr2
  have hat3 : At w 3 rowG (.slice A2 R.length c3) R := hat2
  have h2 : RmAt w B m (.slice (some ⟨g, 0, none⟩) (R.length + 1) c) ((i, q, d) :: R) fr := h
  rw [← hr] at hr3 hat3 h2 hn1
  clear hr2 hat2 hat h a1 a2
  obtain ⟨n, hn⟩ : ∃ n, n = r + 1 := ⟨_, rfl⟩
  rw [← hn] at hr3 h2
  have hn0 : 0 < n := by omega
  have hn2 : n ≤ 1000 := by omega
  obtain ⟨d0, d1, dl, df⟩ := h2.cells
  have KM := Lib.hid (And.intro hat3 (And.intro h2 (And.intro hr hn))); clear hat3 h2 hr hn
  go_enter Try.func30, Try.ntmps30
  go_wp2_with fail
  go_region_law (first
    | (refine step_append_own rfl (.tmp 8) (.tmp 15) 27 rfl w.heap.size 49 i0 (.agg #[.int .i64 0, .int .i64 0, .int .i64 0]) 3 24 Try.underlying27 hi hz0 hz1 hz2 rfl (by decide) (.slice A5 n5 c5) r (R.flatMap rowG) (by simp [Act.eval, Act.put]) (by have := hO6.later (ba w6 (.cells #[.int .i64 i, .int .i64 q, .int .i64 d] 49)); unfold Own at this; rw [← KM.out.2.2.1] at this; exact this) ⟨w6.heap.size, 0, none⟩ 1 1 (rowG (i, q, d)) (by simp [Act.eval, Act.put]) rfl (new_cells rfl _ _) (by simp [Value.oneCell']) (by unfold maxLen; omega) (by omega) (by have := b6.size; (try simp only [World.size_alloc]); omega) ?_; intro v7 w7 hO7 hg7 _; replace hO7 : Own w7 w.heap.size 49 3 rowG v7 (R ++ [(i, q, d)]) := Own.more KM.out.2.2.1 hO7; have b7 := own_past (bt b6 (ba w6 (.cells #[.int .i64 i, .int .i64 q, .int .i64 d] 49))) hg7 hO6; obtain ⟨A7, n7, c7, rfl⟩ := own_shape hO7; have y2 : w7.cell? ⟨m, 0, none⟩ = some (.slice (some ⟨g, 0, none⟩) n c) := (by rw [b7.cell dl]; exact d0); have yl : m < w7.heap.size := Nat.lt_of_lt_of_le dl b7.size; have yf : w7.frozen? ⟨m, 0, none⟩ = false := (by rw [b7.frozen dl]; exact df 0); have y1 : w7.cell? ⟨m, 1, none⟩ = some (.bool fr) := (by rw [b7.cell dl]; exact d1); have yf1 : w7.frozen? ⟨m, 1, none⟩ = false := (by rw [b7.frozen dl]; exact df 1); have K7 := Lib.hid (And.intro hO7 b7); clear hg7 hO7 b7)
    | (refine step_append_own rfl (.tmp 8) (.tmp 15) 27 rfl w.heap.size 49 i0 (.agg #[.int .i64 0, .int .i64 0, .int .i64 0]) 3 24 Try.underlying27 hi hz0 hz1 hz2 rfl (by decide) (.slice A5 n5 c5) r (R.flatMap rowG) (by simp [Act.eval, Act.put]) (by have := hO6; unfold Own at this; rw [← KM.out.2.2.1] at this; exact this) ⟨w.heap.size, 0, none⟩ 1 1 (rowG (i, q, d)) (by simp [Act.eval, Act.put]) rfl nc6 (by simp [Value.oneCell']) (by unfold maxLen; omega) (by omega) (by have := b6.size; (try simp only [World.size_alloc]); omega) ?_; intro v7 w7 hO7 hg7 _; replace hO7 : Own w7 w.heap.size 49 3 rowG v7 (R ++ [(i, q, d)]) := Own.more KM.out.2.2.1 hO7; have b7 := own_past b6 hg7 hO6; obtain ⟨A7, n7, c7, rfl⟩ := own_shape hO7; have y2 : w7.cell? ⟨m, 0, none⟩ = some (.slice (some ⟨g, 0, none⟩) n c) := (by rw [b7.cell dl]; exact d0); have yl : m < w7.heap.size := Nat.lt_of_lt_of_le dl b7.size; have yf : w7.frozen? ⟨m, 0, none⟩ = false := (by rw [b7.frozen dl]; exact df 0); have y1 : w7.cell? ⟨m, 1, none⟩ = some (.bool fr) := (by rw [b7.cell dl]; exact d1); have yf1 : w7.frozen? ⟨m, 1, none⟩ = false := (by rw [b7.frozen dl]; exact df 1); have K7 := Lib.hid (And.intro hO7 b7); clear hg7 hO7 b7)
    | (refine step_append_at rfl (.const (.slice none 0 0)) (.tmp 7) 27 rfl w.heap.size 49 i0 (.agg #[.int .i64 0, .int .i64 0, .int .i64 0]) 3 24 Try.underlying27 hi hz0 hz1 hz2 rfl (by decide) (f := rowG) (fun _ => rfl) one_rowG _ [] rfl (Own.nil _ _ _ _ _) A2 r c3 R KM.out.2.2.1 rfl (KM.out.1.later (below_drew (Below.refl _ _))) (by unfold maxLen; simp only [List.length_nil]; omega) (by simp only [List.length_nil]; omega) (Nat.le_refl _) ?_; intro v5 w6 hO6 hg6; rw [List.nil_append] at hO6; have b6 : Below w.heap.size w w6 := own_past (w1 := w.drew) (below_drew (Below.refl _ _)) hg6 (Own.nil w _ 49 3 rowG);  obtain ⟨A5, n5, c5, rfl⟩ := own_shape hO6; have y0 : w6.cell? ⟨m, 0, none⟩ = some (.slice (some ⟨g, 0, none⟩) n c) := (by rw [b6.cell dl]; exact d0); have u0 : w6.cell? ⟨g, 0, none⟩ = some (.int .i64 i) := (by rw [b6.cell xl]; exact x0); have u1 : w6.cell? ⟨g, 1, none⟩ = some (.int .i64 q) := (by rw [b6.cell xl]; exact x1); have u2 : w6.cell? ⟨g, 2, none⟩ = some (.int .i64 d) := (by rw [b6.cell xl]; exact x2); clear hg6)
    | (refine step_append_at rfl (.const (.slice none 0 0)) (.tmp 7) 27 rfl w.heap.size 49 i0 (.agg #[.int .i64 0, .int .i64 0, .int .i64 0]) 3 24 Try.underlying27 hi hz0 hz1 hz2 rfl (by decide) (f := rowG) (fun _ => rfl) one_rowG _ [] rfl (Own.nil _ _ _ _ _) A2 r c3 R KM.out.2.2.1 rfl (KM.out.1.later (bt (below_drew (Below.refl _ _)) (ba w.drew (.cells #[.int .i64 i, .int .i64 q, .int .i64 d] 49)))) (by unfold maxLen; simp only [List.length_nil]; omega) (by simp only [List.length_nil]; omega) (by simp only [World.size_alloc, World.size_drew]; omega) ?_; intro v5 w6 hO6 hg6; rw [List.nil_append] at hO6; have b6 : Below w.heap.size w w6 := own_past (w1 := w.drew.alloc (.cells #[.int .i64 i, .int .i64 q, .int .i64 d] 49)) (bt (below_drew (Below.refl _ _)) (ba w.drew (.cells #[.int .i64 i, .int .i64 q, .int .i64 d] 49))) hg6 (Own.nil w _ 49 3 rowG); have nc6 := new_in (W := w) (Wa := w.drew) rfl (t := 49) (cs := #[.int .i64 i, .int .i64 q, .int .i64 d]) (own_past (w := w.drew.alloc (.cells #[.int .i64 i, .int .i64 q, .int .i64 d] 49)) (Below.refl _ _) hg6 (Own.nil w _ 49 3 rowG)); obtain ⟨A5, n5, c5, rfl⟩ := own_shape hO6; have y0 : w6.cell? ⟨m, 0, none⟩ = some (.slice (some ⟨g, 0, none⟩) n c) := (by rw [b6.cell dl]; exact d0); have u0 : w6.cell? ⟨g, 0, none⟩ = some (.int .i64 i) := (by rw [b6.cell xl]; exact x0); have u1 : w6.cell? ⟨g, 1, none⟩ = some (.int .i64 q) := (by rw [b6.cell xl]; exact x1); have u2 : w6.cell? ⟨g, 2, none⟩ = some (.int .i64 d) := (by rw [b6.cell xl]; exact x2); clear hg6))
  all_goals go_wp2
  all_goals refine bodyPost_end (v := .tuple #[]) (by simp only [results, Try.results30]; simp [go_sem]) rfl ?_
  all_goals
    obtain ⟨s1, s2⟩ := (KM.out.2.1.later K7.out.2).rowto KM.out.2.1.low' K7.out.1
    obtain ⟨s3, s4⟩ := s1.fresh true
    exact ⟨rfl, ⟨_, s3⟩, ((ChR.later KM.out.2.1.low' K7.out.2).trans s2).trans s4⟩
end Go.Proofs.Ytckpecddglfjkaa
