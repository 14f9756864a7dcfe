/- HoldTells: the document's waits turned back into the program's. -/
import Derived.Test.YticjfhagpmlieaaHtF
namespace Go.Proofs.Yticjfhagpmlieaa
open Go.ChangeShapes Go.WideShapes Go.ChangeAt Go.RowKit
open Ho
set_option linter.unusedVariables false
set_option linter.unusedSimpArgs false

def BackP (l : List Wy) (w : World) (e : Ending) (w' : World) : Prop := ∃ v, (e = .returned v ∧ Own w' w.heap.size 35 3 rowW v l) ∧ Below w.heap.size w w'
set_option maxHeartbeats 2000000 in
theorem back_any (v : Value) (l : List Wy) (w : World) (h : At w 3 rowW v l) (hn : l.length ≤ 1000) :
    Calls Try.prog 17 #[v] w (BackP l w) := by
  obtain ⟨j0, hj, hy0, hy1, hy2⟩ := info_parts (P := Try.prog) (e := 35) (z := .agg #[.int .i64 0, .slice none 0 0, .int .i64 0]) (size := 3) (bytes := 40) (by kernel_rfl)
  obtain ⟨A, c, rfl, _, _, _⟩ := h.shape
  have H := Lib.hid h; clear h
  go_enter Try.func17, Try.ntmps17
  go_wp2
  go_loopw [3, 4] (fun lv iv wr => ∃ k : Nat, k ≤ l.length ∧ iv = .int .i64 k ∧ Own wr w.heap.size 35 3 rowW lv (l.take k) ∧ Below w.heap.size w wr) (fun _ i _ => l.length - (intOf i).toNat)
  case atStart => exact ⟨0, Nat.zero_le _, rfl, Own.nil _ _ _ _ _, Below.refl _ _⟩
  case round =>
    rename World => wr0
    obtain ⟨k, hk, rfl, hO, hbw⟩ := hrel
    obtain ⟨vA, vn, vc, rfl⟩ := own_shape hO
    by_cases hlt : k < l.length
    · obtain ⟨a, rfl, hc⟩ := H.out.cells rfl (by omega)
      obtain ⟨x0, x1, x2⟩ := (hc.later hbw).row3 k hlt rfl
      have hsn : l.take k ++ [l[k]'hlt] = l.take (k + 1) := (List.take_succ_eq_append_getElem hlt).symm
      have hll : (l.take k).length = k := by rw [List.length_take]; omega
      generalize l[k]'hlt = y at *
      obtain ⟨⟨u, p, x⟩, ⟨sA, sn, sc⟩⟩ := y
      simp only at x0 x1 x2
      change wr0.cell? _ = some (.slice sA sn sc) at x1
      have K := Lib.hid (And.intro hO (And.intro hbw (And.intro hsn hll))); clear hO hbw hsn hll hc
      go_wp2_with fail
      go_region_law (first
        | (refine step_append_own rfl (.tmp 11) (.tmp 28) 41 rfl w.heap.size 35 j0 (.agg #[.int .i64 0, .slice none 0 0, .int .i64 0]) 3 40 Try.underlying41 hj hy0 hy1 hy2 rfl (by decide) (.slice vA vn vc) k _ (by simp [Act.eval, Act.put]) (World.ownsRow.drew (by have := K.out.1.later (ba wr0 (.cells #[.int .i64 u, .slice sA sn sc, .int .i64 x] 35)); unfold Own at this; rw [K.out.2.2.2] at this; exact this)) ⟨wr0.heap.size, 0, none⟩ 1 1 (rowW ((u, p, x), (sA, sn, sc))) (by simp [Act.eval, Act.put]) rfl (fun j v hv => new_cells (w := wr0) rfl 35 #[.int .i64 u, .slice sA sn sc, .int .i64 x] j v hv) (by simp [Value.oneCell']) (by unfold maxLen; omega) (by omega) (by have := K.out.2.1.size; simp only [World.size_alloc, World.size_drew]; omega) ?_; intro v5 w5 hO5 hg5 _; have Z := Lib.hid (And.intro hO5 hg5); clear hO5 hg5))
      all_goals go_wp2
      all_goals go_roundw
      all_goals first
        | (simp [intOf]; omega)
        | (have hO6 : Own w5 w.heap.size 35 3 rowW v5 (l.take (k + 1)) := (by rw [← K.out.2.2.1]; exact Own.more (f := rowW) K.out.2.2.2.symm Z.out.1); exact ⟨k + 1, by omega, by go_num, hO6, own_past (bt (bt K.out.2.1 (below_drew (Below.refl _ _))) (ba _ _)) Z.out.2 K.out.1⟩)
    · obtain rfl : k = l.length := by omega
      rw [List.take_length] at hO
      have K := Lib.hid (And.intro hO hbw); clear hO hbw
      go_wp2
      go_ret
      exact ⟨_, ⟨rfl, K.out.1⟩, K.out.2⟩
/-- Sorted waits: who is due stands first. -/
theorem due_take {T : List D} (hS : Sorted T) (now : Int) : T.filter (fun t => decide (t.1 < now)) = T.take (dpos now T) ∧ T.filter (fun t => !decide (t.1 < now)) = T.drop (dpos now T) := by
  have h1 : ∀ x ∈ T.take (dpos now T), x.1 < now := fun x hx => by
    obtain ⟨j, hj, rfl⟩ := List.getElem_of_mem hx
    rw [List.getElem_take]
    rw [List.length_take] at hj
    have hj2 : j < dpos now T := by omega
    have := List.not_of_lt_findIdx (p := fun e : D => decide (now ≤ e.1)) (xs := T) hj2
    simpa using this
  have h2 : ∀ x ∈ T.drop (dpos now T), ¬ x.1 < now := fun x hx => by
    obtain ⟨j, hj, rfl⟩ := List.getElem_of_mem hx
    rw [List.length_drop] at hj
    rw [List.getElem_drop]
    have hd : dpos now T < T.length := by omega
    have h0 : decide (now ≤ (T[dpos now T]'hd).1) = true := List.findIdx_getElem (p := fun e : D => decide (now ≤ e.1)) (w := hd)
    have := dpos_mono hS now hd (j := dpos now T + j) (by omega) (by omega) (of_decide_eq_true h0)
    omega
  constructor
  · conv => lhs; rw [← List.take_append_drop (dpos now T) T]
    rw [List.filter_append, List.filter_eq_self.2 (fun x hx => by simpa using h1 x hx), List.filter_eq_nil_iff.2 (fun x hx => by simpa using h2 x hx), List.append_nil]
  · conv => lhs; rw [← List.take_append_drop (dpos now T) T]
    rw [List.filter_append, List.filter_eq_nil_iff.2 (fun x hx => by simpa using h1 x hx), List.filter_eq_self.2 (fun x hx => by simpa using h2 x hx), List.nil_append]
end Go.Proofs.Yticjfhagpmlieaa
