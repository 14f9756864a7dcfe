/- The document's own round: Add, Drop, on. -/
import Derived.Test.YtckpecddglfjkaaDrR
namespace Go.Proofs.Ytckpecddglfjkaa
open Go.ChangeShapes Go.WideShapes Go.ChangeAt Go.RowKit
open Dr
set_option linter.unusedVariables false
set_option linter.unusedSimpArgs false

theorem idxG_gl (L : List Fl) (x : Int) : idxG (L.map gl) x = idxI L x := by
  unfold idxG idxI idxB
  rw [List.findIdx_map, List.length_map]; rfl
def RAddP (B m : Nat) (L : List Fl) (fr : Bool) (id q : Int) (w : World) (e : Ending) (w' : World) : Prop :=
  ∃ r L' fr', (e = .returned (.int .i64 r) ∧ AddR L fr id q r L' fr' ∧ RmS w' B m (L'.map gl) fr') ∧ ChR B w w'
theorem one_rowG (f : Gl) : ∀ u ∈ rowG f, u.oneCell' = true := by simp [Value.oneCell']
set_option maxHeartbeats 1000000 in
theorem rAdd_any (B m : Nat) (L : List Fl) (fr : Bool) (id q : Int) (w : World) (h : RmS w B m (L.map gl) fr) (hn : L.length < 1000) :
    Calls Try.prog 12 #[.pointer (some ⟨m, 0, none⟩), .int .i64 id, .int .i64 q] w (RAddP B m L fr id q w) := by
  obtain ⟨j0, hj, hy0, hy1, hy2⟩ := info_parts (P := Try.prog) (e := 49) (z := .agg #[.int .i64 0, .int .i64 0, .int .i64 0]) (size := 3) (bytes := 24) (by kernel_rfl)
  have h0 := h
  obtain ⟨v, h⟩ := h
  obtain ⟨A, c, rfl, _, a1, a2⟩ := h.row.shape
  by_cases hq : q < 1 ∨ 1000 < q
  · have hR : AddR L fr id q 1 L fr := Or.inl ⟨hq, rfl, rfl, rfl⟩
    have H := Lib.hid (And.intro h0 hR); clear h h0 hR
    rcases hq with hq | hq
    · go_enter Try.func12, Try.ntmps12
      go_wp2
      go_ret
      exact ⟨1, _, _, ⟨rfl, H.out.2, H.out.1⟩, ChR.refl _ _⟩
    · have hq2 : ¬ q < 1 := by omega
      go_enter Try.func12, Try.ntmps12
      go_wp2
      go_ret
      exact ⟨1, _, _, ⟨rfl, H.out.2, H.out.1⟩, ChR.refl _ _⟩
  · have q1 : ¬ q < 1 := by omega
    have q2 : ¬ 1000 < q := by omega
    have cF := rfind_any B m (L.map gl) fr id w h0
    rw [idxG_gl] at cF
    rcases idx_cases L id with ⟨hi, hno⟩ | ⟨k, hk, hi, hid, _⟩
    · rw [hi] at cF
      have hR : AddR L fr id q 0 (L ++ [(id, q, 0, 0)]) (fr || L.isEmpty) := Or.inr (Or.inr ⟨by omega, by omega, hno, rfl, rfl, rfl⟩)
      have hfre : ∃ fr2, fr2 = (fr || L.isEmpty) := ⟨_, rfl⟩
      obtain ⟨fr2, hfr2⟩ := hfre
      rw [← hfr2] at hR
      have hlg : (L.map gl).length = L.length := List.length_map _
      have hmg : (L ++ [(id, q, (0 : Int), (0 : Int))]).map gl = L.map gl ++ [(id, q, 0)] := by rw [List.map_append]; rfl
      have hl0 : (L.length = 0 ∧ L.isEmpty = true) ∨ (¬ L.length = 0 ∧ L.isEmpty = false) := by
        cases L with
        | nil => exact Or.inl ⟨rfl, rfl⟩
        | cons a r => exact Or.inr ⟨by simp, rfl⟩
      have hX : ∀ (W : World) (N : Nat) (v' : Value) (gr : Bool), B ≤ N → RmAt W B m (.slice A L.length c) (L.map gl) gr → Own W N 49 3 rowG v' (L.map gl ++ [(id, q, 0)]) → RmAt (W.setCell ⟨m, 0, none⟩ v') B m v' (L.map gl ++ [(id, q, 0)]) gr ∧ ChR B W (W.setCell ⟨m, 0, none⟩ v') := fun W N v' gr hN g hO => by
        have hs := g.blk.set_ 0 v'
        exact ⟨⟨g.low, by simpa using hs, (hO.lift hN).dset g.blk (by decide) 0 v'⟩, ⟨(Below.refl _ _).setCell (p := ⟨m, 0, none⟩) g.low _, Frm.set1 g.blk 0 _⟩⟩
      rw [hlg] at h
      have H := Lib.hid (And.intro cF (And.intro h (And.intro hR (And.intro hfr2 (And.intro hmg (And.intro hX (And.intro hlg h.low'))))))); clear cF h h0 hR hfr2 hmg hX hno hi hq a1
      have hlI : L.length ≤ 9223372036854775807 := by omega
      rcases hl0 with ⟨z0, z1⟩ | ⟨z0, z1⟩
      · have z2 : ((L.length : Int) == 0) = true := by rw [z0]; rfl
        clear z0
        go_enter Try.func12, Try.ntmps12
        go_wp2_with fail
        go_at_call 25
        (with_reducible refine (H.out.1).mono ?_)
        rintro e w1 ⟨rfl, b1⟩
        obtain ⟨d0, d1, dl, df⟩ := (H.out.2.1.later b1).cells
        obtain ⟨r2, k2⟩ := (H.out.2.1.later b1).fresh true
        go_upto_region 7 with fail
        have hB1 : B ≤ w1.heap.size := Nat.le_trans H.out.2.2.2.2.2.2.2 b1.size
        have hsz : w.heap.size ≤ (w1.setCell ⟨m, 1, none⟩ (.bool true)).heap.size := by simpa using b1.size
        have k3 := (ChR.later H.out.2.2.2.2.2.2.2 b1).trans k2
        clear d0 d1 dl df b1 k2
        generalize w1.setCell ⟨m, 1, none⟩ (.bool true) = W at *
        obtain ⟨d0, d1, dl, df⟩ := r2.cells
        have K := Lib.hid (And.intro r2 (And.intro hsz k3)); clear r2 hsz k3
        go_wp2_with (first
          | (at_builtin; refine wpList_append_at _ rfl (.const (.slice none 0 0)) (.tmp 33) 27 rfl W.heap.size 49 j0 (.agg #[.int .i64 0, .int .i64 0, .int .i64 0]) 3 24 Try.underlying27 hj hy0 hy1 hy2 rfl (by decide) (f := rowG) (fun _ => rfl) one_rowG (.slice none 0 0) [] rfl (Own.nil _ _ _ _ _) A L.length c (L.map gl) H.out.2.2.2.2.2.2.1.symm rfl (Own.at_ (f := rowG) (k := 3) (fun _ => rfl) K.out.1.row) (by unfold maxLen; simp; omega) (by simp; omega) (Nat.le_refl _) ?_; intro v5 w5 hO5 hg5; rw [List.nil_append] at hO5; obtain ⟨A5, n5, c5, rfl⟩ := own_shape hO5; obtain ⟨d0, d1, dl, df⟩ := (K.out.1.later (grown_none hg5)).cells; have Z5 := Lib.hid (And.intro hO5 (grown_none hg5)); clear hO5 hg5)
          | (at_builtin; refine wpList_append_own _ rfl (.tmp 34) (.tmp 38) 27 rfl W.heap.size 49 j0 (.agg #[.int .i64 0, .int .i64 0, .int .i64 0]) 3 24 Try.underlying27 hj hy0 hy1 hy2 rfl (by decide) (.slice A5 n5 c5) L.length _ rfl (by have := Z5.out.1.later (ba w5 (.cells #[.int .i64 id, .int .i64 q, .int .i64 0] 49)); unfold Own at this; rw [H.out.2.2.2.2.2.2.1] at this; exact this) ⟨_, 0, none⟩ 1 1 (rowG (id, q, 0)) rfl rfl (new_cells rfl _ _) (by simp [Value.oneCell']) (by unfold maxLen; omega) (by omega) (by have := Z5.out.2.size; simp only [World.size_alloc]; omega) ?_; intro v6 w6 hO6 hg6 _; replace hO6 : Own w6 W.heap.size 49 3 rowG v6 (L.map gl ++ [(id, q, 0)]) := Own.more H.out.2.2.2.2.2.2.1.symm hO6; obtain ⟨A6, n6, c6, rfl⟩ := own_shape hO6; have b6 := own_past (bt Z5.out.2 (ba w5 (.cells #[.int .i64 id, .int .i64 q, .int .i64 0] 49))) hg6 Z5.out.1; obtain ⟨d0, d1, dl, df⟩ := (K.out.1.later b6).cells; have Z6 := Lib.hid (And.intro hO6 b6); clear hO6 hg6 b6))
        go_ret
        obtain ⟨r1, r2⟩ := H.out.2.2.2.2.2.1 _ _ _ _ K.out.1.low' (K.out.1.later Z6.out.2) Z6.out.1
        refine ⟨0, _, _, ⟨rfl, H.out.2.2.1, ?_⟩, (K.out.2.2.trans (ChR.later K.out.1.low' Z6.out.2)).trans r2⟩
        rw [H.out.2.2.2.2.1, H.out.2.2.2.1, z1, Bool.or_true]
        exact ⟨_, r1⟩
      · have z2 : ((L.length : Int) == 0) = false := by rw [beq_eq_false_iff_ne]; omega
        have z3 : ¬ (L.length : Int) = 0 := by omega
        go_enter Try.func12, Try.ntmps12
        go_wp2_with fail
        go_at_call 25
        (with_reducible refine (H.out.1).mono ?_)
        rintro e w1 ⟨rfl, b1⟩
        obtain ⟨d0, d1, dl, df⟩ := (H.out.2.1.later b1).cells
        have K := Lib.hid b1; clear b1
        go_wp2_with (first
          | (at_builtin; refine wpList_append_at _ rfl (.const (.slice none 0 0)) (.tmp 33) 27 rfl w.heap.size 49 j0 (.agg #[.int .i64 0, .int .i64 0, .int .i64 0]) 3 24 Try.underlying27 hj hy0 hy1 hy2 rfl (by decide) (f := rowG) (fun _ => rfl) one_rowG (.slice none 0 0) [] rfl (Own.nil _ _ _ _ _) A L.length c (L.map gl) H.out.2.2.2.2.2.2.1.symm rfl (Own.at_ (f := rowG) (k := 3) (fun _ => rfl) (H.out.2.1.later K.out).row) (by unfold maxLen; simp; omega) (by simp; omega) K.out.size ?_; intro v5 w5 hO5 hg5; rw [List.nil_append] at hO5; obtain ⟨A5, n5, c5, rfl⟩ := own_shape hO5; obtain ⟨d0, d1, dl, df⟩ := (H.out.2.1.later (bt K.out (grown_none hg5))).cells; have Z5 := Lib.hid (And.intro hO5 (bt K.out (grown_none hg5))); clear hO5 hg5)
          | (at_builtin; refine wpList_append_own _ rfl (.tmp 34) (.tmp 38) 27 rfl w.heap.size 49 j0 (.agg #[.int .i64 0, .int .i64 0, .int .i64 0]) 3 24 Try.underlying27 hj hy0 hy1 hy2 rfl (by decide) (.slice A5 n5 c5) L.length _ rfl (by have := Z5.out.1.later (ba w5 (.cells #[.int .i64 id, .int .i64 q, .int .i64 0] 49)); unfold Own at this; rw [H.out.2.2.2.2.2.2.1] at this; exact this) ⟨_, 0, none⟩ 1 1 (rowG (id, q, 0)) rfl rfl (new_cells rfl _ _) (by simp [Value.oneCell']) (by unfold maxLen; omega) (by omega) (by have := Z5.out.2.size; simp only [World.size_alloc]; omega) ?_; intro v6 w6 hO6 hg6 _; replace hO6 : Own w6 w.heap.size 49 3 rowG v6 (L.map gl ++ [(id, q, 0)]) := Own.more H.out.2.2.2.2.2.2.1.symm hO6; obtain ⟨A6, n6, c6, rfl⟩ := own_shape hO6; have b6 := own_past (bt Z5.out.2 (ba w5 (.cells #[.int .i64 id, .int .i64 q, .int .i64 0] 49))) hg6 Z5.out.1; obtain ⟨d0, d1, dl, df⟩ := (H.out.2.1.later b6).cells; have Z6 := Lib.hid (And.intro hO6 b6); clear hO6 hg6 b6))
        go_ret
        obtain ⟨r1, r2⟩ := H.out.2.2.2.2.2.1 _ _ _ _ H.out.2.2.2.2.2.2.2 (H.out.2.1.later Z6.out.2) Z6.out.1
        refine ⟨0, _, _, ⟨rfl, H.out.2.2.1, ?_⟩, (ChR.later H.out.2.2.2.2.2.2.2 Z6.out.2).trans r2⟩
        rw [H.out.2.2.2.2.1, H.out.2.2.2.1, z1, Bool.or_false]
        exact ⟨_, r1⟩
    · have hR : AddR L fr id q 11 L fr := Or.inr (Or.inl ⟨by omega, by omega, List.mem_map.2 ⟨_, List.getElem_mem hk, hid⟩, rfl, rfl, rfl⟩)
      rw [hi] at cF
      have H := Lib.hid (And.intro cF (And.intro h0 (And.intro hR (RmAt.low' h)))); clear cF h h0 hR hi hn hq
      have hk0 : (0 : Int) ≤ (k : Int) := by omega
      go_enter Try.func12, Try.ntmps12
      go_wp2_with (go_at_call 25; ((with_reducible refine (H.out.1).mono ?_); rintro e w1 ⟨rfl, b1⟩; have K := Lib.hid b1; clear b1))
      go_ret
      exact ⟨11, _, _, ⟨rfl, H.out.2.2.1, H.out.2.1.later K.out⟩, ChR.later H.out.2.2.2 K.out⟩
end Go.Proofs.Ytckpecddglfjkaa
