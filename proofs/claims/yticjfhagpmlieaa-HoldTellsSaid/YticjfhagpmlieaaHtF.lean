/- The document's own hold: Due. -/
import Derived.Test.YticjfhagpmlieaaHtE
import Derived.Test.YticjfhagpmlieaaAppLoc
namespace Go.Proofs.Yticjfhagpmlieaa
open Go.ChangeShapes Go.WideShapes Go.ChangeAt Go.RowKit
open Ho
set_option linter.unusedVariables false
set_option linter.unusedSimpArgs false

theorem at_new (w : World) (t : TypeId) (u : Int) (s : SV) (x : Int) (p : List (List Int)) : At (w.alloc (.cells #[.int .i64 u, sl s, .int .i64 x] t)) 3 rowW (.slice (some ⟨w.heap.size, 0, none⟩) 1 1) [((u, p, x), s)] := by
  refine ⟨some ⟨w.heap.size, 0, none⟩, 1, rfl, by simp, by unfold maxLen; omega, fun h => by simp at h, fun b hb j hj i v hv => ?_⟩
  obtain rfl : (⟨w.heap.size, 0, none⟩ : Addr) = b := by simpa using hb
  have hj0 : j = 0 := by simpa using hj
  subst hj0
  simp only [List.getElem_cons_zero] at hv
  rw [Nat.zero_mul, Nat.zero_add]
  exact new_cells rfl t _ i v hv
def isDue (now : Int) (y : Wy) : Bool := decide (y.1.1 < now)
def notDue (now : Int) (y : Wy) : Bool := !decide (y.1.1 < now)
theorem filt_snoc (p : Wy → Bool) (l : List Wy) (k : Nat) (hk : k < l.length) : (l.take (k + 1)).filter p = if p (l[k]'hk) then (l.take k).filter p ++ [l[k]'hk] else (l.take k).filter p := by
  rw [List.take_succ_eq_append_getElem hk, List.filter_append]
  by_cases h : p (l[k]'hk) = true
  · simp [h]
  · simp [h]
set_option maxHeartbeats 2000000 in
theorem rhDue_any (w0 : World) (m : Nat) (T : List D) (now : Int) (w : World) (h : RhS w0 w m T) (hn : T.length < 1000) :
    Calls Try.prog 18 #[.pointer (some ⟨m, 0, none⟩), .int .i64 now] w (RFirstP w0 m (T.filter fun t => decide (t.1 < now)) (T.filter fun t => !decide (t.1 < now)) w) := by
  obtain ⟨j0, hj, hy0, hy1, hy2⟩ := info_parts (P := Try.prog) (e := 38) (z := .agg #[.int .i64 0, .slice none 0 0, .int .i64 0]) (size := 3) (bytes := 40) (by kernel_rfl)
  obtain ⟨v, l, h, rfl⟩ := h
  rw [List.length_map] at hn
  obtain ⟨A, c, rfl, _, a1, a2⟩ := h.row.shape
  obtain ⟨n, hnn⟩ : ∃ n, n = l.length := ⟨_, rfl⟩
  rw [← hnn] at h hn
  have H := Lib.hid (And.intro h hnn); clear h hnn a1 a2
  go_enter Try.func18, Try.ntmps18
  go_wp2
  go_loopw [5, 6, 7] (fun dv kv iv wr => ∃ k : Nat, k ≤ n ∧ iv = .int .i64 k ∧ Own wr w.heap.size 38 3 rowW dv ((l.take k).filter (isDue now)) ∧ Own wr w.heap.size 38 3 rowW kv ((l.take k).filter (notDue now)) ∧ (∀ b, dv.ownBlock = some b → kv.ownBlock ≠ some b) ∧ Below w.heap.size w wr) (fun _ _ i _ => n - (intOf i).toNat)
  case atStart => exact ⟨0, Nat.zero_le _, rfl, Own.nil _ _ _ _ _, Own.nil _ _ _ _ _, fun b hb => by simp [Value.ownBlock] at hb, Below.refl _ _⟩
  case round =>
    rename World => wr0
    obtain ⟨k, hk, rfl, hD, hK, hap, hbw⟩ := hrel
    have hr := H.out.1.later hbw
    obtain ⟨d0, dl, df⟩ := hr.cells
    obtain ⟨dA, dn, dc, rfl⟩ := own_shape hD
    obtain ⟨kA, kn, kc', rfl⟩ := own_shape hK
    by_cases hlt : k < n
    · have hkl : k < l.length := by have := H.out.2; omega
      obtain ⟨a, rfl, e0, e1, e2⟩ := hr.wait k hkl
      have fd := filt_snoc (isDue now) l k hkl
      have fk := filt_snoc (notDue now) l k hkl
      have hld : ((l.take k).filter (isDue now)).length ≤ 1000 := Nat.le_trans (List.length_filter_le _ _) (by rw [List.length_take]; omega)
      have hlk : ((l.take k).filter (notDue now)).length ≤ 1000 := Nat.le_trans (List.length_filter_le _ _) (by rw [List.length_take]; omega)
      generalize l[k]'hkl = y at *
      obtain ⟨⟨yu, yp, yx⟩, ys⟩ := y
      simp only at e0 e1 e2
      have hlt2 : (k : Int) < (n : Int) := by omega
      by_cases hu : yu < now
      · rw [if_pos (by unfold isDue; simpa using hu)] at fd
        rw [if_neg (by unfold notDue; simpa using hu)] at fk
        have K := Lib.hid (And.intro hD (And.intro hK (And.intro hap (And.intro hbw (And.intro fd fk))))); clear hD hK hap hbw fd fk hr
        have hB1 := at_new wr0 38 yu ys yx yp
        go_wp2_with (at_builtin; refine wpList_append_loc _ rfl (.tmp 27) (.tmp 35) 27 rfl w.heap.size 38 j0 (.agg #[.int .i64 0, .slice none 0 0, .int .i64 0]) 3 40 Try.underlying27 hj hy0 hy1 hy2 rfl (by decide) (f := rowW) (fun _ => rfl) one_rowW _ ((l.take k).filter (isDue now)) rfl (K.out.1.later (ba _ _)) (some ⟨wr0.heap.size, 0, none⟩) 1 1 [((yu, yp, yx), ys)] rfl rfl hB1 (by unfold maxLen; omega) (by omega) (by have := K.out.2.2.2.1.size; simp only [World.size_alloc]; omega) ?_; intro v5 w5 hO5 hg5 hq5; have Z := Lib.hid (And.intro hO5 (And.intro hg5 hq5)); clear hO5 hg5 hq5)
        go_roundw
        case rel =>
          have hK5 := ((K.out.2.1.later (ba wr0 (.cells #[.int .i64 yu, sl ys, .int .i64 yx] 38))).grown Z.out.2.1 (fun b hb he => K.out.2.2.1 b hb he))
          refine ⟨k + 1, by omega, by go_num, by rw [K.out.2.2.2.2.1]; exact Z.out.1, by rw [K.out.2.2.2.2.2]; exact hK5, fun b hb hk2 => ?_, own_past (bt K.out.2.2.2.1 (ba _ _)) Z.out.2.1 K.out.1⟩
          rcases Z.out.2.2 b hb with h1 | h1
          · exact K.out.2.2.1 b h1 hk2
          · have := (K.out.2.1.block hk2).2
            obtain ⟨cs, hcs⟩ := this
            have := (Array.getElem?_eq_some_iff.1 hcs).1
            simp only [World.size_alloc] at h1
            omega
        case measure => simp [intOf]; omega
      · rw [if_neg (by unfold isDue; simpa using hu)] at fd
        rw [if_pos (by unfold notDue; simpa using hu)] at fk
        have K := Lib.hid (And.intro hD (And.intro hK (And.intro hap (And.intro hbw (And.intro fd fk))))); clear hD hK hap hbw fd fk hr
        have hB1 := at_new wr0 38 yu ys yx yp
        go_wp2_with (at_builtin; refine wpList_append_loc _ rfl (.tmp 37) (.tmp 45) 27 rfl w.heap.size 38 j0 (.agg #[.int .i64 0, .slice none 0 0, .int .i64 0]) 3 40 Try.underlying27 hj hy0 hy1 hy2 rfl (by decide) (f := rowW) (fun _ => rfl) one_rowW _ ((l.take k).filter (notDue now)) rfl (K.out.2.1.later (ba _ _)) (some ⟨wr0.heap.size, 0, none⟩) 1 1 [((yu, yp, yx), ys)] rfl rfl hB1 (by unfold maxLen; omega) (by omega) (by have := K.out.2.2.2.1.size; simp only [World.size_alloc]; omega) ?_; intro v5 w5 hO5 hg5 hq5; have Z := Lib.hid (And.intro hO5 (And.intro hg5 hq5)); clear hO5 hg5 hq5)
        go_roundw
        case rel =>
          have hD5 := ((K.out.1.later (ba wr0 (.cells #[.int .i64 yu, sl ys, .int .i64 yx] 38))).grown Z.out.2.1 (fun b hb he => K.out.2.2.1 b he hb))
          refine ⟨k + 1, by omega, by go_num, by rw [K.out.2.2.2.2.1]; exact hD5, by rw [K.out.2.2.2.2.2]; exact Z.out.1, fun b hb hk2 => ?_, own_past (bt K.out.2.2.2.1 (ba _ _)) Z.out.2.1 K.out.2.1⟩
          rcases Z.out.2.2 b hk2 with h1 | h1
          · exact K.out.2.2.1 b hb h1
          · have := (K.out.1.block hb).2
            obtain ⟨cs, hcs⟩ := this
            have := (Array.getElem?_eq_some_iff.1 hcs).1
            simp only [World.size_alloc] at h1
            omega
        case measure => simp [intOf]; omega
    · obtain rfl : k = n := by omega
      rw [H.out.2, List.take_length] at hD hK
      obtain ⟨s1, s2⟩ := hr.rowto H.out.1.low' hK (fun y hy => hr.pts y ((List.mem_filter.1 hy).1))
      have hD1 := hD.dset hr.blk (by decide) 0 (.slice kA kn kc')
      have K := Lib.hid (And.intro s1 (And.intro s2 (And.intro hD1 hbw))); clear s1 s2 hD1 hD hK hap hbw hr
      go_wp2
      go_ret
      refine ⟨_, l.filter (isDue now), ⟨rfl, Own.at_ (f := rowW) (k := 3) (fun _ => rfl) K.out.2.2.1, ?_, fun y hy => H.out.1.pts y ((List.mem_filter.1 hy).1), ⟨_, _, K.out.1, ?_⟩⟩, (ChQ.later H.out.1.low' K.out.2.2.2).trans K.out.2.1⟩
      · rw [List.filter_map]; rfl
      · rw [List.filter_map]; rfl
end Go.Proofs.Yticjfhagpmlieaa
