/- The document's own round: Drop. -/
import Derived.Test.YtckpecddglfjkaaDrS
namespace Go.Proofs.Ytckpecddglfjkaa
open Go.ChangeShapes Go.WideShapes Go.ChangeAt Go.RowKit
open Dr
set_option linter.unusedVariables false
set_option linter.unusedSimpArgs false

theorem undG : Try.prog.underlying 27 = some (.slice (Try.prog.elem 27)) := by kernel_rfl
theorem szG : ∀ W, (sizeOf (Try.prog.elem 27)).run Try.prog W = .ok 3 W := fun W => by kernel_rfl
/-- A new row is stored. -/
theorem RmAt.rowto {W : World} {B N m : Nat} {v v' : Value} {M M' : List Gl} {fr : Bool} (g : RmAt W B m v M fr) (hN : B ≤ N) (hO : Own W N 49 3 rowG v' M') : RmAt (W.setCell ⟨m, 0, none⟩ v') B m v' M' fr ∧ ChR B W (W.setCell ⟨m, 0, none⟩ v') := by
  have hs := g.blk.set_ 0 v'
  exact ⟨⟨g.low, by simpa using hs, (hO.lift hN).dset g.blk (by decide) 0 v'⟩, ⟨(Below.refl _ _).setCell (p := ⟨m, 0, none⟩) g.low _, Frm.set1 g.blk 0 _⟩⟩
def RDropP (B m : Nat) (L : List Fl) (fr : Bool) (id : Int) (w : World) (e : Ending) (w' : World) : Prop :=
  ∃ ok L' fr', (e = .returned (.bool ok) ∧ DropR L fr id ok L' fr' ∧ RmS w' B m (L'.map gl) fr') ∧ ChR B w w'
theorem map_erase (L : List Fl) (k : Nat) (hk : k < L.length) (id : Int) (he : (L[k]'hk).1 = id) (hn : (L.map (·.1)).Nodup) : (L.map gl).take k ++ (L.map gl).drop (k + 1) = (L.filter (keepP id)).map gl := by
  rw [filt_one id L k hk he (ids_apart hn hk he), List.eraseIdx_eq_take_drop_succ, List.map_append, List.map_take, List.map_drop]
theorem head_front (L : List Fl) (k : Nat) (hk : k < L.length) (id : Int) (he : (L[k]'hk).1 = id) (hn : (L.map (·.1)).Nodup) : ((L.map (·.1)).head? == some id) = decide (0 = k) := by
  have h0 : 0 < L.length := by omega
  have := rot_front L 0 k h0 hk id he hn
  have e : rot L 0 = L := by unfold rot; simp
  rwa [e] at this
set_option maxHeartbeats 2000000 in
theorem rDrop_any (B m : Nat) (L : List Fl) (fr : Bool) (id : Int) (w : World) (h : RmS w B m (L.map gl) fr) (hS : OkS L fr) :
    Calls Try.prog 14 #[.pointer (some ⟨m, 0, none⟩), .int .i64 id] w (RDropP B m L fr id w) := by
  obtain ⟨i0, hi, hz0, hz1, hz2⟩ := info_parts (P := Try.prog) (e := 49) (z := .agg #[.int .i64 0, .int .i64 0, .int .i64 0]) (size := 3) (bytes := 24) (by kernel_rfl)
  have h0 := h
  obtain ⟨v, h⟩ := h
  have cF := rfind_any B m (L.map gl) fr id w h0
  rw [idxG_gl] at cF
  have hlen := hS.2.2.2
  have hnd := hS.2.2.1
  rcases idx_cases L id with ⟨hi', hno⟩ | ⟨k, hk, hi', he, _⟩
  · have hR : DropR L fr id false L fr := Or.inl ⟨hno, rfl, rfl, rfl⟩
    rw [hi'] at cF
    have H := Lib.hid (And.intro cF (And.intro h0 (And.intro hR h.low'))); clear cF h h0 hR hi' hno hlen hnd hS
    go_enter Try.func14, Try.ntmps14
    go_wp2_with (go_at_call 25; ((with_reducible refine (H.out.1).mono ?_); rintro e w1 ⟨rfl, b1⟩; have K := Lib.hid b1; clear b1))
    go_ret
    exact ⟨false, _, _, ⟨rfl, H.out.2.2.1, H.out.2.1.later K.out⟩, ChR.later H.out.2.2.2 K.out⟩
  · rw [hi'] at cF
    have hin : id ∈ L.map (·.1) := by rw [← he]; exact List.mem_map.2 ⟨_, List.getElem_mem hk, rfl⟩
    have her := map_erase L k hk id he hnd
    have hfront := head_front L k hk id he hnd
    obtain ⟨A, c, rfl, _, a1, a2⟩ := h.row.shape
    obtain ⟨n, hn⟩ : ∃ n, n = (L.map gl).length := ⟨_, rfl⟩
    rw [← hn] at h
    have hnL : n = L.length := by rw [hn, List.length_map]
    have hkn : k < n := by omega
    have hn1 : n ≤ 1000 := by omega
    have hw1 : IntKind.i64.wrap ((k : Int) + 1) = (k : Int) + 1 := IntWalk.i64_in _ (by omega)
    obtain ⟨m2, hm2⟩ : ∃ m2, m2 = n - (k + 1) := ⟨_, rfl⟩
    have hl1 : ((L.map gl).take k).length = k := by rw [List.length_take]; omega
    have hl2 : ((L.map gl).drop (k + 1)).length = m2 := by rw [List.length_drop]; omega
    have hge : ¬ (k : Int) < 0 := by omega
    have hged : decide ((k : Int) < 0) = false := decide_eq_false hge
    have hm16 : m2 ≤ 1000 := by omega
    have hatW : ∀ W, RmAt W B m (.slice A n c) (L.map gl) fr ∨ RmAt W B m (.slice A n c) (L.map gl) true → At W 3 rowG (.slice A n c) (L.map gl) := fun W hr => by
      rcases hr with hr | hr
      · exact Own.at_ (f := rowG) (k := 3) (fun _ => rfl) hr.row
      · exact Own.at_ (f := rowG) (k := 3) (fun _ => rfl) hr.row
    have HN := Lib.hid hn; clear hn
    have HM := Lib.hid hm2; clear hm2
    have H := Lib.hid (And.intro cF (And.intro h (And.intro hin (And.intro her (And.intro hl1 (And.intro hl2 (And.intro hfront h.low')))))))
    clear cF h h0 hin her hl1 hl2 hfront hnL hi' he hnd hS hlen a1 a2
    rcases Nat.eq_zero_or_pos k with hk0 | hk0
    · have ke : ((k : Int) == 0) = true := by rw [hk0]; rfl
      have hd : decide (0 = k) = true := by rw [hk0]; rfl
      clear hk0
      go_enter Try.func14, Try.ntmps14
      go_wp2_with fail
      go_at_call 25
      (with_reducible refine (H.out.1).mono ?_)
      rintro e w1 ⟨rfl, b1⟩
      obtain ⟨d0, d1, dl, df⟩ := (H.out.2.1.later b1).cells
      obtain ⟨r2, k2⟩ := (H.out.2.1.later b1).fresh true
      go_upto_region 6 with fail
      have k3 := (ChR.later H.out.2.2.2.2.2.2.2 b1).trans k2
      clear d0 d1 dl df b1 k2
      generalize w1.setCell ⟨m, 1, none⟩ (.bool true) = W at *
      have hat := hatW W (Or.inr r2)
      obtain ⟨A1, c1, hr1, hat1⟩ := At.upto (P := Try.prog) undG szG hat k (by rw [← HN.out]; omega)
      obtain ⟨A2, c3, hr2, hat2⟩ := At.from_ (P := Try.prog) undG szG hat (k + 1) (by rw [← HN.out]; omega)
      simp only [Int.natCast_add, Int.natCast_one] at hr2
      rw [← HN.out, ← HM.out] at hr2 hat2
      clear hatW hat
      obtain ⟨d0, d1, dl, df⟩ := r2.cells
      have KM := Lib.hid (And.intro hat1 (And.intro hat2 (And.intro r2 k3))); clear hat1 hat2 r2 k3
      go_region_law (first
        | (refine step_append_at rfl (.tmp 23) (.tmp 30) 27 rfl W.heap.size 49 i0 (.agg #[.int .i64 0, .int .i64 0, .int .i64 0]) 3 24 Try.underlying27 hi hz0 hz1 hz2 rfl (by decide) (f := rowG) (fun _ => rfl) one_rowG _ ((L.map gl).take k) rfl hO6 A2 m2 c3 ((L.map gl).drop (k + 1)) H.out.2.2.2.2.2.1.symm rfl (KM.out.2.1.later b6) (by have := H.out.2.2.2.2.1; unfold maxLen; omega) (by have := H.out.2.2.2.2.1; omega) b6.size ?_; intro v7 w7 hO7 hg7; have b7 := own_past b6 hg7 hO6; obtain ⟨A7, n7, c7, rfl⟩ := own_shape hO7; have y2 : w7.cell? ⟨m, 0, none⟩ = some (.slice A n c) := (by rw [b7.cell dl]; exact d0); have yl : m < w7.heap.size := Nat.lt_of_lt_of_le dl b7.size; have yf : w7.frozen? ⟨m, 0, none⟩ = false := (by rw [b7.frozen dl]; exact df 0); have K7 := Lib.hid (And.intro hO7 b7); clear hg7 hO7 b7)
        | (refine step_append_at rfl (.const (.slice none 0 0)) (.tmp 22) 27 rfl W.heap.size 49 i0 (.agg #[.int .i64 0, .int .i64 0, .int .i64 0]) 3 24 Try.underlying27 hi hz0 hz1 hz2 rfl (by decide) (f := rowG) (fun _ => rfl) one_rowG _ [] rfl (Own.nil _ _ _ _ _) A1 k c1 ((L.map gl).take k) H.out.2.2.2.2.1.symm rfl (KM.out.1.later (by first | exact below_drew (Below.refl _ _) | exact Below.refl _ _)) (by unfold maxLen; simp only [List.length_nil]; omega) (by simp only [List.length_nil]; omega) (Nat.le_refl _) ?_; intro v5 w6 hO6 hg6; rw [List.nil_append] at hO6; have b6 : Below W.heap.size W w6 := own_past (w1 := W.drew) (by first | exact below_drew (Below.refl _ _) | exact Below.refl _ _) hg6 (Own.nil W _ 49 3 rowG); obtain ⟨A5, n5, c5, rfl⟩ := own_shape hO6; have x2 : w6.cell? ⟨m, 0, none⟩ = some (.slice A n c) := (by rw [b6.cell dl]; exact d0); clear hg6))
      all_goals go_wp2
      all_goals go_ret
      all_goals
        obtain ⟨s1, s2⟩ := (KM.out.2.2.1.later K7.out.2).rowto KM.out.2.2.1.low' K7.out.1
        rw [H.out.2.2.2.1] at s1
        exact ⟨true, _, _, ⟨rfl, Or.inr ⟨H.out.2.2.1, rfl, rfl, rfl⟩, ⟨_, by rw [H.out.2.2.2.2.2.2.1, hd, Bool.or_true]; exact s1⟩⟩, (KM.out.2.2.2.trans (ChR.later KM.out.2.2.1.low' K7.out.2)).trans s2⟩

    · have ke : ((k : Int) == 0) = false := by rw [beq_eq_false_iff_ne]; omega
      have ke2 : ¬ (k : Int) = 0 := by omega
      have hd : decide (0 = k) = false := by rw [decide_eq_false_iff_not]; omega
      clear hk0
      go_enter Try.func14, Try.ntmps14
      go_wp2_with fail
      go_at_call 25
      (with_reducible refine (H.out.1).mono ?_)
      rintro e w1 ⟨rfl, b1⟩
      have r2 := H.out.2.1.later b1
      go_upto_region 6 with fail
      have k3 := ChR.later H.out.2.2.2.2.2.2.2 b1
      clear b1
      generalize w1 = W at *
      have hat := hatW W (Or.inl r2)
      obtain ⟨A1, c1, hr1, hat1⟩ := At.upto (P := Try.prog) undG szG hat k (by rw [← HN.out]; omega)
      obtain ⟨A2, c3, hr2, hat2⟩ := At.from_ (P := Try.prog) undG szG hat (k + 1) (by rw [← HN.out]; omega)
      simp only [Int.natCast_add, Int.natCast_one] at hr2
      rw [← HN.out, ← HM.out] at hr2 hat2
      clear hatW hat
      obtain ⟨d0, d1, dl, df⟩ := r2.cells
      have KM := Lib.hid (And.intro hat1 (And.intro hat2 (And.intro r2 k3))); clear hat1 hat2 r2 k3
      go_region_law (first
        | (refine step_append_at rfl (.tmp 23) (.tmp 30) 27 rfl W.heap.size 49 i0 (.agg #[.int .i64 0, .int .i64 0, .int .i64 0]) 3 24 Try.underlying27 hi hz0 hz1 hz2 rfl (by decide) (f := rowG) (fun _ => rfl) one_rowG _ ((L.map gl).take k) rfl hO6 A2 m2 c3 ((L.map gl).drop (k + 1)) H.out.2.2.2.2.2.1.symm rfl (KM.out.2.1.later b6) (by have := H.out.2.2.2.2.1; unfold maxLen; omega) (by have := H.out.2.2.2.2.1; omega) b6.size ?_; intro v7 w7 hO7 hg7; have b7 := own_past b6 hg7 hO6; obtain ⟨A7, n7, c7, rfl⟩ := own_shape hO7; have y2 : w7.cell? ⟨m, 0, none⟩ = some (.slice A n c) := (by rw [b7.cell dl]; exact d0); have yl : m < w7.heap.size := Nat.lt_of_lt_of_le dl b7.size; have yf : w7.frozen? ⟨m, 0, none⟩ = false := (by rw [b7.frozen dl]; exact df 0); have K7 := Lib.hid (And.intro hO7 b7); clear hg7 hO7 b7)
        | (refine step_append_at rfl (.const (.slice none 0 0)) (.tmp 22) 27 rfl W.heap.size 49 i0 (.agg #[.int .i64 0, .int .i64 0, .int .i64 0]) 3 24 Try.underlying27 hi hz0 hz1 hz2 rfl (by decide) (f := rowG) (fun _ => rfl) one_rowG _ [] rfl (Own.nil _ _ _ _ _) A1 k c1 ((L.map gl).take k) H.out.2.2.2.2.1.symm rfl (KM.out.1.later (by first | exact below_drew (Below.refl _ _) | exact Below.refl _ _)) (by unfold maxLen; simp only [List.length_nil]; omega) (by simp only [List.length_nil]; omega) (Nat.le_refl _) ?_; intro v5 w6 hO6 hg6; rw [List.nil_append] at hO6; have b6 : Below W.heap.size W w6 := own_past (w1 := W.drew) (by first | exact below_drew (Below.refl _ _) | exact Below.refl _ _) hg6 (Own.nil W _ 49 3 rowG); obtain ⟨A5, n5, c5, rfl⟩ := own_shape hO6; have x2 : w6.cell? ⟨m, 0, none⟩ = some (.slice A n c) := (by rw [b6.cell dl]; exact d0); clear hg6))
      all_goals go_wp2
      all_goals go_ret
      all_goals
        obtain ⟨s1, s2⟩ := (KM.out.2.2.1.later K7.out.2).rowto KM.out.2.2.1.low' K7.out.1
        rw [H.out.2.2.2.1] at s1
        exact ⟨true, _, _, ⟨rfl, Or.inr ⟨H.out.2.2.1, rfl, rfl, rfl⟩, ⟨_, by rw [H.out.2.2.2.2.2.2.1, hd, Bool.or_false]; exact s1⟩⟩, (KM.out.2.2.2.trans (ChR.later KM.out.2.2.1.low' K7.out.2)).trans s2⟩

end Go.Proofs.Ytckpecddglfjkaa
