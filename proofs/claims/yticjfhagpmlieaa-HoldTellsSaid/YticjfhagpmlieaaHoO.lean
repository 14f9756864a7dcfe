/- Waits that are held: Due, All. -/
import Derived.Test.YticjfhagpmlieaaHoN
namespace Go.Proofs.Yticjfhagpmlieaa
open Go.ChangeShapes Go.WideShapes Go.ChangeAt Go.RowKit
open Ho
set_option linter.unusedVariables false
set_option linter.unusedSimpArgs false

set_option maxHeartbeats 1000000 in
theorem All_any (X : Nat → Prop) (B d : Nat) (T : List D) (w : World) (h : HX X w B d T) :
    Calls Try.prog 19 #[.pointer (some ⟨d, 0, none⟩)] w (FirstP X B d T [] w) := by
  have cF := first_any X B d T T.length (Nat.le_refl _) w h
  rw [List.take_length, List.drop_length] at cF
  obtain ⟨v, l, h1, rfl, h3, h4, h5, h6, h7⟩ := h
  obtain ⟨A, c, rfl, ha0, ha1, ha2⟩ := h1.row.shape
  obtain ⟨d0, dl, df⟩ := h1.cells
  rw [List.length_map] at cF
  have H := Lib.hid cF; clear cF h1 h3 h4 h5 h6 h7
  go_enter Try.func19, Try.ntmps19
  go_wp2_with (go_at_call 35; (refine (H.out).mono ?_); rintro e w1 ⟨v1, ⟨rfl, hO, hX⟩, hc⟩; have Z := Lib.hid (And.intro hO (And.intro hX hc)); clear hO hX hc)
  go_ret
  exact ⟨_, ⟨rfl, Z.out.1, Z.out.2.1⟩, Z.out.2.2⟩
set_option maxHeartbeats 1000000 in
theorem Due_any (X : Nat → Prop) (B d : Nat) (T : List D) (now : Int) (w : World) (h : HX X w B d T) :
    Calls Try.prog 16 #[.pointer (some ⟨d, 0, none⟩), .int .i64 now] w (FirstP X B d (T.take (dpos now T)) (T.drop (dpos now T)) w) := by
  have hx := h
  obtain ⟨v, l, h1, rfl, h3, h4, h5, h6, h7⟩ := h
  obtain ⟨A, c, rfl, ha0, ha1, ha2⟩ := h1.row.shape
  rw [List.length_map] at h4
  have hlm : (l.length : Int) ≤ 9223372036854775807 := by omega
  obtain ⟨W0, hW0⟩ : ∃ W0, W0 = (w.alloc (.cells #[.pointer (some ⟨d, 0, none⟩)] 24)).alloc (.cells #[.int .i64 now] 2) := ⟨_, rfl⟩
  have hb0 : Below w.heap.size w W0 := by rw [hW0]; exact bt (ba w _) (ba _ _)
  have hBh : Blk W0 w.heap.size 24 #[.pointer (some ⟨d, 0, none⟩)] := by rw [hW0]; exact (Blk.new _ _ _).alloc _
  have hBw : Blk W0 (w.heap.size + 1) 2 #[.int .i64 now] := by rw [hW0]; have := Blk.new (w.alloc (.cells #[.pointer (some ⟨d, 0, none⟩)] 24)) 2 #[.int .i64 now]; rwa [World.size_alloc] at this
  have cS : ∀ W, Below W0.heap.size W0 W → Calls Try.prog 27 #[.int .i64 (l.length : Int), .func (.func 36) #[] #[.pointer (some ⟨w.heap.size, 0, none⟩), .pointer (some ⟨w.heap.size + 1, 0, none⟩)]] W (SearchP l.length (fun k => if h : k < l.length then decide (now ≤ (l[k]'h).1.1) else true) W) := fun W hW =>
    searchD_any l.length _ ⟨w.heap.size, 0, none⟩ ⟨w.heap.size + 1, 0, none⟩ W (by omega) (fun i j hij hj hi => by
      have hi' : i < l.length := by omega
      simp only [hi', hj, dif_pos] at hi ⊢
      have := dpos_mono h3 now (i := i) (j := j) (by simpa using hi') (by simpa using hj) hij (by simpa using hi)
      simpa using this) (fun W' k hW' hk => by
      have hh := ((h1.later hb0).later hW).later hW'
      have := dueClo_any B d w.heap.size (w.heap.size + 1) _ l now k W' hh hk (by omega) (((hBh.later hW).later hW').cell 0) (((hBw.later hW).later hW').cell 0)
      simpa only [hk, dif_pos] using this)
  have cF : ∀ W (m : Nat), Below w.heap.size w W → m ≤ l.length → Calls Try.prog 35 #[.pointer (some ⟨d, 0, none⟩), .int .i64 (m : Int)] W (FirstP X B d ((l.map (·.1)).take m) ((l.map (·.1)).drop m) W) := fun W m hW hm => first_any X B d _ m (by simpa using hm) W (hx.later hW)
  have hF : ∀ W, Below W0.heap.size W0 W → W.cell? ⟨d, 0, none⟩ = some (.slice A l.length c) ∧ W.cell? ⟨w.heap.size, 0, none⟩ = some (.pointer (some ⟨d, 0, none⟩)) := fun W hW => ⟨((h1.later hb0).later hW).cells.1, (hBh.later hW).cell 0⟩
  have H := Lib.hid (And.intro cS (And.intro cF (And.intro hb0 (And.intro hF hx)))); clear cS cF hx h1 h3 h4 h5 h6 h7 hBh hBw hF hb0
  obtain ⟨d0, p0⟩ := H.out.2.2.2.1 W0 (Below.refl _ _)
  rw [hW0] at d0 p0
  go_enter Try.func16, Try.ntmps16
  go_wp2_with fail
  go_region_law (first
    | (go_simp; go_at_call 27; rw [← hW0]; (refine (H.out.1 _ (below_drew (Below.refl _ _))).mono ?_); rintro e w1 ⟨m, ⟨rfl, hm, hm0, hm1⟩, b1⟩; have K := Lib.hid (And.intro hm (And.intro hm0 (And.intro hm1 (bt (below_drew (Below.refl _ W0)) b1)))); clear hm hm0 hm1 b1; obtain ⟨d0, p0⟩ := H.out.2.2.2.1 w1 K.out.2.2.2)
    | (go_simp; go_at_call 35; (refine (H.out.2.1 _ m (bt H.out.2.2.1 K.out.2.2.2) K.out.1).mono ?_); rintro e w2 ⟨v2, ⟨rfl, hO, hX⟩, hc⟩; have Z := Lib.hid (And.intro hO (And.intro hX hc)); clear hO hX hc))
  all_goals go_wp2
  all_goals go_ret
  all_goals
    have hdp : dpos now (l.map (·.1)) = m := searchL l (fun e => decide (now ≤ e.1)) m K.out.1 K.out.2.1 K.out.2.2.1
    rw [hdp]
    obtain ⟨l', o1, o2, o3⟩ := Z.out.1
    have hb := bt H.out.2.2.1 K.out.2.2.2
    exact ⟨_, ⟨rfl, ⟨l', o1.lift hb.size, o2, o3⟩, Z.out.2.1⟩, (H.out.2.2.2.2.hc hb).trans Z.out.2.2⟩
end Go.Proofs.Yticjfhagpmlieaa
