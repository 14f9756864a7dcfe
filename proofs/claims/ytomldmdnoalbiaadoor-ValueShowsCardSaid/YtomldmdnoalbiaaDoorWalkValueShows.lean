/- ValueShows: the walk. -/
import Derived.Test.YtomldmdnoalbiaaDoorEx02
import Derived.Test.YtomldmdnoalbiaaDoorNum23
namespace Go.Proofs.YtomldmdnoalbiaaDoor
open Go.ChangeShapes Go.WideShapes Go.ChangeAt Go.RowKit
set_option linter.unusedVariables false
set_option linter.unusedSimpArgs false

/-- What is shown, as a text that is a variable. -/
theorem Show_text (k n : Int) (s : ByteArray) (w : World) (hs : s.size ≤ 64) (n0 : -9223372036854775808 ≤ n) (n1 : n ≤ 9223372036854775807) (ht : Tab w) (X : ByteArray) (hX : X = ⟨(Val.showL k n s).toArray⟩) :
    Calls Tryd.prog 20 #[vv k n s] w fun e w' => e = .returned (.string X) ∧ Below w.heap.size w w' :=
  (Show_v _ _ _ w (by unfold maxLen; omega) n0 n1 ht).mono fun _ _ ⟨he, hw⟩ => ⟨by rw [he, hX], hw⟩

theorem shows_way {k a : Int} {A : ByteArray} {l b : Int} {B : ByteArray} (r1 : Val.right k a A = true) (r2 : Val.right l b B = true) {X Y : ByteArray} (hX : X = ⟨(Val.showL k a A).toArray⟩) (hY : Y = ⟨(Val.showL l b B).toArray⟩) :
    ((k = l ∧ a = b ∧ A = B ∧ X = Y) ∨ (¬ X.toList = Y.toList ∧ (¬ k = l ∨ ¬ a = b ∨ ¬ A.toList = B.toList))) ∧ ¬ X.toList = [63] ∧ (k = 3 → X.size = A.size + 2) := by
  have lX : X.toList = Val.showL k a A := by rw [Lib.toList_data, hX]
  have lY : Y.toList = Val.showL l b B := by rw [Lib.toList_data, hY]
  refine ⟨?_, by rw [lX]; exact show_ne_q r1, ?_⟩
  · by_cases h : k = l ∧ a = b ∧ A = B
    · obtain ⟨rfl, rfl, rfl⟩ := h
      exact Or.inl ⟨rfl, rfl, rfl, by rw [hX, hY]⟩
    · right
      refine ⟨fun h2 => h ?_, ?_⟩
      · rw [lX, lY] at h2; exact show_inj r1 r2 h2
      · rcases Classical.em (k = l) with h1 | h1
        · rcases Classical.em (a = b) with h2 | h2
          · right; right; exact fun h3 => h ⟨h1, h2, toList_inj h3⟩
          · right; left; exact h2
        · left; exact h1
  · intro h; subst h
    rw [hX, Val.show_text r1]
    show (39 :: (A.data.toList ++ [39])).length = _
    simp

set_option maxHeartbeats 2000000 in
theorem walk_ValueShows (c n : Int) (s : ByteArray) (d m : Int) (t : ByteArray) (same : Bool) (c0 : 0 ≤ c) (c1 : c ≤ 255) (n0 : -9223372036854775808 ≤ n) (n1 : n ≤ 9223372036854775807) (hs : s.size ≤ 140737488351232)
    (d0 : 0 ≤ d) (d1 : d ≤ 255) (m0 : -9223372036854775808 ≤ m) (m1 : m ≤ 9223372036854775807) (ht : t.size ≤ 140737488351232) (w : World) (hT : Tab w) :
    Calls Tryd.prog 7 #[.int .u8 c, .int .i64 n, .string s, .int .u8 d, .int .i64 m, .string t, .bool same] w fun e w' => e = .returned (.bool true) ∧ Below w.heap.size w w' := by
  have co1 := fun w => own_v c n s w (by unfold maxLen; omega) c0 c1 n0 n1
  have co2 := fun w => own_v d m t w (by unfold maxLen; omega) d0 d1 m0 m1
  have r1 := own_right c n s c0
  have r2 := own_right d m t d0
  have z1 := ownS_size c s
  have z2 := ownS_size d t
  have e1 := ownN_lo c n n0
  have e2 := ownN_hi c n n1
  have e3 := ownN_lo d m m0
  have e4 := ownN_hi d m m1
  generalize ownK c = k at *
  generalize ownN c n = a at *
  generalize ownS c s = A at *
  generalize ownK d = l at *
  generalize ownN d m = b at *
  generalize ownS d t = B at *
  obtain ⟨X, hX⟩ : ∃ X : ByteArray, X = ⟨(Val.showL k a A).toArray⟩ := ⟨_, rfl⟩
  obtain ⟨Y, hY⟩ : ∃ Y : ByteArray, Y = ⟨(Val.showL l b B).toArray⟩ := ⟨_, rfl⟩
  have cX := fun w ht => Show_text k a A w z1 e1 e2 ht X hX
  have cY := fun w ht => Show_text l b B w z2 e3 e4 ht Y hY
  obtain ⟨hway, hq, h3⟩ := shows_way r1 r2 hX hY
  have hqb : (X.toList == [63]) = false := by simpa using hq
  have H := Lib.hid (And.intro co1 (And.intro co2 (And.intro cX cY)))
  have HT := Lib.hid hT
  clear co1 co2 cX cY hT hX hY r1 r2
  go_enter Tryd.func7, Tryd.ntmps7
  go_wp2_with fail
  go_at_call 9
  ((with_reducible refine (examples_any _ HT.out).mono ?_); rintro e w1 ⟨rfl, b1⟩)
  go_wp2_with fail
  go_at_call 10
  ((with_reducible refine (H.out.1 _).mono ?_); rintro e w2 ⟨rfl, b2⟩)
  have B2 := bt b1 b2
  have K1 := Box3.new w2 (.int .i64 k) (.int .i64 a) (.string A) 23
  go_wp2_with fail
  go_at_call 10
  ((with_reducible refine (H.out.2.1 _).mono ?_); rintro e w3 ⟨rfl, b3⟩)
  have B3 := bt B2 (bt (ba _ _) b3)
  cases same
  · have A3 := ba w3 (.cells #[.int .i64 l, .int .i64 b, .string B] 23)
    have K2 := Box3.new w3 (.int .i64 l) (.int .i64 b) (.string B) 23
    have K := Lib.hid (And.intro ((K1.later b3).later A3) (And.intro K2 (And.intro (HT.out.later (bt B3 A3)) (bt B3 A3))))
    obtain ⟨⟨x0, x1, x2⟩, ⟨y0, y1, y2⟩, -⟩ := K.out
    clear A3 b1 b2 b3 B2 B3 K1 K2
    rcases hway with ⟨rfl, rfl, rfl, rfl⟩ | ⟨hne, hv⟩
    · by_cases hk : k = 3
      · subst hk
        have hz := h3 rfl
        clear h3
        go_wp2_with (first
          | (go_at_call 20; ((with_reducible refine (H.out.2.2.1 _ K.out.2.2.1).mono ?_); rintro e w5 ⟨rfl, b5⟩; have k0 := K.out; obtain ⟨k1, k2, kt, kb⟩ := k0; replace K := Lib.hid (And.intro (k1.later b5) (And.intro (k2.later b5) (And.intro (kt.later b5) (bt kb b5)))); obtain ⟨⟨x0, x1, x2⟩, ⟨y0, y1, y2⟩, -⟩ := K.out; clear k1 k2 kt kb b5))
          | (go_at_call 20; ((with_reducible refine (H.out.2.2.2 _ K.out.2.2.1).mono ?_); rintro e w5 ⟨rfl, b5⟩; have k0 := K.out; obtain ⟨k1, k2, kt, kb⟩ := k0; replace K := Lib.hid (And.intro (k1.later b5) (And.intro (k2.later b5) (And.intro (kt.later b5) (bt kb b5)))); obtain ⟨⟨x0, x1, x2⟩, ⟨y0, y1, y2⟩, -⟩ := K.out; clear k1 k2 kt kb b5)))
        go_ret
        exact ⟨rfl, K.out.2.2.2⟩
      · clear h3
        go_wp2_with (first
          | (go_at_call 20; ((with_reducible refine (H.out.2.2.1 _ K.out.2.2.1).mono ?_); rintro e w5 ⟨rfl, b5⟩; have k0 := K.out; obtain ⟨k1, k2, kt, kb⟩ := k0; replace K := Lib.hid (And.intro (k1.later b5) (And.intro (k2.later b5) (And.intro (kt.later b5) (bt kb b5)))); obtain ⟨⟨x0, x1, x2⟩, ⟨y0, y1, y2⟩, -⟩ := K.out; clear k1 k2 kt kb b5))
          | (go_at_call 20; ((with_reducible refine (H.out.2.2.2 _ K.out.2.2.1).mono ?_); rintro e w5 ⟨rfl, b5⟩; have k0 := K.out; obtain ⟨k1, k2, kt, kb⟩ := k0; replace K := Lib.hid (And.intro (k1.later b5) (And.intro (k2.later b5) (And.intro (kt.later b5) (bt kb b5)))); obtain ⟨⟨x0, x1, x2⟩, ⟨y0, y1, y2⟩, -⟩ := K.out; clear k1 k2 kt kb b5)))
        go_ret
        exact ⟨rfl, K.out.2.2.2⟩
    · have hnb : (X.toList == Y.toList) = false := by simpa using hne
      by_cases hk : k = 3
      · subst hk
        have hz := h3 rfl
        clear h3
        rcases hv with hv | hv | hv
        all_goals
          go_wp2_with (first
            | (go_at_call 20; ((with_reducible refine (H.out.2.2.1 _ K.out.2.2.1).mono ?_); rintro e w5 ⟨rfl, b5⟩; have k0 := K.out; obtain ⟨k1, k2, kt, kb⟩ := k0; replace K := Lib.hid (And.intro (k1.later b5) (And.intro (k2.later b5) (And.intro (kt.later b5) (bt kb b5)))); obtain ⟨⟨x0, x1, x2⟩, ⟨y0, y1, y2⟩, -⟩ := K.out; clear k1 k2 kt kb b5))
            | (go_at_call 20; ((with_reducible refine (H.out.2.2.2 _ K.out.2.2.1).mono ?_); rintro e w5 ⟨rfl, b5⟩; have k0 := K.out; obtain ⟨k1, k2, kt, kb⟩ := k0; replace K := Lib.hid (And.intro (k1.later b5) (And.intro (k2.later b5) (And.intro (kt.later b5) (bt kb b5)))); obtain ⟨⟨x0, x1, x2⟩, ⟨y0, y1, y2⟩, -⟩ := K.out; clear k1 k2 kt kb b5)))
          go_ret
          exact ⟨rfl, K.out.2.2.2⟩
      · clear h3
        rcases hv with hv | hv | hv
        all_goals
          go_wp2_with (first
            | (go_at_call 20; ((with_reducible refine (H.out.2.2.1 _ K.out.2.2.1).mono ?_); rintro e w5 ⟨rfl, b5⟩; have k0 := K.out; obtain ⟨k1, k2, kt, kb⟩ := k0; replace K := Lib.hid (And.intro (k1.later b5) (And.intro (k2.later b5) (And.intro (kt.later b5) (bt kb b5)))); obtain ⟨⟨x0, x1, x2⟩, ⟨y0, y1, y2⟩, -⟩ := K.out; clear k1 k2 kt kb b5))
            | (go_at_call 20; ((with_reducible refine (H.out.2.2.2 _ K.out.2.2.1).mono ?_); rintro e w5 ⟨rfl, b5⟩; have k0 := K.out; obtain ⟨k1, k2, kt, kb⟩ := k0; replace K := Lib.hid (And.intro (k1.later b5) (And.intro (k2.later b5) (And.intro (kt.later b5) (bt kb b5)))); obtain ⟨⟨x0, x1, x2⟩, ⟨y0, y1, y2⟩, -⟩ := K.out; clear k1 k2 kt kb b5)))
          go_ret
          exact ⟨rfl, K.out.2.2.2⟩
  · obtain ⟨q0, q1, q2⟩ := (K1.later b3).later (ba w3 (.cells #[.int .i64 l, .int .i64 b, .string B] 23))
    have A3 := ba w3 (.cells #[.int .i64 k, .int .i64 a, .string A] 23)
    have K2 := Box3.new w3 (.int .i64 k) (.int .i64 a) (.string A) 23
    have K := Lib.hid (And.intro ((K1.later b3).later A3) (And.intro K2 (And.intro (HT.out.later (bt B3 A3)) (bt B3 A3))))
    obtain ⟨⟨x0, x1, x2⟩, ⟨y0, y1, y2⟩, -⟩ := K.out
    clear A3 b1 b2 b3 B2 B3 K1 K2
    by_cases hk : k = 3
    · subst hk
      have hz := h3 rfl
      clear h3
      go_wp2_with (first
        | (go_at_call 20; ((with_reducible refine (H.out.2.2.1 _ K.out.2.2.1).mono ?_); rintro e w5 ⟨rfl, b5⟩; have k0 := K.out; obtain ⟨k1, k2, kt, kb⟩ := k0; replace K := Lib.hid (And.intro (k1.later b5) (And.intro (k2.later b5) (And.intro (kt.later b5) (bt kb b5)))); obtain ⟨⟨x0, x1, x2⟩, ⟨y0, y1, y2⟩, -⟩ := K.out; clear k1 k2 kt kb b5))
        | (go_at_call 20; ((with_reducible refine (H.out.2.2.2 _ K.out.2.2.1).mono ?_); rintro e w5 ⟨rfl, b5⟩; have k0 := K.out; obtain ⟨k1, k2, kt, kb⟩ := k0; replace K := Lib.hid (And.intro (k1.later b5) (And.intro (k2.later b5) (And.intro (kt.later b5) (bt kb b5)))); obtain ⟨⟨x0, x1, x2⟩, ⟨y0, y1, y2⟩, -⟩ := K.out; clear k1 k2 kt kb b5)))
      go_ret
      exact ⟨rfl, K.out.2.2.2⟩
    · clear h3
      go_wp2_with (first
        | (go_at_call 20; ((with_reducible refine (H.out.2.2.1 _ K.out.2.2.1).mono ?_); rintro e w5 ⟨rfl, b5⟩; have k0 := K.out; obtain ⟨k1, k2, kt, kb⟩ := k0; replace K := Lib.hid (And.intro (k1.later b5) (And.intro (k2.later b5) (And.intro (kt.later b5) (bt kb b5)))); obtain ⟨⟨x0, x1, x2⟩, ⟨y0, y1, y2⟩, -⟩ := K.out; clear k1 k2 kt kb b5))
        | (go_at_call 20; ((with_reducible refine (H.out.2.2.2 _ K.out.2.2.1).mono ?_); rintro e w5 ⟨rfl, b5⟩; have k0 := K.out; obtain ⟨k1, k2, kt, kb⟩ := k0; replace K := Lib.hid (And.intro (k1.later b5) (And.intro (k2.later b5) (And.intro (kt.later b5) (bt kb b5)))); obtain ⟨⟨x0, x1, x2⟩, ⟨y0, y1, y2⟩, -⟩ := K.out; clear k1 k2 kt kb b5)))
      go_ret
      exact ⟨rfl, K.out.2.2.2⟩
end Go.Proofs.YtomldmdnoalbiaaDoor
