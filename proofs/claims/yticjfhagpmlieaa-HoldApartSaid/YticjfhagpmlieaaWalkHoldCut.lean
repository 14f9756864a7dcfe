/- HoldCut: with one cut out the others stand as they did. -/
import Derived.Test.YticjfhagpmlieaaHoY
namespace Go.Proofs.Yticjfhagpmlieaa
open Go.ChangeShapes Go.WideShapes Go.ChangeAt Go.RowKit
open Ho
set_option linter.unusedVariables false
set_option linter.unusedSimpArgs false

theorem erase_get (T : List D) (k i n : Nat) (hk : k < T.length) (hi : i < T.length) (h : (i < k ∧ n = i) ∨ (k < i ∧ n + 1 = i)) : ∃ h : n < (T.eraseIdx k).length, (T.eraseIdx k)[n]'h = T[i]'hi := by
  have hl : (T.eraseIdx k).length = T.length - 1 := by rw [List.length_eraseIdx, if_pos hk]
  refine ⟨by omega, ?_⟩
  rw [List.getElem_eraseIdx]
  rcases h with ⟨h1, rfl⟩ | ⟨h1, rfl⟩
  · rw [dif_pos h1]
  · rw [dif_neg (by omega)]
theorem pad_at {d1 d2 : Nat} {T1 T2 : List D} {Z : Nat → Prop} {w W : World} (h : Two Z w W d1 d2 T1 T2) {k : Nat} {t : D} (hk : k < T1.length) (ht : T1[k]'hk = t) : Calls Try.prog 22 #[.pointer (some ⟨d1, 0, none⟩), .int .i64 (k : Int)] W (AtY t W) := by
  subst ht; exact h.at1 k hk
set_option maxRecDepth 20000 in
set_option maxHeartbeats 8000000 in
theorem walk_HoldCut (v0 : Value) (L : List Ac) (at_ : Int) (near : Bool) (w : World) (h0 : ActsR w v0 L) (b0 : L.length * 48 ≤ 140737488355328 ∧ ∀ a ∈ L, Fit a.p) (b1 : -9223372036854775808 ≤ at_) (b2 : at_ ≤ 9223372036854775807) :
    Calls Try.prog 6 #[v0, .int .i64 at_, .bool near] w fun e w' => e = .returned (.bool true) ∧ Below w.heap.size w w' := by
  have hA := h0.ok b0.2
  obtain ⟨A, c, rfl, a1, a2, _⟩ := hA.1.shape
  obtain ⟨m, hm⟩ : ∃ m, m = min L.length 30 := ⟨_, rfl⟩
  obtain ⟨T, hT⟩ : ∃ T, T = flk L m := ⟨_, rfl⟩
  have hTl : T.length = m := by rw [hT]; exact flk_len L m (by omega)
  have hm30 : m ≤ 30 := by omega
  have cF : ∀ W, Below w.heap.size w W → Calls Try.prog 25 #[.slice A L.length c] W (fun e w' => ∃ d, (e = .returned (.pointer (some ⟨d, 0, none⟩)) ∧ HX (fun _ => False) w' W.heap.size d T) ∧ Below W.heap.size W w') := fun W hW => by
    have := filled_any _ L W (hA.later hW)
    unfold FilP at this
    rw [← hm, ← hT] at this
    exact this
  have H := Lib.hid (And.intro cF (And.intro hTl hm30)); clear cF hA h0 b0 hTl a1 a2 hT hm
  have hCase : (near = true ∧ 0 < m ∧ ∃ q k0 : Nat, IntKind.u64.wrap at_ = (q : Int) ∧ k0 = q % m) ∨ (near = true ∧ m = 0) ∨ (near = false ∧ ∃ k0 : Nat, k0 < m ∧ at_ = (k0 : Int)) ∨ (near = false ∧ (at_ < 0 ∨ (m : Int) ≤ at_)) := by
    cases near
    · by_cases h : 0 ≤ at_ ∧ at_ < m
      · exact Or.inr (Or.inr (Or.inl ⟨rfl, at_.toNat, by omega, by omega⟩))
      · exact Or.inr (Or.inr (Or.inr ⟨rfl, by omega⟩))
    · by_cases h : 0 < m
      · refine Or.inl ⟨rfl, h, (IntKind.u64.wrap at_).toNat, _, ?_, rfl⟩
        have : 0 ≤ IntKind.u64.wrap at_ := by
          simp [IntKind.wrap, IntKind.bits, IntKind.signed]; omega
        omega
      · exact Or.inr (Or.inl ⟨rfl, by omega⟩)
  rcases hCase with ⟨rfl, hm0, q, k0, hq, hk⟩ | ⟨rfl, hmz⟩ | ⟨rfl, k0, hk0, rfl⟩ | ⟨rfl, ho⟩
  · have hk0 : k0 < m := by rw [hk]; exact Nat.mod_lt _ hm0
    have f1 : IntKind.u64.wrap (m : Int) = (m : Int) := IntWalk.u64_in _ (by omega)
    have f2 : (q : Int).tmod (m : Int) = (k0 : Int) := by rw [Int.tmod_eq_emod_of_nonneg (by omega), hk, Int.natCast_emod]
    have f3 : wrap64 (k0 : Int) = (k0 : Int) := IntWalk.wrap64_in (k0 : Int) (by omega)
    have f4 : ¬ (m : Int) = 0 := by omega
    have f5 : (0 : Int) < (m : Int) := by omega
    have f6 : decide ((0 : Int) < (m : Int)) = true := decide_eq_true f5
    have f7 : ¬ m = 0 := by omega
    clear hk
    go_enter Try.func6, Try.ntmps6
    go_wp2_with fail
    go_at_call 8
    ((with_reducible refine (examples_any _).mono ?_); rintro e x1 ⟨rfl, bx1⟩)
    go_wp2_with fail
    go_at_call 25
    refine (H.out.1 _ bx1).mono ?_
    rintro e x2 ⟨d1, ⟨rfl, hX1⟩, bx2⟩
    go_wp2_with fail
    go_at_call 25
    refine (H.out.1 _ (bt bx1 bx2)).mono ?_
    rintro e x3 ⟨d2, ⟨rfl, hX2⟩, bx3⟩
    have K := Lib.hid (And.intro bx1 (Two.mk' hX1 bx2 hX2 bx3)); clear bx1 bx2 bx3 hX1 hX2
    go_wp2_with fail
    go_at_call 21
    have cL := K.out.2.swap.len1
    rw [H.out.2.1] at cL
    refine cL.mono ?_
    clear cL
    rintro e x4 ⟨rfl, bx4⟩
    replace K := Lib.hid (And.intro K.out.1 (K.out.2.later bx4)); clear bx4
    have t1 : (0 : Int) ≤ (k0 : Int) := by omega
    have t2 : decide ((0 : Int) ≤ (k0 : Int)) = true := decide_eq_true t1
    have t3 : (k0 : Int) < (m : Int) := by omega
    have t4 : decide ((k0 : Int) < (m : Int)) = true := decide_eq_true t3
    go_wp2_with (go_at_call 13; (refine (K.out.2.cut1 k0 (by rw [H.out.2.1]; exact hk0)).mono ?_); rintro e x5 ⟨rfl, h2⟩; have K2 := Lib.hid (And.intro K.out.1 h2); clear h2)
    clear t1 t2 t3 t4 K
    go_loopw [12, 13] (fun kv iv wr => ∃ i kn : Nat, i ≤ m ∧ iv = .int .i64 (i : Int) ∧ kv = .int .i64 (kn : Int) ∧ ((i ≤ k0 ∧ kn = i) ∨ (k0 < i ∧ kn + 1 = i)) ∧ Two (fun _ => False) x1 wr d1 d2 (T.eraseIdx k0) T) (fun _ iv _ => m - (intOf iv).toNat)
    case atStart => exact ⟨0, 0, Nat.zero_le _, rfl, rfl, Or.inl ⟨Nat.zero_le _, rfl⟩, K2.out.2⟩
    case round =>
      obtain ⟨i, kn, hi, rfl, rfl, hr, hW2⟩ := hrel
      by_cases hlt : i < m
      · by_cases hik : i = k0
        · subst hik
          have e1 : ((i : Int) == (i : Int)) = true := by simp
          have N := Lib.hid hW2; clear hW2
          go_wp2
          go_roundw
          case rel => exact ⟨i + 1, kn, by omega, by go_num, rfl, Or.inr ⟨by omega, by omega⟩, N.out⟩
          case measure => simp [intOf]; omega
        · obtain ⟨hk1, he1⟩ := erase_get T k0 i kn (by rw [H.out.2.1]; exact hk0) (by rw [H.out.2.1]; exact hlt) (by omega)
          have hi2 : i < T.length := by rw [H.out.2.1]; exact hlt
          have c1 : ∀ W, Below wr.heap.size wr W → Calls Try.prog 22 #[.pointer (some ⟨d1, 0, none⟩), .int .i64 (kn : Int)] W (AtY (T[i]'hi2) W) := fun W hW => pad_at (hW2.later hW) hk1 he1
          have c2 : ∀ W, Below wr.heap.size wr W → Calls Try.prog 22 #[.pointer (some ⟨d2, 0, none⟩), .int .i64 (i : Int)] W (AtY (T[i]'hi2) W) := fun W hW => pad_at (hW2.later hW).swap hi2 rfl
          generalize T[i]'hi2 = t at *
          obtain ⟨u, p, x⟩ := t
          have N := Lib.hid (And.intro c1 (And.intro c2 hW2)); clear c1 c2 hW2 he1
          have e1 : ((i : Int) == (k0 : Int)) = false := by rw [beq_eq_false_iff_ne]; omega
          have e2 : ¬ (i : Int) = (k0 : Int) := by omega
          go_wp2_with fail
          try go_at_call 22
          refine (N.out.1 _ (Below.refl _ _)).mono ?_
          rintro e y1 ⟨⟨sA, sn, sc⟩, ⟨rfl, hS1⟩, by1⟩
          obtain ⟨W1, hW1⟩ : ∃ W1, W1 = y1.alloc (.cells #[.int .i64 u, .slice sA sn sc, .int .i64 x] 35) := ⟨_, rfl⟩
          have bW1 : Below wr.heap.size wr W1 := by rw [hW1]; exact bt by1 (ba _ _)
          have bW2 : Below y1.heap.size y1 W1 := by rw [hW1]; exact ba _ _
          have gW1 : Blk W1 y1.heap.size 35 #[.int .i64 u, .slice sA sn sc, .int .i64 x] := by rw [hW1]; exact Blk.new _ _ _
          have M1 := Lib.hid (And.intro bW1 (And.intro gW1 (hS1.later bW2))); clear bW1 gW1 hS1 by1 bW2
          go_wp2_with fail
          try go_at_call 22
          rw [← hW1]
          clear hW1
          refine (N.out.2.1 _ M1.out.1).mono ?_
          rintro e y2 ⟨⟨tA, tn, tc⟩, ⟨rfl, hS2⟩, by2⟩
          obtain ⟨W2, hW2⟩ : ∃ W2, W2 = y2.alloc (.cells #[.int .i64 u, .slice tA tn tc, .int .i64 x] 35) := ⟨_, rfl⟩
          have bW2 : Below y2.heap.size y2 W2 := by rw [hW2]; exact ba _ _
          have gW2 : Blk W2 y2.heap.size 35 #[.int .i64 u, .slice tA tn tc, .int .i64 x] := by rw [hW2]; exact Blk.new _ _ _
          have M2 := Lib.hid (And.intro (bt M1.out.1 (bt by2 bW2)) (And.intro gW2 (And.intro (hS2.later bW2) (And.intro (M1.out.2.1.later (bt by2 bW2)) (M1.out.2.2.later (bt by2 bW2)))))); clear by2 bW2 gW2 hS2 M1
          obtain ⟨z0, z1, z2⟩ := M2.out.2.1.three
          obtain ⟨z3, z4, z5⟩ := M2.out.2.2.2.1.three
          rw [hW2] at z0 z1 z2 z3 z4 z5
          go_wp2_with (go_at_call 24; rw [← hW2]; (refine (same_yes u (sA, sn, sc) (tA, tn, tc) x p _ M2.out.2.2.2.2.pts M2.out.2.2.1.pts).mono ?_); rintro e y3 ⟨rfl, by3⟩; have M3 := Lib.hid by3; clear by3)
          go_roundw
          case rel => exact ⟨i + 1, kn + 1, by omega, by go_num, by go_num, by omega, N.out.2.2.later (bt M2.out.1 M3.out)⟩
          case measure => simp [intOf]; omega
      · obtain rfl : i = m := by omega
        have hl1 : (T.eraseIdx k0).length = kn := by rw [List.length_eraseIdx, H.out.2.1, if_pos (by omega)]; omega
        have cL := hW2.len1
        rw [hl1] at cL
        have N := Lib.hid (And.intro cL hW2); clear cL hW2 hl1
        have e1 : ((kn : Int) == (kn : Int)) = true := by simp
        go_wp2_with (go_at_call 21; (refine (N.out.1).mono ?_); rintro e y1 ⟨rfl, by1⟩; have M1 := Lib.hid by1; clear by1)
        go_ret
        exact ⟨rfl, bt K2.out.1 (bt N.out.2.bel M1.out)⟩
  · by_cases h1 : at_ < 0
    · have f5 : ¬ (0 : Int) < (m : Int) := by omega
      have f6 : decide ((0 : Int) < (m : Int)) = false := decide_eq_false f5
      have t1 : ¬ (0 : Int) ≤ at_ := by omega
      have t2 : decide ((0 : Int) ≤ at_) = false := decide_eq_false t1
      have ho : at_ < 0 ∨ (m : Int) ≤ at_ := Or.inl h1
      go_enter Try.func6, Try.ntmps6
      go_wp2_with fail
      go_at_call 8
      ((with_reducible refine (examples_any _).mono ?_); rintro e x1 ⟨rfl, bx1⟩)
      go_wp2_with fail
      go_at_call 25
      refine (H.out.1 _ bx1).mono ?_
      rintro e x2 ⟨d1, ⟨rfl, hX1⟩, bx2⟩
      go_wp2_with fail
      go_at_call 25
      refine (H.out.1 _ (bt bx1 bx2)).mono ?_
      rintro e x3 ⟨d2, ⟨rfl, hX2⟩, bx3⟩
      have K := Lib.hid (And.intro bx1 (Two.mk' hX1 bx2 hX2 bx3)); clear bx1 bx2 bx3 hX1 hX2
      go_wp2_with fail
      go_at_call 21
      have cL := K.out.2.swap.len1
      rw [H.out.2.1] at cL
      refine cL.mono ?_
      clear cL
      rintro e x4 ⟨rfl, bx4⟩
      replace K := Lib.hid (And.intro K.out.1 (K.out.2.later bx4)); clear bx4
      go_wp2_with (go_at_call 13; (refine (K.out.2.cut0 at_ (by rw [H.out.2.1]; exact ho)).mono ?_); rintro e x5 ⟨rfl, h2⟩; have K2 := Lib.hid (And.intro K.out.1 h2); clear h2)
      clear K
      go_loopw [12, 13] (fun kv iv wr => ∃ i kn : Nat, i ≤ m ∧ iv = .int .i64 (i : Int) ∧ kv = .int .i64 (kn : Int) ∧ kn = i ∧ Two (fun _ => False) x1 wr d1 d2 T T) (fun _ iv _ => m - (intOf iv).toNat)
      case atStart => exact ⟨0, 0, Nat.zero_le _, rfl, rfl, rfl, K2.out.2⟩
      case round =>
        obtain ⟨i, kn, hi, rfl, rfl, hr, hW2⟩ := hrel
        by_cases hlt : i < m
        · exact absurd hlt (by omega)
        · obtain rfl : i = m := by omega
          subst hr
          have hl1 : T.length = kn := by exact H.out.2.1
          have cL := hW2.len1
          rw [hl1] at cL
          have N := Lib.hid (And.intro cL hW2); clear cL hW2 hl1
          have e1 : ((kn : Int) == (kn : Int)) = true := by simp
          go_wp2_with (go_at_call 21; (refine (N.out.1).mono ?_); rintro e y1 ⟨rfl, by1⟩; have M1 := Lib.hid by1; clear by1)
          go_ret
          exact ⟨rfl, bt K2.out.1 (bt N.out.2.bel M1.out)⟩
    · have f5 : ¬ (0 : Int) < (m : Int) := by omega
      have f6 : decide ((0 : Int) < (m : Int)) = false := decide_eq_false f5
      have t1 : (0 : Int) ≤ at_ := by omega
      have t2 : decide ((0 : Int) ≤ at_) = true := decide_eq_true t1
      have t3 : ¬ at_ < (m : Int) := by omega
      have t4 : decide (at_ < (m : Int)) = false := decide_eq_false t3
      have ho : at_ < 0 ∨ (m : Int) ≤ at_ := Or.inr (by omega)
      go_enter Try.func6, Try.ntmps6
      go_wp2_with fail
      go_at_call 8
      ((with_reducible refine (examples_any _).mono ?_); rintro e x1 ⟨rfl, bx1⟩)
      go_wp2_with fail
      go_at_call 25
      refine (H.out.1 _ bx1).mono ?_
      rintro e x2 ⟨d1, ⟨rfl, hX1⟩, bx2⟩
      go_wp2_with fail
      go_at_call 25
      refine (H.out.1 _ (bt bx1 bx2)).mono ?_
      rintro e x3 ⟨d2, ⟨rfl, hX2⟩, bx3⟩
      have K := Lib.hid (And.intro bx1 (Two.mk' hX1 bx2 hX2 bx3)); clear bx1 bx2 bx3 hX1 hX2
      go_wp2_with fail
      go_at_call 21
      have cL := K.out.2.swap.len1
      rw [H.out.2.1] at cL
      refine cL.mono ?_
      clear cL
      rintro e x4 ⟨rfl, bx4⟩
      replace K := Lib.hid (And.intro K.out.1 (K.out.2.later bx4)); clear bx4
      go_wp2_with (go_at_call 13; (refine (K.out.2.cut0 at_ (by rw [H.out.2.1]; exact ho)).mono ?_); rintro e x5 ⟨rfl, h2⟩; have K2 := Lib.hid (And.intro K.out.1 h2); clear h2)
      clear K
      go_loopw [12, 13] (fun kv iv wr => ∃ i kn : Nat, i ≤ m ∧ iv = .int .i64 (i : Int) ∧ kv = .int .i64 (kn : Int) ∧ kn = i ∧ Two (fun _ => False) x1 wr d1 d2 T T) (fun _ iv _ => m - (intOf iv).toNat)
      case atStart => exact ⟨0, 0, Nat.zero_le _, rfl, rfl, rfl, K2.out.2⟩
      case round =>
        obtain ⟨i, kn, hi, rfl, rfl, hr, hW2⟩ := hrel
        by_cases hlt : i < m
        · exact absurd hlt (by omega)
        · obtain rfl : i = m := by omega
          subst hr
          have hl1 : T.length = kn := by exact H.out.2.1
          have cL := hW2.len1
          rw [hl1] at cL
          have N := Lib.hid (And.intro cL hW2); clear cL hW2 hl1
          have e1 : ((kn : Int) == (kn : Int)) = true := by simp
          go_wp2_with (go_at_call 21; (refine (N.out.1).mono ?_); rintro e y1 ⟨rfl, by1⟩; have M1 := Lib.hid by1; clear by1)
          go_ret
          exact ⟨rfl, bt K2.out.1 (bt N.out.2.bel M1.out)⟩
  · go_enter Try.func6, Try.ntmps6
    go_wp2_with fail
    go_at_call 8
    ((with_reducible refine (examples_any _).mono ?_); rintro e x1 ⟨rfl, bx1⟩)
    go_wp2_with fail
    go_at_call 25
    refine (H.out.1 _ bx1).mono ?_
    rintro e x2 ⟨d1, ⟨rfl, hX1⟩, bx2⟩
    go_wp2_with fail
    go_at_call 25
    refine (H.out.1 _ (bt bx1 bx2)).mono ?_
    rintro e x3 ⟨d2, ⟨rfl, hX2⟩, bx3⟩
    have K := Lib.hid (And.intro bx1 (Two.mk' hX1 bx2 hX2 bx3)); clear bx1 bx2 bx3 hX1 hX2
    go_wp2_with fail
    go_at_call 21
    have cL := K.out.2.swap.len1
    rw [H.out.2.1] at cL
    refine cL.mono ?_
    clear cL
    rintro e x4 ⟨rfl, bx4⟩
    replace K := Lib.hid (And.intro K.out.1 (K.out.2.later bx4)); clear bx4
    have t1 : (0 : Int) ≤ (k0 : Int) := by omega
    have t2 : decide ((0 : Int) ≤ (k0 : Int)) = true := decide_eq_true t1
    have t3 : (k0 : Int) < (m : Int) := by omega
    have t4 : decide ((k0 : Int) < (m : Int)) = true := decide_eq_true t3
    go_wp2_with (go_at_call 13; (refine (K.out.2.cut1 k0 (by rw [H.out.2.1]; exact hk0)).mono ?_); rintro e x5 ⟨rfl, h2⟩; have K2 := Lib.hid (And.intro K.out.1 h2); clear h2)
    clear t1 t2 t3 t4 K
    go_loopw [12, 13] (fun kv iv wr => ∃ i kn : Nat, i ≤ m ∧ iv = .int .i64 (i : Int) ∧ kv = .int .i64 (kn : Int) ∧ ((i ≤ k0 ∧ kn = i) ∨ (k0 < i ∧ kn + 1 = i)) ∧ Two (fun _ => False) x1 wr d1 d2 (T.eraseIdx k0) T) (fun _ iv _ => m - (intOf iv).toNat)
    case atStart => exact ⟨0, 0, Nat.zero_le _, rfl, rfl, Or.inl ⟨Nat.zero_le _, rfl⟩, K2.out.2⟩
    case round =>
      obtain ⟨i, kn, hi, rfl, rfl, hr, hW2⟩ := hrel
      by_cases hlt : i < m
      · by_cases hik : i = k0
        · subst hik
          have e1 : ((i : Int) == (i : Int)) = true := by simp
          have N := Lib.hid hW2; clear hW2
          go_wp2
          go_roundw
          case rel => exact ⟨i + 1, kn, by omega, by go_num, rfl, Or.inr ⟨by omega, by omega⟩, N.out⟩
          case measure => simp [intOf]; omega
        · obtain ⟨hk1, he1⟩ := erase_get T k0 i kn (by rw [H.out.2.1]; exact hk0) (by rw [H.out.2.1]; exact hlt) (by omega)
          have hi2 : i < T.length := by rw [H.out.2.1]; exact hlt
          have c1 : ∀ W, Below wr.heap.size wr W → Calls Try.prog 22 #[.pointer (some ⟨d1, 0, none⟩), .int .i64 (kn : Int)] W (AtY (T[i]'hi2) W) := fun W hW => pad_at (hW2.later hW) hk1 he1
          have c2 : ∀ W, Below wr.heap.size wr W → Calls Try.prog 22 #[.pointer (some ⟨d2, 0, none⟩), .int .i64 (i : Int)] W (AtY (T[i]'hi2) W) := fun W hW => pad_at (hW2.later hW).swap hi2 rfl
          generalize T[i]'hi2 = t at *
          obtain ⟨u, p, x⟩ := t
          have N := Lib.hid (And.intro c1 (And.intro c2 hW2)); clear c1 c2 hW2 he1
          have e1 : ((i : Int) == (k0 : Int)) = false := by rw [beq_eq_false_iff_ne]; omega
          have e2 : ¬ (i : Int) = (k0 : Int) := by omega
          go_wp2_with fail
          try go_at_call 22
          refine (N.out.1 _ (Below.refl _ _)).mono ?_
          rintro e y1 ⟨⟨sA, sn, sc⟩, ⟨rfl, hS1⟩, by1⟩
          obtain ⟨W1, hW1⟩ : ∃ W1, W1 = y1.alloc (.cells #[.int .i64 u, .slice sA sn sc, .int .i64 x] 35) := ⟨_, rfl⟩
          have bW1 : Below wr.heap.size wr W1 := by rw [hW1]; exact bt by1 (ba _ _)
          have bW2 : Below y1.heap.size y1 W1 := by rw [hW1]; exact ba _ _
          have gW1 : Blk W1 y1.heap.size 35 #[.int .i64 u, .slice sA sn sc, .int .i64 x] := by rw [hW1]; exact Blk.new _ _ _
          have M1 := Lib.hid (And.intro bW1 (And.intro gW1 (hS1.later bW2))); clear bW1 gW1 hS1 by1 bW2
          go_wp2_with fail
          try go_at_call 22
          rw [← hW1]
          clear hW1
          refine (N.out.2.1 _ M1.out.1).mono ?_
          rintro e y2 ⟨⟨tA, tn, tc⟩, ⟨rfl, hS2⟩, by2⟩
          obtain ⟨W2, hW2⟩ : ∃ W2, W2 = y2.alloc (.cells #[.int .i64 u, .slice tA tn tc, .int .i64 x] 35) := ⟨_, rfl⟩
          have bW2 : Below y2.heap.size y2 W2 := by rw [hW2]; exact ba _ _
          have gW2 : Blk W2 y2.heap.size 35 #[.int .i64 u, .slice tA tn tc, .int .i64 x] := by rw [hW2]; exact Blk.new _ _ _
          have M2 := Lib.hid (And.intro (bt M1.out.1 (bt by2 bW2)) (And.intro gW2 (And.intro (hS2.later bW2) (And.intro (M1.out.2.1.later (bt by2 bW2)) (M1.out.2.2.later (bt by2 bW2)))))); clear by2 bW2 gW2 hS2 M1
          obtain ⟨z0, z1, z2⟩ := M2.out.2.1.three
          obtain ⟨z3, z4, z5⟩ := M2.out.2.2.2.1.three
          rw [hW2] at z0 z1 z2 z3 z4 z5
          go_wp2_with (go_at_call 24; rw [← hW2]; (refine (same_yes u (sA, sn, sc) (tA, tn, tc) x p _ M2.out.2.2.2.2.pts M2.out.2.2.1.pts).mono ?_); rintro e y3 ⟨rfl, by3⟩; have M3 := Lib.hid by3; clear by3)
          go_roundw
          case rel => exact ⟨i + 1, kn + 1, by omega, by go_num, by go_num, by omega, N.out.2.2.later (bt M2.out.1 M3.out)⟩
          case measure => simp [intOf]; omega
      · obtain rfl : i = m := by omega
        have hl1 : (T.eraseIdx k0).length = kn := by rw [List.length_eraseIdx, H.out.2.1, if_pos (by omega)]; omega
        have cL := hW2.len1
        rw [hl1] at cL
        have N := Lib.hid (And.intro cL hW2); clear cL hW2 hl1
        have e1 : ((kn : Int) == (kn : Int)) = true := by simp
        go_wp2_with (go_at_call 21; (refine (N.out.1).mono ?_); rintro e y1 ⟨rfl, by1⟩; have M1 := Lib.hid by1; clear by1)
        go_ret
        exact ⟨rfl, bt K2.out.1 (bt N.out.2.bel M1.out)⟩
  · rcases ho with h1 | h1
    · have t1 : ¬ (0 : Int) ≤ at_ := by omega
      have t2 : decide ((0 : Int) ≤ at_) = false := decide_eq_false t1
      have ho : at_ < 0 ∨ (m : Int) ≤ at_ := Or.inl h1
      go_enter Try.func6, Try.ntmps6
      go_wp2_with fail
      go_at_call 8
      ((with_reducible refine (examples_any _).mono ?_); rintro e x1 ⟨rfl, bx1⟩)
      go_wp2_with fail
      go_at_call 25
      refine (H.out.1 _ bx1).mono ?_
      rintro e x2 ⟨d1, ⟨rfl, hX1⟩, bx2⟩
      go_wp2_with fail
      go_at_call 25
      refine (H.out.1 _ (bt bx1 bx2)).mono ?_
      rintro e x3 ⟨d2, ⟨rfl, hX2⟩, bx3⟩
      have K := Lib.hid (And.intro bx1 (Two.mk' hX1 bx2 hX2 bx3)); clear bx1 bx2 bx3 hX1 hX2
      go_wp2_with fail
      go_at_call 21
      have cL := K.out.2.swap.len1
      rw [H.out.2.1] at cL
      refine cL.mono ?_
      clear cL
      rintro e x4 ⟨rfl, bx4⟩
      replace K := Lib.hid (And.intro K.out.1 (K.out.2.later bx4)); clear bx4
      go_wp2_with (go_at_call 13; (refine (K.out.2.cut0 at_ (by rw [H.out.2.1]; exact ho)).mono ?_); rintro e x5 ⟨rfl, h2⟩; have K2 := Lib.hid (And.intro K.out.1 h2); clear h2)
      clear K
      go_loopw [12, 13] (fun kv iv wr => ∃ i kn : Nat, i ≤ m ∧ iv = .int .i64 (i : Int) ∧ kv = .int .i64 (kn : Int) ∧ kn = i ∧ Two (fun _ => False) x1 wr d1 d2 T T) (fun _ iv _ => m - (intOf iv).toNat)
      case atStart => exact ⟨0, 0, Nat.zero_le _, rfl, rfl, rfl, K2.out.2⟩
      case round =>
        obtain ⟨i, kn, hi, rfl, rfl, hr, hW2⟩ := hrel
        by_cases hlt : i < m
        · subst hr
          obtain ⟨hk1, he1⟩ := (show ∃ h : kn < T.length, T[kn]'h = T[kn]'(by rw [H.out.2.1]; exact hlt) from ⟨by rw [H.out.2.1]; exact hlt, rfl⟩)
          have hi2 : kn < T.length := by rw [H.out.2.1]; exact hlt
          have c1 : ∀ W, Below wr.heap.size wr W → Calls Try.prog 22 #[.pointer (some ⟨d1, 0, none⟩), .int .i64 (kn : Int)] W (AtY (T[kn]'hi2) W) := fun W hW => pad_at (hW2.later hW) hk1 he1
          have c2 : ∀ W, Below wr.heap.size wr W → Calls Try.prog 22 #[.pointer (some ⟨d2, 0, none⟩), .int .i64 (kn : Int)] W (AtY (T[kn]'hi2) W) := fun W hW => pad_at (hW2.later hW).swap hi2 rfl
          generalize T[kn]'hi2 = t at *
          obtain ⟨u, p, x⟩ := t
          have N := Lib.hid (And.intro c1 (And.intro c2 hW2)); clear c1 c2 hW2 he1
          go_wp2_with fail
          try go_at_call 22
          refine (N.out.1 _ (Below.refl _ _)).mono ?_
          rintro e y1 ⟨⟨sA, sn, sc⟩, ⟨rfl, hS1⟩, by1⟩
          obtain ⟨W1, hW1⟩ : ∃ W1, W1 = y1.alloc (.cells #[.int .i64 u, .slice sA sn sc, .int .i64 x] 35) := ⟨_, rfl⟩
          have bW1 : Below wr.heap.size wr W1 := by rw [hW1]; exact bt by1 (ba _ _)
          have bW2 : Below y1.heap.size y1 W1 := by rw [hW1]; exact ba _ _
          have gW1 : Blk W1 y1.heap.size 35 #[.int .i64 u, .slice sA sn sc, .int .i64 x] := by rw [hW1]; exact Blk.new _ _ _
          have M1 := Lib.hid (And.intro bW1 (And.intro gW1 (hS1.later bW2))); clear bW1 gW1 hS1 by1 bW2
          go_wp2_with fail
          try go_at_call 22
          rw [← hW1]
          clear hW1
          refine (N.out.2.1 _ M1.out.1).mono ?_
          rintro e y2 ⟨⟨tA, tn, tc⟩, ⟨rfl, hS2⟩, by2⟩
          obtain ⟨W2, hW2⟩ : ∃ W2, W2 = y2.alloc (.cells #[.int .i64 u, .slice tA tn tc, .int .i64 x] 35) := ⟨_, rfl⟩
          have bW2 : Below y2.heap.size y2 W2 := by rw [hW2]; exact ba _ _
          have gW2 : Blk W2 y2.heap.size 35 #[.int .i64 u, .slice tA tn tc, .int .i64 x] := by rw [hW2]; exact Blk.new _ _ _
          have M2 := Lib.hid (And.intro (bt M1.out.1 (bt by2 bW2)) (And.intro gW2 (And.intro (hS2.later bW2) (And.intro (M1.out.2.1.later (bt by2 bW2)) (M1.out.2.2.later (bt by2 bW2)))))); clear by2 bW2 gW2 hS2 M1
          obtain ⟨z0, z1, z2⟩ := M2.out.2.1.three
          obtain ⟨z3, z4, z5⟩ := M2.out.2.2.2.1.three
          rw [hW2] at z0 z1 z2 z3 z4 z5
          go_wp2_with (go_at_call 24; rw [← hW2]; (refine (same_yes u (sA, sn, sc) (tA, tn, tc) x p _ M2.out.2.2.2.2.pts M2.out.2.2.1.pts).mono ?_); rintro e y3 ⟨rfl, by3⟩; have M3 := Lib.hid by3; clear by3)
          go_roundw
          case rel => exact ⟨kn + 1, kn + 1, by omega, by go_num, by go_num, rfl, N.out.2.2.later (bt M2.out.1 M3.out)⟩
          case measure => simp [intOf]; omega
        · obtain rfl : i = m := by omega
          subst hr
          have hl1 : T.length = kn := by exact H.out.2.1
          have cL := hW2.len1
          rw [hl1] at cL
          have N := Lib.hid (And.intro cL hW2); clear cL hW2 hl1
          have e1 : ((kn : Int) == (kn : Int)) = true := by simp
          go_wp2_with (go_at_call 21; (refine (N.out.1).mono ?_); rintro e y1 ⟨rfl, by1⟩; have M1 := Lib.hid by1; clear by1)
          go_ret
          exact ⟨rfl, bt K2.out.1 (bt N.out.2.bel M1.out)⟩
    · have t1 : (0 : Int) ≤ at_ := by omega
      have t2 : decide ((0 : Int) ≤ at_) = true := decide_eq_true t1
      have t3 : ¬ at_ < (m : Int) := by omega
      have t4 : decide (at_ < (m : Int)) = false := decide_eq_false t3
      have ho : at_ < 0 ∨ (m : Int) ≤ at_ := Or.inr h1
      go_enter Try.func6, Try.ntmps6
      go_wp2_with fail
      go_at_call 8
      ((with_reducible refine (examples_any _).mono ?_); rintro e x1 ⟨rfl, bx1⟩)
      go_wp2_with fail
      go_at_call 25
      refine (H.out.1 _ bx1).mono ?_
      rintro e x2 ⟨d1, ⟨rfl, hX1⟩, bx2⟩
      go_wp2_with fail
      go_at_call 25
      refine (H.out.1 _ (bt bx1 bx2)).mono ?_
      rintro e x3 ⟨d2, ⟨rfl, hX2⟩, bx3⟩
      have K := Lib.hid (And.intro bx1 (Two.mk' hX1 bx2 hX2 bx3)); clear bx1 bx2 bx3 hX1 hX2
      go_wp2_with fail
      go_at_call 21
      have cL := K.out.2.swap.len1
      rw [H.out.2.1] at cL
      refine cL.mono ?_
      clear cL
      rintro e x4 ⟨rfl, bx4⟩
      replace K := Lib.hid (And.intro K.out.1 (K.out.2.later bx4)); clear bx4
      go_wp2_with (go_at_call 13; (refine (K.out.2.cut0 at_ (by rw [H.out.2.1]; exact ho)).mono ?_); rintro e x5 ⟨rfl, h2⟩; have K2 := Lib.hid (And.intro K.out.1 h2); clear h2)
      clear K
      go_loopw [12, 13] (fun kv iv wr => ∃ i kn : Nat, i ≤ m ∧ iv = .int .i64 (i : Int) ∧ kv = .int .i64 (kn : Int) ∧ kn = i ∧ Two (fun _ => False) x1 wr d1 d2 T T) (fun _ iv _ => m - (intOf iv).toNat)
      case atStart => exact ⟨0, 0, Nat.zero_le _, rfl, rfl, rfl, K2.out.2⟩
      case round =>
        obtain ⟨i, kn, hi, rfl, rfl, hr, hW2⟩ := hrel
        by_cases hlt : i < m
        · subst hr
          obtain ⟨hk1, he1⟩ := (show ∃ h : kn < T.length, T[kn]'h = T[kn]'(by rw [H.out.2.1]; exact hlt) from ⟨by rw [H.out.2.1]; exact hlt, rfl⟩)
          have hi2 : kn < T.length := by rw [H.out.2.1]; exact hlt
          have c1 : ∀ W, Below wr.heap.size wr W → Calls Try.prog 22 #[.pointer (some ⟨d1, 0, none⟩), .int .i64 (kn : Int)] W (AtY (T[kn]'hi2) W) := fun W hW => pad_at (hW2.later hW) hk1 he1
          have c2 : ∀ W, Below wr.heap.size wr W → Calls Try.prog 22 #[.pointer (some ⟨d2, 0, none⟩), .int .i64 (kn : Int)] W (AtY (T[kn]'hi2) W) := fun W hW => pad_at (hW2.later hW).swap hi2 rfl
          generalize T[kn]'hi2 = t at *
          obtain ⟨u, p, x⟩ := t
          have N := Lib.hid (And.intro c1 (And.intro c2 hW2)); clear c1 c2 hW2 he1
          go_wp2_with fail
          try go_at_call 22
          refine (N.out.1 _ (Below.refl _ _)).mono ?_
          rintro e y1 ⟨⟨sA, sn, sc⟩, ⟨rfl, hS1⟩, by1⟩
          obtain ⟨W1, hW1⟩ : ∃ W1, W1 = y1.alloc (.cells #[.int .i64 u, .slice sA sn sc, .int .i64 x] 35) := ⟨_, rfl⟩
          have bW1 : Below wr.heap.size wr W1 := by rw [hW1]; exact bt by1 (ba _ _)
          have bW2 : Below y1.heap.size y1 W1 := by rw [hW1]; exact ba _ _
          have gW1 : Blk W1 y1.heap.size 35 #[.int .i64 u, .slice sA sn sc, .int .i64 x] := by rw [hW1]; exact Blk.new _ _ _
          have M1 := Lib.hid (And.intro bW1 (And.intro gW1 (hS1.later bW2))); clear bW1 gW1 hS1 by1 bW2
          go_wp2_with fail
          try go_at_call 22
          rw [← hW1]
          clear hW1
          refine (N.out.2.1 _ M1.out.1).mono ?_
          rintro e y2 ⟨⟨tA, tn, tc⟩, ⟨rfl, hS2⟩, by2⟩
          obtain ⟨W2, hW2⟩ : ∃ W2, W2 = y2.alloc (.cells #[.int .i64 u, .slice tA tn tc, .int .i64 x] 35) := ⟨_, rfl⟩
          have bW2 : Below y2.heap.size y2 W2 := by rw [hW2]; exact ba _ _
          have gW2 : Blk W2 y2.heap.size 35 #[.int .i64 u, .slice tA tn tc, .int .i64 x] := by rw [hW2]; exact Blk.new _ _ _
          have M2 := Lib.hid (And.intro (bt M1.out.1 (bt by2 bW2)) (And.intro gW2 (And.intro (hS2.later bW2) (And.intro (M1.out.2.1.later (bt by2 bW2)) (M1.out.2.2.later (bt by2 bW2)))))); clear by2 bW2 gW2 hS2 M1
          obtain ⟨z0, z1, z2⟩ := M2.out.2.1.three
          obtain ⟨z3, z4, z5⟩ := M2.out.2.2.2.1.three
          rw [hW2] at z0 z1 z2 z3 z4 z5
          go_wp2_with (go_at_call 24; rw [← hW2]; (refine (same_yes u (sA, sn, sc) (tA, tn, tc) x p _ M2.out.2.2.2.2.pts M2.out.2.2.1.pts).mono ?_); rintro e y3 ⟨rfl, by3⟩; have M3 := Lib.hid by3; clear by3)
          go_roundw
          case rel => exact ⟨kn + 1, kn + 1, by omega, by go_num, by go_num, rfl, N.out.2.2.later (bt M2.out.1 M3.out)⟩
          case measure => simp [intOf]; omega
        · obtain rfl : i = m := by omega
          subst hr
          have hl1 : T.length = kn := by exact H.out.2.1
          have cL := hW2.len1
          rw [hl1] at cL
          have N := Lib.hid (And.intro cL hW2); clear cL hW2 hl1
          have e1 : ((kn : Int) == (kn : Int)) = true := by simp
          go_wp2_with (go_at_call 21; (refine (N.out.1).mono ?_); rintro e y1 ⟨rfl, by1⟩; have M1 := Lib.hid by1; clear by1)
          go_ret
          exact ⟨rfl, bt K2.out.1 (bt N.out.2.bel M1.out)⟩
end Go.Proofs.Yticjfhagpmlieaa
