/- Contracts of the document's own answer to chapter 2: Get. -/
import Derived.Test.YtbmkbpehkpdcmaaRefV
import Derived.Test.YtbmkbpehkpdcmaaRef01
import Derived.Test.YtbmkbpehkpdcmaaValueG
namespace Go.Proofs.Ytbmkbpehkpdcmaa
open Go.ChangeShapes Go.WideShapes Go.ChangeAt Go.RowKit
open Num (zig zag)
set_option linter.unusedVariables false
set_option linter.unusedSimpArgs false

theorem rGetInt_no (s : ByteArray) (a : Int) (w : World) (hs : s.size ≤ maxLen) (h : Num.getAt s.data.toList a = none) :
    Calls Try.prog 44 #[.string s, .int .i64 a] w fun e w' => e = .returned (.tuple #[.int .i64 0, .int .i64 0, .bool false]) ∧ w = w' :=
  (rGetInt_any s a w hs).mono fun _ _ ⟨he, hw⟩ => ⟨by rw [he, getIntV_none h], hw⟩
theorem rGetInt_yes (s : ByteArray) (a : Int) (w : World) (hs : s.size ≤ maxLen) (u k : Nat) (h : Num.getAt s.data.toList a = some (u, k)) :
    Calls Try.prog 44 #[.string s, .int .i64 a] w fun e w' => e = .returned (.tuple #[.int .i64 (zag (u : Int)), .int .i64 (k : Int), .bool true]) ∧ w = w' :=
  (rGetInt_any s a w hs).mono fun _ _ ⟨he, hw⟩ => ⟨by rw [he, getIntV_some h], hw⟩

theorem rGetV_out (S : ByteArray) (a : Int) (w : World) (hs : S.size ≤ maxLen) (h : a < 0 ∨ (S.size : Int) ≤ a) :
    Calls Try.prog 32 #[.string S, .int .i64 a] w fun e w' => e = .returned (valueV (Val.getAt S a)) ∧ Below w.heap.size w w' := by
  have hs' := hs
  unfold maxLen at hs'
  have E := Lib.hid (show Val.getAt S a = none from Val.getAt_out h)
  rcases h with h | h
  all_goals
    go_enter Try.func32, Try.ntmps32
    go_wp2
    exact bodyPost_ret (v := .tuple #[vv 0 0 ⟨#[]⟩, .int .i64 0, .bool false]) (by simp [results, Try.results32, go_sem]) rfl ⟨congrArg Ending.returned (by rw [E.out]; rfl), by first | exact Below.refl _ _ | exact ba _ _ | exact bt (ba _ _) (ba _ _) | exact bt (ba _ _) (bt (ba _ _) (ba _ _))⟩
theorem rGetV_1n (S : ByteArray) (n : Nat) (w : World) (hs : S.size ≤ maxLen) (h : n < S.size) (hc : (S[n]'h).toNat = 1) (hg : Num.getAt S.data.toList ((n + 1 : Nat) : Int) = none) :
    Calls Try.prog 32 #[.string S, .int .i64 (n : Int)] w fun e w' => e = .returned (valueV (Val.getAt S (n : Int))) ∧ Below w.heap.size w w' := by
  have hs' := hs
  unfold maxLen at hs'
  have E := Lib.hid (show Val.getAt S (n : Int) = none by rw [Val.getAt_in h, hc]; unfold Val.body; rw [if_pos rfl, hg]; rfl)
  rw [show ((n + 1 : Nat) : Int) = (n : Int) + 1 by omega] at hg
  go_enter Try.func32, Try.ntmps32
  go_wp2_with (first | (go_at_call 44; ((with_reducible refine (rGetInt_no _ _ _ hs hg).mono ?_); rintro e w' ⟨rfl, rfl⟩)))
  exact bodyPost_ret (v := .tuple #[vv 0 0 ⟨#[]⟩, .int .i64 0, .bool false]) (by simp [results, Try.results32, go_sem]) rfl ⟨congrArg Ending.returned (by rw [E.out]; rfl), by first | exact Below.refl _ _ | exact ba _ _ | exact bt (ba _ _) (ba _ _) | exact bt (ba _ _) (bt (ba _ _) (ba _ _))⟩
theorem rGetV_1y (S : ByteArray) (n : Nat) (w : World) (hs : S.size ≤ maxLen) (u k : Nat) (h : n < S.size) (hc : (S[n]'h).toNat = 1) (hg : Num.getAt S.data.toList ((n + 1 : Nat) : Int) = some (u, k)) :
    Calls Try.prog 32 #[.string S, .int .i64 (n : Int)] w fun e w' => e = .returned (valueV (Val.getAt S (n : Int))) ∧ Below w.heap.size w w' := by
  have hs' := hs
  unfold maxLen at hs'
  have E := Lib.hid (show Val.getAt S (n : Int) = some ((1, zag (u : Int), ⟨#[]⟩), k) by rw [Val.getAt_in h, hc]; unfold Val.body; rw [if_pos rfl, hg]; rfl)
  have hq1 := (Num.getAt_some hg).1
  have hq2 : k ≤ S.size := by simpa using (Num.getAt_some hg).2.2.2.1
  rw [show ((n + 1 : Nat) : Int) = (n : Int) + 1 by omega] at hg
  go_enter Try.func32, Try.ntmps32
  go_wp2_with (first | (go_at_call 44; ((with_reducible refine (rGetInt_yes _ _ _ hs _ _ hg).mono ?_); rintro e w' ⟨rfl, rfl⟩)))
  exact bodyPost_ret (v := .tuple #[vv 1 (zag (u : Int)) ⟨#[]⟩, .int .i64 (k : Int), .bool true]) (by simp [results, Try.results32, go_sem]) rfl ⟨congrArg Ending.returned (by rw [E.out]; rfl), by first | exact Below.refl _ _ | exact ba _ _ | exact bt (ba _ _) (ba _ _) | exact bt (ba _ _) (bt (ba _ _) (ba _ _))⟩
theorem rGetV_2o (S : ByteArray) (n : Nat) (w : World) (hs : S.size ≤ maxLen) (h : n < S.size) (hc : (S[n]'h).toNat = 2) (hg : S.size ≤ n + 1) :
    Calls Try.prog 32 #[.string S, .int .i64 (n : Int)] w fun e w' => e = .returned (valueV (Val.getAt S (n : Int))) ∧ Below w.heap.size w w' := by
  have hs' := hs
  unfold maxLen at hs'
  have E := Lib.hid (show Val.getAt S (n : Int) = none by rw [Val.getAt_in h, hc]; unfold Val.body; rw [if_neg (by decide), if_pos rfl, Val.getD_out _ _ hg, if_neg (by decide)])
  go_enter Try.func32, Try.ntmps32
  go_wp2
  exact bodyPost_ret (v := .tuple #[vv 0 0 ⟨#[]⟩, .int .i64 0, .bool false]) (by simp [results, Try.results32, go_sem]) rfl ⟨congrArg Ending.returned (by rw [E.out]; rfl), by first | exact Below.refl _ _ | exact ba _ _ | exact bt (ba _ _) (ba _ _) | exact bt (ba _ _) (bt (ba _ _) (ba _ _))⟩
theorem rGetV_2n (S : ByteArray) (n : Nat) (w : World) (hs : S.size ≤ maxLen) (h : n < S.size) (hc : (S[n]'h).toNat = 2) (hg : n + 1 < S.size) (hb : 1 < (S[n + 1]'hg).toNat) :
    Calls Try.prog 32 #[.string S, .int .i64 (n : Int)] w fun e w' => e = .returned (valueV (Val.getAt S (n : Int))) ∧ Below w.heap.size w w' := by
  have hs' := hs
  unfold maxLen at hs'
  have E := Lib.hid (show Val.getAt S (n : Int) = none by rw [Val.getAt_in h, hc]; unfold Val.body; rw [if_neg (by decide), if_pos rfl, Val.getD_in _ _ hg, if_neg (by omega)])
  go_enter Try.func32, Try.ntmps32
  go_wp2
  exact bodyPost_ret (v := .tuple #[vv 0 0 ⟨#[]⟩, .int .i64 0, .bool false]) (by simp [results, Try.results32, go_sem]) rfl ⟨congrArg Ending.returned (by rw [E.out]; rfl), by first | exact Below.refl _ _ | exact ba _ _ | exact bt (ba _ _) (ba _ _) | exact bt (ba _ _) (bt (ba _ _) (ba _ _))⟩
theorem rGetV_2y (S : ByteArray) (n : Nat) (w : World) (hs : S.size ≤ maxLen) (h : n < S.size) (hc : (S[n]'h).toNat = 2) (hg : n + 1 < S.size) (hb : (S[n + 1]'hg).toNat ≤ 1) :
    Calls Try.prog 32 #[.string S, .int .i64 (n : Int)] w fun e w' => e = .returned (valueV (Val.getAt S (n : Int))) ∧ Below w.heap.size w w' := by
  have hs' := hs
  unfold maxLen at hs'
  have E := Lib.hid (show Val.getAt S (n : Int) = some ((2, ((S[n + 1]'hg).toNat : Int), ⟨#[]⟩), n + 1 + 1) by rw [Val.getAt_in h, hc]; unfold Val.body; rw [if_neg (by decide), if_pos rfl, Val.getD_in _ _ hg, if_pos hb])
  go_enter Try.func32, Try.ntmps32
  go_wp2
  exact bodyPost_ret (v := .tuple #[vv 2 ((S[n + 1]'hg).toNat : Int) ⟨#[]⟩, .int .i64 ((n + 1 + 1 : Nat) : Int), .bool true]) (by simp [results, Try.results32, go_sem]) rfl ⟨congrArg Ending.returned (by rw [E.out]; rfl), by first | exact Below.refl _ _ | exact ba _ _ | exact bt (ba _ _) (ba _ _) | exact bt (ba _ _) (bt (ba _ _) (ba _ _))⟩
theorem rGetV_3n (S : ByteArray) (n : Nat) (w : World) (hs : S.size ≤ maxLen) (h : n < S.size) (hc : (S[n]'h).toNat = 3) (hg : Num.getAt S.data.toList ((n + 1 : Nat) : Int) = none) :
    Calls Try.prog 32 #[.string S, .int .i64 (n : Int)] w fun e w' => e = .returned (valueV (Val.getAt S (n : Int))) ∧ Below w.heap.size w w' := by
  have hs' := hs
  unfold maxLen at hs'
  have E := Lib.hid (show Val.getAt S (n : Int) = none by rw [Val.getAt_in h, hc]; unfold Val.body; rw [if_neg (by decide), if_neg (by decide), if_pos rfl, hg])
  rw [show ((n + 1 : Nat) : Int) = (n : Int) + 1 by omega] at hg
  go_enter Try.func32, Try.ntmps32
  go_wp2_with (first | (go_at_call 30; ((with_reducible refine (rGet_none _ _ _ hs hg).mono ?_); rintro e w' ⟨rfl, rfl⟩)))
  exact bodyPost_ret (v := .tuple #[vv 0 0 ⟨#[]⟩, .int .i64 0, .bool false]) (by simp [results, Try.results32, go_sem]) rfl ⟨congrArg Ending.returned (by rw [E.out]; rfl), by first | exact Below.refl _ _ | exact ba _ _ | exact bt (ba _ _) (ba _ _) | exact bt (ba _ _) (bt (ba _ _) (ba _ _))⟩
theorem rGetV_3b (S : ByteArray) (n : Nat) (w : World) (hs : S.size ≤ maxLen) (u k : Nat) (h : n < S.size) (hc : (S[n]'h).toNat = 3) (hg : Num.getAt S.data.toList ((n + 1 : Nat) : Int) = some (u, k)) (hu : 64 < u) :
    Calls Try.prog 32 #[.string S, .int .i64 (n : Int)] w fun e w' => e = .returned (valueV (Val.getAt S (n : Int))) ∧ Below w.heap.size w w' := by
  have hs' := hs
  unfold maxLen at hs'
  have E := Lib.hid (show Val.getAt S (n : Int) = none by rw [Val.getAt_in h, hc]; unfold Val.body; rw [if_neg (by decide), if_neg (by decide), if_pos rfl, hg]; exact if_neg (by show ¬ (u ≤ 64 ∧ _); omega))
  have hq1 := (Num.getAt_some hg).1
  have hq2 : k ≤ S.size := by simpa using (Num.getAt_some hg).2.2.2.1
  rw [show ((n + 1 : Nat) : Int) = (n : Int) + 1 by omega] at hg
  go_enter Try.func32, Try.ntmps32
  go_wp2_with (first | (go_at_call 30; ((with_reducible refine (rGet_some _ _ _ hs _ _ hg).mono ?_); rintro e w' ⟨rfl, rfl⟩)))
  exact bodyPost_ret (v := .tuple #[vv 0 0 ⟨#[]⟩, .int .i64 0, .bool false]) (by simp [results, Try.results32, go_sem]) rfl ⟨congrArg Ending.returned (by rw [E.out]; rfl), by first | exact Below.refl _ _ | exact ba _ _ | exact bt (ba _ _) (ba _ _) | exact bt (ba _ _) (bt (ba _ _) (ba _ _))⟩
theorem rGetV_3l (S : ByteArray) (n : Nat) (w : World) (hs : S.size ≤ maxLen) (u k : Nat) (h : n < S.size) (hc : (S[n]'h).toNat = 3) (hg : Num.getAt S.data.toList ((n + 1 : Nat) : Int) = some (u, k)) (hu : u ≤ 64) (hk : S.size < k + u) :
    Calls Try.prog 32 #[.string S, .int .i64 (n : Int)] w fun e w' => e = .returned (valueV (Val.getAt S (n : Int))) ∧ Below w.heap.size w w' := by
  have hs' := hs
  unfold maxLen at hs'
  have E := Lib.hid (show Val.getAt S (n : Int) = none by rw [Val.getAt_in h, hc]; unfold Val.body; rw [if_neg (by decide), if_neg (by decide), if_pos rfl, hg]; exact if_neg (by show ¬ (_ ∧ k + u ≤ S.size); omega))
  have hq1 := (Num.getAt_some hg).1
  have hq2 : k ≤ S.size := by simpa using (Num.getAt_some hg).2.2.2.1
  rw [show ((n + 1 : Nat) : Int) = (n : Int) + 1 by omega] at hg
  go_enter Try.func32, Try.ntmps32
  go_wp2_with (first | (go_at_call 30; ((with_reducible refine (rGet_some _ _ _ hs _ _ hg).mono ?_); rintro e w' ⟨rfl, rfl⟩)))
  exact bodyPost_ret (v := .tuple #[vv 0 0 ⟨#[]⟩, .int .i64 0, .bool false]) (by simp [results, Try.results32, go_sem]) rfl ⟨congrArg Ending.returned (by rw [E.out]; rfl), by first | exact Below.refl _ _ | exact ba _ _ | exact bt (ba _ _) (ba _ _) | exact bt (ba _ _) (bt (ba _ _) (ba _ _))⟩
theorem rGetV_3y (S : ByteArray) (n : Nat) (w : World) (hs : S.size ≤ maxLen) (u k : Nat) (h : n < S.size) (hc : (S[n]'h).toNat = 3) (hg : Num.getAt S.data.toList ((n + 1 : Nat) : Int) = some (u, k)) (hu : u ≤ 64) (hk : k + u ≤ S.size) :
    Calls Try.prog 32 #[.string S, .int .i64 (n : Int)] w fun e w' => e = .returned (valueV (Val.getAt S (n : Int))) ∧ Below w.heap.size w w' := by
  have hs' := hs
  unfold maxLen at hs'
  have E := Lib.hid (show Val.getAt S (n : Int) = some ((3, 0, S.extract k (k + u)), k + u) by rw [Val.getAt_in h, hc]; unfold Val.body; rw [if_neg (by decide), if_neg (by decide), if_pos rfl, hg]; exact if_pos ⟨hu, hk⟩)
  have hq1 := (Num.getAt_some hg).1
  have hq2 : k ≤ S.size := by simpa using (Num.getAt_some hg).2.2.2.1
  have hsl := fun w => slice_string Try.prog w 9 Try.underlying9 S k (k + u) (by omega) hk
  simp only [Int.natCast_add] at hsl
  rw [show ((n + 1 : Nat) : Int) = (n : Int) + 1 by omega] at hg
  go_enter Try.func32, Try.ntmps32
  go_wp2_with (first | (go_at_call 30; ((with_reducible refine (rGet_some _ _ _ hs _ _ hg).mono ?_); rintro e w' ⟨rfl, rfl⟩)))
  exact bodyPost_ret (v := .tuple #[vv 3 0 (S.extract k (k + u)), .int .i64 ((k + u : Nat) : Int), .bool true]) (by simp [results, Try.results32, go_sem]) rfl ⟨congrArg Ending.returned (by rw [E.out]; rfl), by first | exact Below.refl _ _ | exact ba _ _ | exact bt (ba _ _) (ba _ _) | exact bt (ba _ _) (bt (ba _ _) (ba _ _))⟩
theorem rGetV_o (S : ByteArray) (n : Nat) (w : World) (hs : S.size ≤ maxLen) (h : n < S.size) (h1 : (S[n]'h).toNat ≠ 1) (h2 : (S[n]'h).toNat ≠ 2) (h3 : (S[n]'h).toNat ≠ 3) :
    Calls Try.prog 32 #[.string S, .int .i64 (n : Int)] w fun e w' => e = .returned (valueV (Val.getAt S (n : Int))) ∧ Below w.heap.size w w' := by
  have hs' := hs
  unfold maxLen at hs'
  have E := Lib.hid (show Val.getAt S (n : Int) = none by rw [Val.getAt_in h]; unfold Val.body; rw [if_neg h1, if_neg h2, if_neg h3])
  have hlt : (S[n]'h).toNat ≤ 255 := by have := (S[n]'h).toNat_lt; omega
  have q1 : (((S[n]'h).toNat : Int) == 1) = false := by simpa using (by omega : ¬ ((S[n]'h).toNat : Int) = 1)
  have q2 : (((S[n]'h).toNat : Int) == 2) = false := by simpa using (by omega : ¬ ((S[n]'h).toNat : Int) = 2)
  have q3 : (((S[n]'h).toNat : Int) == 3) = false := by simpa using (by omega : ¬ ((S[n]'h).toNat : Int) = 3)
  have p1 : ¬ ((S[n]'h).toNat : Int) = 1 := by omega
  have p2 : ¬ ((S[n]'h).toNat : Int) = 2 := by omega
  have p3 : ¬ ((S[n]'h).toNat : Int) = 3 := by omega
  clear h1 h2 h3
  go_enter Try.func32, Try.ntmps32
  go_wp2
  exact bodyPost_ret (v := .tuple #[vv 0 0 ⟨#[]⟩, .int .i64 0, .bool false]) (by simp [results, Try.results32, go_sem]) rfl ⟨congrArg Ending.returned (by rw [E.out]; rfl), by first | exact Below.refl _ _ | exact ba _ _ | exact bt (ba _ _) (ba _ _) | exact bt (ba _ _) (bt (ba _ _) (ba _ _))⟩
theorem rGetV_v (S : ByteArray) (a : Int) (w : World) (hs : S.size ≤ maxLen) :
    Calls Try.prog 32 #[.string S, .int .i64 a] w fun e w' => e = .returned (valueV (Val.getAt S a)) ∧ Below w.heap.size w w' := by
  rcases (by omega : (a < 0 ∨ (S.size : Int) ≤ a) ∨ (0 ≤ a ∧ a < (S.size : Int))) with h | ⟨h0, h1⟩
  · exact rGetV_out S a w hs h
  · obtain ⟨n, rfl⟩ := Int.eq_ofNat_of_zero_le h0
    have h : n < S.size := by omega
    by_cases c1 : (S[n]'h).toNat = 1
    · rcases hg : Num.getAt S.data.toList ((n + 1 : Nat) : Int) with _ | ⟨u, k⟩
      · exact rGetV_1n S n w hs h c1 hg
      · exact rGetV_1y S n w hs u k h c1 hg
    by_cases c2 : (S[n]'h).toNat = 2
    · rcases (by omega : S.size ≤ n + 1 ∨ n + 1 < S.size) with hg | hg
      · exact rGetV_2o S n w hs h c2 hg
      · rcases (by omega : 1 < (S[n + 1]'hg).toNat ∨ (S[n + 1]'hg).toNat ≤ 1) with hb | hb
        · exact rGetV_2n S n w hs h c2 hg hb
        · exact rGetV_2y S n w hs h c2 hg hb
    by_cases c3 : (S[n]'h).toNat = 3
    · rcases hg : Num.getAt S.data.toList ((n + 1 : Nat) : Int) with _ | ⟨u, k⟩
      · exact rGetV_3n S n w hs h c3 hg
      · rcases (by omega : 64 < u ∨ (u ≤ 64 ∧ S.size < k + u) ∨ (u ≤ 64 ∧ k + u ≤ S.size)) with hu | ⟨hu, hk⟩ | ⟨hu, hk⟩
        · exact rGetV_3b S n w hs u k h c3 hg hu
        · exact rGetV_3l S n w hs u k h c3 hg hu hk
        · exact rGetV_3y S n w hs u k h c3 hg hu hk
    exact rGetV_o S n w hs h c1 c2 c3
end Go.Proofs.Ytbmkbpehkpdcmaa
