/- Contracts of package value: Get. -/
import Derived.Test.YtbmkbpehkpdcmaaVari
import Derived.Test.YtbmkbpehkpdcmaaValue
import Derived.Test.YtbmkbpehkpdcmaaNum21
namespace Go.Proofs.Ytbmkbpehkpdcmaa
open Go.ChangeShapes Go.WideShapes Go.ChangeAt Go.RowKit
open Num (zig zag)
set_option linter.unusedVariables false
set_option linter.unusedSimpArgs false

theorem GetInt_no (s : ByteArray) (a : Int) (w : World) (hs : s.size ≤ maxLen) (h : Num.getAt s.data.toList a = none) :
    Calls Try.prog 41 #[.string s, .int .i64 a] w fun e w' => e = .returned (.tuple #[.int .i64 0, .int .i64 0, .bool false]) ∧ w = w' :=
  (GetInt_any s a w hs).mono fun _ _ ⟨he, hw⟩ => ⟨by rw [he, getIntV_none h], hw⟩
theorem GetInt_yes (s : ByteArray) (a : Int) (w : World) (hs : s.size ≤ maxLen) (u k : Nat) (h : Num.getAt s.data.toList a = some (u, k)) :
    Calls Try.prog 41 #[.string s, .int .i64 a] w fun e w' => e = .returned (.tuple #[.int .i64 (zag (u : Int)), .int .i64 (k : Int), .bool true]) ∧ w = w' :=
  (GetInt_any s a w hs).mono fun _ _ ⟨he, hw⟩ => ⟨by rw [he, getIntV_some h], hw⟩

theorem getTruth_out (s : ByteArray) (a : Int) (w : World) (hs : s.size ≤ 9223372036854775807) (h : (s.size : Int) ≤ a) :
    Calls Try.prog 42 #[.string s, .int .i64 a] w fun e w' => e = .returned (.tuple #[.int .i64 0, .int .i64 0, .bool false]) ∧ w = w' := by
  go_enter Try.func42, Try.ntmps42
  go_wp2
  go_ret3
  exact ⟨rfl, rfl⟩
theorem getTruth_no (s : ByteArray) (n : Nat) (w : World) (hs : s.size ≤ 9223372036854775807) (h : n < s.size) (hc : 1 < (s[n]'h).toNat) :
    Calls Try.prog 42 #[.string s, .int .i64 (n : Int)] w fun e w' => e = .returned (.tuple #[.int .i64 0, .int .i64 0, .bool false]) ∧ w = w' := by
  go_enter Try.func42, Try.ntmps42
  go_wp2
  go_ret3
  exact ⟨rfl, rfl⟩
theorem getTruth_yes (s : ByteArray) (n : Nat) (w : World) (hs : s.size ≤ 9223372036854775807) (h : n < s.size) (hc : (s[n]'h).toNat ≤ 1) :
    Calls Try.prog 42 #[.string s, .int .i64 (n : Int)] w fun e w' => e = .returned (.tuple #[.int .i64 ((s[n]'h).toNat : Int), .int .i64 ((n : Int) + 1), .bool true]) ∧ w = w' := by
  go_enter Try.func42, Try.ntmps42
  go_wp2
  go_ret3
  exact ⟨rfl, rfl⟩

theorem getText_out (s : ByteArray) (a : Int) (w : World) (hs : s.size ≤ maxLen) (h : Num.getAt s.data.toList a = none) :
    Calls Try.prog 43 #[.string s, .int .i64 a] w fun e w' => e = .returned (.tuple #[.string ⟨#[]⟩, .int .i64 0, .bool false]) ∧ w = w' := by
  have H := Lib.hid h; clear h
  go_enter Try.func43, Try.ntmps43
  go_wp2_with (go_at_call 40; ((with_reducible refine (Get_none _ _ _ hs H.out).mono ?_); rintro e w' ⟨rfl, rfl⟩))
  go_ret3
  exact ⟨rfl, rfl⟩
theorem getText_big (s : ByteArray) (a : Int) (w : World) (hs : s.size ≤ maxLen) (u k : Nat) (h : Num.getAt s.data.toList a = some (u, k)) (hu : 64 < u) :
    Calls Try.prog 43 #[.string s, .int .i64 a] w fun e w' => e = .returned (.tuple #[.string ⟨#[]⟩, .int .i64 0, .bool false]) ∧ w = w' := by
  have hl := (Num.getAt_some h).1
  have H := Lib.hid h; clear h
  go_enter Try.func43, Try.ntmps43
  go_wp2_with (go_at_call 40; ((with_reducible refine (Get_some _ _ _ hs _ _ H.out).mono ?_); rintro e w' ⟨rfl, rfl⟩))
  go_ret3
  exact ⟨rfl, rfl⟩
theorem getText_long (s : ByteArray) (a : Int) (w : World) (hs : s.size ≤ maxLen) (u k : Nat) (h : Num.getAt s.data.toList a = some (u, k)) (hu : u ≤ 64) (hk : s.size < k + u) :
    Calls Try.prog 43 #[.string s, .int .i64 a] w fun e w' => e = .returned (.tuple #[.string ⟨#[]⟩, .int .i64 0, .bool false]) ∧ w = w' := by
  have hl : k ≤ s.size := by simpa using (Num.getAt_some h).2.2.2.1
  have H := Lib.hid h; clear h
  have hs' := hs
  unfold maxLen at hs'
  go_enter Try.func43, Try.ntmps43
  go_wp2_with (go_at_call 40; ((with_reducible refine (Get_some _ _ _ hs _ _ H.out).mono ?_); rintro e w' ⟨rfl, rfl⟩))
  go_ret3
  exact ⟨rfl, rfl⟩
theorem getText_yes (s : ByteArray) (a : Int) (w : World) (hs : s.size ≤ maxLen) (u k : Nat) (h : Num.getAt s.data.toList a = some (u, k)) (hu : u ≤ 64) (hk : k + u ≤ s.size) :
    Calls Try.prog 43 #[.string s, .int .i64 a] w fun e w' => e = .returned (.tuple #[.string (s.extract k (k + u)), .int .i64 ((k : Int) + (u : Int)), .bool true]) ∧ w = w' := by
  have H := Lib.hid h; clear h
  have hs' := hs
  unfold maxLen at hs'
  have hsl := fun w => slice_string Try.prog w 9 Try.underlying9 s k (k + u) (by omega) hk
  simp only [Int.natCast_add] at hsl
  go_enter Try.func43, Try.ntmps43
  go_wp2_with (go_at_call 40; ((with_reducible refine (Get_some _ _ _ hs _ _ H.out).mono ?_); rintro e w' ⟨rfl, rfl⟩))
  go_ret3
  exact ⟨rfl, rfl⟩

/-- What Get answers. -/
def valueV : Option ((Int × Int × ByteArray) × Nat) → Value
  | none => .tuple #[vv 0 0 ⟨#[]⟩, .int .i64 0, .bool false]
  | some ((k, n, s), next) => .tuple #[vv k n s, .int .i64 (next : Int), .bool true]

theorem Get_out (S : ByteArray) (a : Int) (w : World) (hs : S.size ≤ maxLen) (h : a < 0 ∨ (S.size : Int) ≤ a) :
    Calls Try.prog 31 #[.string S, .int .i64 a] w fun e w' => e = .returned (valueV (Val.getAt S a)) ∧ Below w.heap.size w w' := by
  have hs' := hs
  unfold maxLen at hs'
  have E := Lib.hid (show Val.getAt S a = none from Val.getAt_out h)
  rcases h with h | h
  all_goals
    go_enter Try.func31, Try.ntmps31
    go_wp2
    exact bodyPost_ret (v := .tuple #[vv 0 0 ⟨#[]⟩, .int .i64 0, .bool false]) (by simp [results, Try.results31, go_sem]) rfl ⟨congrArg Ending.returned (by rw [E.out]; rfl), (Below.refl _ _).alloc (Nat.le_refl _) _⟩
theorem Get_1n (S : ByteArray) (n : Nat) (w : World) (hs : S.size ≤ maxLen) (h : n < S.size) (hc : (S[n]'h).toNat = 1) (hg : Num.getAt S.data.toList ((n + 1 : Nat) : Int) = none) :
    Calls Try.prog 31 #[.string S, .int .i64 (n : Int)] w fun e w' => e = .returned (valueV (Val.getAt S (n : Int))) ∧ Below w.heap.size w w' := by
  have hs' := hs
  unfold maxLen at hs'
  have E := Lib.hid (show Val.getAt S (n : Int) = none by rw [Val.getAt_in h, hc]; unfold Val.body; rw [if_pos rfl, hg]; rfl)
  rw [show ((n + 1 : Nat) : Int) = (n : Int) + 1 by omega] at hg
  go_enter Try.func31, Try.ntmps31
  go_wp2_with (first | (go_at_call 41; ((with_reducible refine (GetInt_no _ _ _ hs hg).mono ?_); rintro e w' ⟨rfl, rfl⟩)))
  exact bodyPost_ret (v := .tuple #[vv 0 0 ⟨#[]⟩, .int .i64 0, .bool false]) (by simp [results, Try.results31, go_sem]) rfl ⟨congrArg Ending.returned (by rw [E.out]; rfl), (Below.refl _ _).alloc (Nat.le_refl _) _⟩
theorem Get_1y (S : ByteArray) (n : Nat) (w : World) (hs : S.size ≤ maxLen) (u k : Nat) (h : n < S.size) (hc : (S[n]'h).toNat = 1) (hg : Num.getAt S.data.toList ((n + 1 : Nat) : Int) = some (u, k)) :
    Calls Try.prog 31 #[.string S, .int .i64 (n : Int)] w fun e w' => e = .returned (valueV (Val.getAt S (n : Int))) ∧ Below w.heap.size w w' := by
  have hs' := hs
  unfold maxLen at hs'
  have E := Lib.hid (show Val.getAt S (n : Int) = some ((1, zag (u : Int), ⟨#[]⟩), k) by rw [Val.getAt_in h, hc]; unfold Val.body; rw [if_pos rfl, hg]; rfl)
  rw [show ((n + 1 : Nat) : Int) = (n : Int) + 1 by omega] at hg
  go_enter Try.func31, Try.ntmps31
  go_wp2_with (first | (go_at_call 41; ((with_reducible refine (GetInt_yes _ _ _ hs _ _ hg).mono ?_); rintro e w' ⟨rfl, rfl⟩)))
  exact bodyPost_ret (v := .tuple #[vv 1 (zag (u : Int)) ⟨#[]⟩, .int .i64 (k : Int), .bool true]) (by simp [results, Try.results31, go_sem]) rfl ⟨congrArg Ending.returned (by rw [E.out]; rfl), (Below.refl _ _).alloc (Nat.le_refl _) _⟩
theorem Get_2o (S : ByteArray) (n : Nat) (w : World) (hs : S.size ≤ maxLen) (h : n < S.size) (hc : (S[n]'h).toNat = 2) (hg : S.size ≤ n + 1) :
    Calls Try.prog 31 #[.string S, .int .i64 (n : Int)] w fun e w' => e = .returned (valueV (Val.getAt S (n : Int))) ∧ Below w.heap.size w w' := by
  have hs' := hs
  unfold maxLen at hs'
  have E := Lib.hid (show Val.getAt S (n : Int) = none by rw [Val.getAt_in h, hc]; unfold Val.body; rw [if_neg (by decide), if_pos rfl, Val.getD_out _ _ hg, if_neg (by decide)])
  go_enter Try.func31, Try.ntmps31
  go_wp2_with (first | (go_at_call 42; ((with_reducible refine (getTruth_out _ _ _ hs' (by omega)).mono ?_); rintro e w' ⟨rfl, rfl⟩)))
  exact bodyPost_ret (v := .tuple #[vv 0 0 ⟨#[]⟩, .int .i64 0, .bool false]) (by simp [results, Try.results31, go_sem]) rfl ⟨congrArg Ending.returned (by rw [E.out]; rfl), (Below.refl _ _).alloc (Nat.le_refl _) _⟩
theorem Get_2n (S : ByteArray) (n : Nat) (w : World) (hs : S.size ≤ maxLen) (h : n < S.size) (hc : (S[n]'h).toNat = 2) (hg : n + 1 < S.size) (hb : 1 < (S[n + 1]'hg).toNat) :
    Calls Try.prog 31 #[.string S, .int .i64 (n : Int)] w fun e w' => e = .returned (valueV (Val.getAt S (n : Int))) ∧ Below w.heap.size w w' := by
  have hs' := hs
  unfold maxLen at hs'
  have E := Lib.hid (show Val.getAt S (n : Int) = none by rw [Val.getAt_in h, hc]; unfold Val.body; rw [if_neg (by decide), if_pos rfl, Val.getD_in _ _ hg, if_neg (by omega)])
  have ct0 := fun w => getTruth_no S (n + 1) w hs' hg hb
  simp only [Int.natCast_add, Int.natCast_one] at ct0
  have ct := Lib.hid ct0; clear ct0
  go_enter Try.func31, Try.ntmps31
  go_wp2_with (first | (go_at_call 42; ((with_reducible refine (ct.out _).mono ?_); rintro e w' ⟨rfl, rfl⟩)))
  exact bodyPost_ret (v := .tuple #[vv 0 0 ⟨#[]⟩, .int .i64 0, .bool false]) (by simp [results, Try.results31, go_sem]) rfl ⟨congrArg Ending.returned (by rw [E.out]; rfl), (Below.refl _ _).alloc (Nat.le_refl _) _⟩
theorem Get_2y (S : ByteArray) (n : Nat) (w : World) (hs : S.size ≤ maxLen) (h : n < S.size) (hc : (S[n]'h).toNat = 2) (hg : n + 1 < S.size) (hb : (S[n + 1]'hg).toNat ≤ 1) :
    Calls Try.prog 31 #[.string S, .int .i64 (n : Int)] w fun e w' => e = .returned (valueV (Val.getAt S (n : Int))) ∧ Below w.heap.size w w' := by
  have hs' := hs
  unfold maxLen at hs'
  have E := Lib.hid (show Val.getAt S (n : Int) = some ((2, ((S[n + 1]'hg).toNat : Int), ⟨#[]⟩), n + 1 + 1) by rw [Val.getAt_in h, hc]; unfold Val.body; rw [if_neg (by decide), if_pos rfl, Val.getD_in _ _ hg, if_pos hb])
  have ct0 := fun w => getTruth_yes S (n + 1) w hs' hg hb
  simp only [Int.natCast_add, Int.natCast_one] at ct0
  have ct := Lib.hid ct0; clear ct0
  go_enter Try.func31, Try.ntmps31
  go_wp2_with (first | (go_at_call 42; ((with_reducible refine (ct.out _).mono ?_); rintro e w' ⟨rfl, rfl⟩)))
  exact bodyPost_ret (v := .tuple #[vv 2 ((S[n + 1]'hg).toNat : Int) ⟨#[]⟩, .int .i64 ((n + 1 + 1 : Nat) : Int), .bool true]) (by simp [results, Try.results31, go_sem]) rfl ⟨congrArg Ending.returned (by rw [E.out]; rfl), (Below.refl _ _).alloc (Nat.le_refl _) _⟩
theorem Get_3n (S : ByteArray) (n : Nat) (w : World) (hs : S.size ≤ maxLen) (h : n < S.size) (hc : (S[n]'h).toNat = 3) (hg : Num.getAt S.data.toList ((n + 1 : Nat) : Int) = none) :
    Calls Try.prog 31 #[.string S, .int .i64 (n : Int)] w fun e w' => e = .returned (valueV (Val.getAt S (n : Int))) ∧ Below w.heap.size w w' := by
  have hs' := hs
  unfold maxLen at hs'
  have E := Lib.hid (show Val.getAt S (n : Int) = none by rw [Val.getAt_in h, hc]; unfold Val.body; rw [if_neg (by decide), if_neg (by decide), if_pos rfl, hg])
  rw [show ((n + 1 : Nat) : Int) = (n : Int) + 1 by omega] at hg
  go_enter Try.func31, Try.ntmps31
  go_wp2_with (first | (go_at_call 43; ((with_reducible refine (getText_out _ _ _ hs hg).mono ?_); rintro e w' ⟨rfl, rfl⟩)))
  exact bodyPost_ret (v := .tuple #[vv 0 0 ⟨#[]⟩, .int .i64 0, .bool false]) (by simp [results, Try.results31, go_sem]) rfl ⟨congrArg Ending.returned (by rw [E.out]; rfl), (Below.refl _ _).alloc (Nat.le_refl _) _⟩
theorem Get_3b (S : ByteArray) (n : Nat) (w : World) (hs : S.size ≤ maxLen) (u k : Nat) (h : n < S.size) (hc : (S[n]'h).toNat = 3) (hg : Num.getAt S.data.toList ((n + 1 : Nat) : Int) = some (u, k)) (hu : 64 < u) :
    Calls Try.prog 31 #[.string S, .int .i64 (n : Int)] w fun e w' => e = .returned (valueV (Val.getAt S (n : Int))) ∧ Below w.heap.size w w' := by
  have hs' := hs
  unfold maxLen at hs'
  have E := Lib.hid (show Val.getAt S (n : Int) = none by rw [Val.getAt_in h, hc]; unfold Val.body; rw [if_neg (by decide), if_neg (by decide), if_pos rfl, hg]; exact if_neg (by show ¬ (u ≤ 64 ∧ _); omega))
  rw [show ((n + 1 : Nat) : Int) = (n : Int) + 1 by omega] at hg
  go_enter Try.func31, Try.ntmps31
  go_wp2_with (first | (go_at_call 43; ((with_reducible refine (getText_big _ _ _ hs _ _ hg hu).mono ?_); rintro e w' ⟨rfl, rfl⟩)))
  exact bodyPost_ret (v := .tuple #[vv 0 0 ⟨#[]⟩, .int .i64 0, .bool false]) (by simp [results, Try.results31, go_sem]) rfl ⟨congrArg Ending.returned (by rw [E.out]; rfl), (Below.refl _ _).alloc (Nat.le_refl _) _⟩
theorem Get_3l (S : ByteArray) (n : Nat) (w : World) (hs : S.size ≤ maxLen) (u k : Nat) (h : n < S.size) (hc : (S[n]'h).toNat = 3) (hg : Num.getAt S.data.toList ((n + 1 : Nat) : Int) = some (u, k)) (hu : u ≤ 64) (hk : S.size < k + u) :
    Calls Try.prog 31 #[.string S, .int .i64 (n : Int)] w fun e w' => e = .returned (valueV (Val.getAt S (n : Int))) ∧ Below w.heap.size w w' := by
  have hs' := hs
  unfold maxLen at hs'
  have E := Lib.hid (show Val.getAt S (n : Int) = none by rw [Val.getAt_in h, hc]; unfold Val.body; rw [if_neg (by decide), if_neg (by decide), if_pos rfl, hg]; exact if_neg (by show ¬ (_ ∧ k + u ≤ S.size); omega))
  rw [show ((n + 1 : Nat) : Int) = (n : Int) + 1 by omega] at hg
  go_enter Try.func31, Try.ntmps31
  go_wp2_with (first | (go_at_call 43; ((with_reducible refine (getText_long _ _ _ hs _ _ hg hu hk).mono ?_); rintro e w' ⟨rfl, rfl⟩)))
  exact bodyPost_ret (v := .tuple #[vv 0 0 ⟨#[]⟩, .int .i64 0, .bool false]) (by simp [results, Try.results31, go_sem]) rfl ⟨congrArg Ending.returned (by rw [E.out]; rfl), (Below.refl _ _).alloc (Nat.le_refl _) _⟩
theorem Get_3y (S : ByteArray) (n : Nat) (w : World) (hs : S.size ≤ maxLen) (u k : Nat) (h : n < S.size) (hc : (S[n]'h).toNat = 3) (hg : Num.getAt S.data.toList ((n + 1 : Nat) : Int) = some (u, k)) (hu : u ≤ 64) (hk : k + u ≤ S.size) :
    Calls Try.prog 31 #[.string S, .int .i64 (n : Int)] w fun e w' => e = .returned (valueV (Val.getAt S (n : Int))) ∧ Below w.heap.size w w' := by
  have hs' := hs
  unfold maxLen at hs'
  have E := Lib.hid (show Val.getAt S (n : Int) = some ((3, 0, S.extract k (k + u)), k + u) by rw [Val.getAt_in h, hc]; unfold Val.body; rw [if_neg (by decide), if_neg (by decide), if_pos rfl, hg]; exact if_pos ⟨hu, hk⟩)
  rw [show ((n + 1 : Nat) : Int) = (n : Int) + 1 by omega] at hg
  go_enter Try.func31, Try.ntmps31
  go_wp2_with (first | (go_at_call 43; ((with_reducible refine (getText_yes _ _ _ hs _ _ hg hu hk).mono ?_); rintro e w' ⟨rfl, rfl⟩)))
  exact bodyPost_ret (v := .tuple #[vv 3 0 (S.extract k (k + u)), .int .i64 ((k + u : Nat) : Int), .bool true]) (by simp [results, Try.results31, go_sem]) rfl ⟨congrArg Ending.returned (by rw [E.out]; rfl), (Below.refl _ _).alloc (Nat.le_refl _) _⟩
theorem Get_o (S : ByteArray) (n : Nat) (w : World) (hs : S.size ≤ maxLen) (h : n < S.size) (h1 : (S[n]'h).toNat ≠ 1) (h2 : (S[n]'h).toNat ≠ 2) (h3 : (S[n]'h).toNat ≠ 3) :
    Calls Try.prog 31 #[.string S, .int .i64 (n : Int)] w fun e w' => e = .returned (valueV (Val.getAt S (n : Int))) ∧ Below w.heap.size w w' := by
  have hs' := hs
  unfold maxLen at hs'
  have E := Lib.hid (show Val.getAt S (n : Int) = none by rw [Val.getAt_in h]; unfold Val.body; rw [if_neg h1, if_neg h2, if_neg h3])
  go_enter Try.func31, Try.ntmps31
  go_wp2
  exact bodyPost_ret (v := .tuple #[vv 0 0 ⟨#[]⟩, .int .i64 0, .bool false]) (by simp [results, Try.results31, go_sem]) rfl ⟨congrArg Ending.returned (by rw [E.out]; rfl), (Below.refl _ _).alloc (Nat.le_refl _) _⟩
theorem Get_v (S : ByteArray) (a : Int) (w : World) (hs : S.size ≤ maxLen) :
    Calls Try.prog 31 #[.string S, .int .i64 a] w fun e w' => e = .returned (valueV (Val.getAt S a)) ∧ Below w.heap.size w w' := by
  rcases (by omega : (a < 0 ∨ (S.size : Int) ≤ a) ∨ (0 ≤ a ∧ a < (S.size : Int))) with h | ⟨h0, h1⟩
  · exact Get_out S a w hs h
  · obtain ⟨n, rfl⟩ := Int.eq_ofNat_of_zero_le h0
    have h : n < S.size := by omega
    by_cases c1 : (S[n]'h).toNat = 1
    · rcases hg : Num.getAt S.data.toList ((n + 1 : Nat) : Int) with _ | ⟨u, k⟩
      · exact Get_1n S n w hs h c1 hg
      · exact Get_1y S n w hs u k h c1 hg
    by_cases c2 : (S[n]'h).toNat = 2
    · rcases (by omega : S.size ≤ n + 1 ∨ n + 1 < S.size) with hg | hg
      · exact Get_2o S n w hs h c2 hg
      · rcases (by omega : 1 < (S[n + 1]'hg).toNat ∨ (S[n + 1]'hg).toNat ≤ 1) with hb | hb
        · exact Get_2n S n w hs h c2 hg hb
        · exact Get_2y S n w hs h c2 hg hb
    by_cases c3 : (S[n]'h).toNat = 3
    · rcases hg : Num.getAt S.data.toList ((n + 1 : Nat) : Int) with _ | ⟨u, k⟩
      · exact Get_3n S n w hs h c3 hg
      · rcases (by omega : 64 < u ∨ (u ≤ 64 ∧ S.size < k + u) ∨ (u ≤ 64 ∧ k + u ≤ S.size)) with hu | ⟨hu, hk⟩ | ⟨hu, hk⟩
        · exact Get_3b S n w hs u k h c3 hg hu
        · exact Get_3l S n w hs u k h c3 hg hu hk
        · exact Get_3y S n w hs u k h c3 hg hu hk
    exact Get_o S n w hs h c1 c2 c3
end Go.Proofs.Ytbmkbpehkpdcmaa
