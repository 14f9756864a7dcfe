/- ValueWrong: the walk. -/
import Derived.Test.YtomldmdnoalbiaaDoorEx02
import Derived.Test.YtomldmdnoalbiaaDoorNum23
namespace Go.Proofs.YtomldmdnoalbiaaDoor
open Go.ChangeShapes Go.WideShapes Go.ChangeAt Go.RowKit
set_option linter.unusedVariables false
set_option linter.unusedSimpArgs false

/-- What the calls answer of a value that is not right. -/
theorem wrong_pack (K N : Int) (S : ByteArray) (k a : Int) (A : ByteArray) (hr : Val.right K N S = false) (hS : S.size ≤ maxLen) (hA : A.size ≤ 64) (n0 : -9223372036854775808 ≤ N) (n1 : N ≤ 9223372036854775807) :
    (∀ w, Calls Tryd.prog 14 #[vv K N S, vv k a A] w fun e w' => e = .returned (.tuple #[.int .i64 0, .bool false]) ∧ Below w.heap.size w w') ∧
    (∀ w, Calls Tryd.prog 14 #[vv K N S, vv K N S] w fun e w' => e = .returned (.tuple #[.int .i64 0, .bool false]) ∧ Below w.heap.size w w') ∧
    (∀ w, Calls Tryd.prog 17 #[vv K N S] w fun e w' => e = .returned (.bool false) ∧ Below w.heap.size w w') ∧
    (∀ w, Calls Tryd.prog 11 #[vv K N S] w fun e w' => e = .returned (.string ⟨#[]⟩) ∧ Below w.heap.size w w') ∧
    (∀ w, Tab w → Calls Tryd.prog 20 #[vv K N S] w fun e w' => e = .returned (.string ⟨#[63]⟩) ∧ Below w.heap.size w w') :=
  ⟨fun w => (Order_any _ _ _ _ _ _ w hS (by unfold maxLen; omega)).mono fun _ _ ⟨he, hw⟩ => ⟨by rw [he, orderV_no (Or.inl hr)], hw⟩,
   fun w => (Order_any _ _ _ _ _ _ w hS hS).mono fun _ _ ⟨he, hw⟩ => ⟨by rw [he, orderV_no (Or.inl hr)], hw⟩,
   fun w => (Right_any _ _ _ w hS).mono fun _ _ ⟨he, hw⟩ => ⟨by rw [he, hr], hw⟩,
   fun w => (Put_v _ _ _ w hS n0 n1).mono fun _ _ ⟨he, hw⟩ => ⟨by rw [he, Val.put_no hr], hw⟩,
   fun w ht => (Show_v _ _ _ w hS n0 n1 ht).mono fun _ _ ⟨he, hw⟩ => ⟨by rw [he, Val.show_no hr], hw⟩⟩

theorem right_long {k a : Int} {S : ByteArray} (h : 65 ≤ S.size) : Val.right k a S = false := by
  unfold Val.right
  rw [decide_eq_false (show ¬ S.size = 0 by omega), decide_eq_false (show ¬ S.size ≤ 64 by omega)]
  simp
theorem right_more {k a : Int} {S : ByteArray} (h : 1 ≤ S.size) (hk : k ≠ 3 ∨ a = 1) : Val.right k a S = false := by
  unfold Val.right
  rw [decide_eq_false (show ¬ S.size = 0 by omega)]
  rcases hk with hk | rfl
  · rw [if_neg hk]; simp
  · simp
theorem right_other {k a : Int} {S : ByteArray} (h : k ≠ 1 ∧ k ≠ 2 ∧ k ≠ 3) : Val.right k a S = false := by
  unfold Val.right; rw [if_neg h.1, if_neg h.2.1, if_neg h.2.2]
theorem right_truth {a : Int} {S : ByteArray} (h : a ≠ 0 ∧ a ≠ 1) : Val.right 2 a S = false := by
  unfold Val.right; rw [if_neg (by decide), if_pos rfl]; simp; omega

set_option maxHeartbeats 2000000 in
theorem walk_ValueWrong (c n : Int) (s : ByteArray) (d g : Int) (c0 : 0 ≤ c) (c1 : c ≤ 255) (n0 : -9223372036854775808 ≤ n) (n1 : n ≤ 9223372036854775807) (hs : s.size ≤ 140737488351232)
    (d0 : 0 ≤ d) (d1 : d ≤ 255) (g0 : -9223372036854775808 ≤ g) (g1 : g ≤ 9223372036854775807) (w : World) (hT : Tab w) :
    Calls Tryd.prog 8 #[.int .u8 c, .int .i64 n, .string s, .int .u8 d, .int .i64 g] w fun e w' => e = .returned (.bool true) ∧ Below w.heap.size w w' := by
  have co1 := fun w => own_v c n s w (by unfold maxLen; omega) c0 c1 n0 n1
  have r1 := own_kind c c0
  have z1 := ownS_size c s
  have e1 := ownN_lo c n n0
  have e2 := ownN_hi c n n1
  generalize ownK c = k at *
  generalize ownN c n = a at *
  generalize ownS c s = A at *
  have HT := Lib.hid hT
  have HC := Lib.hid co1
  clear hT co1
  go_enter Tryd.func8, Tryd.ntmps8
  go_wp2_with fail
  go_at_call 9
  ((with_reducible refine (examples_any _ HT.out).mono ?_); rintro e w1 ⟨rfl, b1⟩)
  go_wp2_with fail
  go_at_call 10
  ((with_reducible refine (HC.out _).mono ?_); rintro e w2 ⟨rfl, b2⟩)
  have B2 := Lib.hid (bt b1 b2)
  clear b1 b2 HC
  rcases (by omega : d % 4 = 0 ∨ d % 4 = 1 ∨ d % 4 = 2 ∨ d % 4 = 3) with hd | hd | hd | hd
  · have hx : (A ++ ⟨#[120]⟩ : ByteArray).size = A.size + 1 := by rw [ByteArray.size_append]; rfl
    have HX := Lib.hid hx; clear hx
    rcases (by omega : k = 3 ∨ k ≠ 3) with rfl | hk
    · have hr : Val.right 3 1 (A ++ ⟨#[120]⟩) = false := right_more (by rw [HX.out]; omega) (Or.inr rfl)
      have P := Lib.hid (wrong_pack 3 1 (A ++ ⟨#[120]⟩) 3 a A hr (by rw [HX.out]; unfold maxLen; omega) z1 (by omega) (by omega))
      clear hr
      go_wp2_with fail
      go_at_call 14
      ((with_reducible refine (P.out.1 _).mono ?_); rintro e w5 ⟨rfl, b5⟩)
      have W5 := bt (bt (ba w2 (.cells #[.int .i64 3, .int .i64 1, .string (A ++ ⟨#[120]⟩)] 23)) (ba _ (.cells #[.int .i64 3, .int .i64 a, .string A] 23))) b5
      have K := Lib.hid (And.intro (((Box3.new w2 (.int .i64 3) (.int .i64 1) (.string (A ++ ⟨#[120]⟩)) 23).later (ba _ _)).later b5) (And.intro (HT.out.later (bt B2.out W5)) (bt B2.out W5)))
      obtain ⟨⟨x0, x1, x2⟩, -⟩ := K.out
      clear b5 W5
      go_wp2_with (first
        | (go_at_call 14; ((with_reducible refine (P.out.2.1 _).mono ?_); rintro e w6 ⟨rfl, b6⟩; have k0 := K.out; obtain ⟨k1, kt, kb⟩ := k0; replace K := Lib.hid (And.intro (k1.later b6) (And.intro (kt.later b6) (bt kb b6))); obtain ⟨⟨x0, x1, x2⟩, -⟩ := K.out; clear k1 kt kb b6))
        | (go_at_call 17; ((with_reducible refine (P.out.2.2.1 _).mono ?_); rintro e w6 ⟨rfl, b6⟩; have k0 := K.out; obtain ⟨k1, kt, kb⟩ := k0; replace K := Lib.hid (And.intro (k1.later b6) (And.intro (kt.later b6) (bt kb b6))); obtain ⟨⟨x0, x1, x2⟩, -⟩ := K.out; clear k1 kt kb b6))
        | (go_at_call 11; ((with_reducible refine (P.out.2.2.2.1 _).mono ?_); rintro e w6 ⟨rfl, b6⟩; have k0 := K.out; obtain ⟨k1, kt, kb⟩ := k0; replace K := Lib.hid (And.intro (k1.later b6) (And.intro (kt.later b6) (bt kb b6))); obtain ⟨⟨x0, x1, x2⟩, -⟩ := K.out; clear k1 kt kb b6))
        | (go_at_call 20; ((with_reducible refine (P.out.2.2.2.2 _ K.out.2.1).mono ?_); rintro e w6 ⟨rfl, b6⟩; have k0 := K.out; obtain ⟨k1, kt, kb⟩ := k0; replace K := Lib.hid (And.intro (k1.later b6) (And.intro (kt.later b6) (bt kb b6))); obtain ⟨⟨x0, x1, x2⟩, -⟩ := K.out; clear k1 kt kb b6)))
      go_ret
      exact ⟨rfl, K.out.2.2⟩
    · have hr : Val.right k a (A ++ ⟨#[120]⟩) = false := right_more (by rw [HX.out]; omega) (Or.inl hk)
      have P := Lib.hid (wrong_pack k a (A ++ ⟨#[120]⟩) k a A hr (by rw [HX.out]; unfold maxLen; omega) z1 (by omega) (by omega))
      clear hr
      go_wp2_with fail
      go_at_call 14
      ((with_reducible refine (P.out.1 _).mono ?_); rintro e w5 ⟨rfl, b5⟩)
      have W5 := bt (bt (ba w2 (.cells #[.int .i64 k, .int .i64 a, .string (A ++ ⟨#[120]⟩)] 23)) (ba _ (.cells #[.int .i64 k, .int .i64 a, .string A] 23))) b5
      have K := Lib.hid (And.intro (((Box3.new w2 (.int .i64 k) (.int .i64 a) (.string (A ++ ⟨#[120]⟩)) 23).later (ba _ _)).later b5) (And.intro (HT.out.later (bt B2.out W5)) (bt B2.out W5)))
      obtain ⟨⟨x0, x1, x2⟩, -⟩ := K.out
      clear b5 W5
      go_wp2_with (first
        | (go_at_call 14; ((with_reducible refine (P.out.2.1 _).mono ?_); rintro e w6 ⟨rfl, b6⟩; have k0 := K.out; obtain ⟨k1, kt, kb⟩ := k0; replace K := Lib.hid (And.intro (k1.later b6) (And.intro (kt.later b6) (bt kb b6))); obtain ⟨⟨x0, x1, x2⟩, -⟩ := K.out; clear k1 kt kb b6))
        | (go_at_call 17; ((with_reducible refine (P.out.2.2.1 _).mono ?_); rintro e w6 ⟨rfl, b6⟩; have k0 := K.out; obtain ⟨k1, kt, kb⟩ := k0; replace K := Lib.hid (And.intro (k1.later b6) (And.intro (kt.later b6) (bt kb b6))); obtain ⟨⟨x0, x1, x2⟩, -⟩ := K.out; clear k1 kt kb b6))
        | (go_at_call 11; ((with_reducible refine (P.out.2.2.2.1 _).mono ?_); rintro e w6 ⟨rfl, b6⟩; have k0 := K.out; obtain ⟨k1, kt, kb⟩ := k0; replace K := Lib.hid (And.intro (k1.later b6) (And.intro (kt.later b6) (bt kb b6))); obtain ⟨⟨x0, x1, x2⟩, -⟩ := K.out; clear k1 kt kb b6))
        | (go_at_call 20; ((with_reducible refine (P.out.2.2.2.2 _ K.out.2.1).mono ?_); rintro e w6 ⟨rfl, b6⟩; have k0 := K.out; obtain ⟨k1, kt, kb⟩ := k0; replace K := Lib.hid (And.intro (k1.later b6) (And.intro (kt.later b6) (bt kb b6))); obtain ⟨⟨x0, x1, x2⟩, -⟩ := K.out; clear k1 kt kb b6)))
      go_ret
      exact ⟨rfl, K.out.2.2⟩
  · rcases (by omega : n = 0 ∨ n = 1 ∨ (n ≠ 0 ∧ n ≠ 1)) with rfl | rfl | ⟨hn0, hn1⟩
    · have hr : Val.right 2 2 ⟨#[]⟩ = false := rfl
      have P := Lib.hid (wrong_pack 2 2 ⟨#[]⟩ k a A hr (by decide) z1 (by omega) (by omega))
      clear hr
      go_wp2_with fail
      go_at_call 14
      ((with_reducible refine (P.out.1 _).mono ?_); rintro e w5 ⟨rfl, b5⟩)
      have W5 := bt (bt (ba w2 (.cells #[.int .i64 2, .int .i64 2, .string ⟨#[]⟩] 23)) (ba _ (.cells #[.int .i64 k, .int .i64 a, .string A] 23))) b5
      have K := Lib.hid (And.intro (((Box3.new w2 (.int .i64 2) (.int .i64 2) (.string ⟨#[]⟩) 23).later (ba _ _)).later b5) (And.intro (HT.out.later (bt B2.out W5)) (bt B2.out W5)))
      obtain ⟨⟨x0, x1, x2⟩, -⟩ := K.out
      clear b5 W5
      go_wp2_with (first
        | (go_at_call 14; ((with_reducible refine (P.out.2.1 _).mono ?_); rintro e w6 ⟨rfl, b6⟩; have k0 := K.out; obtain ⟨k1, kt, kb⟩ := k0; replace K := Lib.hid (And.intro (k1.later b6) (And.intro (kt.later b6) (bt kb b6))); obtain ⟨⟨x0, x1, x2⟩, -⟩ := K.out; clear k1 kt kb b6))
        | (go_at_call 17; ((with_reducible refine (P.out.2.2.1 _).mono ?_); rintro e w6 ⟨rfl, b6⟩; have k0 := K.out; obtain ⟨k1, kt, kb⟩ := k0; replace K := Lib.hid (And.intro (k1.later b6) (And.intro (kt.later b6) (bt kb b6))); obtain ⟨⟨x0, x1, x2⟩, -⟩ := K.out; clear k1 kt kb b6))
        | (go_at_call 11; ((with_reducible refine (P.out.2.2.2.1 _).mono ?_); rintro e w6 ⟨rfl, b6⟩; have k0 := K.out; obtain ⟨k1, kt, kb⟩ := k0; replace K := Lib.hid (And.intro (k1.later b6) (And.intro (kt.later b6) (bt kb b6))); obtain ⟨⟨x0, x1, x2⟩, -⟩ := K.out; clear k1 kt kb b6))
        | (go_at_call 20; ((with_reducible refine (P.out.2.2.2.2 _ K.out.2.1).mono ?_); rintro e w6 ⟨rfl, b6⟩; have k0 := K.out; obtain ⟨k1, kt, kb⟩ := k0; replace K := Lib.hid (And.intro (k1.later b6) (And.intro (kt.later b6) (bt kb b6))); obtain ⟨⟨x0, x1, x2⟩, -⟩ := K.out; clear k1 kt kb b6)))
      go_ret
      exact ⟨rfl, K.out.2.2⟩
    · have hr : Val.right 2 2 ⟨#[]⟩ = false := rfl
      have P := Lib.hid (wrong_pack 2 2 ⟨#[]⟩ k a A hr (by decide) z1 (by omega) (by omega))
      clear hr
      go_wp2_with fail
      go_at_call 14
      ((with_reducible refine (P.out.1 _).mono ?_); rintro e w5 ⟨rfl, b5⟩)
      have W5 := bt (bt (ba w2 (.cells #[.int .i64 2, .int .i64 2, .string ⟨#[]⟩] 23)) (ba _ (.cells #[.int .i64 k, .int .i64 a, .string A] 23))) b5
      have K := Lib.hid (And.intro (((Box3.new w2 (.int .i64 2) (.int .i64 2) (.string ⟨#[]⟩) 23).later (ba _ _)).later b5) (And.intro (HT.out.later (bt B2.out W5)) (bt B2.out W5)))
      obtain ⟨⟨x0, x1, x2⟩, -⟩ := K.out
      clear b5 W5
      go_wp2_with (first
        | (go_at_call 14; ((with_reducible refine (P.out.2.1 _).mono ?_); rintro e w6 ⟨rfl, b6⟩; have k0 := K.out; obtain ⟨k1, kt, kb⟩ := k0; replace K := Lib.hid (And.intro (k1.later b6) (And.intro (kt.later b6) (bt kb b6))); obtain ⟨⟨x0, x1, x2⟩, -⟩ := K.out; clear k1 kt kb b6))
        | (go_at_call 17; ((with_reducible refine (P.out.2.2.1 _).mono ?_); rintro e w6 ⟨rfl, b6⟩; have k0 := K.out; obtain ⟨k1, kt, kb⟩ := k0; replace K := Lib.hid (And.intro (k1.later b6) (And.intro (kt.later b6) (bt kb b6))); obtain ⟨⟨x0, x1, x2⟩, -⟩ := K.out; clear k1 kt kb b6))
        | (go_at_call 11; ((with_reducible refine (P.out.2.2.2.1 _).mono ?_); rintro e w6 ⟨rfl, b6⟩; have k0 := K.out; obtain ⟨k1, kt, kb⟩ := k0; replace K := Lib.hid (And.intro (k1.later b6) (And.intro (kt.later b6) (bt kb b6))); obtain ⟨⟨x0, x1, x2⟩, -⟩ := K.out; clear k1 kt kb b6))
        | (go_at_call 20; ((with_reducible refine (P.out.2.2.2.2 _ K.out.2.1).mono ?_); rintro e w6 ⟨rfl, b6⟩; have k0 := K.out; obtain ⟨k1, kt, kb⟩ := k0; replace K := Lib.hid (And.intro (k1.later b6) (And.intro (kt.later b6) (bt kb b6))); obtain ⟨⟨x0, x1, x2⟩, -⟩ := K.out; clear k1 kt kb b6)))
      go_ret
      exact ⟨rfl, K.out.2.2⟩
    · have hr : Val.right 2 n ⟨#[]⟩ = false := right_truth ⟨hn0, hn1⟩
      have hb0 : (n == 0) = false := by simpa using hn0
      have hb1 : (n == 1) = false := by simpa using hn1
      have P := Lib.hid (wrong_pack 2 n ⟨#[]⟩ k a A hr (by decide) z1 (by omega) (by omega))
      clear hr
      go_wp2_with fail
      go_at_call 14
      ((with_reducible refine (P.out.1 _).mono ?_); rintro e w5 ⟨rfl, b5⟩)
      have W5 := bt (bt (ba w2 (.cells #[.int .i64 2, .int .i64 n, .string ⟨#[]⟩] 23)) (ba _ (.cells #[.int .i64 k, .int .i64 a, .string A] 23))) b5
      have K := Lib.hid (And.intro (((Box3.new w2 (.int .i64 2) (.int .i64 n) (.string ⟨#[]⟩) 23).later (ba _ _)).later b5) (And.intro (HT.out.later (bt B2.out W5)) (bt B2.out W5)))
      obtain ⟨⟨x0, x1, x2⟩, -⟩ := K.out
      clear b5 W5
      go_wp2_with (first
        | (go_at_call 14; ((with_reducible refine (P.out.2.1 _).mono ?_); rintro e w6 ⟨rfl, b6⟩; have k0 := K.out; obtain ⟨k1, kt, kb⟩ := k0; replace K := Lib.hid (And.intro (k1.later b6) (And.intro (kt.later b6) (bt kb b6))); obtain ⟨⟨x0, x1, x2⟩, -⟩ := K.out; clear k1 kt kb b6))
        | (go_at_call 17; ((with_reducible refine (P.out.2.2.1 _).mono ?_); rintro e w6 ⟨rfl, b6⟩; have k0 := K.out; obtain ⟨k1, kt, kb⟩ := k0; replace K := Lib.hid (And.intro (k1.later b6) (And.intro (kt.later b6) (bt kb b6))); obtain ⟨⟨x0, x1, x2⟩, -⟩ := K.out; clear k1 kt kb b6))
        | (go_at_call 11; ((with_reducible refine (P.out.2.2.2.1 _).mono ?_); rintro e w6 ⟨rfl, b6⟩; have k0 := K.out; obtain ⟨k1, kt, kb⟩ := k0; replace K := Lib.hid (And.intro (k1.later b6) (And.intro (kt.later b6) (bt kb b6))); obtain ⟨⟨x0, x1, x2⟩, -⟩ := K.out; clear k1 kt kb b6))
        | (go_at_call 20; ((with_reducible refine (P.out.2.2.2.2 _ K.out.2.1).mono ?_); rintro e w6 ⟨rfl, b6⟩; have k0 := K.out; obtain ⟨k1, kt, kb⟩ := k0; replace K := Lib.hid (And.intro (k1.later b6) (And.intro (kt.later b6) (bt kb b6))); obtain ⟨⟨x0, x1, x2⟩, -⟩ := K.out; clear k1 kt kb b6)))
      go_ret
      exact ⟨rfl, K.out.2.2⟩
  · go_wp2_with fail
    go_loopw [53] (fun _ wr => ∃ S : ByteArray, S.size ≤ 140737488351300 ∧ wr = (w2.alloc (.cells #[.int .i64 3, .int .i64 0, .string S] 23)).alloc (.cells #[.int .i64 k, .int .i64 a, .string A] 23)) (fun _ wr => 65 - (match wr.cell? ⟨w2.heap.size, 2, none⟩ with | some (.string S) => S.size | _ => 0))
    case atStart => exact ⟨s, by omega, rfl⟩
    case round =>
      obtain ⟨S, hS, rfl⟩ := hrel
      by_cases hlt : S.size < 65
      · go_wp2
        have hz : (S ++ ⟨#[121, 122]⟩ : ByteArray).size = S.size + 2 := by rw [ByteArray.size_append]; rfl
        refine ⟨⟨S ++ ⟨#[121, 122]⟩, by omega, rfl⟩, ?_⟩
        have q1 := ((Box3.new w2 (.int .i64 3) (.int .i64 0) (.string (S ++ ⟨#[121, 122]⟩)) 23).later (ba _ (.cells #[.int .i64 k, .int .i64 a, .string A] 23))).2.2
        have q2 := ((Box3.new w2 (.int .i64 3) (.int .i64 0) (.string S) 23).later (ba _ (.cells #[.int .i64 k, .int .i64 a, .string A] 23))).2.2
        rw [q1, q2]
        simp only
        omega
      · have hge : 65 ≤ S.size := by omega
        have hr : Val.right 3 0 S = false := right_long (by omega)
        have P := Lib.hid (wrong_pack 3 0 S k a A hr (by unfold maxLen; omega) z1 (by omega) (by omega))
        clear hr
        go_wp2_with fail
        go_at_call 14
        ((with_reducible refine (P.out.1 _).mono ?_); rintro e w5 ⟨rfl, b5⟩)
        have W5 := bt (bt (ba w2 (.cells #[.int .i64 3, .int .i64 0, .string S] 23)) (ba _ (.cells #[.int .i64 k, .int .i64 a, .string A] 23))) b5
        have K := Lib.hid (And.intro (((Box3.new w2 (.int .i64 3) (.int .i64 0) (.string S) 23).later (ba _ _)).later b5) (And.intro (HT.out.later (bt B2.out W5)) (bt B2.out W5)))
        obtain ⟨⟨x0, x1, x2⟩, -⟩ := K.out
        clear b5 W5
        go_wp2_with (first
          | (go_at_call 14; ((with_reducible refine (P.out.2.1 _).mono ?_); rintro e w6 ⟨rfl, b6⟩; have k0 := K.out; obtain ⟨k1, kt, kb⟩ := k0; replace K := Lib.hid (And.intro (k1.later b6) (And.intro (kt.later b6) (bt kb b6))); obtain ⟨⟨x0, x1, x2⟩, -⟩ := K.out; clear k1 kt kb b6))
          | (go_at_call 17; ((with_reducible refine (P.out.2.2.1 _).mono ?_); rintro e w6 ⟨rfl, b6⟩; have k0 := K.out; obtain ⟨k1, kt, kb⟩ := k0; replace K := Lib.hid (And.intro (k1.later b6) (And.intro (kt.later b6) (bt kb b6))); obtain ⟨⟨x0, x1, x2⟩, -⟩ := K.out; clear k1 kt kb b6))
          | (go_at_call 11; ((with_reducible refine (P.out.2.2.2.1 _).mono ?_); rintro e w6 ⟨rfl, b6⟩; have k0 := K.out; obtain ⟨k1, kt, kb⟩ := k0; replace K := Lib.hid (And.intro (k1.later b6) (And.intro (kt.later b6) (bt kb b6))); obtain ⟨⟨x0, x1, x2⟩, -⟩ := K.out; clear k1 kt kb b6))
          | (go_at_call 20; ((with_reducible refine (P.out.2.2.2.2 _ K.out.2.1).mono ?_); rintro e w6 ⟨rfl, b6⟩; have k0 := K.out; obtain ⟨k1, kt, kb⟩ := k0; replace K := Lib.hid (And.intro (k1.later b6) (And.intro (kt.later b6) (bt kb b6))); obtain ⟨⟨x0, x1, x2⟩, -⟩ := K.out; clear k1 kt kb b6)))
        go_ret
        exact ⟨rfl, K.out.2.2⟩
  · rcases (by omega : (1 ≤ g ∧ g ≤ 3) ∨ (g < 1 ∨ 3 < g)) with ⟨hg0, hg1⟩ | hg
    · have hr : Val.right (-g) a A = false := right_other ⟨by omega, by omega, by omega⟩
      have P := Lib.hid (wrong_pack (-g) a A k a A hr (by unfold maxLen; omega) z1 (by omega) (by omega))
      clear hr
      go_wp2_with fail
      go_at_call 14
      ((with_reducible refine (P.out.1 _).mono ?_); rintro e w5 ⟨rfl, b5⟩)
      have W5 := bt (bt (ba w2 (.cells #[.int .i64 (-g), .int .i64 a, .string A] 23)) (ba _ (.cells #[.int .i64 k, .int .i64 a, .string A] 23))) b5
      have K := Lib.hid (And.intro (((Box3.new w2 (.int .i64 (-g)) (.int .i64 a) (.string A) 23).later (ba _ _)).later b5) (And.intro (HT.out.later (bt B2.out W5)) (bt B2.out W5)))
      obtain ⟨⟨x0, x1, x2⟩, -⟩ := K.out
      clear b5 W5
      go_wp2_with (first
        | (go_at_call 14; ((with_reducible refine (P.out.2.1 _).mono ?_); rintro e w6 ⟨rfl, b6⟩; have k0 := K.out; obtain ⟨k1, kt, kb⟩ := k0; replace K := Lib.hid (And.intro (k1.later b6) (And.intro (kt.later b6) (bt kb b6))); obtain ⟨⟨x0, x1, x2⟩, -⟩ := K.out; clear k1 kt kb b6))
        | (go_at_call 17; ((with_reducible refine (P.out.2.2.1 _).mono ?_); rintro e w6 ⟨rfl, b6⟩; have k0 := K.out; obtain ⟨k1, kt, kb⟩ := k0; replace K := Lib.hid (And.intro (k1.later b6) (And.intro (kt.later b6) (bt kb b6))); obtain ⟨⟨x0, x1, x2⟩, -⟩ := K.out; clear k1 kt kb b6))
        | (go_at_call 11; ((with_reducible refine (P.out.2.2.2.1 _).mono ?_); rintro e w6 ⟨rfl, b6⟩; have k0 := K.out; obtain ⟨k1, kt, kb⟩ := k0; replace K := Lib.hid (And.intro (k1.later b6) (And.intro (kt.later b6) (bt kb b6))); obtain ⟨⟨x0, x1, x2⟩, -⟩ := K.out; clear k1 kt kb b6))
        | (go_at_call 20; ((with_reducible refine (P.out.2.2.2.2 _ K.out.2.1).mono ?_); rintro e w6 ⟨rfl, b6⟩; have k0 := K.out; obtain ⟨k1, kt, kb⟩ := k0; replace K := Lib.hid (And.intro (k1.later b6) (And.intro (kt.later b6) (bt kb b6))); obtain ⟨⟨x0, x1, x2⟩, -⟩ := K.out; clear k1 kt kb b6)))
      go_ret
      exact ⟨rfl, K.out.2.2⟩
    · rcases hg with hg | hg
      all_goals
        have hr : Val.right g a A = false := right_other ⟨by omega, by omega, by omega⟩
        have P := Lib.hid (wrong_pack g a A k a A hr (by unfold maxLen; omega) z1 (by omega) (by omega))
        clear hr
        go_wp2_with fail
        go_at_call 14
        ((with_reducible refine (P.out.1 _).mono ?_); rintro e w5 ⟨rfl, b5⟩)
        have W5 := bt (bt (ba w2 (.cells #[.int .i64 g, .int .i64 a, .string A] 23)) (ba _ (.cells #[.int .i64 k, .int .i64 a, .string A] 23))) b5
        have K := Lib.hid (And.intro (((Box3.new w2 (.int .i64 g) (.int .i64 a) (.string A) 23).later (ba _ _)).later b5) (And.intro (HT.out.later (bt B2.out W5)) (bt B2.out W5)))
        obtain ⟨⟨x0, x1, x2⟩, -⟩ := K.out
        clear b5 W5
        go_wp2_with (first
          | (go_at_call 14; ((with_reducible refine (P.out.2.1 _).mono ?_); rintro e w6 ⟨rfl, b6⟩; have k0 := K.out; obtain ⟨k1, kt, kb⟩ := k0; replace K := Lib.hid (And.intro (k1.later b6) (And.intro (kt.later b6) (bt kb b6))); obtain ⟨⟨x0, x1, x2⟩, -⟩ := K.out; clear k1 kt kb b6))
          | (go_at_call 17; ((with_reducible refine (P.out.2.2.1 _).mono ?_); rintro e w6 ⟨rfl, b6⟩; have k0 := K.out; obtain ⟨k1, kt, kb⟩ := k0; replace K := Lib.hid (And.intro (k1.later b6) (And.intro (kt.later b6) (bt kb b6))); obtain ⟨⟨x0, x1, x2⟩, -⟩ := K.out; clear k1 kt kb b6))
          | (go_at_call 11; ((with_reducible refine (P.out.2.2.2.1 _).mono ?_); rintro e w6 ⟨rfl, b6⟩; have k0 := K.out; obtain ⟨k1, kt, kb⟩ := k0; replace K := Lib.hid (And.intro (k1.later b6) (And.intro (kt.later b6) (bt kb b6))); obtain ⟨⟨x0, x1, x2⟩, -⟩ := K.out; clear k1 kt kb b6))
          | (go_at_call 20; ((with_reducible refine (P.out.2.2.2.2 _ K.out.2.1).mono ?_); rintro e w6 ⟨rfl, b6⟩; have k0 := K.out; obtain ⟨k1, kt, kb⟩ := k0; replace K := Lib.hid (And.intro (k1.later b6) (And.intro (kt.later b6) (bt kb b6))); obtain ⟨⟨x0, x1, x2⟩, -⟩ := K.out; clear k1 kt kb b6)))
        go_ret
        exact ⟨rfl, K.out.2.2⟩
end Go.Proofs.YtomldmdnoalbiaaDoor
