/- The walk of LexErrors. -/
import Derived.Test.YtoaallhibgbokaaDoorErr6
import Derived.Test.YtoaallhibgbokaaDoorWalkLexPlaces
import Derived.Deep.Cut
namespace Go.Proofs.YtoaallhibgbokaaDoor
open Go.ChangeShapes Go.WideShapes Go.ChangeAt Go.RowKit
set_option linter.unusedVariables false
set_option linter.unusedSimpArgs false

theorem wf_u16 {n : Int} (h : (Lit.int .u16 n).wf = true) : 0 ≤ n ∧ n ≤ 65535 := by
  have e1 : IntKind.u16.min = 0 := by decide
  have e2 : IntKind.u16.max = 65535 := by decide
  simp [Lit.wf] at h; omega
theorem blank_more (k : Nat) : mk (List.replicate (16 * k) 32) ++ ⟨#[32, 32, 32, 32, 32, 32, 32, 32, 32, 32, 32, 32, 32, 32, 32, 32]⟩ = mk (List.replicate (16 * (k + 1)) 32) := by
  rw [← mk_list (mk (List.replicate (16 * k) 32) ++ ⟨#[32, 32, 32, 32, 32, 32, 32, 32, 32, 32, 32, 32, 32, 32, 32, 32]⟩)]
  refine congrArg mk ?_
  rw [ByteArray.data_append, Array.toList_append, mk_data, show 16 * (k + 1) = 16 * k + 16 by omega, ← List.replicate_append_replicate]
  rfl
theorem own_n {w : World} {b : Nat} {e : TypeId} {A : Option Addr} {n c : Nat} {L : List Tk} (h : Own w b e 4 rowT (.slice A n c) L) : n = L.length := by
  have h' := Own.at_ (f := rowT) (k := 4) (fun _ => rfl) h
  obtain ⟨A', c', hv, _⟩ := h'.shape
  simp only [Value.slice.injEq] at hv
  exact hv.2.1
set_option maxRecDepth 20000 in
set_option maxHeartbeats 4000000 in
theorem walk_LexErrors (v : Value) (l : Bs) (by_ : Int) (s : ByteArray) (many : Int) (w : World) (hv : BytesAt w v l) (hl : l.length ≤ 140737488351232) (by0 : 0 ≤ by_) (by1 : by_ ≤ 255) (hs : s.size ≤ 140737488351232) (m0 : 0 ≤ many) (m1 : many ≤ 65535) (hT : Tab w) :
    Calls Tryd.prog 8 #[v, .int .u8 by_, .string s, .int .u16 many] w fun e w' => e = .returned (.bool true) ∧ Below w.heap.size w w' := by
  have cW := fun W (hb : Below w.heap.size w W) => words_any v l false W (hv.later hb) hl
  obtain ⟨i0, hi, hz0, hz1, hz2⟩ := info_parts (P := Tryd.prog) (e := 5) (z := .int .u8 0) (size := 1) (bytes := 1) (by kernel_rfl)
  obtain ⟨q, hq, hq9⟩ : ∃ q : Nat, many % 9 = (q : Int) ∧ q < 9 := ⟨(many % 9).toNat, by omega, by omega⟩
  have q1 : many.tmod 9 = (q : Int) := by rw [Int.tmod_eq_emod_of_nonneg m0]; exact hq
  have q2 : IntKind.i64.wrap (q : Int) = (q : Int) := IntWalk.i64_in _ (by omega)
  have q3 : IntKind.i64.wrap (2049 + (q : Int)) = ((2049 + q : Nat) : Int) := by rw [IntWalk.i64_in _ (by omega)]; omega
  have H := Lib.hid (And.intro cW hT); clear cW hT hv
  have hsm : s.size ≤ 9223372036854775807 := by omega
  go_enter Tryd.func8, Tryd.ntmps8
  go_wp2_with (go_at_call 9; ((with_reducible refine (examples_any _ H.out.2).mono ?_); rintro e w1 ⟨rfl, b1⟩; have B1 := Lib.hid b1; clear b1))
  go_at_call 10
  refine (H.out.1 _ B1.out).mono ?_
  rintro e w2 ⟨t, ⟨rfl, ht690, hend⟩, b2⟩
  have B2 := Lib.hid (bt B1.out b2); clear b2
  go_wp2_with fail
  go_at_call 11
  refine (All_any t _ (by unfold maxLen; omega) (H.out.2.later B2.out)).mono ?_
  rintro e w3 ⟨v3, ⟨rfl, hO3⟩, b3⟩
  have B3 := Lib.hid (bt B2.out b3); clear b3
  have hte : ∃ te : Int, (resT t.data.toList).2.2 = te ∧ ((te = 0 ∧ ∃ L, lexL t.data.toList = .ok L) ∨ te = 2) := by
    rcases resT_cases t (by omega) with ⟨L, hlex, hR, _⟩ | ⟨p, _, hR, _⟩
    · exact ⟨0, by rw [hR], Or.inl ⟨rfl, L, hlex⟩⟩
    · exact ⟨2, by rw [hR], Or.inr rfl⟩
  obtain ⟨te, hte, htl⟩ := hte
  rw [hte]
  obtain ⟨ta, hta⟩ : ∃ ta : Int, ((resT t.data.toList).2.1 : Int) = ta := ⟨_, rfl⟩
  rw [hta]
  obtain ⟨A3, n3, c3, rfl⟩ := own_shape hO3
  have T := Lib.hid (And.intro htl (hend (by trivial))); clear htl hend hte hta hO3
  go_upto_region 6 with fail
  refine wp_of_eq (c' := ((Tryd.f8.body.bind (regionN 6)).getD .skip)) ?_ (by kernel_rfl)
  refine err6 _ _ _ _ _ _ _ _ _ _ _ _ _ _ _ _ _ _ _ _ _ _ _ _ _ _ _ _ _ _ _ _ _ _ _ _ _ _ _ _ _ _ _ _ _ _ _ _ _ _ _ _ _ _ _ _ _ _ _ _ _ _ _ _ _ _ _ _ _ _ _ _ _ _ _ _ _ _ _ _ _ _ _ _ _ _ _ _ _ _ _ _ _ _ _ _ _ _ _ _ _ _ _ _ _ _ _ _ _ _ _ _ _ _ _ _ _ _ _ _ _ _ _ _ _ _ _ _ ⟨by0, by1⟩ (fun _ _ _ _ _ c w4 hc4 => ?_)
  obtain ⟨hc, b4⟩ := hc4
  have B4 := Lib.hid (bt B3.out b4)
  have K := Lib.hid hc; clear b4 hc
  have hcI := c.toNat_lt
  have hc38 : (c = 38) ↔ ((c.toNat : Int) = 38) := by
    rw [show (38 : UInt8) = UInt8.ofNat 38 from rfl, byte_eq _ _ (by decide)]; omega
  have hbs := fun W : World => byte_string W (c.toNat : Int) c rfl
  have hsl : s.data.toList.length = s.size := by rw [Array.length_toList]; rfl
  by_cases h38 : c = 38
  · subst h38
    have hbs := fun W : World => byte_string W 38 38 rfl
    have h38I : ((38 : UInt8).toNat : Int) = 38 := rfl
    by_cases hz : 0 < s.size
    · by_cases hf : (s[0]'hz) = 38
      · have hfI : ((s[0]'hz).toNat : Int) = 38 := by rw [hf]; rfl
        have hsp : (38 : UInt8) = 38 → ∀ r, (⟨#[]⟩ : ByteArray).data.toList ≠ 38 :: r := fun _ r e => by cases e
        have hsz : (⟨#[]⟩ : ByteArray).size ≤ 140737488351232 := by first | exact hs | decide
        have hu : (t ++ ⟨#[38]⟩ ++ ⟨#[]⟩ : ByteArray).data.toList = t.data.toList ++ 38 :: (⟨#[]⟩ : ByteArray).data.toList := by
          rw [ByteArray.data_append, ByteArray.data_append, Array.toList_append, Array.toList_append, List.append_assoc]; rfl
        have huz : (t ++ ⟨#[38]⟩ ++ ⟨#[]⟩ : ByteArray).size = t.size + 1 + (⟨#[]⟩ : ByteArray).size := by rw [ByteArray.size_append, ByteArray.size_append]; rfl
        have hbad : ∀ L, lexL t.data.toList = .ok L → t.size + 1 + (⟨#[]⟩ : ByteArray).size ≤ 2048 → resT (t ++ ⟨#[38]⟩ ++ ⟨#[]⟩ : ByteArray).data.toList = ([], t.size, 2) := fun L hL hle =>
          res_bad hL T.out.2 K.out hsp hu (by have h9 : (t ++ ⟨#[38]⟩ ++ ⟨#[]⟩ : ByteArray).data.toList.length = (t ++ ⟨#[38]⟩ ++ ⟨#[]⟩ : ByteArray).size := by rw [Array.length_toList]; rfl
                                              rw [h9, huz]; exact hle)
        have cU := fun W hT => All_any (t ++ ⟨#[38]⟩ ++ ⟨#[]⟩) W (by rw [huz]; unfold maxLen; omega) hT
        unfold AllP at cU
        obtain ⟨RL, ra, re, hR⟩ : ∃ RL ra re, resT (t ++ ⟨#[38]⟩ ++ ⟨#[]⟩ : ByteArray).data.toList = (RL, ra, re) := ⟨_, _, _, rfl⟩
        rw [hR] at cU hbad
        have gg1 : ¬ 9223372036854775807 < t.size + 1 := by omega
        have gg2 : ¬ 9223372036854775807 < t.size + 1 + (⟨#[]⟩ : ByteArray).size := by omega
        have F := Lib.hid (And.intro cU hbad); clear cU hbad hR hu hsp hsl hc38
        go_wp2_with fail
        try go_at_call 11
        have bB := Lib.hid (bt B4.out (ba w4 (.cells #[.int .u8 38] 5)))
        refine (F.out.1 _ (H.out.2.later bB.out)).mono ?_
        rintro e w5 ⟨v5, ⟨rfl, hO5⟩, b5⟩
        obtain ⟨A5, n5, c5, rfl⟩ := own_shape hO5
        have hn5 := Lib.hid (own_n hO5)
        have B5 := Lib.hid (bt bB.out b5); clear b5 hO5
        generalize hSS : (t ++ ⟨#[38]⟩ ++ ⟨#[]⟩ : ByteArray) = u at *
        clear hSS
        go_wp2
        go_loop [19, 20] (fun bv iv => ∃ k : Nat, k ≤ 128 ∧ iv = .int .i64 (k : Int) ∧ bv = .string (mk (List.replicate (16 * k) 32))) (fun _ iv => 128 - (intOf iv).toNat)
        case atStart => exact ⟨0, Nat.zero_le _, rfl, rfl⟩
        case round =>
          obtain ⟨k, hk, rfl, rfl⟩ := hrel
          by_cases hk2 : k < 128
          · have hkz := mk_size (List.replicate (16 * k) 32)
            rw [List.length_replicate] at hkz
            have R := Lib.hid (blank_more k)
            have gg : ¬ 9223372036854775807 < (mk (List.replicate (16 * k) 32)).size + 16 := by omega
            obtain ⟨kb, hkb⟩ : ∃ kb, mk (List.replicate (16 * k) 32) = kb := ⟨_, rfl⟩
            rw [hkb] at R gg ⊢
            clear hkb hkz
            go_wp2
            go_round
            case rel => exact ⟨k + 1, by omega, by go_num, by rw [R.out]⟩
            case measure => simp [intOf]; omega
          · obtain rfl : k = 128 := by omega
            have hbz := mk_size (List.replicate (16 * 128) 32)
            rw [List.length_replicate] at hbz
            have cB := fun W hT => All_any (mk (List.replicate (16 * 128) 32)) W (by rw [hbz]; decide) hT
            unfold AllP at cB
            rw [mk_data, res_spaces _ (by decide)] at cB
            obtain ⟨kb, hkb⟩ : ∃ kb, mk (List.replicate (16 * 128) 32) = kb := ⟨_, rfl⟩
            rw [hkb] at cB ⊢
            clear hkb hbz
            have cB := Lib.hid cB
            go_wp2_with fail
            try go_at_call 11
            refine (cB.out _ (H.out.2.later B5.out)).mono ?_
            rintro e w6 ⟨v6, ⟨rfl, hO6⟩, b6⟩
            obtain ⟨A6, n6, c6, rfl⟩ := own_shape hO6
            have B6 := Lib.hid (bt B5.out b6); clear b6 hO6 cB
            have hmt := made_text w6 (2049 + q)
            have bM := Lib.hid (bt B6.out (ba w6 (.cells (madeCells #[.int .u8 0] (2049 + q)) 5)))
            have hlz := mk_size (List.replicate (2049 + q) 0)
            rw [List.length_replicate] at hlz
            have cL := fun W hT => All_any (mk (List.replicate (2049 + q) 0)) W (by rw [hlz]; unfold maxLen; omega) hT
            unfold AllP at cL
            rw [mk_data, res_long (s := List.replicate (2049 + q) 0) (by rw [List.length_replicate]; omega)] at cL
            obtain ⟨lb, hlb⟩ : ∃ lb, mk (List.replicate (2049 + q) 0) = lb := ⟨_, rfl⟩
            rw [hlb] at cL hmt
            clear hlb hlz
            have cL := Lib.hid cL
            go_wp2_with (at_make; refine wpList_make_row _ rfl _ _ 22 rfl 5 i0 (.int .u8 0) Tryd.underlying22 hi hz0 hz1 rfl .i64 .i64 (2049 + q) rfl rfl (by rw [hz2]; omega) (by omega) ?_)
            try go_at_call 11
            refine (cL.out _ (H.out.2.later bM.out)).mono ?_
            rintro e w7 ⟨v7, ⟨rfl, hO7⟩, b7⟩
            obtain ⟨A7, n7, c7, rfl⟩ := own_shape hO7
            have B7 := Lib.hid (bt bM.out b7); clear b7 hO7 cL hmt
            rcases T.out.1 with ⟨rfl, L, hL⟩ | rfl
            · by_cases hbig : t.size + 1 + (⟨#[]⟩ : ByteArray).size ≤ 2048
              · have hf := F.out.2 L hL hbig
                simp only [Prod.mk.injEq] at hf
                obtain ⟨e1, e2, e3⟩ := hf
                subst e2
                subst e3
                have hn50 : n5 = 0 := by rw [hn5.out, e1]; rfl
                subst hn50
                have hub : ¬ 2048 < u.size := by rw [huz]; omega
                have hubI : ¬ 2048 < (u.size : Int) := by omega
                clear huz e1
                go_wp2
                go_ret
                exact ⟨rfl, B7.out⟩
              · have hub : 2048 < u.size := by rw [huz]; omega
                clear huz
                go_wp2
                go_ret
                exact ⟨rfl, B7.out⟩
            · clear huz
              go_wp2
              go_ret
              exact ⟨rfl, B7.out⟩
      · have hfI : ¬ ((s[0]'hz).toNat : Int) = 38 := fun e => hf (by
          have e2 : (s[0]'hz).toNat = 38 := by omega
          rw [show (38 : UInt8) = UInt8.ofNat 38 from rfl]; exact (byte_eq _ 38 (by decide)).2 e2)
        have hfIn : ¬ (s[0]'hz).toNat = 38 := by omega
        have hfb : (((s[0]'hz).toNat : Int) == 38) = false := beq_eq_false_iff_ne.2 hfI
        have hsp : (38 : UInt8) = 38 → ∀ r, s.data.toList ≠ 38 :: r := fun _ r e => hf (by
          have : s.data.toList[0]? = some 38 := by rw [e]; rfl
          rw [List.getElem?_eq_getElem (by rw [hsl]; exact hz)] at this
          exact Option.some.inj this)
        have hsz : (s : ByteArray).size ≤ 140737488351232 := by first | exact hs | decide
        have hu : (t ++ ⟨#[38]⟩ ++ s : ByteArray).data.toList = t.data.toList ++ 38 :: (s : ByteArray).data.toList := by
          rw [ByteArray.data_append, ByteArray.data_append, Array.toList_append, Array.toList_append, List.append_assoc]; rfl
        have huz : (t ++ ⟨#[38]⟩ ++ s : ByteArray).size = t.size + 1 + (s : ByteArray).size := by rw [ByteArray.size_append, ByteArray.size_append]; rfl
        have hbad : ∀ L, lexL t.data.toList = .ok L → t.size + 1 + (s : ByteArray).size ≤ 2048 → resT (t ++ ⟨#[38]⟩ ++ s : ByteArray).data.toList = ([], t.size, 2) := fun L hL hle =>
          res_bad hL T.out.2 K.out hsp hu (by have h9 : (t ++ ⟨#[38]⟩ ++ s : ByteArray).data.toList.length = (t ++ ⟨#[38]⟩ ++ s : ByteArray).size := by rw [Array.length_toList]; rfl
                                              rw [h9, huz]; exact hle)
        have cU := fun W hT => All_any (t ++ ⟨#[38]⟩ ++ s) W (by rw [huz]; unfold maxLen; omega) hT
        unfold AllP at cU
        obtain ⟨RL, ra, re, hR⟩ : ∃ RL ra re, resT (t ++ ⟨#[38]⟩ ++ s : ByteArray).data.toList = (RL, ra, re) := ⟨_, _, _, rfl⟩
        rw [hR] at cU hbad
        have gg1 : ¬ 9223372036854775807 < t.size + 1 := by omega
        have gg2 : ¬ 9223372036854775807 < t.size + 1 + (s : ByteArray).size := by omega
        have F := Lib.hid (And.intro cU hbad); clear cU hbad hR hu hsp hsl hc38
        go_wp2_with fail
        try go_at_call 11
        have bB := Lib.hid (bt B4.out (ba w4 (.cells #[.int .u8 38] 5)))
        refine (F.out.1 _ (H.out.2.later bB.out)).mono ?_
        rintro e w5 ⟨v5, ⟨rfl, hO5⟩, b5⟩
        obtain ⟨A5, n5, c5, rfl⟩ := own_shape hO5
        have hn5 := Lib.hid (own_n hO5)
        have B5 := Lib.hid (bt bB.out b5); clear b5 hO5
        generalize hSS : (t ++ ⟨#[38]⟩ ++ s : ByteArray) = u at *
        clear hSS
        go_wp2
        go_loop [19, 20] (fun bv iv => ∃ k : Nat, k ≤ 128 ∧ iv = .int .i64 (k : Int) ∧ bv = .string (mk (List.replicate (16 * k) 32))) (fun _ iv => 128 - (intOf iv).toNat)
        case atStart => exact ⟨0, Nat.zero_le _, rfl, rfl⟩
        case round =>
          obtain ⟨k, hk, rfl, rfl⟩ := hrel
          by_cases hk2 : k < 128
          · have hkz := mk_size (List.replicate (16 * k) 32)
            rw [List.length_replicate] at hkz
            have R := Lib.hid (blank_more k)
            have gg : ¬ 9223372036854775807 < (mk (List.replicate (16 * k) 32)).size + 16 := by omega
            obtain ⟨kb, hkb⟩ : ∃ kb, mk (List.replicate (16 * k) 32) = kb := ⟨_, rfl⟩
            rw [hkb] at R gg ⊢
            clear hkb hkz
            go_wp2
            go_round
            case rel => exact ⟨k + 1, by omega, by go_num, by rw [R.out]⟩
            case measure => simp [intOf]; omega
          · obtain rfl : k = 128 := by omega
            have hbz := mk_size (List.replicate (16 * 128) 32)
            rw [List.length_replicate] at hbz
            have cB := fun W hT => All_any (mk (List.replicate (16 * 128) 32)) W (by rw [hbz]; decide) hT
            unfold AllP at cB
            rw [mk_data, res_spaces _ (by decide)] at cB
            obtain ⟨kb, hkb⟩ : ∃ kb, mk (List.replicate (16 * 128) 32) = kb := ⟨_, rfl⟩
            rw [hkb] at cB ⊢
            clear hkb hbz
            have cB := Lib.hid cB
            go_wp2_with fail
            try go_at_call 11
            refine (cB.out _ (H.out.2.later B5.out)).mono ?_
            rintro e w6 ⟨v6, ⟨rfl, hO6⟩, b6⟩
            obtain ⟨A6, n6, c6, rfl⟩ := own_shape hO6
            have B6 := Lib.hid (bt B5.out b6); clear b6 hO6 cB
            have hmt := made_text w6 (2049 + q)
            have bM := Lib.hid (bt B6.out (ba w6 (.cells (madeCells #[.int .u8 0] (2049 + q)) 5)))
            have hlz := mk_size (List.replicate (2049 + q) 0)
            rw [List.length_replicate] at hlz
            have cL := fun W hT => All_any (mk (List.replicate (2049 + q) 0)) W (by rw [hlz]; unfold maxLen; omega) hT
            unfold AllP at cL
            rw [mk_data, res_long (s := List.replicate (2049 + q) 0) (by rw [List.length_replicate]; omega)] at cL
            obtain ⟨lb, hlb⟩ : ∃ lb, mk (List.replicate (2049 + q) 0) = lb := ⟨_, rfl⟩
            rw [hlb] at cL hmt
            clear hlb hlz
            have cL := Lib.hid cL
            go_wp2_with (at_make; refine wpList_make_row _ rfl _ _ 22 rfl 5 i0 (.int .u8 0) Tryd.underlying22 hi hz0 hz1 rfl .i64 .i64 (2049 + q) rfl rfl (by rw [hz2]; omega) (by omega) ?_)
            try go_at_call 11
            refine (cL.out _ (H.out.2.later bM.out)).mono ?_
            rintro e w7 ⟨v7, ⟨rfl, hO7⟩, b7⟩
            obtain ⟨A7, n7, c7, rfl⟩ := own_shape hO7
            have B7 := Lib.hid (bt bM.out b7); clear b7 hO7 cL hmt
            rcases T.out.1 with ⟨rfl, L, hL⟩ | rfl
            · by_cases hbig : t.size + 1 + (s : ByteArray).size ≤ 2048
              · have hf := F.out.2 L hL hbig
                simp only [Prod.mk.injEq] at hf
                obtain ⟨e1, e2, e3⟩ := hf
                subst e2
                subst e3
                have hn50 : n5 = 0 := by rw [hn5.out, e1]; rfl
                subst hn50
                have hub : ¬ 2048 < u.size := by rw [huz]; omega
                have hubI : ¬ 2048 < (u.size : Int) := by omega
                clear huz e1
                go_wp2
                go_ret
                exact ⟨rfl, B7.out⟩
              · have hub : 2048 < u.size := by rw [huz]; omega
                clear huz
                go_wp2
                go_ret
                exact ⟨rfl, B7.out⟩
            · clear huz
              go_wp2
              go_ret
              exact ⟨rfl, B7.out⟩
    · have hs0 : s.size = 0 := by omega
      have hsp : (38 : UInt8) = 38 → ∀ r, s.data.toList ≠ 38 :: r := fun _ r e => by
        rw [e] at hsl; simp at hsl; omega
      have hsz : (s : ByteArray).size ≤ 140737488351232 := by first | exact hs | decide
      have hu : (t ++ ⟨#[38]⟩ ++ s : ByteArray).data.toList = t.data.toList ++ 38 :: (s : ByteArray).data.toList := by
        rw [ByteArray.data_append, ByteArray.data_append, Array.toList_append, Array.toList_append, List.append_assoc]; rfl
      have huz : (t ++ ⟨#[38]⟩ ++ s : ByteArray).size = t.size + 1 + (s : ByteArray).size := by rw [ByteArray.size_append, ByteArray.size_append]; rfl
      have hbad : ∀ L, lexL t.data.toList = .ok L → t.size + 1 + (s : ByteArray).size ≤ 2048 → resT (t ++ ⟨#[38]⟩ ++ s : ByteArray).data.toList = ([], t.size, 2) := fun L hL hle =>
        res_bad hL T.out.2 K.out hsp hu (by have h9 : (t ++ ⟨#[38]⟩ ++ s : ByteArray).data.toList.length = (t ++ ⟨#[38]⟩ ++ s : ByteArray).size := by rw [Array.length_toList]; rfl
                                            rw [h9, huz]; exact hle)
      have cU := fun W hT => All_any (t ++ ⟨#[38]⟩ ++ s) W (by rw [huz]; unfold maxLen; omega) hT
      unfold AllP at cU
      obtain ⟨RL, ra, re, hR⟩ : ∃ RL ra re, resT (t ++ ⟨#[38]⟩ ++ s : ByteArray).data.toList = (RL, ra, re) := ⟨_, _, _, rfl⟩
      rw [hR] at cU hbad
      have gg1 : ¬ 9223372036854775807 < t.size + 1 := by omega
      have gg2 : ¬ 9223372036854775807 < t.size + 1 + (s : ByteArray).size := by omega
      have F := Lib.hid (And.intro cU hbad); clear cU hbad hR hu hsp hsl hc38
      go_wp2_with fail
      try go_at_call 11
      have bB := Lib.hid (bt B4.out (ba w4 (.cells #[.int .u8 38] 5)))
      refine (F.out.1 _ (H.out.2.later bB.out)).mono ?_
      rintro e w5 ⟨v5, ⟨rfl, hO5⟩, b5⟩
      obtain ⟨A5, n5, c5, rfl⟩ := own_shape hO5
      have hn5 := Lib.hid (own_n hO5)
      have B5 := Lib.hid (bt bB.out b5); clear b5 hO5
      generalize hSS : (t ++ ⟨#[38]⟩ ++ s : ByteArray) = u at *
      clear hSS
      go_wp2
      go_loop [19, 20] (fun bv iv => ∃ k : Nat, k ≤ 128 ∧ iv = .int .i64 (k : Int) ∧ bv = .string (mk (List.replicate (16 * k) 32))) (fun _ iv => 128 - (intOf iv).toNat)
      case atStart => exact ⟨0, Nat.zero_le _, rfl, rfl⟩
      case round =>
        obtain ⟨k, hk, rfl, rfl⟩ := hrel
        by_cases hk2 : k < 128
        · have hkz := mk_size (List.replicate (16 * k) 32)
          rw [List.length_replicate] at hkz
          have R := Lib.hid (blank_more k)
          have gg : ¬ 9223372036854775807 < (mk (List.replicate (16 * k) 32)).size + 16 := by omega
          obtain ⟨kb, hkb⟩ : ∃ kb, mk (List.replicate (16 * k) 32) = kb := ⟨_, rfl⟩
          rw [hkb] at R gg ⊢
          clear hkb hkz
          go_wp2
          go_round
          case rel => exact ⟨k + 1, by omega, by go_num, by rw [R.out]⟩
          case measure => simp [intOf]; omega
        · obtain rfl : k = 128 := by omega
          have hbz := mk_size (List.replicate (16 * 128) 32)
          rw [List.length_replicate] at hbz
          have cB := fun W hT => All_any (mk (List.replicate (16 * 128) 32)) W (by rw [hbz]; decide) hT
          unfold AllP at cB
          rw [mk_data, res_spaces _ (by decide)] at cB
          obtain ⟨kb, hkb⟩ : ∃ kb, mk (List.replicate (16 * 128) 32) = kb := ⟨_, rfl⟩
          rw [hkb] at cB ⊢
          clear hkb hbz
          have cB := Lib.hid cB
          go_wp2_with fail
          try go_at_call 11
          refine (cB.out _ (H.out.2.later B5.out)).mono ?_
          rintro e w6 ⟨v6, ⟨rfl, hO6⟩, b6⟩
          obtain ⟨A6, n6, c6, rfl⟩ := own_shape hO6
          have B6 := Lib.hid (bt B5.out b6); clear b6 hO6 cB
          have hmt := made_text w6 (2049 + q)
          have bM := Lib.hid (bt B6.out (ba w6 (.cells (madeCells #[.int .u8 0] (2049 + q)) 5)))
          have hlz := mk_size (List.replicate (2049 + q) 0)
          rw [List.length_replicate] at hlz
          have cL := fun W hT => All_any (mk (List.replicate (2049 + q) 0)) W (by rw [hlz]; unfold maxLen; omega) hT
          unfold AllP at cL
          rw [mk_data, res_long (s := List.replicate (2049 + q) 0) (by rw [List.length_replicate]; omega)] at cL
          obtain ⟨lb, hlb⟩ : ∃ lb, mk (List.replicate (2049 + q) 0) = lb := ⟨_, rfl⟩
          rw [hlb] at cL hmt
          clear hlb hlz
          have cL := Lib.hid cL
          go_wp2_with (at_make; refine wpList_make_row _ rfl _ _ 22 rfl 5 i0 (.int .u8 0) Tryd.underlying22 hi hz0 hz1 rfl .i64 .i64 (2049 + q) rfl rfl (by rw [hz2]; omega) (by omega) ?_)
          try go_at_call 11
          refine (cL.out _ (H.out.2.later bM.out)).mono ?_
          rintro e w7 ⟨v7, ⟨rfl, hO7⟩, b7⟩
          obtain ⟨A7, n7, c7, rfl⟩ := own_shape hO7
          have B7 := Lib.hid (bt bM.out b7); clear b7 hO7 cL hmt
          rcases T.out.1 with ⟨rfl, L, hL⟩ | rfl
          · by_cases hbig : t.size + 1 + (s : ByteArray).size ≤ 2048
            · have hf := F.out.2 L hL hbig
              simp only [Prod.mk.injEq] at hf
              obtain ⟨e1, e2, e3⟩ := hf
              subst e2
              subst e3
              have hn50 : n5 = 0 := by rw [hn5.out, e1]; rfl
              subst hn50
              have hub : ¬ 2048 < u.size := by rw [huz]; omega
              have hubI : ¬ 2048 < (u.size : Int) := by omega
              clear huz e1
              go_wp2
              go_ret
              exact ⟨rfl, B7.out⟩
            · exact absurd (show t.size + 1 + s.size ≤ 2048 by omega) hbig
          · clear huz
            go_wp2
            go_ret
            exact ⟨rfl, B7.out⟩
  · have h38I : ¬ (c.toNat : Int) = 38 := fun e => h38 (hc38.2 e)
    have h38n : ¬ c.toNat = 38 := by omega
    have h38b : ((c.toNat : Int) == 38) = false := beq_eq_false_iff_ne.2 h38I
    have hsp : c = 38 → ∀ r, s.data.toList ≠ 38 :: r := fun e => absurd e h38
    have hsz : (s : ByteArray).size ≤ 140737488351232 := by first | exact hs | decide
    have hu : (t ++ ⟨#[c]⟩ ++ s : ByteArray).data.toList = t.data.toList ++ c :: (s : ByteArray).data.toList := by
      rw [ByteArray.data_append, ByteArray.data_append, Array.toList_append, Array.toList_append, List.append_assoc]; rfl
    have huz : (t ++ ⟨#[c]⟩ ++ s : ByteArray).size = t.size + 1 + (s : ByteArray).size := by rw [ByteArray.size_append, ByteArray.size_append]; rfl
    have hbad : ∀ L, lexL t.data.toList = .ok L → t.size + 1 + (s : ByteArray).size ≤ 2048 → resT (t ++ ⟨#[c]⟩ ++ s : ByteArray).data.toList = ([], t.size, 2) := fun L hL hle =>
      res_bad hL T.out.2 K.out hsp hu (by have h9 : (t ++ ⟨#[c]⟩ ++ s : ByteArray).data.toList.length = (t ++ ⟨#[c]⟩ ++ s : ByteArray).size := by rw [Array.length_toList]; rfl
                                          rw [h9, huz]; exact hle)
    have cU := fun W hT => All_any (t ++ ⟨#[c]⟩ ++ s) W (by rw [huz]; unfold maxLen; omega) hT
    unfold AllP at cU
    obtain ⟨RL, ra, re, hR⟩ : ∃ RL ra re, resT (t ++ ⟨#[c]⟩ ++ s : ByteArray).data.toList = (RL, ra, re) := ⟨_, _, _, rfl⟩
    rw [hR] at cU hbad
    have gg1 : ¬ 9223372036854775807 < t.size + 1 := by omega
    have gg2 : ¬ 9223372036854775807 < t.size + 1 + (s : ByteArray).size := by omega
    have F := Lib.hid (And.intro cU hbad); clear cU hbad hR hu hsp hsl hc38
    go_wp2_with fail
    try go_at_call 11
    have bB := Lib.hid (bt B4.out (ba w4 (.cells #[.int .u8 (c.toNat : Int)] 5)))
    refine (F.out.1 _ (H.out.2.later bB.out)).mono ?_
    rintro e w5 ⟨v5, ⟨rfl, hO5⟩, b5⟩
    obtain ⟨A5, n5, c5, rfl⟩ := own_shape hO5
    have hn5 := Lib.hid (own_n hO5)
    have B5 := Lib.hid (bt bB.out b5); clear b5 hO5
    generalize hSS : (t ++ ⟨#[c]⟩ ++ s : ByteArray) = u at *
    clear hSS
    go_wp2
    go_loop [19, 20] (fun bv iv => ∃ k : Nat, k ≤ 128 ∧ iv = .int .i64 (k : Int) ∧ bv = .string (mk (List.replicate (16 * k) 32))) (fun _ iv => 128 - (intOf iv).toNat)
    case atStart => exact ⟨0, Nat.zero_le _, rfl, rfl⟩
    case round =>
      obtain ⟨k, hk, rfl, rfl⟩ := hrel
      by_cases hk2 : k < 128
      · have hkz := mk_size (List.replicate (16 * k) 32)
        rw [List.length_replicate] at hkz
        have R := Lib.hid (blank_more k)
        have gg : ¬ 9223372036854775807 < (mk (List.replicate (16 * k) 32)).size + 16 := by omega
        obtain ⟨kb, hkb⟩ : ∃ kb, mk (List.replicate (16 * k) 32) = kb := ⟨_, rfl⟩
        rw [hkb] at R gg ⊢
        clear hkb hkz
        go_wp2
        go_round
        case rel => exact ⟨k + 1, by omega, by go_num, by rw [R.out]⟩
        case measure => simp [intOf]; omega
      · obtain rfl : k = 128 := by omega
        have hbz := mk_size (List.replicate (16 * 128) 32)
        rw [List.length_replicate] at hbz
        have cB := fun W hT => All_any (mk (List.replicate (16 * 128) 32)) W (by rw [hbz]; decide) hT
        unfold AllP at cB
        rw [mk_data, res_spaces _ (by decide)] at cB
        obtain ⟨kb, hkb⟩ : ∃ kb, mk (List.replicate (16 * 128) 32) = kb := ⟨_, rfl⟩
        rw [hkb] at cB ⊢
        clear hkb hbz
        have cB := Lib.hid cB
        go_wp2_with fail
        try go_at_call 11
        refine (cB.out _ (H.out.2.later B5.out)).mono ?_
        rintro e w6 ⟨v6, ⟨rfl, hO6⟩, b6⟩
        obtain ⟨A6, n6, c6, rfl⟩ := own_shape hO6
        have B6 := Lib.hid (bt B5.out b6); clear b6 hO6 cB
        have hmt := made_text w6 (2049 + q)
        have bM := Lib.hid (bt B6.out (ba w6 (.cells (madeCells #[.int .u8 0] (2049 + q)) 5)))
        have hlz := mk_size (List.replicate (2049 + q) 0)
        rw [List.length_replicate] at hlz
        have cL := fun W hT => All_any (mk (List.replicate (2049 + q) 0)) W (by rw [hlz]; unfold maxLen; omega) hT
        unfold AllP at cL
        rw [mk_data, res_long (s := List.replicate (2049 + q) 0) (by rw [List.length_replicate]; omega)] at cL
        obtain ⟨lb, hlb⟩ : ∃ lb, mk (List.replicate (2049 + q) 0) = lb := ⟨_, rfl⟩
        rw [hlb] at cL hmt
        clear hlb hlz
        have cL := Lib.hid cL
        go_wp2_with (at_make; refine wpList_make_row _ rfl _ _ 22 rfl 5 i0 (.int .u8 0) Tryd.underlying22 hi hz0 hz1 rfl .i64 .i64 (2049 + q) rfl rfl (by rw [hz2]; omega) (by omega) ?_)
        try go_at_call 11
        refine (cL.out _ (H.out.2.later bM.out)).mono ?_
        rintro e w7 ⟨v7, ⟨rfl, hO7⟩, b7⟩
        obtain ⟨A7, n7, c7, rfl⟩ := own_shape hO7
        have B7 := Lib.hid (bt bM.out b7); clear b7 hO7 cL hmt
        rcases T.out.1 with ⟨rfl, L, hL⟩ | rfl
        · by_cases hbig : t.size + 1 + (s : ByteArray).size ≤ 2048
          · have hf := F.out.2 L hL hbig
            simp only [Prod.mk.injEq] at hf
            obtain ⟨e1, e2, e3⟩ := hf
            subst e2
            subst e3
            have hn50 : n5 = 0 := by rw [hn5.out, e1]; rfl
            subst hn50
            have hub : ¬ 2048 < u.size := by rw [huz]; omega
            have hubI : ¬ 2048 < (u.size : Int) := by omega
            clear huz e1
            go_wp2
            go_ret
            exact ⟨rfl, B7.out⟩
          · have hub : 2048 < u.size := by rw [huz]; omega
            clear huz
            go_wp2
            go_ret
            exact ⟨rfl, B7.out⟩
        · clear huz
          go_wp2
          go_ret
          exact ⟨rfl, B7.out⟩
end Go.Proofs.YtoaallhibgbokaaDoor
