/- The walk of RingEnds. -/
import Derived.Test.YtbbjlefldpgckaaEnds
namespace Go.Proofs.Ytbbjlefldpgckaa
open Go.ChangeShapes Go.WideShapes Go.ChangeAt Go.RowKit Go.Maps
open Ev (V3 rightV OkV)
set_option linter.unusedVariables false
set_option linter.unusedSimpArgs false
set_option maxRecDepth 20000

/-- Items at 0, 3, 6 .. -/
def hs3 (k : Nat) : List It := (List.range k).map (fun i : Nat => (false, 3 * (i : Int), oneV (i : Int)))
def eg3 : Nat → Int
  | 0 => 0
  | k + 1 => 3 * (k : Int) + 1
theorem hs3_len (k : Nat) : (hs3 k).length = k := by simp [hs3]
theorem hs3_succ (k : Nat) : hs3 (k + 1) = hs3 k ++ [(false, 3 * (k : Int), oneV (k : Int))] := by simp [hs3, List.range_succ]
theorem hs3_at {k a : Nat} (h : a < k) : (hs3 k)[a]? = some (false, 3 * (a : Int), oneV (a : Int)) := by simp [hs3, h]
theorem eg3_le (k : Nat) : eg3 k ≤ 3 * (k : Int) := by cases k <;> simp [eg3] <;> omega
abbrev en (k : Nat) (sh : Bool) (a : Nat) (lo : Int) : Rg := ⟨8, hs3 k, eg3 k, sh, upd (fun _ => none) 1 (some (a, lo)), 1, 1⟩
theorem en_put {k : Nat} {e : Int} {s' : Rg} (h : PutR (en k false 0 0) false (3 * (k : Int)) (oneV (k : Int)) e s') (hk : k < 8) : e = 0 ∧ s' = en (k + 1) false 0 0 := by
  have hl := hs3_len k
  have he := eg3_le k
  obtain ⟨h1, h2⟩ := h.ok (right_one _ _ (by omega) (by omega)) rfl (fun h => by
    rcases h with h | ⟨h, _⟩
    · have h' : 3 * (k : Int) < eg3 k := h
      omega
    · cases h) (isLen_one _ _ _) (by show (hs3 k).length - 0 < 8; omega)
  refine ⟨h1, h2.trans ?_⟩
  show (⟨8, hs3 k ++ [(false, 3 * (k : Int), oneV (k : Int))], 3 * (k : Int) + 1, false, _, 1, 1⟩ : Rg) = _
  rw [← hs3_succ]
  rfl
theorem en_next {k a : Nat} {sh : Bool} {lo : Int} {x : Option It} {s' : Rg} (h : NextR (en k sh a lo) 1 x s') (ha : a < k) : x = some (false, 3 * (a : Int), oneV (a : Int)) ∧ s' = en k sh (a + 1) (3 * (a : Int) + 1) := by
  obtain ⟨h1, h2⟩ := h.yes (r := (a, lo)) (show upd (fun _ => none) 1 (some (a, lo)) 1 = some (a, lo) from upd_same _ _ _) (hs3_at ha)
  exact ⟨h1, h2.trans (by simp only [upd_upd]; rfl)⟩
theorem en_none {k : Nat} {sh : Bool} {lo : Int} {x : Option It} {s' : Rg} (h : NextR (en k sh k lo) 1 x s') : x = none ∧ s' = en k sh k lo := by
  refine h.no ?_
  unfold waitR
  simp only [upd_same, hs3_len]
  omega
theorem en_end (k a : Nat) (lo : Int) : endR (en k true a lo) 1 = decide (a = k) := by
  unfold endR
  simp only [upd_same, hs3_len, Bool.true_and]
def en2 (k : Nat) (lo : Int) : Rg := ⟨8, hs3 k, eg3 k, true, upd (upd (fun _ => none) 1 (some (k, lo))) 2 (some (k, eg3 k)), 2, 2⟩
theorem en2_end (k : Nat) (lo : Int) : endR (en2 k lo) 1 = true ∧ endR (en2 k lo) 2 = true ∧ endR (en2 k lo) 99 = false := by
  unfold endR en2
  refine ⟨?_, ?_, rfl⟩
  · simp only [upd_other _ _ (show (1 : Int) ≠ 2 by decide), upd_same, hs3_len, Bool.true_and, decide_true]
  · simp only [upd_same, hs3_len, Bool.true_and, decide_true]
set_option maxHeartbeats 4000000 in
theorem walk_RingEnds (many read : Int) (m0 : 0 ≤ many) (m1 : many ≤ 255) (r0 : 0 ≤ read) (r1 : read ≤ 255) (w : World) :
    Calls Try.prog 8 #[.int .u8 many, .int .u8 read] w fun e w' => e = .returned (.bool true) ∧ Below w.heap.size w w' := by
  obtain ⟨k, hk, hk7⟩ : ∃ k : Nat, many % 8 = (k : Int) ∧ k ≤ 7 := ⟨(many % 8).toNat, by omega, by omega⟩
  obtain ⟨r, hr, hr8⟩ : ∃ r : Nat, read % 9 = (r : Int) ∧ r ≤ 8 := ⟨(read % 9).toNat, by omega, by omega⟩
  have HK := Lib.hid hk; clear hk
  go_enter Try.func8, Try.ntmps8
  go_wp2_with (go_at_call 9; ((with_reducible refine (examples_any _).mono ?_); rintro e x1 ⟨rfl, bx1⟩))
  have B1 := Lib.hid bx1; clear bx1
  go_at_call 10
  refine (New_any 8 (by decide) (by decide) _).mono ?_
  rintro e x2 ⟨d, ⟨rfl, hS⟩, b2⟩
  have K2 := Lib.hid (⟨hS.rx, b2⟩ : Kr (fun _ => False) x1 x2 d (g0 8)); clear hS b2
  go_wp2_with fail
  go_at_call 14
  refine (Add_any _ x1.heap.size d (g0 8) x2 K2.out.rx (by decide)).mono ?_
  rintro e x3 ⟨n, s', ⟨rfl, hR, hS⟩, hX, hk'⟩
  obtain ⟨rfl, rfl⟩ : n = 1 ∧ s' = en 0 false 0 0 := by obtain ⟨h1, h2⟩ := hR.yes (by decide); exact ⟨h1, h2⟩
  have K3 := Lib.hid (K2.out.go hS hX); clear hS hX hR hk' K2
  go_wp2_with fail
  rw [HK.out]
  go_loopw [10] (fun iv wr => ∃ i : Nat, i ≤ k ∧ iv = .int .i64 i ∧ Kr (fun _ => False) x1 wr d (en i false 0 0)) (fun i _ => k - (intOf i).toNat)
  case atStart => exact ⟨0, Nat.zero_le _, rfl, K3.out⟩
  case round =>
    obtain ⟨i, hi, rfl, hK⟩ := hrel
    by_cases hlt : i < k
    · have M := Lib.hid hK; clear hK
      go_wp2_with fail
      go_at_call 16
      refine (one_any _ _ _).mono ?_
      rintro e x4 ⟨v4, ⟨rfl, hN⟩, b4⟩
      have M4 := Lib.hid (And.intro (M.out.later b4) hN); clear M b4 hN
      go_wp2_with fail
      go_at_call 15
      refine (Put_any _ x1.heap.size d _ false (3 * (i : Int)) v4 (oneV (i : Int)) _ M4.out.1.rx (new_at M4.out.2) (one_size _) (by show (hs3 i).length < _; rw [hs3_len]; omega)).mono ?_
      rintro e x5 ⟨c, s', ⟨rfl, hR, hS⟩, hX, hk'⟩
      obtain ⟨rfl, rfl⟩ := en_put hR (by omega)
      have M5 := Lib.hid (M4.out.1.go hS hX); clear hS hX hR hk' M4
      go_wp2
      go_roundw
      case rel => exact ⟨i + 1, by omega, by go_num, M5.out⟩
      case measure => simp [intOf]; omega
    · obtain rfl : i = k := by omega
      have M := Lib.hid hK; clear hK
      go_wp2_with fail
      go_loopw [11] (fun iv wr => ∃ (a : Nat) (lo : Int), a ≤ i ∧ iv = .int .i64 a ∧ Kr (fun _ => False) x1 wr d (en i false a lo)) (fun iv _ => i - (intOf iv).toNat)
      case atStart => exact ⟨0, 0, Nat.zero_le _, rfl, M.out⟩
      case round =>
        rename World => w2
        clear M
        obtain ⟨a, lo, ha, rfl, hK⟩ := hrel
        have M := Lib.hid hK; clear hK
        by_cases hc : a < r ∧ a < i
        · obtain ⟨c1, c2⟩ := hc
          go_wp2_with fail
          go_at_call 17
          refine (Next_any _ x1.heap.size d _ w2 1 ⟨by decide, by decide⟩ M.out.rx).mono ?_
          rintro e x6 ⟨x, s', v', ⟨he, hR, hN, hS⟩, hX, hk'⟩
          obtain ⟨rfl, rfl⟩ := en_next hR c2
          obtain rfl : e = .returned (.tuple #[item false (3 * (a : Int)) v', .bool true]) := he
          have M6 := Lib.hid (M.out.go hS hX); clear hS hX hR hk' hN M
          go_wp2
          go_roundw
          case rel => exact ⟨a + 1, _, by omega, by go_num, M6.out⟩
          case measure => simp [intOf]; omega
        · have hc' : ¬ a < r ∨ (a < r ∧ ¬ a < i) := by omega
          clear hc
          rcases hc' with c1 | ⟨c1, c2⟩
          all_goals
            go_wp2_with fail
            go_at_call 28
            refine (Ended_any x1.heap.size d _ _ 1 ⟨by decide, by decide⟩ M.out.rs).mono ?_
            rintro e x7 ⟨he, hb⟩
            obtain rfl : e = .returned (.bool false) := he.trans (by unfold endR; simp only [upd_same, Bool.false_and])
            have M7 := Lib.hid (M.out.later hb); clear hb he M
            go_wp2_with fail
            go_at_call 29
            refine (Close_any _ x1.heap.size d _ x7 M7.out.rx).mono ?_
            rintro e x8 ⟨⟨⟨y8, rfl⟩, hS⟩, hX, hk'⟩
            have M8 := Lib.hid (M7.out.go (s' := en i true a lo) hS hX); clear hS hX hk' M7
            go_wp2_with fail
            go_at_call 16
            refine (one_any _ _ _).mono ?_
            rintro e x9 ⟨v9, ⟨rfl, hN⟩, b9⟩
            have M9 := Lib.hid (And.intro (M8.out.later b9) hN); clear M8 b9 hN
            go_wp2_with fail
            go_at_call 15
            refine (Put_any _ x1.heap.size d _ false 1000 v9 (oneV 0) _ M9.out.1.rx (new_at M9.out.2) (one_size _) (by show (hs3 i).length < _; rw [hs3_len]; omega)).mono ?_
            rintro e x10 ⟨c, s', ⟨rfl, hR, hS⟩, hX, hk'⟩
            obtain ⟨rfl, rfl⟩ := hR.shut (right_one _ _ (by decide) (by decide)) rfl
            have M10 := Lib.hid (M9.out.1.go hS hX); clear hS hX hR hk' M9
            go_wp2_with fail
            go_at_call 15
            refine (Put_any _ x1.heap.size d _ true 1000 (.slice none 0 0) [] _ M10.out.rx (At.nil _ _ _) (by simp) (by show (hs3 i).length < _; rw [hs3_len]; omega)).mono ?_
            rintro e x11 ⟨c, s', ⟨rfl, hR, hS⟩, hX, hk'⟩
            obtain ⟨rfl, rfl⟩ := hR.shut rfl rfl
            have M11 := Lib.hid (M10.out.go hS hX); clear hS hX hR hk' M10
            go_wp2_with fail
            clear c1; try clear c2
            go_loopw [11] (fun iv wr => ∃ (a : Nat) (lo : Int), a ≤ i ∧ iv = .int .i64 a ∧ Kr (fun _ => False) x1 wr d (en i true a lo)) (fun iv _ => i - (intOf iv).toNat)
            case atStart => exact ⟨a, lo, ha, rfl, M11.out⟩
            case round =>
              rename World => w3
              clear M11
              obtain ⟨a, lo, ha, rfl, hK⟩ := hrel
              have M := Lib.hid hK; clear hK
              by_cases hlt2 : a < i
              · go_wp2_with fail
                go_at_call 17
                refine (Next_any _ x1.heap.size d _ w3 1 ⟨by decide, by decide⟩ M.out.rx).mono ?_
                rintro e x12 ⟨x, s', v', ⟨he, hR, hN, hS⟩, hX, hk'⟩
                obtain ⟨rfl, rfl⟩ := en_next hR hlt2
                have hN' := (hN _ rfl).weak (Nat.zero_le _)
                obtain ⟨A1, n1, hv⟩ := hN'.shape
                obtain rfl : v' = .slice A1 1 n1 := hv
                obtain rfl : e = .returned (.tuple #[item false (3 * (a : Int)) (.slice A1 1 n1), .bool true]) := he
                have M12 := Lib.hid (And.intro (M.out.go hS hX) hN'); clear hS hX hR hk' hN hN' M
                go_wp2_with fail
                obtain ⟨W, hW⟩ : ∃ W, W = x12.alloc (.cells #[.bool false, .int .i64 (3 * (a : Int)), .slice A1 1 n1] 37) := ⟨_, rfl⟩
                rw [← hW]
                have hbW : Below x12.heap.size x12 W := by rw [hW]; exact ba _ _
                have hpW : Blk W x12.heap.size 37 #[.bool false, .int .i64 (3 * (a : Int)), .slice A1 1 n1] := by rw [hW]; exact Blk.new _ _ _
                have M13 := Lib.hid (And.intro (M12.out.1.later hbW) (And.intro hpW (M12.out.2.later hbW))); clear hbW hpW hW M12
                refine wp_of_eq (c' := ((Try.f8.body.bind (regionN 23)).getD .skip)) ?_ (by kernel_rfl)
                refine ends23 _ _ _ _ _ _ _ _ _ _ _ _ _ _ _ _ _ _ _ _ _ _ _ _ _ _ _ _ _ _ _ _ _ _ _ _ _ _ _ _ _ _ _ _ _ _ _ _ _ _ _ _ _ _ _ _ _ _ _ _ _ _ _ _ _ _ _ _ _ _ _ _ _ _ _ _ _ _ _ _ _ _ _ _ _ _ _ _ _ _ _ _ _ _ _ _ _ _ _ _ _ _ _ _ _ _ _ _ _ _ _ _ _ _ _ _ _ _ _ _ _ _ _ _ _ _ _ _ _ _ _ _ _ _ _ _ _ _ _ _ _ _ _ _ _ _ _ _ _ _ M13.out.1.rs (en_end i (a + 1) _) rfl (by omega) (by omega) M13.out.2.1 M13.out.2.2 (fun _ _ _ _ _ _ _ _ _ _ _ _ _ _ _ _ _ _ _ _ w8 h8 => ?_)
                have M14 := Lib.hid (M13.out.1.later h8); clear M13 h8
                go_wp2
                go_roundw
                case rel => exact ⟨a + 1, _, by omega, by go_num, M14.out⟩
                case measure => simp [intOf]; omega
              · obtain rfl : a = i := by omega
                go_wp2_with fail
                go_at_call 17
                refine (Next_any _ x1.heap.size d _ w3 1 ⟨by decide, by decide⟩ M.out.rx).mono ?_
                rintro e x12 ⟨x, s', v', ⟨he, hR, hN, hS⟩, hX, hk'⟩
                obtain ⟨rfl, rfl⟩ := en_none hR
                obtain rfl : e = .returned (.tuple #[item false 0 (.slice none 0 0), .bool false]) := he
                have M12 := Lib.hid (M.out.go hS hX); clear hS hX hR hk' hN M
                go_wp2_with fail
                go_at_call 14
                have M13 := Lib.hid (M12.out.later (ba x12 (.cells #[.bool false, .int .i64 0, .slice none 0 0] 37))); clear M12
                refine (Add_any _ x1.heap.size d _ _ M13.out.rx (by show (1 : Nat) < _; decide)).mono ?_
                rintro e x14 ⟨n, s', ⟨rfl, hR, hS⟩, hX, hk'⟩
                obtain ⟨rfl, rfl⟩ : n = 2 ∧ s' = en2 a lo := by
                  obtain ⟨h1, h2⟩ := hR.yes (by show (1 : Nat) < 16; decide)
                  refine ⟨h1, h2.trans ?_⟩
                  unfold en2
                  simp only [hs3_len]
                  rfl
                have M14 := Lib.hid (M13.out.go hS hX); clear hS hX hR hk' M13
                obtain ⟨e1, e2, e3⟩ := en2_end a lo
                have E := Lib.hid (And.intro e1 (And.intro e2 e3)); clear e1 e2 e3
                go_wp2_with fail
                go_at_call 28
                refine (Ended_any x1.heap.size d _ _ 1 ⟨by decide, by decide⟩ M14.out.rs).mono ?_
                rintro e x15 ⟨he, hb⟩
                obtain rfl : e = .returned (.bool true) := he.trans (by rw [E.out.1])
                have M15 := Lib.hid (M14.out.later hb); clear hb he M14
                go_wp2_with fail
                go_at_call 28
                refine (Ended_any x1.heap.size d _ _ 2 ⟨by decide, by decide⟩ M15.out.rs).mono ?_
                rintro e x16 ⟨he, hb⟩
                obtain rfl : e = .returned (.bool true) := he.trans (by rw [E.out.2.1])
                have M16 := Lib.hid (M15.out.later hb); clear hb he M15
                go_wp2_with fail
                go_at_call 19
                refine (Total_any x1.heap.size d _ _ M16.out.rs).mono ?_
                rintro e x17 ⟨he, hb⟩
                obtain rfl : e = .returned (.int .i64 (a : Int)) := he.trans (by unfold en2; simp only [hs3_len])
                have M17 := Lib.hid (M16.out.later hb); clear hb he M16
                go_wp2_with fail
                go_at_call 28
                refine (Ended_any x1.heap.size d _ _ 99 ⟨by decide, by decide⟩ M17.out.rs).mono ?_
                rintro e x18 ⟨he, hb⟩
                obtain rfl : e = .returned (.bool false) := he.trans (by rw [E.out.2.2])
                have M18 := Lib.hid (M17.out.later hb); clear hb he M17
                go_wp2
                go_ret
                exact ⟨rfl, bt B1.out M18.out.bel⟩
end Go.Proofs.Ytbbjlefldpgckaa
