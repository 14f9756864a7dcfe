/- The walk of RingBounds. -/
import Derived.Test.YtbbjlefldpgckaaRgX
import Derived.Test.YtbbjlefldpgckaaRgY
namespace Go.Proofs.Ytbbjlefldpgckaa
open Go.ChangeShapes Go.WideShapes Go.ChangeAt Go.RowKit Go.Maps
open Ev (V3 rightV OkV)
set_option linter.unusedVariables false
set_option linter.unusedSimpArgs false
set_option maxRecDepth 20000

/-- Items at 0, 1, 2 .. -/
def hs1 (k : Nat) : List It := (List.range k).map (fun i : Nat => (false, (i : Int), oneV 0))
theorem hs1_len (k : Nat) : (hs1 k).length = k := by simp [hs1]
theorem hs1_succ (k : Nat) : hs1 (k + 1) = hs1 k ++ [(false, (k : Int), oneV 0)] := by simp [hs1, List.range_succ]
theorem hs1_at {k a : Nat} (h : a < k) : (hs1 k)[a]? = some (false, (a : Int), oneV 0) := by simp [hs1, h]
abbrev bd (c n s : Nat) (lo : Int) (q : Nat) (lo2 : Int) : Rg := ⟨c, hs1 n, (n : Int), false, upd (upd (fun _ => none) 1 (some (s, lo))) 2 (some (q, lo2)), 2, 2⟩
theorem bd_len {c n s q m : Nat} {lo lo2 : Int} (h : IsLen (bd c n s lo q lo2).hist.length (bd c n s lo q lo2).rd m) (hs : s ≤ q) : m = n - s := by
  have h2 : IsLen (hs1 n).length (upd (upd (fun _ => none) 1 (some (s, lo))) 2 (some (q, lo2))) ((hs1 n).length - s) := isLen_two _ (by decide) _ _ hs
  have := h.one h2
  rw [hs1_len] at this
  exact this
theorem bd_free {c n s q : Nat} {lo lo2 : Int} {w w' : World} {e : Ending} (h : FreeP (bd c n s lo q lo2) w e w') (hs : s ≤ q) (hn : s ≤ n) : e = .returned (.int .i64 ((c : Int) - ((n - s : Nat) : Int))) ∧ Below w.heap.size w w' := by
  obtain ⟨m, ⟨he, hm, _⟩, hb⟩ := h
  obtain rfl := bd_len hm hs
  exact ⟨he, hb⟩
theorem bd_put {c n : Nat} {lo lo2 : Int} {e : Int} {s' : Rg} (h : PutR (bd c n 0 lo n lo2) false (n : Int) (oneV 0) e s') (hc : n < c) (hn : n < 1000) : e = 0 ∧ s' = bd c (n + 1) 0 lo n lo2 := by
  have h2 : IsLen (hs1 n).length (upd (upd (fun _ => none) 1 (some (0, lo))) 2 (some (n, lo2))) ((hs1 n).length - 0) := isLen_two _ (by decide) _ _ (Nat.zero_le _)
  obtain ⟨h1, h2⟩ := h.ok (right_one _ _ (by omega) (by omega)) rfl (fun h => by
    rcases h with h | ⟨h, _⟩
    · have h' : (n : Int) < (n : Int) := h
      omega
    · cases h) h2 (by show (hs1 n).length - 0 < c; rw [hs1_len]; exact hc)
  refine ⟨h1, h2.trans ?_⟩
  show (⟨c, hs1 n ++ [(false, (n : Int), oneV 0)], (n : Int) + 1, false, _, 2, 2⟩ : Rg) = _
  rw [← hs1_succ]
  rfl
theorem bd_full {c i : Nat} {lo lo2 : Int} {e : Int} {s' : Rg} (h : PutR (bd c c 0 lo c lo2) false (i : Int) (oneV 0) e s') (hc : c ≤ i) (hn : i < 1000) : e = 9 ∧ s' = bd c c 0 lo c lo2 := by
  have h2 : IsLen (hs1 c).length (upd (upd (fun _ => none) 1 (some (0, lo))) 2 (some (c, lo2))) ((hs1 c).length - 0) := isLen_two _ (by decide) _ _ (Nat.zero_le _)
  exact h.full (right_one _ _ (by omega) (by omega)) rfl (fun h => by
    rcases h with h | ⟨h, _⟩
    · have h' : (i : Int) < (c : Int) := h
      omega
    · cases h) h2 (by show (hs1 c).length - 0 = c; rw [hs1_len]; omega)
theorem bd_next2 {c n q : Nat} {lo lo2 : Int} {x : Option It} {s' : Rg} (h : NextR (bd c n 0 lo q lo2) 2 x s') (hq : q < n) : x = some (false, (q : Int), oneV 0) ∧ s' = bd c n 0 lo (q + 1) ((q : Int) + 1) := by
  obtain ⟨h1, h2⟩ := h.yes (r := (q, lo2)) (show upd (upd (fun _ => none) 1 (some (0, lo))) 2 (some (q, lo2)) 2 = some (q, lo2) from upd_same _ _ _) (hs1_at hq)
  exact ⟨h1, h2.trans (by simp only [upd_upd]; rfl)⟩
theorem bd_none2 {c n : Nat} {lo lo2 : Int} {x : Option It} {s' : Rg} (h : NextR (bd c n 0 lo n lo2) 2 x s') : x = none ∧ s' = bd c n 0 lo n lo2 := by
  refine h.no ?_
  unfold waitR
  simp only [upd_same, hs1_len]
  omega
theorem bd_next1 {c n s q : Nat} {lo lo2 : Int} {x : Option It} {s' : Rg} (h : NextR (bd c n s lo q lo2) 1 x s') (hq : s < n) : x = some (false, (s : Int), oneV 0) ∧ s' = bd c n (s + 1) ((s : Int) + 1) q lo2 := by
  obtain ⟨h1, h2⟩ := h.yes (r := (s, lo)) (show upd (upd (fun _ => none) 1 (some (s, lo))) 2 (some (q, lo2)) 1 = some (s, lo) by rw [upd_other _ _ (by decide), upd_same]) (hs1_at hq)
  exact ⟨h1, h2.trans (by simp only [upd_swap _ (show (2 : Int) ≠ 1 by decide), upd_upd]; rfl)⟩
theorem bd_wait (c n s : Nat) (lo lo2 : Int) : waitR (bd c n s lo n lo2) 2 = 0 := by
  unfold waitR
  simp only [upd_same, hs1_len]
  omega
theorem bd_more (c n s q : Nat) (lo lo2 : Int) : (bd c n s lo q lo2).hist.length = n := hs1_len n
theorem Len_rs (B d : Nat) (s : Rg) (w : World) (h : RS w B d s) : Calls Try.prog 22 #[.pointer (some ⟨d, 0, none⟩)] w fun e w' => (∃ q : Nat, e = .returned (.int .i64 (q : Int)) ∧ IsLen s.hist.length s.rd q) ∧ Below w.heap.size w w' := by
  obtain ⟨v, m, L, h⟩ := h
  exact (Len_any B d v m L s w h.pre).mono fun e w' hh => by
    obtain ⟨q, ⟨he, hq⟩, hb⟩ := hh
    exact ⟨⟨q, he, hq⟩, hb⟩
set_option maxHeartbeats 4000000 in
theorem walk_RingBounds (capacity many read : Int) (c0 : 0 ≤ capacity) (c1 : capacity ≤ 255) (m0 : 0 ≤ many) (m1 : many ≤ 255) (r0 : 0 ≤ read) (r1 : read ≤ 255) (w : World) :
    Calls Try.prog 5 #[.int .u8 capacity, .int .u8 many, .int .u8 read] w fun e w' => e = .returned (.bool true) ∧ Below w.heap.size w w' := by
  obtain ⟨c, hc, hc1, hc8⟩ : ∃ c : Nat, capacity % 8 = (c : Int) - 1 ∧ 1 ≤ c ∧ c ≤ 8 := ⟨(capacity % 8).toNat + 1, by omega, by omega, by omega⟩
  obtain ⟨M, hM, hM20⟩ : ∃ M : Nat, many % 20 = (M : Int) ∧ M < 20 := ⟨(many % 20).toNat, by omega, by omega⟩
  obtain ⟨r, hr, hr9⟩ : ∃ r : Nat, read % 10 = (r : Int) ∧ r ≤ 9 := ⟨(read % 10).toNat, by omega, by omega⟩
  have hc' : 1 + capacity % 8 = (c : Int) := by omega
  have HK := Lib.hid (And.intro hc' (And.intro hM hr)); clear hc hM hr hc'
  go_enter Try.func5, Try.ntmps5
  go_wp2_with (go_at_call 9; ((with_reducible refine (examples_any _).mono ?_); rintro e x1 ⟨rfl, bx1⟩))
  have B1 := Lib.hid bx1; clear bx1
  rw [HK.out.1]
  go_at_call 10
  refine (New_any c hc1 (by omega) _).mono ?_
  rintro e x2 ⟨d, ⟨rfl, hS⟩, b2⟩
  have K2 := Lib.hid (⟨hS.rx, b2⟩ : Kr (fun _ => False) x1 x2 d (g0 c)); clear hS b2
  go_wp2_with fail
  go_at_call 14
  refine (Add_any _ x1.heap.size d (g0 c) x2 K2.out.rx (by show (0 : Nat) < _; decide)).mono ?_
  rintro e x3 ⟨n, s', ⟨rfl, hR, hS⟩, hX, hk'⟩
  obtain ⟨rfl, rfl⟩ : n = 1 ∧ s' = ⟨c, [], 0, false, upd (fun _ => none) 1 (some (0, 0)), 1, 1⟩ := by obtain ⟨h1, h2⟩ := hR.yes (by show (0 : Nat) < 16; decide); exact ⟨h1, h2⟩
  have K3 := Lib.hid (K2.out.go hS hX); clear hS hX hR hk' K2
  go_wp2_with fail
  go_at_call 14
  refine (Add_any _ x1.heap.size d _ x3 K3.out.rx (by show (1 : Nat) < _; decide)).mono ?_
  rintro e x4 ⟨n, s', ⟨rfl, hR, hS⟩, hX, hk'⟩
  obtain ⟨rfl, rfl⟩ : n = 2 ∧ s' = bd c 0 0 0 0 0 := by obtain ⟨h1, h2⟩ := hR.yes (by show (1 : Nat) < 16; decide); exact ⟨h1, h2⟩
  have K4 := Lib.hid (K3.out.go hS hX); clear hS hX hR hk' K3
  go_wp2_with fail
  go_loopw [13, 14] (fun nv iv wr => ∃ (i n : Nat) (lo lo2 : Int), i ≤ M ∧ n = min c i ∧ iv = .int .i64 i ∧ nv = .int .i64 n ∧ Kr (fun _ => False) x1 wr d (bd c n 0 lo n lo2)) (fun _ i _ => M - (intOf i).toNat)
  case atStart => exact ⟨0, 0, 0, 0, Nat.zero_le _, by simp, rfl, rfl, K4.out⟩
  case round =>
    obtain ⟨i, n, lo, lo2, hi, hn, rfl, rfl, hK⟩ := hrel
    have hn' := Lib.hid hn; clear hn
    by_cases hlt : i < M
    · have hltI : (i : Int) < many % 20 := by rw [HK.out.2.1]; omega
      have N0 := Lib.hid hK; clear hK
      by_cases hic : i < c
      · obtain rfl : i = n := by have := hn'.out; omega
        have hicI : (i : Int) < (c : Int) := by omega
        clear hn'
        go_wp2_with fail
        go_at_call 19
        refine (Total_any x1.heap.size d _ _ N0.out.rs).mono ?_
        rintro e y1 ⟨he, hb⟩
        obtain rfl : e = .returned (.int .i64 (i : Int)) := he.trans (by rw [bd_more])
        have N1 := Lib.hid (N0.out.later hb); clear hb N0
        try clear he
        go_wp2_with fail
        go_at_call 20
        refine (Edge_any x1.heap.size d _ _ N1.out.rs).mono ?_
        rintro e y2 ⟨he, hb⟩
        obtain rfl : e = .returned (.int .i64 (i : Int)) := he
        have N2 := Lib.hid (N1.out.later hb); clear hb N1
        try clear he
        go_wp2_with fail
        go_at_call 21
        refine ((Free_any x1.heap.size d _ _ N2.out.rs).mono (fun e w' h => bd_free h (Nat.zero_le _) (Nat.zero_le _))).mono ?_
        rintro e x3 ⟨he, hb⟩
        obtain rfl : e = .returned (.int .i64 ((c : Int) - (i : Int))) := he
        have N3 := Lib.hid (N2.out.later hb); clear hb N2
        try clear he
        go_wp2_with fail
        go_at_call 16
        refine (one_any _ _ _).mono ?_
        rintro e x5 ⟨v5, ⟨rfl, hN⟩, b5⟩
        have N5 := Lib.hid (And.intro (N3.out.later b5) hN); clear N3 b5 hN
        go_wp2_with fail
        go_at_call 15
        refine (Put_any _ x1.heap.size d _ false (i : Int) v5 (oneV 0) _ N5.out.1.rx (new_at N5.out.2) (one_size _) (by rw [bd_more]; omega)).mono ?_
        rintro e x6 ⟨z, s', ⟨rfl, hR, hS⟩, hX, hk'⟩
        obtain ⟨rfl, rfl⟩ := bd_put hR hic (by omega)
        have N6 := Lib.hid (N5.out.1.go hS hX); clear hS hX hR hk' N5
        go_wp2_with fail
        go_at_call 19
        refine (Total_any x1.heap.size d _ _ N6.out.rs).mono ?_
        rintro e x7 ⟨he, hb⟩
        obtain rfl : e = .returned (.int .i64 ((i : Int) + 1)) := he.trans (by rw [bd_more]; rfl)
        have N7 := Lib.hid (N6.out.later hb); clear hb N6
        try clear he
        go_wp2_with fail
        go_at_call 17
        refine (Next_any _ x1.heap.size d _ x7 2 ⟨by decide, by decide⟩ N7.out.rx).mono ?_
        rintro e x9 ⟨x, s', v', ⟨he, hR, hN', hS⟩, hX, hk'⟩
        obtain ⟨rfl, rfl⟩ := bd_next2 hR (Nat.lt_succ_self _)
        obtain rfl : e = .returned (.tuple #[item false (i : Int) v', .bool true]) := he
        have N9 := Lib.hid (N7.out.go hS hX); clear hS hX hR hk' hN' N7
        go_wp2_with fail
        go_at_call 22
        refine (Len_rs x1.heap.size d _ _ N9.out.rs).mono ?_
        rintro e x10 ⟨⟨q, rfl, hq⟩, hb⟩
        obtain rfl : q = i + 1 := bd_len hq (Nat.zero_le _)
        have N10 := Lib.hid (N9.out.later hb); clear hb hq N9
        go_wp2_with fail
        go_at_call 22
        refine (Len_rs x1.heap.size d _ _ N10.out.rs).mono ?_
        rintro e x11 ⟨⟨q, rfl, hq⟩, hb⟩
        obtain rfl : q = i + 1 := bd_len hq (Nat.zero_le _)
        have N11 := Lib.hid (N10.out.later hb); clear hb hq N10
        go_wp2_with fail
        go_at_call 21
        refine ((Free_any x1.heap.size d _ _ N11.out.rs).mono (fun e w' h => bd_free h (Nat.zero_le _) (Nat.zero_le _))).mono ?_
        rintro e x12 ⟨he, hb⟩
        obtain rfl : e = .returned (.int .i64 ((c : Int) - ((i : Int) + 1))) := he.trans (by simp)
        have N12 := Lib.hid (N11.out.later hb); clear hb N11
        try clear he
        go_wp2_with fail
        go_at_call 22
        refine (Len_rs x1.heap.size d _ _ N12.out.rs).mono ?_
        rintro e x13 ⟨⟨q, rfl, hq⟩, hb⟩
        obtain rfl : q = i + 1 := bd_len hq (Nat.zero_le _)
        have N13 := Lib.hid (N12.out.later hb); clear hb hq N12
        go_wp2
        go_roundw
        case rel => exact ⟨i + 1, i + 1, _, _, by omega, by omega, by go_num, by go_num, N13.out⟩
        case measure => simp [intOf]; omega
      · obtain rfl : c = n := by have := hn'.out; omega
        clear hn'
        go_wp2_with fail
        go_at_call 19
        refine (Total_any x1.heap.size d _ _ N0.out.rs).mono ?_
        rintro e y1 ⟨he, hb⟩
        obtain rfl : e = .returned (.int .i64 (c : Int)) := he.trans (by rw [bd_more])
        have N1 := Lib.hid (N0.out.later hb); clear hb N0
        try clear he
        go_wp2_with fail
        go_at_call 20
        refine (Edge_any x1.heap.size d _ _ N1.out.rs).mono ?_
        rintro e y2 ⟨he, hb⟩
        obtain rfl : e = .returned (.int .i64 (c : Int)) := he
        have N2 := Lib.hid (N1.out.later hb); clear hb N1
        try clear he
        go_wp2_with fail
        go_at_call 21
        refine ((Free_any x1.heap.size d _ _ N2.out.rs).mono (fun e w' h => bd_free h (Nat.zero_le _) (Nat.zero_le _))).mono ?_
        rintro e x3 ⟨he, hb⟩
        obtain rfl : e = .returned (.int .i64 0) := he.trans (by simp)
        have N3 := Lib.hid (N2.out.later hb); clear hb N2
        try clear he
        go_wp2_with fail
        go_at_call 16
        refine (one_any _ _ _).mono ?_
        rintro e x5 ⟨v5, ⟨rfl, hN⟩, b5⟩
        have N5 := Lib.hid (And.intro (N3.out.later b5) hN); clear N3 b5 hN
        go_wp2_with fail
        go_at_call 15
        refine (Put_any _ x1.heap.size d _ false (i : Int) v5 (oneV 0) _ N5.out.1.rx (new_at N5.out.2) (one_size _) (by rw [bd_more]; omega)).mono ?_
        rintro e x6 ⟨z, s', ⟨rfl, hR, hS⟩, hX, hk'⟩
        obtain ⟨rfl, rfl⟩ := bd_full hR (by omega) (by omega)
        have N6 := Lib.hid (N5.out.1.go hS hX); clear hS hX hR hk' N5
        go_wp2_with fail
        go_at_call 19
        refine (Total_any x1.heap.size d _ _ N6.out.rs).mono ?_
        rintro e x7 ⟨he, hb⟩
        obtain rfl : e = .returned (.int .i64 (c : Int)) := he.trans (by rw [bd_more])
        have N7 := Lib.hid (N6.out.later hb); clear hb N6
        try clear he
        go_wp2_with fail
        go_at_call 20
        refine (Edge_any x1.heap.size d _ _ N7.out.rs).mono ?_
        rintro e x8 ⟨he, hb⟩
        obtain rfl : e = .returned (.int .i64 (c : Int)) := he
        have N8 := Lib.hid (N7.out.later hb); clear hb N7
        try clear he
        go_wp2_with fail
        go_at_call 17
        refine (Next_any _ x1.heap.size d _ x8 2 ⟨by decide, by decide⟩ N8.out.rx).mono ?_
        rintro e x9 ⟨x, s', v', ⟨he, hR, hN', hS⟩, hX, hk'⟩
        obtain ⟨rfl, rfl⟩ := bd_none2 hR
        obtain rfl : e = .returned (.tuple #[item false 0 (.slice none 0 0), .bool false]) := he
        have N9 := Lib.hid (N8.out.go hS hX); clear hS hX hR hk' hN' N8
        go_wp2_with fail
        go_at_call 22
        refine (Len_rs x1.heap.size d _ _ N9.out.rs).mono ?_
        rintro e x10 ⟨⟨q, rfl, hq⟩, hb⟩
        obtain rfl : c = q := (bd_len hq (Nat.zero_le _)).symm
        have N10 := Lib.hid (N9.out.later hb); clear hb hq N9
        go_wp2_with fail
        go_at_call 22
        refine (Len_rs x1.heap.size d _ _ N10.out.rs).mono ?_
        rintro e x11 ⟨⟨q, rfl, hq⟩, hb⟩
        obtain rfl : c = q := (bd_len hq (Nat.zero_le _)).symm
        have N11 := Lib.hid (N10.out.later hb); clear hb hq N10
        go_wp2_with fail
        go_at_call 21
        refine ((Free_any x1.heap.size d _ _ N11.out.rs).mono (fun e w' h => bd_free h (Nat.zero_le _) (Nat.zero_le _))).mono ?_
        rintro e x12 ⟨he, hb⟩
        obtain rfl : e = .returned (.int .i64 0) := he.trans (by simp)
        have N12 := Lib.hid (N11.out.later hb); clear hb N11
        try clear he
        go_wp2_with fail
        go_at_call 22
        refine (Len_rs x1.heap.size d _ _ N12.out.rs).mono ?_
        rintro e x13 ⟨⟨q, rfl, hq⟩, hb⟩
        obtain rfl : c = q := (bd_len hq (Nat.zero_le _)).symm
        have N13 := Lib.hid (N12.out.later hb); clear hb hq N12
        go_wp2
        go_roundw
        case rel => exact ⟨i + 1, c, _, _, by omega, by omega, by go_num, rfl, N13.out⟩
        case measure => simp [intOf]; omega
    · obtain rfl : i = M := by omega
      have hltI : ¬ (i : Int) < many % 20 := by rw [HK.out.2.1]; omega
      obtain ⟨kk, hkk⟩ : ∃ kk, kk = min r n := ⟨_, rfl⟩
      have hmin1 : (if (n : Int) < read % 10 then (n : Int) else read % 10) = (kk : Int) := by rw [HK.out.2.2]; split <;> omega
      have hmin2 : (if many % 20 < (c : Int) then many % 20 else (c : Int)) = (n : Int) := by rw [HK.out.2.1]; have := hn'.out; split <;> omega
      have hkn : kk ≤ n := by omega
      clear hkk
      have hnc : n ≤ 8 := by have := hn'.out; omega
      have N0 := Lib.hid hK; clear hK
      go_wp2_with fail
      go_loopw [20] (fun iv wr => ∃ (j : Nat) (lo : Int), j ≤ kk ∧ iv = .int .i64 j ∧ Kr (fun _ => False) x1 wr d (bd c n j lo n lo2)) (fun i _ => kk - (intOf i).toNat)
      case atStart => exact ⟨0, lo, Nat.zero_le _, rfl, N0.out⟩
      case round =>
        rename World => w2
        clear N0
        obtain ⟨j, lo, hj, rfl, hK⟩ := hrel
        have N0 := Lib.hid hK; clear hK
        by_cases hlt2 : j < kk
        · go_wp2_with fail
          go_at_call 17
          refine (Next_any _ x1.heap.size d _ w2 1 ⟨by decide, by decide⟩ N0.out.rx).mono ?_
          rintro e x9 ⟨x, s', v', ⟨he, hR, hN', hS⟩, hX, hk'⟩
          obtain ⟨rfl, rfl⟩ := bd_next1 hR (by omega)
          obtain rfl : e = .returned (.tuple #[item false (j : Int) v', .bool true]) := he
          have N9 := Lib.hid (N0.out.go hS hX); clear hS hX hR hk' hN' N0
          go_wp2
          go_roundw
          case rel => exact ⟨j + 1, _, by omega, by go_num, N9.out⟩
          case measure => simp [intOf]; omega
        · obtain rfl : j = kk := by omega
          go_wp2_with fail
          go_at_call 21
          refine ((Free_any x1.heap.size d _ _ N0.out.rs).mono (fun e w' h => bd_free h hkn hkn)).mono ?_
          rintro e x10 ⟨he, hb⟩
          obtain rfl : e = .returned (.int .i64 ((c : Int) - (n : Int) + (j : Int))) := he.trans (by congr 2; omega)
          have N10 := Lib.hid (N0.out.later hb); clear hb N0
          try clear he
          go_wp2_with fail
          go_at_call 23
          refine (Wait_any x1.heap.size d _ _ 2 ⟨by decide, by decide⟩ N10.out.rs).mono ?_
          rintro e x11 ⟨he, hb⟩
          rw [bd_wait] at he
          subst he
          have N11 := Lib.hid (N10.out.later hb); clear hb N10
          go_wp2
          go_ret
          exact ⟨rfl, bt B1.out N11.out.bel⟩
end Go.Proofs.Ytbbjlefldpgckaa
