/- The walk of LexQuotes. -/
import Derived.Test.YtoaallhibgbokaaDoorLexY
namespace Go.Proofs.YtoaallhibgbokaaDoor
open Go.ChangeShapes Go.WideShapes Go.ChangeAt Go.RowKit
set_option linter.unusedVariables false
set_option linter.unusedSimpArgs false

theorem byte_info : (Tryd.prog.info? 5).map (fun i => (i.zero, i.size, i.bytes)) = some (some (.int .u8 0), 1, 1) := by kernel_rfl
theorem own_len {w : World} {base : Nat} {e : TypeId} {A : Option Addr} {n c k : Nat} {xs : List Value} (h : w.ownsRow base e 1 (.slice A n c) k xs) : n = k := by
  rcases h.2 with ⟨he, h0⟩ | ⟨g, cap, cur, he, _⟩
  · simp only [Value.slice.injEq] at he; omega
  · simp only [Value.slice.injEq] at he; exact he.2.1
set_option maxRecDepth 20000 in
set_option maxHeartbeats 4000000 in
theorem walk_LexQuotes (s : ByteArray) (lg : Int) (hs : s.size ≤ 140737488351232) (g0 : 0 ≤ lg) (g1 : lg ≤ 255) (w : World) (hT : Tab w) :
    Calls Tryd.prog 7 #[.string s, .int .u8 lg] w fun e w' => e = .returned (.bool true) ∧ Below w.heap.size w w' := by
  obtain ⟨i0, hi, hz0, hz1, hz2⟩ := info_parts byte_info
  obtain ⟨m, hm⟩ : ∃ m, m = min s.size 64 := ⟨_, rfl⟩
  have hm64 : m ≤ 64 := by omega
  obtain ⟨z, hz⟩ : ∃ z : Nat, lg % 66 = (z : Int) ∧ z < 66 := ⟨(lg % 66).toNat, by omega, by omega⟩
  obtain ⟨hzz, hz66⟩ := hz
  have m1 : lg.tmod 66 = (z : Int) := by rw [Int.tmod_eq_emod_of_nonneg g0]; exact hzz
  have m2 : IntKind.i64.wrap (z : Int) = (z : Int) := IntWalk.i64_in _ (by omega)
  have hsm : s.size ≤ 9223372036854775807 := by omega
  have H := Lib.hid (And.intro hT hm); clear hT hm
  have hcv := fun W => Lib.run_convert_string_bytes (P := Tryd.prog) W 9 22 5 s Tryd.underlying9 Tryd.underlying22 Tryd.underlying5
  go_enter Tryd.func7, Tryd.ntmps7
  go_wp2_with (go_at_call 9; ((with_reducible refine (examples_any _ H.out.1).mono ?_); rintro e w1 ⟨rfl, b1⟩; have B1 := Lib.hid b1; clear b1))
  obtain ⟨WB, hWB⟩ : ∃ WB, WB = Lib.bytesWorld w1 5 s := ⟨_, rfl⟩
  have hbuf := buf_made w1 w.heap.size 5 s B1.out.size (by unfold maxLen; omega)
  have bWB := B1.out.trans (below_made w1 5 s B1.out.size)
  rw [← hWB] at hbuf bWB
  have hsl : s.data.toList.length = s.size := by simp
  obtain ⟨cb, hcb⟩ : ∃ cb, grownCap w1 s.size 0 5 = cb := ⟨_, rfl⟩
  rw [hcb] at hbuf
  have hcbs : s.size ≤ cb := by rw [← hcb]; exact grownCap_ge w1 s.size 0 5
  have hcbm : cb ≤ 9223372036854775807 := by
    have := grownCap_le_maxLen w1 s.size 0 5 (by unfold maxLen; omega)
    rw [hcb] at this; unfold maxLen at this; omega
  obtain ⟨gb, hgb⟩ : ∃ gb, gb = w1.heap.size := ⟨_, rfl⟩
  rw [← hgb] at hbuf
  have B := Lib.hid (And.intro hbuf (And.intro bWB hsl)); clear hbuf bWB hsl
  rw [← hWB, ← hgb, hcb]
  clear hcv hWB hgb hcb
  go_loopw [7, 8] (fun tv iv wr => ∃ (i : Nat) (bs : Bs), i ≤ m ∧ iv = .int .i64 (i : Int) ∧ bs.length ≤ i ∧ (39 : UInt8) ∉ bs ∧ Own wr WB.heap.size 5 1 byF tv bs ∧ Below WB.heap.size WB wr) (fun _ iv _ => m - (intOf iv).toNat)
  case atStart => exact ⟨0, [], Nat.zero_le _, rfl, Nat.le_refl _, by simp, Own.nil _ _ _ _ _, Below.refl _ _⟩
  case round =>
    obtain ⟨i, bs, him, rfl, hbl, h39, hO, hb⟩ := hrel
    by_cases hlt : i < s.size ∧ i < 64
    · obtain ⟨c1, c2⟩ := hlt
      have him2 : i < m := by have := H.out.2; omega
      have hil : i < s.data.toList.length := by rw [B.out.2.2]; exact c1
      have hc := (B.out.1.later hb).cell i hil
      unfold byteV at hc
      obtain ⟨A', n', c', rfl⟩ := own_shape hO
      have hn' : n' = bs.length := by
        have h' := Own.at_ (f := byF) (k := 1) (fun _ => rfl) hO
        obtain ⟨A'', c'', hv, _⟩ := h'.shape
        simp only [Value.slice.injEq] at hv
        exact hv.2.1
      by_cases hq : (s.data.toList[i]'hil) = 39
      · have hqn : ((s.data.toList[i]'hil).toNat : Int) = 39 := by rw [hq]; rfl
        rw [hqn] at hc
        have M := Lib.hid (And.intro hO (And.intro hb h39)); clear hO hb h39 hqn hq
        go_wp2
        go_roundw
        case rel => exact ⟨i + 1, bs, by omega, by go_num, by omega, M.out.2.2, M.out.1, M.out.2.1⟩
        case measure => simp [intOf]; omega
      · have hqn : ¬ ((s.data.toList[i]'hil).toNat : Int) = 39 := by
          intro e
          have e2 : (s.data.toList[i]'hil).toNat = 39 := by omega
          exact hq (by rw [show (39 : UInt8) = UInt8.ofNat 39 from rfl]; exact (byte_eq _ 39 (by decide)).2 e2)
        have h39' : (39 : UInt8) ∉ bs ++ [s.data.toList[i]'hil] := by
          intro h
          rcases List.mem_append.1 h with h | h
          · exact h39 h
          · exact hq (List.mem_singleton.1 h).symm
        generalize s.data.toList[i]'hil = x at *
        have hqd : (((x.toNat : Int)) == 39) = false := beq_eq_false_iff_ne.2 hqn
        have hqn2 : ¬ x.toNat = 39 := by omega
        have bA := ba wr (.cells #[.int .u8 (x.toNat : Int)] 5)
        have hOw : (wr.alloc (.cells #[.int .u8 (x.toNat : Int)] 5)).ownsRow WB.heap.size 5 1 (.slice A' n' c') n' (bs.flatMap byF) := by
          have := hO.later bA
          unfold Own at this
          rw [hn']; rw [hn'] at this; exact this
        have hnew := blk_cells (Blk.new wr 5 #[.int .u8 (x.toNat : Int)])
        have M := Lib.hid (And.intro hOw (And.intro hnew (And.intro (bt hb bA) hO)))
        have M2 := Lib.hid (And.intro h39' (And.intro hn' (bt hb bA))); clear hO hb h39 h39' hOw hnew bA hq
        go_wp2_with (at_builtin; refine wpList_append_own _ rfl (.tmp 36) (.tmp 41) 22 rfl WB.heap.size 5 i0 (.int .u8 0) 1 1 Tryd.underlying22 hi hz0 hz1 hz2 rfl (by decide) (.slice A' n' c') n' _ rfl M.out.1 ⟨_, 0, none⟩ 1 1 [.int .u8 (x.toNat : Int)] rfl rfl M.out.2.1 (by simp [Value.oneCell']) (by unfold maxLen; omega) (by omega) M.out.2.2.1.size ?_; intro v5 w5 hO5 hg5 _; obtain ⟨A5, n5, c5, rfl⟩ := own_shape hO5; have Z5 := Lib.hid (And.intro hO5 (own_past M.out.2.2.1 hg5 M.out.2.2.2)); clear hO5 hg5)
        go_roundw
        case rel => exact ⟨i + 1, bs ++ [x], by omega, by go_num, by rw [List.length_append]; simp; omega, M2.out.1, Own.more M2.out.2.1 Z5.out.1, Z5.out.2⟩
        case measure => simp [intOf]; omega
    · have hway : ¬ i < s.size ∨ (i < s.size ∧ ¬ i < 64) := by omega
      clear hlt
      have hbl64 : bs.length ≤ 64 := by omega
      obtain ⟨A0, n0, c0, rfl⟩ := own_shape hO
      have P := Lib.hid (And.intro hO (And.intro hb h39)); clear hO hb h39
      rcases hway with c1 | ⟨c1, c2⟩
      all_goals
        go_wp2
        go_loopw [7] (fun tv wr => ∃ (bs : Bs), bs.length ≤ 65 ∧ (39 : UInt8) ∉ bs ∧ Own wr WB.heap.size 5 1 byF tv bs ∧ Below WB.heap.size WB wr) (fun tv _ => 66 - sliceLen tv)
        case atStart => exact ⟨bs, by omega, P.out.2.2, P.out.1, P.out.2.1⟩
        case round =>
          clear P
          obtain ⟨bs, hbl, h39, hO, hb⟩ := hrel
          obtain ⟨A', n', c', rfl⟩ := own_shape hO
          have hn' : n' = bs.length := by
            have h' := Own.at_ (f := byF) (k := 1) (fun _ => rfl) hO
            obtain ⟨A'', c'', hv, _⟩ := h'.shape
            simp only [Value.slice.injEq] at hv
            exact hv.2.1
          by_cases hlt : n' < z
          · have h39' : (39 : UInt8) ∉ bs ++ [32] := by
              intro h
              rcases List.mem_append.1 h with h | h
              · exact h39 h
              · exact absurd (List.mem_singleton.1 h) (by decide)
            have bA := ba wr (.cells #[.int .u8 32] 5)
            have hOw : (wr.alloc (.cells #[.int .u8 32] 5)).ownsRow WB.heap.size 5 1 (.slice A' n' c') n' (bs.flatMap byF) := by
              have := hO.later bA
              unfold Own at this
              rw [hn']; rw [hn'] at this; exact this
            have hnew := blk_cells (Blk.new wr 5 #[.int .u8 32])
            have M := Lib.hid (And.intro hOw (And.intro hnew (And.intro (bt hb bA) hO)))
            have M2 := Lib.hid (And.intro h39' hn'); clear hO hb h39 h39' hOw hnew bA
            go_wp2_with (at_builtin; refine wpList_append_own _ rfl (.tmp 49) (.tmp 50) 22 rfl WB.heap.size 5 i0 (.int .u8 0) 1 1 Tryd.underlying22 hi hz0 hz1 hz2 rfl (by decide) (.slice A' n' c') n' _ rfl M.out.1 ⟨_, 0, none⟩ 1 1 [.int .u8 32] rfl rfl M.out.2.1 (by simp [Value.oneCell']) (by unfold maxLen; omega) (by omega) M.out.2.2.1.size ?_; intro v5 w5 hO5 hg5 _; obtain ⟨A5, n5, c5, rfl⟩ := own_shape hO5; have Z5 := Lib.hid (And.intro hO5 (own_past M.out.2.2.1 hg5 M.out.2.2.2)); clear hO5 hg5)
            have hn5 : n5 = n' + 1 := own_len Z5.out.1
            go_roundw
            case rel => exact ⟨bs ++ [32], by rw [List.length_append, ← M2.out.2]; simp; omega, M2.out.1, Own.more M2.out.2 Z5.out.1, Z5.out.2⟩
            case measure => simp [sliceLen, hn5]; omega
          · have hst := own_text hO
            clear hn'
            obtain ⟨tb, htb⟩ : ∃ tb, mk bs = tb := ⟨_, rfl⟩
            have htz := mk_size bs
            obtain ⟨n, hn⟩ : ∃ n, bs.length = n := ⟨_, rfl⟩
            rw [htb] at hst htz
            rw [hn] at htz hbl
            have q1 : (⟨#[120, 39]⟩ ++ tb ++ ⟨#[39]⟩ : ByteArray).data.toList = 120 :: 39 :: (bs ++ [39]) := by
              rw [← htb, ByteArray.data_append, ByteArray.data_append, Array.toList_append, Array.toList_append, mk_data]; rfl
            have q2 : (⟨#[120, 39]⟩ ++ tb : ByteArray).data.toList = 120 :: 39 :: bs := by
              rw [← htb, ByteArray.data_append, Array.toList_append, mk_data]; rfl
            have s1 : (⟨#[120, 39]⟩ ++ tb ++ ⟨#[39]⟩ : ByteArray).size = 2 + n + 1 := by rw [ByteArray.size_append, ByteArray.size_append, htz]; rfl
            have s2 : (⟨#[120, 39]⟩ ++ tb : ByteArray).size = 2 + n := by rw [ByteArray.size_append, htz]; rfl
            have cA1 := fun W hT => All_any (⟨#[120, 39]⟩ ++ tb ++ ⟨#[39]⟩) W (by rw [s1]; unfold maxLen; omega) hT
            have cA2 := fun W hT => All_any (⟨#[120, 39]⟩ ++ tb) W (by rw [s2]; unfold maxLen; omega) hT
            unfold AllP at cA1 cA2
            rw [q1, res_quote bs h39 (by omega), hn] at cA1
            rw [q2, res_open bs h39 (by omega)] at cA2
            have gg1 : ¬ 9223372036854775807 < 2 + tb.size := by omega
            have gg2 : ¬ 9223372036854775807 < 2 + tb.size + 1 := by omega
            have hbW := Lib.hid (B.out.2.1.trans (hb.mono B.out.2.1.size))
            have hE : mk bs = tb := htb
            clear hO hb s1 s2 q1 q2 htb
            by_cases h64 : n ≤ 64
            · rw [if_pos h64] at cA1
              have g64 : ¬ 64 < n := by omega
              have F := Lib.hid (And.intro cA1 (And.intro cA2 hE)); clear cA1 cA2 hE
              go_wp2_with fail
              go_at_call 11
              refine (F.out.1 _ (H.out.1.later hbW.out)).mono ?_
              rintro e w6 ⟨v6, ⟨rfl, hO6⟩, b6⟩
              obtain ⟨A6, n6, c6, rfl⟩ := own_shape hO6
              obtain ⟨hn6, g6, rfl, hC⟩ := tok_row hO6 (by simp)
              obtain rfl : n6 = 2 := hn6
              obtain ⟨p0, p1, p2, p3⟩ := hC 1 (by simp)
              simp only [List.getElem_cons_succ, List.getElem_cons_zero, Nat.one_mul, Nat.reduceAdd, F.out.2.2, Int.cast_ofNat_Int] at p0 p1 p2 p3
              have W6 := Lib.hid (And.intro (bt hbW.out b6) (And.intro p0 (And.intro p1 (And.intro p2 p3)))); clear b6 hO6 hC p0 p1 p2 p3
              go_wp2_with fail
              go_at_call 11
              refine (F.out.2.1 _ (H.out.1.later W6.out.1)).mono ?_
              rintro e w7 ⟨v7, ⟨rfl, hO7⟩, b7⟩
              obtain ⟨A7, n7, c7, rfl⟩ := own_shape hO7
              have lft : ∀ {j : Nat} {u : Value}, w6.cell? ⟨g6, j, none⟩ = some u → w7.cell? ⟨g6, j, none⟩ = some u := fun {j u} h => by rw [b7.cell (World.block_lt_of_cell? w6 _ h)]; exact h
              have p0 := lft W6.out.2.1
              have p1 := lft W6.out.2.2.1
              have p2 := lft W6.out.2.2.2.1
              have p3 := lft W6.out.2.2.2.2
              have W7 := Lib.hid (bt W6.out.1 b7); clear b7 hO7 lft
              go_wp2
              go_ret
              exact ⟨rfl, W7.out⟩
            · rw [if_neg h64] at cA1
              have g64 : 64 < n := by omega
              have F := Lib.hid (And.intro cA1 (And.intro cA2 hE)); clear cA1 cA2 hE
              go_wp2_with fail
              go_at_call 11
              refine (F.out.1 _ (H.out.1.later hbW.out)).mono ?_
              rintro e w6 ⟨v6, ⟨rfl, hO6⟩, b6⟩
              obtain ⟨A6, n6, c6, rfl⟩ := own_shape hO6
              have hn6 : n6 = 0 := by
                have h' := Own.at_ (f := rowT) (k := 4) (fun _ => rfl) hO6
                obtain ⟨A'', c'', hv, _⟩ := h'.shape
                simp only [Value.slice.injEq] at hv
                exact hv.2.1
              subst hn6
              have W6 := Lib.hid (bt hbW.out b6); clear b6 hO6
              go_wp2_with fail
              go_at_call 11
              refine (F.out.2.1 _ (H.out.1.later W6.out)).mono ?_
              rintro e w7 ⟨v7, ⟨rfl, hO7⟩, b7⟩
              obtain ⟨A7, n7, c7, rfl⟩ := own_shape hO7
              have W7 := Lib.hid (bt W6.out b7); clear b7 hO7
              go_wp2
              go_ret
              exact ⟨rfl, W7.out⟩
end Go.Proofs.YtoaallhibgbokaaDoor
