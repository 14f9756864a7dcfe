/- StreamNames: the walk. -/
import Derived.Test.YtdpgdpfalfiijaaDoorSign
import Derived.Test.YtdpgdpfalfiijaaDoorEx03
import Derived.Test.YtdpgdpfalfiijaaDoorBuf
import Derived.Test.YtdpgdpfalfiijaaDoorTabM
import Derived.Deep.DeepCutAuto
namespace Go.Proofs.YtdpgdpfalfiijaaDoor
open Go.ChangeShapes Go.WideShapes Go.ChangeAt Go.RowKit
set_option linter.unusedVariables false
set_option linter.unusedSimpArgs false

set_option maxRecDepth 20000 in
set_option maxHeartbeats 2000000 in
theorem names_A (v : Value) (l : List UInt8) (a b : Int) (w : World) (hv : BytesAt w v l) (hl : l.length ≤ 140737488351232) (a0 : 0 ≤ a) (a1 : a ≤ 255) (b0 : 0 ≤ b) (b1 : b ≤ 255) (hT : Tab w) (h19 : l.length ≤ 19) :
    Calls Tryd.prog 4 #[v, .int .u8 a, .int .u8 b] w fun e w' => e = .returned (.bool true) ∧ Below w.heap.size w w' := by
  obtain ⟨m, hm⟩ := hT
  have hbx : b = ((b.toNat.toUInt8).toNat : Int) := by simp; omega
  generalize b.toNat.toUInt8 = xb at *
  have cEx := examples_any m w hm
  obtain ⟨A, n, cap, hve, hn, hc⟩ : ∃ (A : Option Addr) (n cap : Nat), v = .slice A n cap ∧ n = l.length ∧ (0 < n → ∃ a, A = some a ∧ ∀ j (hj : j < l.length), w.cell? (a.add j) = some (.int .u8 (l[j].toNat : Int))) := by
    rcases hv with ⟨rfl, rfl⟩ | ⟨a, cap, rfl, h1, h2, h3⟩
    · exact ⟨none, 0, 0, rfl, rfl, fun h => absurd h (by omega)⟩
    · exact ⟨some a, _, cap, rfl, rfl, fun _ => ⟨a, rfl, h3⟩⟩
  subst hve
  obtain rfl : n = l.length := hn
  subst hbx
  have H := Lib.hid (And.intro hc (And.intro cEx hm)); clear hv hc cEx hm
  go_enter Tryd.func4, Tryd.ntmps4
  go_wp2_with (go_at_call 9; ((with_reducible refine (H.out.2.1).mono ?_); rintro e w0 ⟨rfl, b0⟩; have HB := Lib.hid b0; clear b0))
  go_loopw [9, 10] (fun sv iv wr => ∃ (k : Nat) (s : ByteArray), k ≤ l.length ∧ k ≤ 19 ∧ iv = .int .i64 (k : Int) ∧ sv = .string s ∧ s.size = k + 1 ∧ OkS s ∧ Below w.heap.size w wr) (fun _ iv _ => 19 - (intOf iv).toNat)
  case atStart => exact ⟨0, _, Nat.zero_le _, Nat.zero_le _, rfl, rfl, rfl, OkS.start, HB.out⟩
  case round =>
    clear HB
    obtain ⟨k, s, hk, hk19, rfl, rfl, hsz, hok, hW⟩ := hrel
    have K := Lib.hid (And.intro hok hW); clear hok hW
    by_cases hlt : k < l.length ∧ k < 19
    · obtain ⟨hlt, hlt19⟩ := hlt
      obtain ⟨a', rfl, hc⟩ := H.out.1 (by omega)
      have hcell := hc k hlt
      rw [← K.out.2.cell (World.block_lt_of_cell? w _ hcell)] at hcell
      have hx := (l[k]'hlt).toNat_lt
      clear hc
      generalize (l[k]'hlt).toNat = c at *
      obtain ⟨q, hq⟩ : ∃ q : Nat, q = c % 63 := ⟨_, rfl⟩
      have hq63 : q < 63 := by omega
      obtain ⟨ho, hs1, hs2⟩ := K.out.1.step q hq63
      have hsl : ∀ W, (Instr.slice 9 (.string signs) (some (.int .i64 ((c : Int) % 63))) (some (.int .i64 ((c : Int) % 63 + 1))) none).run Tryd.prog W = .ok (.string (signs.extract q (q + 1))) W := fun W => by
        have h := slice_string Tryd.prog W 9 Tryd.underlying9 signs q (q + 1) (by omega) (by show q + 1 ≤ 63; omega)
        rw [show (c : Int) % 63 = (q : Int) by omega]
        simpa using h
      generalize signs.extract q (q + 1) = E at *
      clear hq hq63
      have hcat : ¬ 9223372036854775807 < s.size + E.size := by omega
      have HS := Lib.hid (And.intro ho hs1); clear ho hs1 hs2
      have hq := fun d os => cell_regrown hcell d os
      go_wp2_with fail
      refine wp_region_quiet_below (by kernel_rfl) (by kernel_rfl) ?_
      repeat (go_big_quiet_step (fail))
      refine wpQuiet_nil ?_
      intro wq hw'
      have bq : Below wr.heap.size wr wq := by obtain ⟨p, rfl⟩ := hw'; exact below_regrown _ _ _
      clear hw' hq
      go_wp2
      go_roundw
      case rel => exact ⟨k + 1, _, by omega, by omega, by go_num, rfl, by rw [HS.out.2]; omega, HS.out.1, bt K.out.2 bq⟩
      case measure => simp [intOf]; omega
    · have hc2 : k = l.length := by omega
      have hs20 : s.size ≤ 20 := by omega
      have hs1 : 1 ≤ s.size := by omega
      have e1 : ¬ (k : Int) < (l.length : Int) := by omega
      clear hc2 hsz hlt h19
      go_wp2_with fail
      go_loopw [11] (fun tv wr' => wr' = wr ∧ ∃ t : ByteArray, tv = .string t ∧ t.size ≤ 21) (fun tv _ => match tv with | .string t => 21 - t.size | _ => 0)
      case atStart => exact ⟨rfl, s, rfl, by omega⟩
      case round =>
        obtain ⟨rfl, t, rfl, ht⟩ := hrel
        by_cases ht2 : t.size < 21
        · have hcat : ¬ 9223372036854775807 < t.size + 1 := by omega
          go_wp2
          go_roundw
          case rel => exact ⟨by first | rfl | trivial, _, rfl, by rw [ByteArray.size_append]; show t.size + 1 ≤ 21; omega⟩
          case measure => show 21 - (t ++ _).size < 21 - t.size; rw [ByteArray.size_append]; show 21 - (t.size + 1) < _; omega
        · have hnl : nameB t = false := name_long (by omega)
          have cL := fun W => IsName_any t W (by unfold maxLen; omega)
          rw [hnl] at cL
          have cS := fun W => IsName_any s W (by unfold maxLen; omega)
          rw [K.out.1.name hs20] at cS
          have cF := fun W => IsName_any ((⟨#[53]⟩ : ByteArray) ++ s) W (by rw [ByteArray.size_append]; show 1 + s.size ≤ _; unfold maxLen; omega)
          rw [K.out.1.five hs20] at cF
          obtain ⟨q, hqe⟩ : ∃ q : Nat, (q : Int) = a % (s.size : Int) := ⟨(a % (s.size : Int)).toNat, by have h1 := Int.emod_nonneg a (show (s.size : Int) ≠ 0 by omega); omega⟩
          have hqs : q < s.size := by have := Int.emod_lt_of_pos a (show (0 : Int) < s.size by omega); omega
          obtain ⟨T, hT⟩ : ∃ T : ByteArray, T = ⟨(s.data.toList.set q xb).toArray⟩ := ⟨_, rfl⟩
          have hTn := K.out.1.set hs20 q hqs xb
          have hTs : T.size = s.size := by rw [hT, size_list]; simp
          rw [← hT] at hTn
          have cT := fun W => IsName_any T W (by unfold maxLen; omega)
          have hcv := Lib.run_convert_string_bytes (P := Tryd.prog) wr 9 23 5 s Tryd.underlying9 Tryd.underlying23 Tryd.underlying5
          have hbuf := buf_made wr wr.heap.size 5 s (Nat.le_refl _) (by unfold maxLen; omega)
          have bM := bt K.out.2 (below_made (B := wr.heap.size) wr 5 s (Nat.le_refl _))
          have hq' : q < s.data.toList.length := by simpa using hqs
          have z0 := hbuf.cell q hq'
          have z1 := hbuf.free q hq'
          unfold byteV at z0
          generalize (s.data.toList[q]'hq') = xq at *
          have hcap : grownCap wr s.size 0 5 ≤ maxLen := grownCap_le_maxLen _ _ _ _ (by unfold maxLen; omega)
          have hcap2 := grownCap_ge wr s.size 0 5
          have hz9 := K.out.2.size
          have HT := Lib.hid (And.intro hTn (And.intro cS (And.intro cL (And.intro cT (And.intro cF (And.intro hT (And.intro hbuf bM)))))))
          clear hTn cS cL cT cF hT hbuf bM hq'
          have hwr : IntKind.i64.wrap a = a := IntWalk.i64_in _ (by omega)
          have htm : a.tmod (s.size : Int) = (q : Int) := by rw [Int.tmod_eq_emod_of_nonneg a0]; exact hqe.symm
          have hX0 : ¬ (s.size : Int) = 0 := by omega
          have hXe : ¬ s = ByteArray.empty := by intro h; rw [h] at hs1; exact absurd hs1 (by decide)
          have hq0 : (0 : Int) ≤ (q : Int) := by omega
          have hqi : (q : Int) < (s.size : Int) := by omega
          have htm2 : a % (s.size : Int) = (q : Int) := hqe.symm
          clear hqe
          go_upto_region 16 with fail
          have hq9 : q < s.data.toList.length := by simpa using hqs
          have hb5 : BufAt ((Lib.bytesWorld wr 5 s).setCell ⟨wr.heap.size, q, none⟩ (.int .u8 (xb.toNat : Int))) wr.heap.size 5 (.slice (some ⟨wr.heap.size, 0, none⟩) s.size (grownCap wr s.size 0 5)) (s.data.toList.set q xb) := HT.out.2.2.2.2.2.2.1.put q hq9 xb
          have hcv2 := buf_string Tryd.prog _ 23 9 5 Tryd.underlying23 Tryd.underlying5 Tryd.underlying9 hb5
          rw [← HT.out.2.2.2.2.2.1] at hcv2
          have bW : Below w.heap.size w ((Lib.bytesWorld wr 5 s).setCell ⟨wr.heap.size, q, none⟩ (.int .u8 (xb.toNat : Int))) := HT.out.2.2.2.2.2.2.2.setCell (p := ⟨wr.heap.size, q, none⟩) hz9 _
          generalize (Lib.bytesWorld wr 5 s).setCell ⟨wr.heap.size, q, none⟩ (.int .u8 (xb.toNat : Int)) = w5 at *
          have HN := Lib.hid HT.out.1
          have HC := Lib.hid (And.intro HT.out.2.1 (And.intro HT.out.2.2.1 (And.intro HT.out.2.2.2.1 (And.intro HT.out.2.2.2.2.1 bW))))
          clear hb5 bW HT z0 z1 hcv hcap hcap2 htm htm2 hwr hX0 hXe hqs hq9 hz9 hTs K
          have hxb := xb.toNat_lt
          generalize xb.toNat = c at *
          go_cut [14] (fun lv wx => lv = .bool (letB c) ∧ w5 = wx)
          case first =>
            go_wp2_with fail
            all_goals
              go_meet
              exact ⟨congrArg Value.bool (by unfold letB; rw [Bool.eq_iff_iff]; simp; omega), rfl⟩
          case rest =>
            obtain ⟨rfl, rfl⟩ := hcut
            go_upto_region 17 with fail
            go_cut [14, 15] (fun lv mv wx => lv = .bool (letB c) ∧ mv = .bool (letB c || (decide (0 < q) && digB c)) ∧ w5 = wx)
            case first =>
              cases hL : letB c
              all_goals go_wp2_with fail
              all_goals
                go_meet
                exact ⟨by simp [hL], congrArg Value.bool (by unfold digB; rw [Bool.eq_iff_iff]; simp [hL]; try omega), rfl⟩
            case rest =>
              obtain ⟨rfl, rfl, rfl⟩ := hcut
              generalize (letB c || (decide (0 < q) && digB c)) = M at *
              go_upto_region 19 with fail
              go_cut [17] (fun kv wx => kv = .bool (keyB T) ∧ w5 = wx)
              case first =>
                rcases key_or T with h | h | h | h | h | h | ⟨h1, h2, h3, h4, h5, h6⟩
                case inr.inr.inr.inr.inr.inr =>
                  have g1 : (T.toList == [83, 84, 82, 73, 67, 84]) = false := by simpa using h1
                  have g2 : (T.toList == [87, 73, 84, 72, 73, 78]) = false := by simpa using h2
                  have g3 : (T.toList == [66, 89]) = false := by simpa using h3
                  have g4 : (T.toList == [69, 77, 73, 84]) = false := by simpa using h4
                  have g5 : (T.toList == [116, 114, 117, 101]) = false := by simpa using h5
                  have g6 : (T.toList == [102, 97, 108, 115, 101]) = false := by simpa using h6
                  go_wp2_with fail
                  go_meet
                  exact ⟨congrArg Value.bool (by unfold keyB; rw [g1, g2, g3, g4, g5, g6]; rfl), rfl⟩
                all_goals
                  go_wp2_with fail
                  go_meet
                  exact ⟨congrArg Value.bool (by unfold keyB; simp [h]), rfl⟩
              case rest =>
                obtain ⟨rfl, rfl⟩ := hcut
                have hcat : ¬ 9223372036854775807 < 1 + s.size := by omega
                rcases hM : M with _ | _ <;> rcases hKy : keyB T with _ | _
                all_goals
                  have cT := HC.out.2.2.1
                  rw [HN.out, hM, hKy] at cT
                  simp only [Bool.not_true, Bool.not_false, Bool.and_true, Bool.and_false, Bool.true_and, Bool.false_and] at cT
                  have HD := Lib.hid cT
                  clear cT
                  go_wp2_with (first
                    | (go_at_call 16; ((with_reducible refine (HC.out.1 _).mono ?_); rintro e w9 ⟨rfl, rfl⟩))
                    | (go_at_call 16; ((with_reducible refine (HC.out.2.1 _).mono ?_); rintro e w9 ⟨rfl, rfl⟩))
                    | (go_at_call 16; ((with_reducible refine (HD.out _).mono ?_); rintro e w9 ⟨rfl, rfl⟩))
                    | (go_at_call 16; ((with_reducible refine (HC.out.2.2.2.1 _).mono ?_); rintro e w9 ⟨rfl, rfl⟩)))
                  go_ret
                  exact ⟨rfl, HC.out.2.2.2.2⟩
end Go.Proofs.YtdpgdpfalfiijaaDoor
