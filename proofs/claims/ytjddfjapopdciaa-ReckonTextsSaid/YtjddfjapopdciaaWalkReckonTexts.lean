/- The walk of ReckonTexts. -/
import Derived.Test.YtjddfjapopdciaaTexts
import Derived.OwnWalk
namespace Go.Proofs.Ytjddfjapopdciaa
open Go.ChangeShapes Go.WideShapes Go.ChangeAt Go.RowKit
open Rk (inR)
set_option linter.unusedVariables false
set_option linter.unusedSimpArgs false

theorem Try.infoU8 : (Try.prog.info? 5).map (fun i => (i.zero, i.size, i.bytes)) = some (some (.int .u8 0), 1, 1) := by kernel_rfl
set_option maxRecDepth 20000 in
set_option maxHeartbeats 4000000 in
theorem walk_ReckonTexts (s : ByteArray) (lg : Int) (hs : s.size ≤ 140737488351232) (g0 : 0 ≤ lg) (g1 : lg ≤ 255) (w : World) :
    Calls Try.prog 10 #[.string s, .int .u8 lg] w fun e w' => e = .returned (.bool true) ∧ Below w.heap.size w w' := by
  obtain ⟨i0, hi, hz0, hz1, hz2⟩ := info_parts Try.infoU8
  have hcv := fun W : World => Lib.run_convert_string_bytes (P := Try.prog) W 9 27 5 s Try.underlying9 Try.underlying27 Try.underlying5
  have hbuf := fun W : World => buf_made W W.heap.size 5 s (Nat.le_refl _) (by unfold maxLen; omega)
  have hbm := fun W : World => below_made (B := W.heap.size) W 5 s (Nat.le_refl _)
  obtain ⟨m, hm⟩ : ∃ m : Nat, lg % 65 = (m : Int) := ⟨(lg % 65).toNat, by omega⟩
  have hm64 : m ≤ 64 := by omega
  have HB := Lib.hid (And.intro hbuf hbm); clear hbuf hbm
  go_enter Try.func10, Try.ntmps10
  go_wp2_with (go_at_call 11; ((with_reducible refine (examples_any _).mono ?_); rintro e w1 ⟨rfl, b1⟩; have B1 := Lib.hid b1; clear b1))
  have hbuf := HB.out.1 w1
  have b2 := bt B1.out (HB.out.2 w1)
  generalize Lib.bytesWorld w1 5 s = w2 at *
  generalize grownCap w1 s.size 0 5 = cap at *
  generalize w1.heap.size = g at *
  clear hcv HB B1
  have H2 := Lib.hid (And.intro hbuf b2); clear hbuf b2
  have HM := Lib.hid hm; clear hm
  go_loopw [7, 8] (fun xv iv wr => ∃ (k : Nat) (l : List UInt8), k ≤ s.size ∧ k ≤ 64 ∧ iv = .int .i64 k ∧ l.length ≤ k ∧ Plain l ∧ Own wr w2.heap.size 5 1 byF xv l ∧ Below w2.heap.size w2 wr) (fun _ iv _ => 64 - (intOf iv).toNat)
  case atStart => exact ⟨0, [], Nat.zero_le _, Nat.zero_le _, rfl, Nat.zero_le _, Plain.nil, Own.nil _ _ _ _ _, Below.refl _ _⟩
  case round =>
    obtain ⟨k, l, hk, hk64, rfl, hlk, hP, hO, hb⟩ := hrel
    obtain ⟨X1, X3, rfl, o1, o2, o3⟩ := hO.shape
    by_cases hlt : k < s.size ∧ k < 64
    · obtain ⟨h1, h2⟩ := hlt
      have hk9 : k < s.data.toList.length := by simpa using h1
      have c0 := (H2.out.1.later hb).cell k hk9
      have hx := (s.data.toList[k]'hk9).toNat_lt
      unfold byteV at c0
      generalize (s.data.toList[k]'hk9) = c at *
      have hd : decide ((k : Int) < 64) = true := decide_eq_true (by omega)
      have K := Lib.hid (And.intro hP (And.intro hO hb)); clear hP hO hb o1 o2 o3
      by_cases hc : c.toNat = 39
      · have hc1 : ((c.toNat : Int) == 39) = true := beq_iff_eq.2 (by omega)
        have hc2 : (c.toNat : Int) = 39 := by omega
        clear hc1
        go_wp2_with fail
        go_roundw
        case rel => exact ⟨k + 1, l, by omega, by omega, by go_num, by omega, K.out.1, K.out.2.1, K.out.2.2⟩
        case measure => simp [intOf]; omega
      · have hc1 : ((c.toNat : Int) == 39) = false := beq_eq_false_iff_ne.2 (by omega)
        have hc2 : ¬ (c.toNat : Int) = 39 := by omega
        have c1 := cell_at c0 (ba wr (.cells #[.int .u8 (c.toNat : Int)] 5))
        go_wp2_with (at_builtin; refine wpList_append_own _ rfl (.tmp 33) (.tmp 38) 27 rfl w2.heap.size 5 i0 (.int .u8 0) 1 1 Try.underlying27 hi hz0 hz1 hz2 rfl (by decide) _ l.length _ rfl (K.out.2.1.later (ba _ _)) ⟨wr.heap.size, 0, none⟩ 1 1 (byF c) rfl rfl (new_cells (by simp) _ #[.int .u8 (c.toNat : Int)]) (by simp [byF, Value.oneCell']) (by unfold maxLen; omega) (by omega) (by have := K.out.2.2.size; simp only [World.size_alloc]; omega) ?_; intro v5 w5 hO5 hg5 _; obtain ⟨A5, n5, c5, rfl⟩ := own_shape hO5)
        go_roundw
        case rel => exact ⟨k + 1, l ++ [c], by omega, by omega, by go_num, by simp; omega, K.out.1.more hc (by omega), Own.more rfl hO5, own_past (bt K.out.2.2 (ba wr (.cells #[.int .u8 (c.toNat : Int)] 5))) hg5 (K.out.2.1.later (ba wr (.cells #[.int .u8 (c.toNat : Int)] 5)))⟩
        case measure => simp [intOf]; omega
    · have hend : (¬ k < s.size) ∨ (k < s.size ∧ ¬ k < 64) := by omega
      have K := Lib.hid (And.intro hP (And.intro hO hb)); clear hP hO hb o1 o2 o3
      have hm := HM.out
      clear hlt
      obtain ⟨wo, rfl⟩ : ∃ wo : World, wo = wr := ⟨_, rfl⟩
      rcases hend with h1 | ⟨h1, h2⟩
      · go_wp2_with (at_make; refine wpList_make_full _ rfl _ _ 27 rfl wo.heap.size 5 i0 (.int .u8 0) 1 Try.underlying27 hi hz0 hz1 .i64 .i64 _ _ m rfl rfl rfl rfl (by rw [hz2]; omega) (by unfold maxLen; omega) (Nat.le_refl _) ?_; intro w3 hO3 hg3; have HO3 := Lib.hid (And.intro (own_made hO3) (grownBy_below hg3 (Nat.le_refl wo.heap.size) (fun _ h => by simp at h))); clear hO3 hg3)
        clear hm
        go_loopw [10] (fun iv w5 => ∃ (k2 : Nat) (l2 : List UInt8), k2 ≤ m ∧ iv = .int .i64 k2 ∧ l2.length = m ∧ Plain l2 ∧ Own w5 wo.heap.size 5 1 byF (.slice (some ⟨wo.heap.size, 0, none⟩) m m) l2 ∧ Below wo.heap.size wo w5) (fun iv _ => m - (intOf iv).toNat)
        case atStart => exact ⟨0, _, Nat.zero_le _, rfl, by simp, Plain.zeros hm64, HO3.out.1, HO3.out.2⟩
        case round =>
          obtain ⟨k2, l2, hk2, rfl, hl2, hP2, hO2, hb2⟩ := hrel
          clear HO3
          by_cases hlt2 : k2 < m
          · obtain ⟨ge, hge, _, _, _, hcy⟩ := Own.cells (k := 1) (f := byF) (fun _ => rfl) hO2 rfl (by omega)
            obtain rfl : ge = wo.heap.size := by simpa using hge.symm
            have hk9 : k2 < l2.length := by omega
            have z0 := hcy k2 hk9 0 _ rfl
            generalize (l2[k2]'hk9) = cy at z0
            clear hk9
            rw [Nat.mul_one, Nat.add_zero] at z0
            have z1 : wr.frozen? ⟨wo.heap.size, k2, none⟩ = false := by have := hO2; unfold Own at this; rw [hl2] at this; exact World.ownsRow.frozenAt this k2
            have hS := (Own.stored hO2 k2 121).1
            have hbS := hb2.setCell (p := ⟨wo.heap.size, k2, none⟩) (Nat.le_refl _) (.int .u8 ((121 : UInt8).toNat : Int))
            have K2 := Lib.hid (And.intro hP2 (And.intro hS (And.intro hbS hl2))); clear hP2 hO2 hb2 hcy hge hS hbS hl2
            go_wp2_with fail
            go_roundw
            case rel => exact ⟨k2 + 1, l2.set k2 121, by omega, by go_num, by rw [List.length_set]; exact K2.out.2.2.2, K2.out.1.put k2, K2.out.2.1, K2.out.2.2.1⟩
            case measure => simp [intOf]; omega
          · have bx := own_bytes ((Own.at_ (k := 1) (f := byF) (fun _ => rfl) K.out.2.1).later hb2)
            have by_ := own_bytes (Own.at_ (k := 1) (f := byF) (fun _ => rfl) hO2)
            have hx := string_of wr _ l bx
            have hy := string_of wr _ l2 by_
            have hl64 : (l.length : Int) ≤ 64 := by have := K.out.1.1; omega
            have hm65 : (m : Int) ≤ 64 := by omega
            have bA := bt H2.out.2 (bt K.out.2.2 hb2)
            have K3 := Lib.hid (And.intro K.out.1 (And.intro hP2 (And.intro bx (And.intro by_ (And.intro hl2 bA))))); clear hP2 hO2 hb2 bx by_ hl2 bA K
            by_cases hsum : l.length + m ≤ 64
            · have hs1 : ¬ (64 : Int) < (l.length : Int) + (m : Int) := by omega
              have hs2 : l.length + l2.length ≤ 9223372036854775807 := by have := K3.out.2.2.2.2.1; omega
              go_wp2_with (first
                | (go_at_call 32; ((with_reducible refine (two_texts _ _ _).mono ?_); rintro e w6 ⟨⟨kk, rfl, hT⟩, hb6⟩; have HT := Lib.hid (And.intro hT hb6); clear hT hb6))
                | (go_at_call 14; ((with_reducible refine (Reckon_yes _ _ _ _ K3.out.1 K3.out.2.1 (by rw [K3.out.2.2.2.2.1]; exact hsum) HT.out.1).mono ?_); rintro e w7 ⟨rfl, hb7⟩; have bB := bt (bt HT.out.2 hb7) (ba w7 (.cells #[.int .i64 3, .int .i64 0, .string (txt l ++ txt l2)] 23)); have hx8 := string_of _ _ l (K3.out.2.2.1.later bB); have hy8 := string_of _ _ l2 (K3.out.2.2.2.1.later bB); have BB := Lib.hid bB; clear bB hb7)))
              go_ret
              exact ⟨by first | rfl | simp, bt K3.out.2.2.2.2.2 BB.out⟩
            · have hs1 : (64 : Int) < (l.length : Int) + (m : Int) := by omega
              go_wp2_with (first
                | (go_at_call 32; ((with_reducible refine (two_texts _ _ _).mono ?_); rintro e w6 ⟨⟨kk, rfl, hT⟩, hb6⟩; have HT := Lib.hid (And.intro hT hb6); clear hT hb6))
                | (go_at_call 14; ((with_reducible refine (Reckon_no _ _ _ _ K3.out.1 K3.out.2.1 (by rw [K3.out.2.2.2.2.1]; exact hsum) HT.out.1).mono ?_); rintro e w7 ⟨rfl, hb7⟩; have BB := Lib.hid (bt (bt HT.out.2 hb7) (ba w7 (.cells #[.int .i64 0, .int .i64 0, .string mt] 23))); clear hb7)))
              go_ret
              exact ⟨by first | rfl | simp, bt K3.out.2.2.2.2.2 BB.out⟩
      · have hd : decide ((k : Int) < 64) = false := decide_eq_false (by omega)
        go_wp2_with (at_make; refine wpList_make_full _ rfl _ _ 27 rfl wo.heap.size 5 i0 (.int .u8 0) 1 Try.underlying27 hi hz0 hz1 .i64 .i64 _ _ m rfl rfl rfl rfl (by rw [hz2]; omega) (by unfold maxLen; omega) (Nat.le_refl _) ?_; intro w3 hO3 hg3; have HO3 := Lib.hid (And.intro (own_made hO3) (grownBy_below hg3 (Nat.le_refl wo.heap.size) (fun _ h => by simp at h))); clear hO3 hg3)
        clear hm
        go_loopw [10] (fun iv w5 => ∃ (k2 : Nat) (l2 : List UInt8), k2 ≤ m ∧ iv = .int .i64 k2 ∧ l2.length = m ∧ Plain l2 ∧ Own w5 wo.heap.size 5 1 byF (.slice (some ⟨wo.heap.size, 0, none⟩) m m) l2 ∧ Below wo.heap.size wo w5) (fun iv _ => m - (intOf iv).toNat)
        case atStart => exact ⟨0, _, Nat.zero_le _, rfl, by simp, Plain.zeros hm64, HO3.out.1, HO3.out.2⟩
        case round =>
          obtain ⟨k2, l2, hk2, rfl, hl2, hP2, hO2, hb2⟩ := hrel
          clear HO3
          by_cases hlt2 : k2 < m
          · obtain ⟨ge, hge, _, _, _, hcy⟩ := Own.cells (k := 1) (f := byF) (fun _ => rfl) hO2 rfl (by omega)
            obtain rfl : ge = wo.heap.size := by simpa using hge.symm
            have hk9 : k2 < l2.length := by omega
            have z0 := hcy k2 hk9 0 _ rfl
            generalize (l2[k2]'hk9) = cy at z0
            clear hk9
            rw [Nat.mul_one, Nat.add_zero] at z0
            have z1 : wr.frozen? ⟨wo.heap.size, k2, none⟩ = false := by have := hO2; unfold Own at this; rw [hl2] at this; exact World.ownsRow.frozenAt this k2
            have hS := (Own.stored hO2 k2 121).1
            have hbS := hb2.setCell (p := ⟨wo.heap.size, k2, none⟩) (Nat.le_refl _) (.int .u8 ((121 : UInt8).toNat : Int))
            have K2 := Lib.hid (And.intro hP2 (And.intro hS (And.intro hbS hl2))); clear hP2 hO2 hb2 hcy hge hS hbS hl2
            go_wp2_with fail
            go_roundw
            case rel => exact ⟨k2 + 1, l2.set k2 121, by omega, by go_num, by rw [List.length_set]; exact K2.out.2.2.2, K2.out.1.put k2, K2.out.2.1, K2.out.2.2.1⟩
            case measure => simp [intOf]; omega
          · have bx := own_bytes ((Own.at_ (k := 1) (f := byF) (fun _ => rfl) K.out.2.1).later hb2)
            have by_ := own_bytes (Own.at_ (k := 1) (f := byF) (fun _ => rfl) hO2)
            have hx := string_of wr _ l bx
            have hy := string_of wr _ l2 by_
            have hl64 : (l.length : Int) ≤ 64 := by have := K.out.1.1; omega
            have hm65 : (m : Int) ≤ 64 := by omega
            have bA := bt H2.out.2 (bt K.out.2.2 hb2)
            have K3 := Lib.hid (And.intro K.out.1 (And.intro hP2 (And.intro bx (And.intro by_ (And.intro hl2 bA))))); clear hP2 hO2 hb2 bx by_ hl2 bA K
            by_cases hsum : l.length + m ≤ 64
            · have hs1 : ¬ (64 : Int) < (l.length : Int) + (m : Int) := by omega
              have hs2 : l.length + l2.length ≤ 9223372036854775807 := by have := K3.out.2.2.2.2.1; omega
              go_wp2_with (first
                | (go_at_call 32; ((with_reducible refine (two_texts _ _ _).mono ?_); rintro e w6 ⟨⟨kk, rfl, hT⟩, hb6⟩; have HT := Lib.hid (And.intro hT hb6); clear hT hb6))
                | (go_at_call 14; ((with_reducible refine (Reckon_yes _ _ _ _ K3.out.1 K3.out.2.1 (by rw [K3.out.2.2.2.2.1]; exact hsum) HT.out.1).mono ?_); rintro e w7 ⟨rfl, hb7⟩; have bB := bt (bt HT.out.2 hb7) (ba w7 (.cells #[.int .i64 3, .int .i64 0, .string (txt l ++ txt l2)] 23)); have hx8 := string_of _ _ l (K3.out.2.2.1.later bB); have hy8 := string_of _ _ l2 (K3.out.2.2.2.1.later bB); have BB := Lib.hid bB; clear bB hb7)))
              go_ret
              exact ⟨by first | rfl | simp, bt K3.out.2.2.2.2.2 BB.out⟩
            · have hs1 : (64 : Int) < (l.length : Int) + (m : Int) := by omega
              go_wp2_with (first
                | (go_at_call 32; ((with_reducible refine (two_texts _ _ _).mono ?_); rintro e w6 ⟨⟨kk, rfl, hT⟩, hb6⟩; have HT := Lib.hid (And.intro hT hb6); clear hT hb6))
                | (go_at_call 14; ((with_reducible refine (Reckon_no _ _ _ _ K3.out.1 K3.out.2.1 (by rw [K3.out.2.2.2.2.1]; exact hsum) HT.out.1).mono ?_); rintro e w7 ⟨rfl, hb7⟩; have BB := Lib.hid (bt (bt HT.out.2 hb7) (ba w7 (.cells #[.int .i64 0, .int .i64 0, .string mt] 23))); clear hb7)))
              go_ret
              exact ⟨by first | rfl | simp, bt K3.out.2.2.2.2.2 BB.out⟩
end Go.Proofs.Ytjddfjapopdciaa
