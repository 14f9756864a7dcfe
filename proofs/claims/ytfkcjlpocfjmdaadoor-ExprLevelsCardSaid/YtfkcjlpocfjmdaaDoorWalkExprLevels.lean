/- ExprLevels: the walk. -/
import Derived.Test.YtfkcjlpocfjmdaaDoorEx07
import Derived.Deep.DeepCutAuto
import Derived.Test.YtfkcjlpocfjmdaaDoorInj
import Derived.Lib.ItoaLen
namespace Go.Proofs.YtfkcjlpocfjmdaaDoor
open Go.ChangeShapes Go.WideShapes Go.ChangeAt Go.RowKit
open Rk (inR)
set_option linter.unusedVariables false
set_option linter.unusedSimpArgs false

theorem show_len (k n : Int) (s : ByteArray) (hs : s.size ≤ 64) (hn : inR n) : (Val.showL k n s).length ≤ 70 := by
  cases hr : Val.right k n s
  · rw [Val.show_no hr]; decide
  · rcases Val.right_kind hr with rfl | rfl | rfl
    · rw [Val.show_int hr]
      have hn' : -9223372036854775808 ≤ n ∧ n ≤ 9223372036854775807 := hn
      unfold Lib.itoa
      split
      · rw [List.length_cons, Lib.decDigits_length]; have := Lib.nDigits_le20 n.natAbs (by omega); omega
      · rw [Lib.decDigits_length]; have := Lib.nDigits_le20 n.toNat (by omega); omega
    · rw [Val.show_bool hr]
      rcases formatBool_cases (n == 1) with ⟨h, _⟩ | ⟨h, _⟩ <;> (rw [h]; decide)
    · rw [Val.show_text hr]; simp; omega
theorem cat_list (a b : ByteArray) : (a ++ b).toList = a.toList ++ b.toList := by rw [Lib.toList_data, Lib.toList_data, Lib.toList_data]; simp
abbrev tN (a : Int) : Tr := .lit 1 a e0
def sN (a : Int) : ByteArray := ⟨(Val.showL 1 a e0).toArray⟩
theorem okN {a : Int} (h : 0 ≤ a) : (tN a).ok = true := by
  unfold tN Tr.ok
  rw [show Val.right 1 a e0 = true by unfold Val.right; rw [if_pos rfl]; decide, show Lib.indexByte e0.data.toList 39 = -1 by kernel_rfl]
  simp; exact h
theorem smN {a : Int} (h : 0 ≤ a) (h2 : a ≤ 255) : (tN a).small := by show inR a; exact ⟨by omega, by omega⟩
theorem sN_size {a : Int} (h : 0 ≤ a) (h2 : a ≤ 255) : (sN a).size ≤ 70 := by
  have := show_len 1 a e0 (by decide) (smN h h2)
  unfold sN; show (Val.showL 1 a e0).toArray.size ≤ 70; simpa using this
theorem sN_list (a : Int) : (sN a).toList = Val.showL 1 a e0 := by rw [Lib.toList_data]; rfl
theorem Put_N {a : Int} (h : 0 ≤ a) (h2 : a ≤ 255) (w : World) (hT : Tab w) : Calls Tryd.prog 13 #[ev 0 e0 1 a e0 e0 e0 nilk] w fun e w' => e = .returned (.string (sN a)) ∧ Below w.heap.size w w' :=
  Put_v (t := tN a) rfl rfl w rfl (okN h) (smN h h2) (by have := show_len 1 a e0 (by decide) (smN h h2); rw [Tr.len]; omega) hT
abbrev tLf (X Y : ByteArray) (a b c : Int) : Tr := .bin Y (.bin X (tN a) (tN b)) (tN c)
abbrev tRt (X Y : ByteArray) (a b c : Int) : Tr := .bin X (tN a) (.bin Y (tN b) (tN c))
theorem left_flat {X Y : ByteArray} {a b c : Int} (h : ¬ lvl X < lvl Y) : (⟨(putT (tLf X Y a b c)).toArray⟩ : ByteArray) = sN a ++ ⟨#[32]⟩ ++ X ++ ⟨#[32]⟩ ++ sN b ++ ⟨#[32]⟩ ++ Y ++ ⟨#[32]⟩ ++ sN c := by
  refine toList_inj ?_
  simp only [cat_list, sN_list]
  rw [Lib.toList_data]
  simp [putT, Tr.isBin, Tr.opOf, brk, h, Lib.toList_data]
theorem left_brk {X Y : ByteArray} {a b c : Int} (h : lvl X < lvl Y) : (⟨(putT (tLf X Y a b c)).toArray⟩ : ByteArray) = ⟨#[40]⟩ ++ sN a ++ ⟨#[32]⟩ ++ X ++ ⟨#[32]⟩ ++ sN b ++ ⟨#[41, 32]⟩ ++ Y ++ ⟨#[32]⟩ ++ sN c := by
  refine toList_inj ?_
  simp only [cat_list, sN_list]
  rw [Lib.toList_data]
  simp [putT, Tr.isBin, Tr.opOf, brk, h, Lib.toList_data]
theorem right_flat {X Y : ByteArray} {a b c : Int} (h : ¬ lvl Y ≤ lvl X) : (⟨(putT (tRt X Y a b c)).toArray⟩ : ByteArray) = sN a ++ ⟨#[32]⟩ ++ X ++ ⟨#[32]⟩ ++ sN b ++ ⟨#[32]⟩ ++ Y ++ ⟨#[32]⟩ ++ sN c := by
  refine toList_inj ?_
  simp only [cat_list, sN_list]
  rw [Lib.toList_data]
  simp [putT, Tr.isBin, Tr.opOf, brk, h, Lib.toList_data]
theorem right_brk {X Y : ByteArray} {a b c : Int} (h : lvl Y ≤ lvl X) : (⟨(putT (tRt X Y a b c)).toArray⟩ : ByteArray) = sN a ++ ⟨#[32]⟩ ++ X ++ ⟨#[32, 40]⟩ ++ sN b ++ ⟨#[32]⟩ ++ Y ++ ⟨#[32]⟩ ++ sN c ++ ⟨#[41]⟩ := by
  refine toList_inj ?_
  simp only [cat_list, sN_list]
  rw [Lib.toList_data]
  simp [putT, Tr.isBin, Tr.opOf, brk, h, Lib.toList_data]
theorem op_at (q : Nat) (h : q < 13) : ∃ X : ByteArray, (opsC : Array Value)[q]? = some (.string X) ∧ 0 < lvl X ∧ X.size ≤ 2 := by
  rcases (by omega : q = 0 ∨ q = 1 ∨ q = 2 ∨ q = 3 ∨ q = 4 ∨ q = 5 ∨ q = 6 ∨ q = 7 ∨ q = 8 ∨ q = 9 ∨ q = 10 ∨ q = 11 ∨ q = 12) with rfl | rfl | rfl | rfl | rfl | rfl | rfl | rfl | rfl | rfl | rfl | rfl | rfl
  all_goals exact ⟨_, rfl, of_decide_eq_true (by kernel_rfl), by decide⟩
theorem rb_ne (a b c : Int) (X Y : ByteArray) : ¬ (sN a ++ ⟨#[32]⟩ ++ X ++ ⟨#[32, 40]⟩ ++ sN b ++ ⟨#[32]⟩ ++ Y ++ ⟨#[32]⟩ ++ sN c ++ ⟨#[41]⟩ : ByteArray).toList = (sN a ++ ⟨#[32]⟩ ++ X ++ ⟨#[32]⟩ ++ sN b ++ ⟨#[32]⟩ ++ Y ++ ⟨#[32]⟩ ++ sN c).toList := fun h => by
  have := congrArg List.length h
  simp only [cat_list, List.length_append] at this
  rw [show (⟨#[32, 40]⟩ : ByteArray).toList = [32, 40] by kernel_rfl, show (⟨#[41]⟩ : ByteArray).toList = [41] by kernel_rfl, show (⟨#[32]⟩ : ByteArray).toList = [32] by kernel_rfl] at this
  simp at this
  omega
theorem lb_ne (a b c : Int) (X Y : ByteArray) : ¬ (⟨#[40]⟩ ++ sN a ++ ⟨#[32]⟩ ++ X ++ ⟨#[32]⟩ ++ sN b ++ ⟨#[41, 32]⟩ ++ Y ++ ⟨#[32]⟩ ++ sN c : ByteArray).toList = (sN a ++ ⟨#[32]⟩ ++ X ++ ⟨#[32]⟩ ++ sN b ++ ⟨#[32]⟩ ++ Y ++ ⟨#[32]⟩ ++ sN c).toList := fun h => by
  have := congrArg List.length h
  simp only [cat_list, List.length_append] at this
  rw [show (⟨#[41, 32]⟩ : ByteArray).toList = [41, 32] by kernel_rfl, show (⟨#[40]⟩ : ByteArray).toList = [40] by kernel_rfl, show (⟨#[32]⟩ : ByteArray).toList = [32] by kernel_rfl] at this
  simp at this
  omega
set_option maxRecDepth 20000 in
set_option maxHeartbeats 16000000 in
theorem walk_ExprLevels (p q a b c : Int) (p0 : 0 ≤ p) (p1 : p ≤ 255) (q0 : 0 ≤ q) (q1 : q ≤ 255) (a0 : 0 ≤ a) (a1 : a ≤ 255) (b0 : 0 ≤ b) (b1 : b ≤ 255) (c0 : 0 ≤ c) (c1 : c ≤ 255) (w : World) (hT : Tab w) :
    Calls Tryd.prog 7 #[.int .u8 p, .int .u8 q, .int .u8 a, .int .u8 b, .int .u8 c] w fun e w' => e = .returned (.bool true) ∧ Below w.heap.size w w' := by
  have K := Lib.hid (Keep.start w (fun X => Tab X) hT (fun _ _ hb h => h.later hb))
  clear hT
  go_enter Tryd.func7, Tryd.ntmps7
  go_wp2_with fail
  go_at_call 9
  refine (examples_any _ K.out.p).mono ?_
  rintro e w1 ⟨rfl, hb⟩
  replace K := Lib.hid (K.out.go hb); clear hb
  go_wp2_with fail
  go_at_call 17
  refine (Ops_any _).mono ?_
  rintro e w2 ⟨rfl, rfl⟩
  replace K := Lib.hid ((K.out.more 9 opsC).keepRow (List.mem_cons_self ..))
  generalize w1.alloc _ = w2 at *
  generalize w1.heap.size = g at *
  obtain ⟨X, hX, hlX, hsX⟩ := op_at (p % 13).toNat (by omega)
  obtain ⟨Y, hY, hlY, hsY⟩ := op_at (q % 13).toNat (by omega)
  have k1 : w2.cell? ⟨g, (p % 13).toNat, none⟩ = some (.string X) := (K.out.p.2.cell _).trans hX
  have k2 : w2.cell? ⟨g, (q % 13).toNat, none⟩ = some (.string Y) := (K.out.p.2.cell _).trans hY
  have m1 : 1 ≤ lvl X := hlX
  have m2 : 1 ≤ lvl Y := hlY
  have m3 := (lvl_cases hlX).1
  have m4 := (lvl_cases hlY).1
  have oL : (tLf X Y a b c).ok = true := by
    unfold tLf Tr.ok; rw [okN c0]; unfold Tr.ok; rw [okN a0, okN b0]; simp [hlX, hlY]
  have oR : (tRt X Y a b c).ok = true := by
    unfold tRt Tr.ok; rw [okN a0]; unfold Tr.ok; rw [okN b0, okN c0]; simp [hlX, hlY]
  have lA := show_len 1 a e0 (by decide) (smN a0 a1)
  have lB := show_len 1 b e0 (by decide) (smN b0 b1)
  have lC := show_len 1 c e0 (by decide) (smN c0 c1)
  have nL : (tLf X Y a b c).len ≤ 900000000 := by simp only [tLf, tN, Tr.len]; omega
  have nR : (tRt X Y a b c).len ≤ 900000000 := by simp only [tRt, tN, Tr.len]; omega
  have sL : (tLf X Y a b c).small := ⟨⟨smN a0 a1, smN b0 b1⟩, smN c0 c1⟩
  have sR : (tRt X Y a b c).small := ⟨smN a0 a1, smN b0 b1, smN c0 c1⟩
  have z1 := sN_size a0 a1
  have z2 := sN_size b0 b1
  have z3 := sN_size c0 c1
  have PA := fun w (hT : Tab w) => Put_N a0 a1 w hT
  have PB := fun w (hT : Tab w) => Put_N b0 b1 w hT
  have PC := fun w (hT : Tab w) => Put_N c0 c1 w hT
  have D := Lib.hid (And.intro oL (And.intro oR (And.intro nL (And.intro nR (And.intro sL (And.intro sR (And.intro PA (And.intro PB PC)))))))); clear oL oR nL nR sL sR PA PB PC lA lB lC hlX hlY hX hY
  go_wp2_with fail
  clear k1 k2
  go_at_call 28
  refine (lit_any _ _).mono ?_
  rintro e w3 ⟨rfl, hb⟩
  replace K := Lib.hid (K.out.go hb)
  clear hb
  go_wp2_with fail
  go_at_call 28
  refine (lit_any _ _).mono ?_
  rintro e w3 ⟨rfl, hb⟩
  replace K := Lib.hid (K.out.go hb)
  clear hb
  go_wp2_with fail
  go_at_call 26
  refine (two_isN X (tN a) (tN b) _ _ nilk nilk _ rfl rfl rfl rfl).mono ?_
  rintro e w3 ⟨⟨A1, n1, d1, rfl, hT⟩, hb⟩
  replace K := Lib.hid ((K.out.go hb).and (Q := fun V => TrAt V (.bin X (tN a) (tN b)) (.slice A1 n1 d1)) hT (fun _ _ hb h => h.later hb)); clear hT
  clear hb
  go_wp2_with fail
  go_at_call 28
  refine (lit_any _ _).mono ?_
  rintro e w3 ⟨rfl, hb⟩
  replace K := Lib.hid (K.out.go hb)
  clear hb
  go_wp2_with fail
  go_at_call 26
  refine (two_isN Y (.bin X (tN a) (tN b)) (tN c) _ _ (.slice A1 n1 d1) nilk _ rfl rfl K.out.p.2 rfl).mono ?_
  rintro e w3 ⟨⟨A2, n2, d2, rfl, hT⟩, hb⟩
  replace K := Lib.hid ((K.out.go hb).and (Q := fun V => TrAt V (tLf X Y a b c) (.slice A2 n2 d2)) hT (fun _ _ hb h => h.later hb)); clear hT
  clear hb
  go_wp2_with fail
  by_cases hlt : lvl X < lvl Y
  · have nlt : ¬ lvl Y ≤ lvl X := by omega
    have dlt : decide (lvl Y ≤ lvl X) = false := decide_eq_false nlt
    have dlu : decide (lvl X < lvl Y) = true := decide_eq_true hlt
    have eL := @left_brk X Y a b c hlt
    have eR := @right_flat X Y a b c nlt
    have ne1 := lb_ne a b c X Y
    have ne2 : ((⟨#[40]⟩ ++ sN a ++ ⟨#[32]⟩ ++ X ++ ⟨#[32]⟩ ++ sN b ++ ⟨#[41, 32]⟩ ++ Y ++ ⟨#[32]⟩ ++ sN c : ByteArray).toList == (sN a ++ ⟨#[32]⟩ ++ X ++ ⟨#[32]⟩ ++ sN b ++ ⟨#[32]⟩ ++ Y ++ ⟨#[32]⟩ ++ sN c).toList) = false := by simpa using ne1
    have E := Lib.hid (And.intro eL eR); clear eL eR
    have LX := Lib.hid (fun w => Level_any X w)
    have LY := Lib.hid (fun w => Level_any Y w)
    generalize lvl X = lx at *
    generalize lvl Y = ly at *
    clear hlt nlt
    go_wp2_with fail
    go_at_call 13
    refine (Put_v (t := tLf X Y a b c) rfl E.out.1 _ K.out.p.2 D.out.1 D.out.2.2.2.2.1 D.out.2.2.1 K.out.p.1.1.1).mono ?_
    rintro e w3 ⟨rfl, hb⟩
    replace K := Lib.hid (K.out.go hb)
    clear hb
    go_wp2_with fail
    go_at_call 28
    refine (lit_any _ _).mono ?_
    rintro e w3 ⟨rfl, hb⟩
    replace K := Lib.hid (K.out.go hb)
    clear hb
    go_wp2_with fail
    go_at_call 28
    refine (lit_any _ _).mono ?_
    rintro e w3 ⟨rfl, hb⟩
    replace K := Lib.hid (K.out.go hb)
    clear hb
    go_wp2_with fail
    go_at_call 28
    refine (lit_any _ _).mono ?_
    rintro e w3 ⟨rfl, hb⟩
    replace K := Lib.hid (K.out.go hb)
    clear hb
    go_wp2_with fail
    go_at_call 26
    refine (two_isN Y (tN b) (tN c) _ _ nilk nilk _ rfl rfl rfl rfl).mono ?_
    rintro e w3 ⟨⟨A3, n3, d3, rfl, hT⟩, hb⟩
    replace K := Lib.hid ((K.out.go hb).and (Q := fun V => TrAt V (.bin Y (tN b) (tN c)) (.slice A3 n3 d3)) hT (fun _ _ hb h => h.later hb)); clear hT
    clear hb
    go_wp2_with fail
    go_at_call 26
    refine (two_isN X (tN a) (.bin Y (tN b) (tN c)) _ _ nilk (.slice A3 n3 d3) _ rfl rfl rfl K.out.p.2).mono ?_
    rintro e w3 ⟨⟨A4, n4, d4, rfl, hT⟩, hb⟩
    replace K := Lib.hid ((K.out.go hb).and (Q := fun V => TrAt V (tRt X Y a b c) (.slice A4 n4 d4)) hT (fun _ _ hb h => h.later hb)); clear hT
    clear hb
    go_wp2_with fail
    go_at_call 13
    refine (Put_v (t := tRt X Y a b c) rfl E.out.2 _ K.out.p.2 D.out.2.1 D.out.2.2.2.2.2.1 D.out.2.2.2.1 K.out.p.1.1.1.1.1).mono ?_
    rintro e w3 ⟨rfl, hb⟩
    replace K := Lib.hid (K.out.go hb)
    clear hb
    go_wp2_with fail
    go_at_call 28
    refine (lit_any _ _).mono ?_
    rintro e w3 ⟨rfl, hb⟩
    replace K := Lib.hid (K.out.go hb)
    clear hb
    go_wp2_with fail
    go_at_call 13
    refine (D.out.2.2.2.2.2.2.1 _ K.out.p.1.1.1.1.1).mono ?_
    rintro e w3 ⟨rfl, hb⟩
    replace K := Lib.hid (K.out.go hb)
    clear hb
    go_wp2_with fail
    go_at_call 28
    refine (lit_any _ _).mono ?_
    rintro e w3 ⟨rfl, hb⟩
    replace K := Lib.hid (K.out.go hb)
    clear hb
    go_wp2_with fail
    go_at_call 13
    refine (D.out.2.2.2.2.2.2.2.1 _ K.out.p.1.1.1.1.1).mono ?_
    rintro e w3 ⟨rfl, hb⟩
    replace K := Lib.hid (K.out.go hb)
    clear hb
    go_wp2_with fail
    go_at_call 28
    refine (lit_any _ _).mono ?_
    rintro e w3 ⟨rfl, hb⟩
    replace K := Lib.hid (K.out.go hb)
    clear hb
    go_wp2_with fail
    go_at_call 13
    refine (D.out.2.2.2.2.2.2.2.2 _ K.out.p.1.1.1.1.1).mono ?_
    rintro e w3 ⟨rfl, hb⟩
    replace K := Lib.hid (K.out.go hb)
    clear hb
    go_wp2_with fail
    clear E
    generalize hFl : (sN a ++ ⟨#[32]⟩ ++ X ++ ⟨#[32]⟩ ++ sN b ++ ⟨#[32]⟩ ++ Y ++ ⟨#[32]⟩ ++ sN c : ByteArray) = Fl at *
    clear hFl
    go_at_call 19
    refine (LX.out _).mono ?_
    rintro e w4 ⟨rfl, rfl⟩
    go_wp2_with fail
    go_at_call 19
    refine (LY.out _).mono ?_
    rintro e w4 ⟨rfl, rfl⟩
    dsimp only
    iterate 8 (first | (simp only [List.append_eq, List.cons_append, List.nil_append]) | (first | go_values | go_skip | go_guarded | go_step | go_upon | go_back | go_simp))
    go_wp2_with fail
    go_ret
    refine ⟨?_, K.out.bel⟩
    simp [dlt, dlu]
  · have nlt : lvl Y ≤ lvl X := by omega
    have dlt : decide (lvl Y ≤ lvl X) = true := decide_eq_true nlt
    have dlu : decide (lvl X < lvl Y) = false := decide_eq_false hlt
    have eL := @left_flat X Y a b c hlt
    have eR := @right_brk X Y a b c nlt
    have ne1 := rb_ne a b c X Y
    have ne2 : ((sN a ++ ⟨#[32]⟩ ++ X ++ ⟨#[32, 40]⟩ ++ sN b ++ ⟨#[32]⟩ ++ Y ++ ⟨#[32]⟩ ++ sN c ++ ⟨#[41]⟩ : ByteArray).toList == (sN a ++ ⟨#[32]⟩ ++ X ++ ⟨#[32]⟩ ++ sN b ++ ⟨#[32]⟩ ++ Y ++ ⟨#[32]⟩ ++ sN c).toList) = false := by simpa using ne1
    have E := Lib.hid (And.intro eL eR); clear eL eR
    have LX := Lib.hid (fun w => Level_any X w)
    have LY := Lib.hid (fun w => Level_any Y w)
    generalize lvl X = lx at *
    generalize lvl Y = ly at *
    clear hlt nlt
    go_wp2_with fail
    go_at_call 13
    refine (Put_v (t := tLf X Y a b c) rfl E.out.1 _ K.out.p.2 D.out.1 D.out.2.2.2.2.1 D.out.2.2.1 K.out.p.1.1.1).mono ?_
    rintro e w3 ⟨rfl, hb⟩
    replace K := Lib.hid (K.out.go hb)
    clear hb
    go_wp2_with fail
    go_at_call 28
    refine (lit_any _ _).mono ?_
    rintro e w3 ⟨rfl, hb⟩
    replace K := Lib.hid (K.out.go hb)
    clear hb
    go_wp2_with fail
    go_at_call 28
    refine (lit_any _ _).mono ?_
    rintro e w3 ⟨rfl, hb⟩
    replace K := Lib.hid (K.out.go hb)
    clear hb
    go_wp2_with fail
    go_at_call 28
    refine (lit_any _ _).mono ?_
    rintro e w3 ⟨rfl, hb⟩
    replace K := Lib.hid (K.out.go hb)
    clear hb
    go_wp2_with fail
    go_at_call 26
    refine (two_isN Y (tN b) (tN c) _ _ nilk nilk _ rfl rfl rfl rfl).mono ?_
    rintro e w3 ⟨⟨A3, n3, d3, rfl, hT⟩, hb⟩
    replace K := Lib.hid ((K.out.go hb).and (Q := fun V => TrAt V (.bin Y (tN b) (tN c)) (.slice A3 n3 d3)) hT (fun _ _ hb h => h.later hb)); clear hT
    clear hb
    go_wp2_with fail
    go_at_call 26
    refine (two_isN X (tN a) (.bin Y (tN b) (tN c)) _ _ nilk (.slice A3 n3 d3) _ rfl rfl rfl K.out.p.2).mono ?_
    rintro e w3 ⟨⟨A4, n4, d4, rfl, hT⟩, hb⟩
    replace K := Lib.hid ((K.out.go hb).and (Q := fun V => TrAt V (tRt X Y a b c) (.slice A4 n4 d4)) hT (fun _ _ hb h => h.later hb)); clear hT
    clear hb
    go_wp2_with fail
    go_at_call 13
    refine (Put_v (t := tRt X Y a b c) rfl E.out.2 _ K.out.p.2 D.out.2.1 D.out.2.2.2.2.2.1 D.out.2.2.2.1 K.out.p.1.1.1.1.1).mono ?_
    rintro e w3 ⟨rfl, hb⟩
    replace K := Lib.hid (K.out.go hb)
    clear hb
    go_wp2_with fail
    go_at_call 28
    refine (lit_any _ _).mono ?_
    rintro e w3 ⟨rfl, hb⟩
    replace K := Lib.hid (K.out.go hb)
    clear hb
    go_wp2_with fail
    go_at_call 13
    refine (D.out.2.2.2.2.2.2.1 _ K.out.p.1.1.1.1.1).mono ?_
    rintro e w3 ⟨rfl, hb⟩
    replace K := Lib.hid (K.out.go hb)
    clear hb
    go_wp2_with fail
    go_at_call 28
    refine (lit_any _ _).mono ?_
    rintro e w3 ⟨rfl, hb⟩
    replace K := Lib.hid (K.out.go hb)
    clear hb
    go_wp2_with fail
    go_at_call 13
    refine (D.out.2.2.2.2.2.2.2.1 _ K.out.p.1.1.1.1.1).mono ?_
    rintro e w3 ⟨rfl, hb⟩
    replace K := Lib.hid (K.out.go hb)
    clear hb
    go_wp2_with fail
    go_at_call 28
    refine (lit_any _ _).mono ?_
    rintro e w3 ⟨rfl, hb⟩
    replace K := Lib.hid (K.out.go hb)
    clear hb
    go_wp2_with fail
    go_at_call 13
    refine (D.out.2.2.2.2.2.2.2.2 _ K.out.p.1.1.1.1.1).mono ?_
    rintro e w3 ⟨rfl, hb⟩
    replace K := Lib.hid (K.out.go hb)
    clear hb
    go_wp2_with fail
    clear E
    generalize hFl : (sN a ++ ⟨#[32]⟩ ++ X ++ ⟨#[32]⟩ ++ sN b ++ ⟨#[32]⟩ ++ Y ++ ⟨#[32]⟩ ++ sN c : ByteArray) = Fl at *
    clear hFl
    go_at_call 19
    refine (LX.out _).mono ?_
    rintro e w4 ⟨rfl, rfl⟩
    go_wp2_with fail
    go_at_call 19
    refine (LY.out _).mono ?_
    rintro e w4 ⟨rfl, rfl⟩
    dsimp only
    iterate 8 (first | (simp only [List.append_eq, List.cons_append, List.nil_append]) | (first | go_values | go_skip | go_guarded | go_step | go_upon | go_back | go_simp))
    go_wp2_with fail
    go_ret
    refine ⟨?_, K.out.bel⟩
    simp [dlt, dlu]
end Go.Proofs.YtfkcjlpocfjmdaaDoor
