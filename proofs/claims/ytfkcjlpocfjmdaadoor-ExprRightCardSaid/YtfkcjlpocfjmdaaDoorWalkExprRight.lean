/- ExprRight: the walk. -/
import Derived.Test.YtfkcjlpocfjmdaaDoorRightP
import Derived.Test.YtfkcjlpocfjmdaaDoorRightK
import Derived.Deep.DeepCutAuto
import Derived.OwnWalk
import Derived.IntWalk
namespace Go.Proofs.YtfkcjlpocfjmdaaDoor
open Go.ChangeShapes Go.WideShapes Go.ChangeAt Go.RowKit
open Rk (inR)
set_option linter.unusedVariables false
set_option linter.unusedSimpArgs false

set_option maxRecDepth 20000 in
set_option maxHeartbeats 40000000 in
theorem walk_ExprRight (v : Value) (l : List UInt8) (a : Int) (s : ByteArray) (w : World) (hv : BytesAt w v l) (hl : l.length ≤ 140737488351232) (a0 : 0 ≤ a) (a1' : a ≤ 255) (hs : s.size ≤ 140737488351232) (hT : Tab w) :
    Calls Tryd.prog 6 #[v, .int .u8 a, .string s] w fun e w' => e = .returned (.bool true) ∧ Below w.heap.size w w' := by
  obtain ⟨i0, hi, hz0, hz1, hz2⟩ := info_parts (P := Tryd.prog) (e := 26) (z := .agg #[.int .i64 0, .string ⟨#[]⟩, .int .i64 0, .int .i64 0, .string ⟨#[]⟩, .string ⟨#[]⟩, .string ⟨#[]⟩, .slice none 0 0]) (size := 8) (bytes := 112) (by kernel_rfl)
  obtain ⟨VA, Vc, rfl⟩ := bytes_slice hv
  have K := Lib.hid (Keep.start w (fun X => Tab X ∧ BytesAt X (.slice VA l.length Vc) l) ⟨hT, hv⟩ (fun _ _ hb h => ⟨h.1.later hb, h.2.later hb⟩))
  clear hT hv
  go_enter Tryd.func6, Tryd.ntmps6
  go_wp2_with fail
  go_at_call 9
  refine (examples_any _ K.out.p.1).mono ?_
  rintro e w1 ⟨rfl, hb⟩
  replace K := Lib.hid (K.out.go hb); clear hb
  go_wp2_with fail
  go_at_call 10
  refine (made_v _ l _ K.out.p.2 hl).mono ?_
  rintro e w2 ⟨⟨t, k1, o1, a1, b1, s1, v1, f1, A1, n1, c1, A, n, c, rfl, hT, e1, hf⟩, hb⟩
  obtain ⟨hal, hk0, hk4, hsz, hvz, hfz, hn2⟩ := node_facts hf hT e1
  obtain ⟨kl, hkl, hKA⟩ := kids_at hT e1
  have HTR := Lib.hid (And.intro (hT.later (ba w2 (.cells (#[.int .i64 k1, .string o1, .int .i64 a1, .int .i64 b1, .string s1, .string v1, .string f1, .slice A1 n1 c1] : Array Value) 26))) (And.intro e1 hf.1))
  have HKA := Lib.hid (And.intro hkl (hKA.later (ba w2 (.cells (#[.int .i64 k1, .string o1, .int .i64 a1, .int .i64 b1, .string s1, .string v1, .string f1, .slice A1 n1 c1] : Array Value) 26))))
  have HN := Lib.hid (And.intro hal (And.intro hsz (And.intro hvz (And.intro hfz hn2))))
  replace K := Lib.hid ((K.out.go hb).more 26 #[.int .i64 k1, .string o1, .int .i64 a1, .int .i64 b1, .string s1, .string v1, .string f1, .slice A1 n1 c1])
  clear hb hT e1 hf hal hsz hvz hfz hkl hKA hn2
  go_wp2_with fail
  generalize w2.alloc _ = w3 at *
  generalize w2.heap.size = g at *
  go_at_call 12
  refine (Right_v HTR.out.2.1 _ HTR.out.1 HTR.out.2.2).mono ?_
  rintro e w4 ⟨rfl, hb⟩
  replace K := Lib.hid (K.out.go hb)
  replace HKA := Lib.hid (And.intro HKA.out.1 (HKA.out.2.later hb)); clear hb HTR
  go_upto_if 19 with fail
  go_cut [2] (fun sv wx => ∃ q : ByteArray, sv = .string q ∧ q.size ≤ 140737488351232 ∧ ¬ q.toList = [] ∧ w4 = wx)
  case first =>
    by_cases hE : s.toList = []
    · obtain rfl : s = e0 := toList_inj (hE.trans (by kernel_rfl))
      have hE' : e0.toList.isEmpty = true := e0_empty
      go_wp2_with fail
      all_goals first
        | (rename_i hx; rw [hE'] at hx; exact absurd hx (by decide))
        | (go_meet; exact ⟨_, rfl, by decide, of_decide_eq_false (by kernel_rfl), rfl⟩)
    · have hE' : s.toList.isEmpty = false := ne_empty hE
      go_wp2_with fail
      all_goals first
        | (rename_i hx; rw [hE'] at hx; exact absurd hx (by decide))
        | (go_meet; exact ⟨_, rfl, hs, hE, rfl⟩)
  case rest =>
    obtain ⟨q, rfl, hq, hq0, rfl⟩ := hcut
    clear hs
    obtain ⟨q0, q1, q2⟩ := K.out.head
    have HQ0 := Lib.hid hq0; clear hq0
    have hqm : ¬ 9223372036854775807 < 1 + q.size := by omega
    rcases (by omega : a % 6 = 0 ∨ a % 6 = 1 ∨ a % 6 = 2 ∨ a % 6 = 3 ∨ a % 6 = 4 ∨ a % 6 = 5) with h6 | h6 | h6 | h6 | h6 | h6
    · go_wp2_with (first
        | (at_builtin; (refine wpList_append_at _ rfl (.const (.slice none 0 0)) (.tmp 25) 24 rfl w4.heap.size 26 i0 (.agg #[.int .i64 0, .string ⟨#[]⟩, .int .i64 0, .int .i64 0, .string ⟨#[]⟩, .string ⟨#[]⟩, .string ⟨#[]⟩, .slice none 0 0]) 8 112 Tryd.underlying24 hi hz0 hz1 hz2 rfl (by decide) (f := e8) (fun _ => rfl) e8_one (.slice none 0 0) ([] : List E8) rfl (Own.nil _ _ _ _ _) _ _ _ kl HKA.out.1 rfl HKA.out.2 (by have := HKA.out.1; have := HN.out.2.2.2.2; unfold maxLen; rw [List.length_nil]; omega) (by have := HKA.out.1; have := HN.out.2.2.2.2; rw [List.length_nil]; omega) (Nat.le_refl _) ?_); intro v5 w5 hO5 hg5; rw [List.nil_append] at hO5; have b5 := own_past (Below.refl _ _) hg5 (Own.nil w4 _ 26 8 e8); obtain ⟨X5, Y5, rfl, -, -, -⟩ := hO5.shape; have H5 := Lib.hid (And.intro hO5 b5); clear hO5 hg5 b5)
        | (go_at_call 28; (with_reducible refine (lit_any _ _).mono ?_); rintro e w6 ⟨rfl, hb⟩; have H6 := Lib.hid (And.intro (H5.out.1.later (bt hb (ba w6 (.cells (e8 (0, e0, 1, 1, e0, e0, e0, none, 0, 0)).toArray 26)))) (bt H5.out.2 (bt hb (ba w6 (.cells (e8 (0, e0, 1, 1, e0, e0, e0, none, 0, 0)).toArray 26))))); clear hb)
        | (at_builtin; (refine wpList_append_at _ rfl (.tmp 26) (.tmp 28) 24 rfl w4.heap.size 26 i0 (.agg #[.int .i64 0, .string ⟨#[]⟩, .int .i64 0, .int .i64 0, .string ⟨#[]⟩, .string ⟨#[]⟩, .string ⟨#[]⟩, .slice none 0 0]) 8 112 Tryd.underlying24 hi hz0 hz1 hz2 rfl (by decide) (f := e8) (fun _ => rfl) e8_one _ kl rfl H6.out.1 _ _ _ [(0, e0, 1, 1, e0, e0, e0, none, 0, 0)] rfl rfl (new_e8 w6 26 (0, e0, 1, 1, e0, e0, e0, none, 0, 0)) (by have := HKA.out.1; have := HN.out.2.2.2.2; show kl.length + 1 ≤ maxLen; unfold maxLen; omega) (by have := HKA.out.1; have := HN.out.2.2.2.2; show (kl.length + 1) * 112 ≤ 140737488355328; omega) H6.out.2.size ?_); intro v7 w7 hO7 hg7; have K7 := Lib.hid (K.out.go (own_past H6.out.2 hg7 H6.out.1)); obtain ⟨X7, Y7, rfl, -, -, -⟩ := hO7.shape; clear hO7 hg7; obtain ⟨r0, r1, r2⟩ := K7.out.head; rw [List.length_append, ← HKA.out.1, List.length_singleton]))
      have K2 : Hid (Keep w (w7.setCell ⟨g, 7, none⟩ (.slice X7 (n1 + 1) Y7)) _ ((g, 26, #[.int .i64 k1, .string o1, .int .i64 a1, .int .i64 b1, .string s1, .string v1, .string f1, .slice X7 (n1 + 1) Y7]) :: []) _) := Lib.hid (K7.out.put (l1 := []) 7 (.slice X7 (n1 + 1) Y7))
      have HA := Lib.hid (a_kids HN.out.1)
      replace K2 := Lib.hid (K2.out.keepRow (List.mem_cons_self ..))
      refine wp_of_eq (c' := ((Tryd.f6.body.bind (regionN 28)).getD .skip)) ?_ (by kernel_rfl)
      refine right28 _ _ _ _ _ _ _ _ _ _ _ _ _ _ _ _ _ _ _ _ _ _ _ _ _ _ _ _ _ _ _ _ _ _ _ _ _ _ _ _ _ _ _ _ _ _ _ _ _ _ _ _ _ _ _ _ _ _ _ _ _ _ _ _ _ _ _ _ _ _ _ _ _ _ _ _ _ _ _ _ _ _ _  K2.out (fun X h => h.2) (fun _ _ _  gN h wx hK4 => ?_)
      replace K := Lib.hid hK4; clear hK4 K2
      have p1 : ∀ j, wx.cell? ⟨g, j, none⟩ = (#[.int .i64 k1, .string o1, .int .i64 a1, .int .i64 b1, .string s1, .string v1, .string f1, .slice X7 (n1 + 1) Y7] : Array Value)[j]? := K.out.p.1.1.2.cell
      go_wp2_with fail
      clear p1
      go_at_call 12
      refine (Right_no _ _ _ _ _ _ _ _ _ _ _ HN.out.2.1 HN.out.2.2.1 HN.out.2.2.2.1 (by have := HN.out.2.2.2.2; omega) HA.out).mono ?_
      rintro e x1 ⟨rfl, hb⟩
      replace K := Lib.hid (K.out.go hb); clear hb
      have p2 : ∀ j, x1.cell? ⟨h, j, none⟩ = (NC bPlus (some ⟨gN, 0, none⟩) 2 2 : Array Value)[j]? := K.out.p.2.cell
      go_wp2_with fail
      clear p2
      go_at_call 12
      refine (Right_up _ HA.out HN.out.2.1 HN.out.2.2.1 HN.out.2.2.2.1 (by have := HN.out.2.2.2.2; omega) K.out.p.1.2).mono ?_
      rintro e x2 ⟨rfl, hb⟩
      replace K := Lib.hid (K.out.go hb); clear hb
      go_wp2_with fail
      go_ret
      exact ⟨rfl, K.out.bel⟩
    · rcases (by omega : k1 < 3 ∨ ¬ k1 < 3) with h3 | h3
      · have h3d : decide (k1 < 3) = true := decide_eq_true h3
        go_wp2_with fail
        have K2 : Hid (Keep w (w4.setCell ⟨g, 1, none⟩ (.string q)) _ ((g, 26, #[.int .i64 k1, .string q, .int .i64 a1, .int .i64 b1, .string s1, .string v1, .string f1, .slice A1 n1 c1]) :: []) _) := Lib.hid (K.out.put (l1 := []) 1 (.string q))
        have HA := Lib.hid (a_op (k := k1) (by omega) HQ0.out a1 b1 s1 v1 f1 n1)
        replace K2 := Lib.hid (K2.out.keepRow (List.mem_cons_self ..))
        refine wp_of_eq (c' := ((Tryd.f6.body.bind (regionN 28)).getD .skip)) ?_ (by kernel_rfl)
        refine right28 _ _ _ _ _ _ _ _ _ _ _ _ _ _ _ _ _ _ _ _ _ _ _ _ _ _ _ _ _ _ _ _ _ _ _ _ _ _ _ _ _ _ _ _ _ _ _ _ _ _ _ _ _ _ _ _ _ _ _ _ _ _ _ _ _ _ _ _ _ _ _ _ _ _ _ _ _ _ _ _ _ _ _  K2.out (fun X h => h.2) (fun _ _ _  gN h wx hK4 => ?_)
        replace K := Lib.hid hK4; clear hK4 K2
        have p1 : ∀ j, wx.cell? ⟨g, j, none⟩ = (#[.int .i64 k1, .string q, .int .i64 a1, .int .i64 b1, .string s1, .string v1, .string f1, .slice A1 n1 c1] : Array Value)[j]? := K.out.p.1.1.2.cell
        go_wp2_with fail
        clear p1
        go_at_call 12
        refine (Right_no _ _ _ _ _ _ _ _ _ _ _ HN.out.2.1 HN.out.2.2.1 HN.out.2.2.2.1 (by have := HN.out.2.2.2.2; omega) HA.out).mono ?_
        rintro e x1 ⟨rfl, hb⟩
        replace K := Lib.hid (K.out.go hb); clear hb
        have p2 : ∀ j, x1.cell? ⟨h, j, none⟩ = (NC bPlus (some ⟨gN, 0, none⟩) 2 2 : Array Value)[j]? := K.out.p.2.cell
        go_wp2_with fail
        clear p2
        go_at_call 12
        refine (Right_up _ HA.out HN.out.2.1 HN.out.2.2.1 HN.out.2.2.2.1 (by have := HN.out.2.2.2.2; omega) K.out.p.1.2).mono ?_
        rintro e x2 ⟨rfl, hb⟩
        replace K := Lib.hid (K.out.go hb); clear hb
        go_wp2_with fail
        go_ret
        exact ⟨rfl, K.out.bel⟩
      · have h3d : decide (k1 < 3) = false := decide_eq_false h3
        go_wp2_with fail
        have K2 : Hid (Keep w (w4.setCell ⟨g, 5, none⟩ (.string q)) _ ((g, 26, #[.int .i64 k1, .string o1, .int .i64 a1, .int .i64 b1, .string s1, .string q, .string f1, .slice A1 n1 c1]) :: []) _) := Lib.hid (K.out.put (l1 := []) 5 (.string q))
        have HA := Lib.hid (a_va (k := k1) (by omega) HQ0.out o1 a1 b1 s1 f1 n1)
        replace K2 := Lib.hid (K2.out.keepRow (List.mem_cons_self ..))
        refine wp_of_eq (c' := ((Tryd.f6.body.bind (regionN 28)).getD .skip)) ?_ (by kernel_rfl)
        refine right28 _ _ _ _ _ _ _ _ _ _ _ _ _ _ _ _ _ _ _ _ _ _ _ _ _ _ _ _ _ _ _ _ _ _ _ _ _ _ _ _ _ _ _ _ _ _ _ _ _ _ _ _ _ _ _ _ _ _ _ _ _ _ _ _ _ _ _ _ _ _ _ _ _ _ _ _ _ _ _ _ _ _ _  K2.out (fun X h => h.2) (fun _ _ _  gN h wx hK4 => ?_)
        replace K := Lib.hid hK4; clear hK4 K2
        have p1 : ∀ j, wx.cell? ⟨g, j, none⟩ = (#[.int .i64 k1, .string o1, .int .i64 a1, .int .i64 b1, .string s1, .string q, .string f1, .slice A1 n1 c1] : Array Value)[j]? := K.out.p.1.1.2.cell
        go_wp2_with fail
        clear p1
        go_at_call 12
        refine (Right_no _ _ _ _ _ _ _ _ _ _ _ HN.out.2.1 (by unfold maxLen; omega) HN.out.2.2.2.1 (by have := HN.out.2.2.2.2; omega) HA.out).mono ?_
        rintro e x1 ⟨rfl, hb⟩
        replace K := Lib.hid (K.out.go hb); clear hb
        have p2 : ∀ j, x1.cell? ⟨h, j, none⟩ = (NC bPlus (some ⟨gN, 0, none⟩) 2 2 : Array Value)[j]? := K.out.p.2.cell
        go_wp2_with fail
        clear p2
        go_at_call 12
        refine (Right_up _ HA.out HN.out.2.1 (by unfold maxLen; omega) HN.out.2.2.2.1 (by have := HN.out.2.2.2.2; omega) K.out.p.1.2).mono ?_
        rintro e x2 ⟨rfl, hb⟩
        replace K := Lib.hid (K.out.go hb); clear hb
        go_wp2_with fail
        go_ret
        exact ⟨rfl, K.out.bel⟩
    · rcases (by omega : k1 = 0 ∨ ¬ k1 = 0) with h3 | h3
      · subst h3
        go_wp2_with fail
        have K2 : Hid (Keep w (w4.setCell ⟨g, 3, none⟩ (.int .i64 (-1))) _ ((g, 26, #[.int .i64 0, .string o1, .int .i64 a1, .int .i64 (-1), .string s1, .string v1, .string f1, .slice A1 n1 c1]) :: []) _) := Lib.hid (K.out.put (l1 := []) 3 (.int .i64 (-1)))
        have HA := Lib.hid (a_neg o1 a1 s1 v1 f1 n1)
        replace K2 := Lib.hid (K2.out.keepRow (List.mem_cons_self ..))
        refine wp_of_eq (c' := ((Tryd.f6.body.bind (regionN 28)).getD .skip)) ?_ (by kernel_rfl)
        refine right28 _ _ _ _ _ _ _ _ _ _ _ _ _ _ _ _ _ _ _ _ _ _ _ _ _ _ _ _ _ _ _ _ _ _ _ _ _ _ _ _ _ _ _ _ _ _ _ _ _ _ _ _ _ _ _ _ _ _ _ _ _ _ _ _ _ _ _ _ _ _ _ _ _ _ _ _ _ _ _ _ _ _ _  K2.out (fun X h => h.2) (fun _ _ _  gN h wx hK4 => ?_)
        replace K := Lib.hid hK4; clear hK4 K2
        have p1 : ∀ j, wx.cell? ⟨g, j, none⟩ = (#[.int .i64 0, .string o1, .int .i64 a1, .int .i64 (-1), .string s1, .string v1, .string f1, .slice A1 n1 c1] : Array Value)[j]? := K.out.p.1.1.2.cell
        go_wp2_with fail
        clear p1
        go_at_call 12
        refine (Right_no _ _ _ _ _ _ _ _ _ _ _ HN.out.2.1 HN.out.2.2.1 HN.out.2.2.2.1 (by have := HN.out.2.2.2.2; omega) HA.out).mono ?_
        rintro e x1 ⟨rfl, hb⟩
        replace K := Lib.hid (K.out.go hb); clear hb
        have p2 : ∀ j, x1.cell? ⟨h, j, none⟩ = (NC bPlus (some ⟨gN, 0, none⟩) 2 2 : Array Value)[j]? := K.out.p.2.cell
        go_wp2_with fail
        clear p2
        go_at_call 12
        refine (Right_up _ HA.out HN.out.2.1 HN.out.2.2.1 HN.out.2.2.2.1 (by have := HN.out.2.2.2.2; omega) K.out.p.1.2).mono ?_
        rintro e x2 ⟨rfl, hb⟩
        replace K := Lib.hid (K.out.go hb); clear hb
        go_wp2_with fail
        go_ret
        exact ⟨rfl, K.out.bel⟩
      · have h3d : (k1 == 0) = false := beq_eq_false_iff_ne.2 h3
        go_wp2_with fail
        have K2 : Hid (Keep w (((w4.setCell ⟨g, 2, none⟩ (.int .i64 1)).setCell ⟨g, 3, none⟩ (.int .i64 0)).setCell ⟨g, 4, none⟩ (.string ⟨#[]⟩)) _ ((g, 26, #[.int .i64 k1, .string o1, .int .i64 1, .int .i64 0, .string ⟨#[]⟩, .string v1, .string f1, .slice A1 n1 c1]) :: []) _) := Lib.hid (((K.out.put (l1 := []) 2 (.int .i64 1)).put (l1 := []) 3 (.int .i64 0)).put (l1 := []) 4 (.string ⟨#[]⟩))
        have HA := Lib.hid (a_vk (k := k1) (by omega) o1 v1 f1 n1)
        replace K2 := Lib.hid (K2.out.keepRow (List.mem_cons_self ..))
        refine wp_of_eq (c' := ((Tryd.f6.body.bind (regionN 28)).getD .skip)) ?_ (by kernel_rfl)
        refine right28 _ _ _ _ _ _ _ _ _ _ _ _ _ _ _ _ _ _ _ _ _ _ _ _ _ _ _ _ _ _ _ _ _ _ _ _ _ _ _ _ _ _ _ _ _ _ _ _ _ _ _ _ _ _ _ _ _ _ _ _ _ _ _ _ _ _ _ _ _ _ _ _ _ _ _ _ _ _ _ _ _ _ _  K2.out (fun X h => h.2) (fun _ _ _  gN h wx hK4 => ?_)
        replace K := Lib.hid hK4; clear hK4 K2
        have p1 : ∀ j, wx.cell? ⟨g, j, none⟩ = (#[.int .i64 k1, .string o1, .int .i64 1, .int .i64 0, .string ⟨#[]⟩, .string v1, .string f1, .slice A1 n1 c1] : Array Value)[j]? := K.out.p.1.1.2.cell
        go_wp2_with fail
        clear p1
        go_at_call 12
        refine (Right_no _ _ _ _ _ _ _ _ _ _ _ (by decide) HN.out.2.2.1 HN.out.2.2.2.1 (by have := HN.out.2.2.2.2; omega) HA.out).mono ?_
        rintro e x1 ⟨rfl, hb⟩
        replace K := Lib.hid (K.out.go hb); clear hb
        have p2 : ∀ j, x1.cell? ⟨h, j, none⟩ = (NC bPlus (some ⟨gN, 0, none⟩) 2 2 : Array Value)[j]? := K.out.p.2.cell
        go_wp2_with fail
        clear p2
        go_at_call 12
        refine (Right_up _ HA.out (by decide) HN.out.2.2.1 HN.out.2.2.2.1 (by have := HN.out.2.2.2.2; omega) K.out.p.1.2).mono ?_
        rintro e x2 ⟨rfl, hb⟩
        replace K := Lib.hid (K.out.go hb); clear hb
        go_wp2_with fail
        go_ret
        exact ⟨rfl, K.out.bel⟩
    · rcases (by omega : k1 = 1 ∨ ¬ k1 = 1) with h3 | h3
      · subst h3
        go_wp2_with fail
        have K2 : Hid (Keep w (w4.setCell ⟨g, 6, none⟩ (.string (⟨#[57]⟩ ++ q))) _ ((g, 26, #[.int .i64 1, .string o1, .int .i64 a1, .int .i64 b1, .string s1, .string v1, .string (⟨#[57]⟩ ++ q), .slice A1 n1 c1]) :: []) _) := Lib.hid (K.out.put (l1 := []) 6 (.string (⟨#[57]⟩ ++ q)))
        have HA := Lib.hid (a_nine q o1 a1 b1 s1 v1 n1)
        replace K2 := Lib.hid (K2.out.keepRow (List.mem_cons_self ..))
        refine wp_of_eq (c' := ((Tryd.f6.body.bind (regionN 28)).getD .skip)) ?_ (by kernel_rfl)
        refine right28 _ _ _ _ _ _ _ _ _ _ _ _ _ _ _ _ _ _ _ _ _ _ _ _ _ _ _ _ _ _ _ _ _ _ _ _ _ _ _ _ _ _ _ _ _ _ _ _ _ _ _ _ _ _ _ _ _ _ _ _ _ _ _ _ _ _ _ _ _ _ _ _ _ _ _ _ _ _ _ _ _ _ _  K2.out (fun X h => h.2) (fun _ _ _  gN h wx hK4 => ?_)
        replace K := Lib.hid hK4; clear hK4 K2
        have p1 : ∀ j, wx.cell? ⟨g, j, none⟩ = (#[.int .i64 1, .string o1, .int .i64 a1, .int .i64 b1, .string s1, .string v1, .string (⟨#[57]⟩ ++ q), .slice A1 n1 c1] : Array Value)[j]? := K.out.p.1.1.2.cell
        go_wp2_with fail
        clear p1
        go_at_call 12
        refine (Right_no _ _ _ _ _ _ _ _ _ _ _ HN.out.2.1 HN.out.2.2.1 (by rw [ByteArray.size_append]; show 1 + q.size ≤ maxLen; unfold maxLen; omega) (by have := HN.out.2.2.2.2; omega) HA.out).mono ?_
        rintro e x1 ⟨rfl, hb⟩
        replace K := Lib.hid (K.out.go hb); clear hb
        have p2 : ∀ j, x1.cell? ⟨h, j, none⟩ = (NC bPlus (some ⟨gN, 0, none⟩) 2 2 : Array Value)[j]? := K.out.p.2.cell
        go_wp2_with fail
        clear p2
        go_at_call 12
        refine (Right_up _ HA.out HN.out.2.1 HN.out.2.2.1 (by rw [ByteArray.size_append]; show 1 + q.size ≤ maxLen; unfold maxLen; omega) (by have := HN.out.2.2.2.2; omega) K.out.p.1.2).mono ?_
        rintro e x2 ⟨rfl, hb⟩
        replace K := Lib.hid (K.out.go hb); clear hb
        go_wp2_with fail
        go_ret
        exact ⟨rfl, K.out.bel⟩
      · have h3d : (k1 == 1) = false := beq_eq_false_iff_ne.2 h3
        go_wp2_with fail
        have K2 : Hid (Keep w (w4.setCell ⟨g, 6, none⟩ (.string q)) _ ((g, 26, #[.int .i64 k1, .string o1, .int .i64 a1, .int .i64 b1, .string s1, .string v1, .string q, .slice A1 n1 c1]) :: []) _) := Lib.hid (K.out.put (l1 := []) 6 (.string q))
        have HA := Lib.hid (a_f (k := k1) (by omega) HQ0.out o1 a1 b1 s1 v1 n1)
        replace K2 := Lib.hid (K2.out.keepRow (List.mem_cons_self ..))
        refine wp_of_eq (c' := ((Tryd.f6.body.bind (regionN 28)).getD .skip)) ?_ (by kernel_rfl)
        refine right28 _ _ _ _ _ _ _ _ _ _ _ _ _ _ _ _ _ _ _ _ _ _ _ _ _ _ _ _ _ _ _ _ _ _ _ _ _ _ _ _ _ _ _ _ _ _ _ _ _ _ _ _ _ _ _ _ _ _ _ _ _ _ _ _ _ _ _ _ _ _ _ _ _ _ _ _ _ _ _ _ _ _ _  K2.out (fun X h => h.2) (fun _ _ _  gN h wx hK4 => ?_)
        replace K := Lib.hid hK4; clear hK4 K2
        have p1 : ∀ j, wx.cell? ⟨g, j, none⟩ = (#[.int .i64 k1, .string o1, .int .i64 a1, .int .i64 b1, .string s1, .string v1, .string q, .slice A1 n1 c1] : Array Value)[j]? := K.out.p.1.1.2.cell
        go_wp2_with fail
        clear p1
        go_at_call 12
        refine (Right_no _ _ _ _ _ _ _ _ _ _ _ HN.out.2.1 HN.out.2.2.1 (by unfold maxLen; omega) (by have := HN.out.2.2.2.2; omega) HA.out).mono ?_
        rintro e x1 ⟨rfl, hb⟩
        replace K := Lib.hid (K.out.go hb); clear hb
        have p2 : ∀ j, x1.cell? ⟨h, j, none⟩ = (NC bPlus (some ⟨gN, 0, none⟩) 2 2 : Array Value)[j]? := K.out.p.2.cell
        go_wp2_with fail
        clear p2
        go_at_call 12
        refine (Right_up _ HA.out HN.out.2.1 HN.out.2.2.1 (by unfold maxLen; omega) (by have := HN.out.2.2.2.2; omega) K.out.p.1.2).mono ?_
        rintro e x2 ⟨rfl, hb⟩
        replace K := Lib.hid (K.out.go hb); clear hb
        go_wp2_with fail
        go_ret
        exact ⟨rfl, K.out.bel⟩
    · have hwr : IntKind.i64.wrap (-1 - k1) = -1 - k1 := IntWalk.i64_in _ (by omega)
      go_wp2_with fail
      have K2 : Hid (Keep w (w4.setCell ⟨g, 0, none⟩ (.int .i64 (-1 - k1))) _ ((g, 26, #[.int .i64 (-1 - k1), .string o1, .int .i64 a1, .int .i64 b1, .string s1, .string v1, .string f1, .slice A1 n1 c1]) :: []) _) := Lib.hid (K.out.put (l1 := []) 0 (.int .i64 (-1 - k1)))
      have HA := Lib.hid (a_kind hk0 o1 a1 b1 s1 v1 f1 n1)
      replace K2 := Lib.hid (K2.out.keepRow (List.mem_cons_self ..))
      refine wp_of_eq (c' := ((Tryd.f6.body.bind (regionN 28)).getD .skip)) ?_ (by kernel_rfl)
      refine right28 _ _ _ _ _ _ _ _ _ _ _ _ _ _ _ _ _ _ _ _ _ _ _ _ _ _ _ _ _ _ _ _ _ _ _ _ _ _ _ _ _ _ _ _ _ _ _ _ _ _ _ _ _ _ _ _ _ _ _ _ _ _ _ _ _ _ _ _ _ _ _ _ _ _ _ _ _ _ _ _ _ _ _  K2.out (fun X h => h.2) (fun _ _ _  gN h wx hK4 => ?_)
      replace K := Lib.hid hK4; clear hK4 K2
      have p1 : ∀ j, wx.cell? ⟨g, j, none⟩ = (#[.int .i64 (-1 - k1), .string o1, .int .i64 a1, .int .i64 b1, .string s1, .string v1, .string f1, .slice A1 n1 c1] : Array Value)[j]? := K.out.p.1.1.2.cell
      go_wp2_with fail
      clear p1
      go_at_call 12
      refine (Right_no _ _ _ _ _ _ _ _ _ _ _ HN.out.2.1 HN.out.2.2.1 HN.out.2.2.2.1 (by have := HN.out.2.2.2.2; omega) HA.out).mono ?_
      rintro e x1 ⟨rfl, hb⟩
      replace K := Lib.hid (K.out.go hb); clear hb
      have p2 : ∀ j, x1.cell? ⟨h, j, none⟩ = (NC bPlus (some ⟨gN, 0, none⟩) 2 2 : Array Value)[j]? := K.out.p.2.cell
      go_wp2_with fail
      clear p2
      go_at_call 12
      refine (Right_up _ HA.out HN.out.2.1 HN.out.2.2.1 HN.out.2.2.2.1 (by have := HN.out.2.2.2.2; omega) K.out.p.1.2).mono ?_
      rintro e x2 ⟨rfl, hb⟩
      replace K := Lib.hid (K.out.go hb); clear hb
      go_wp2_with fail
      go_ret
      exact ⟨rfl, K.out.bel⟩
    · go_wp2_with (go_at_call 26; (with_reducible refine (two_ev ⟨#[61]⟩ k1 o1 a1 b1 s1 v1 f1 A1 n1 c1 k1 o1 a1 b1 s1 v1 f1 A1 n1 c1 _).mono ?_); rintro e w5 ⟨rfl, hb, -⟩; have K5 := Lib.hid (K.out.go hb); clear hb; obtain ⟨r0, r1, r2⟩ := K5.out.head)
      have K2 := Lib.hid (K5.out.put8_ (.int .i64 4) (.string ⟨#[61]⟩) (.int .i64 0) (.int .i64 0) (.string e0) (.string e0) (.string e0) (.slice (some ⟨w4.heap.size + 1 + 1 + 1, 0, none⟩) 2 2))
      have HA := Lib.hid (a_eq)
      replace K2 := Lib.hid (K2.out.keepRow (List.mem_cons_self ..))
      refine wp_of_eq (c' := ((Tryd.f6.body.bind (regionN 28)).getD .skip)) ?_ (by kernel_rfl)
      refine right28 _ _ _ _ _ _ _ _ _ _ _ _ _ _ _ _ _ _ _ _ _ _ _ _ _ _ _ _ _ _ _ _ _ _ _ _ _ _ _ _ _ _ _ _ _ _ _ _ _ _ _ _ _ _ _ _ _ _ _ _ _ _ _ _ _ _ _ _ _ _ _ _ _ _ _ _ _ _ _ _ _ _ _  K2.out (fun X h => h.2) (fun _ _ _  gN h wx hK4 => ?_)
      replace K := Lib.hid hK4; clear hK4 K2
      have p1 : ∀ j, wx.cell? ⟨g, j, none⟩ = (#[.int .i64 4, .string ⟨#[61]⟩, .int .i64 0, .int .i64 0, .string e0, .string e0, .string e0, .slice (some ⟨w4.heap.size + 1 + 1 + 1, 0, none⟩) 2 2] : Array Value)[j]? := K.out.p.1.1.2.cell
      go_wp2_with fail
      clear p1
      go_at_call 12
      refine (Right_no _ _ _ _ _ _ _ _ _ _ _ (by decide) (by decide) (by decide) (by decide) HA.out).mono ?_
      rintro e x1 ⟨rfl, hb⟩
      replace K := Lib.hid (K.out.go hb); clear hb
      have p2 : ∀ j, x1.cell? ⟨h, j, none⟩ = (NC bPlus (some ⟨gN, 0, none⟩) 2 2 : Array Value)[j]? := K.out.p.2.cell
      go_wp2_with fail
      clear p2
      go_at_call 12
      refine (Right_up _ HA.out (by decide) (by decide) (by decide) (by decide) K.out.p.1.2).mono ?_
      rintro e x2 ⟨rfl, hb⟩
      replace K := Lib.hid (K.out.go hb); clear hb
      go_wp2_with fail
      go_ret
      exact ⟨rfl, K.out.bel⟩
end Go.Proofs.YtfkcjlpocfjmdaaDoor
