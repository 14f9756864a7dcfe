/- The walk of QueryLimits. -/
import Derived.Test.YtenmbahfgfmjjaaDoorLim9
import Derived.Deep.DeepCutAuto
import Derived.Deep.CutBlock
namespace Go.Proofs.YtenmbahfgfmjjaaDoor
open Go.ChangeShapes Go.WideShapes Go.ChangeAt Go.RowKit Go.Maps
set_option linter.unusedVariables false
set_option linter.unusedSimpArgs false

theorem szSt (W : World) : (sizeOf (Tryd.prog.elem 33)).run Tryd.prog W = .ok 1 W := by kernel_rfl
theorem undSt : Tryd.prog.underlying 33 = some (.slice (Tryd.prog.elem 33)) := by kernel_rfl
abbrev nms11 : List ByteArray := [⟨#[97]⟩, ⟨#[98]⟩, ⟨#[99]⟩, ⟨#[100]⟩, ⟨#[101]⟩, ⟨#[102]⟩, ⟨#[103]⟩, ⟨#[104]⟩, ⟨#[105]⟩, ⟨#[106]⟩, ⟨#[107]⟩]
def nm11 (i : Nat) : ByteArray := nms11.getD i ⟨#[]⟩
theorem nm11_ok : ∀ s ∈ nms11, nameB s = true := by decide +kernel
theorem nm11_nodup : nms11.Nodup := by simp
theorem nm11_mem (i : Nat) (h : i < 11) : nm11 i ∈ nms11 := by
  rcases (by omega : i = 0 ∨ i = 1 ∨ i = 2 ∨ i = 3 ∨ i = 4 ∨ i = 5 ∨ i = 6 ∨ i = 7 ∨ i = 8 ∨ i = 9 ∨ i = 10) with rfl | rfl | rfl | rfl | rfl | rfl | rfl | rfl | rfl | rfl | rfl <;> simp [nm11]
theorem names_take (k : Nat) : namesB (nms11.take k) = true := namesB_iff.2 ⟨fun s hs => nm11_ok s (List.mem_of_mem_take hs), nm11_nodup.sublist (List.take_sublist _ _)⟩
def limP (m i : Nat) : Pt := ⟨false, false, nms11.take m, nm11 i, []⟩
def limPs (m n : Nat) : List Pt := (List.range n).map (limP m)
def limO (i : Nat) : Ot := ⟨nm11 i, .lit 1 (i : Int) e0⟩
def limOs (o : Nat) : List Ot := (List.range o).map limO
def limQ (n m o : Nat) : Qy := ⟨xq, false, limPs m n, 0, e0, limOs o⟩
theorem lit_ok (i : Nat) (hi : i ≤ 100) : Tr.ok (.lit 1 (i : Int) e0) = true := by
  unfold Tr.ok
  have h1 : Val.right 1 (i : Int) e0 = true := by
    unfold Val.right
    rw [if_pos rfl]; decide +kernel
  have h2 : decide ((i : Int) < 0) = false := decide_eq_false (by omega)
  rw [h1, h2]; decide +kernel
theorem range_names (k : Nat) (hk : k ≤ 11) : (List.range k).map nm11 = nms11.take k := by
  rcases (by omega : k = 0 ∨ k = 1 ∨ k = 2 ∨ k = 3 ∨ k = 4 ∨ k = 5 ∨ k = 6 ∨ k = 7 ∨ k = 8 ∨ k = 9 ∨ k = 10 ∨ k = 11) with rfl | rfl | rfl | rfl | rfl | rfl | rfl | rfl | rfl | rfl | rfl | rfl <;> rfl
theorem lim_outs (o : Nat) (ho : o ≤ 8) : outsB (limOs o) = decide (o ≤ 6) := by
  have h1 : (limOs o).map (·.f) = nms11.take o := by
    rw [← range_names o (by omega)]; unfold limOs; rw [List.map_map]; rfl
  have h2 : (limOs o).all (·.e.ok) = true := List.all_eq_true.2 (fun x hx => by
    obtain ⟨i, hi, rfl⟩ := List.mem_map.1 hx
    exact lit_ok i (by simp at hi; omega))
  unfold outsB
  rw [h1, h2, names_take]
  simp [limOs]
theorem lim_parts (n m : Nat) (hn : n ≤ 10) (hm : m ≤ 6) : partsB false (limPs m n) = (decide (1 ≤ n) && decide (n ≤ 8) && decide (1 ≤ m) && decide (m ≤ 4)) := by
  have hp : ∀ i, partB (limP m i) = (decide (1 ≤ m) && decide (m ≤ 4)) := fun i => by
    have e : (nms11.take m).length = m := by rw [List.length_take]; simp; omega
    unfold partB limP
    simp only
    rw [e, names_take]
    simp
  have h1 : (limPs m n).map (·.v) = nms11.take n := by
    rw [← range_names n (by omega)]; unfold limPs; rw [List.map_map]; rfl
  have h2 : (limPs m n).any (·.nt) = false := by
    rw [List.any_eq_false]
    intro x hx
    obtain ⟨i, hi, rfl⟩ := List.mem_map.1 hx
    simp [limP]
  have h3 : ((limPs m n).head?.map (·.nt)).getD false = false := by
    cases n with
    | zero => rfl
    | succ n => simp [limPs, List.range_succ_eq_map, limP]
  have h4 : 1 ≤ n → (limPs m n).all partB = (decide (1 ≤ m) && decide (m ≤ 4)) := fun h => by
    rw [Bool.eq_iff_iff, List.all_eq_true]
    constructor
    · intro ha
      have := ha (limP m 0) (List.mem_map.2 ⟨0, by simp; omega, rfl⟩)
      rw [hp] at this; exact this
    · intro hb x hx
      obtain ⟨i, hi, rfl⟩ := List.mem_map.1 hx
      rw [hp]; exact hb
  have hl : (limPs m n).length = n := by simp [limPs]
  unfold partsB
  rw [h1, h2, h3, hl, names_take]
  by_cases h : 1 ≤ n
  · rw [h4 h]; simp [h, Bool.and_assoc]
  · simp [h]
theorem lim_right (n m o : Nat) (hn : n ≤ 10) (hm : m ≤ 6) (ho : o ≤ 8) : queryB (limQ n m o) = (decide (1 ≤ n) && decide (n ≤ 8) && decide (1 ≤ m) && decide (m ≤ 4) && decide (o ≤ 6)) := by
  have a1 : nameB xq = true := by decide +kernel
  have a2 : decide (e0.size = 0) = true := by decide
  unfold queryB limQ
  simp only
  rw [a1, a2, lim_parts n m hn hm, lim_outs o ho]
  simp
theorem lim_qok (n m o : Nat) (hn : n ≤ 10) (hm : m ≤ 6) (ho : o ≤ 8) : QOk (limQ n m o) := by
  refine ⟨fun p hp t ht => ?_, fun x hx => ?_, fun p hp => ?_, fun p hp => ?_, by simp [limQ, limPs]; omega, by simp [limQ, limOs]; omega⟩
  · obtain ⟨i, hi, rfl⟩ := List.mem_map.1 hp
    simp [limP] at ht
  · obtain ⟨i, hi, rfl⟩ := List.mem_map.1 hx
    exact lit_ok i (by simp at hi; omega)
  · obtain ⟨i, hi, rfl⟩ := List.mem_map.1 hp
    simp [limP]; omega
  · obtain ⟨i, hi, rfl⟩ := List.mem_map.1 hp
    simp [limP]
set_option maxRecDepth 20000 in
set_option maxHeartbeats 8000000 in
theorem walk_QueryLimits (a b c : Int) (l0 : 0 ≤ a) (u0 : a ≤ 255) (l1 : 0 ≤ b) (u1 : b ≤ 255) (l2 : 0 ≤ c) (u2 : c ≤ 255) (w : World) (hT : Tab w) :
    Calls Tryd.prog 6 #[.int .u8 a, .int .u8 b, .int .u8 c] w fun e w' => e = .returned (.bool true) ∧ Below w.heap.size w w' := by
  obtain ⟨an, rfl⟩ := Int.eq_ofNat_of_zero_le l0
  obtain ⟨bn, rfl⟩ := Int.eq_ofNat_of_zero_le l1
  obtain ⟨cn, rfl⟩ := Int.eq_ofNat_of_zero_le l2
  obtain ⟨n, hn⟩ : ∃ n, n = an % 11 := ⟨_, rfl⟩
  obtain ⟨m, hm⟩ : ∃ m, m = bn % 7 := ⟨_, rfl⟩
  obtain ⟨o, ho⟩ : ∃ o, o = cn % 9 := ⟨_, rfl⟩
  have n1 : (an : Int) % 11 = (n : Int) := by omega
  have n2 : Int.tmod (an : Int) 11 = (n : Int) := by rw [Int.tmod_eq_emod_of_nonneg (by omega)]; omega
  have m1 : (bn : Int) % 7 = (m : Int) := by omega
  have m2 : Int.tmod (bn : Int) 7 = (m : Int) := by rw [Int.tmod_eq_emod_of_nonneg (by omega)]; omega
  have o1 : (cn : Int) % 9 = (o : Int) := by omega
  have o2 : Int.tmod (cn : Int) 9 = (o : Int) := by rw [Int.tmod_eq_emod_of_nonneg (by omega)]; omega
  have hn10 : n ≤ 10 := by omega
  have hm6 : m ≤ 6 := by omega
  have ho8 : o ≤ 8 := by omega
  clear hn hm ho
  have n3 : IntKind.u8.wrap (n : Int) = (n : Int) := IntWalk.u8_in _ (by omega)
  have m3 : IntKind.u8.wrap (m : Int) = (m : Int) := IntWalk.u8_in _ (by omega)
  have o3 : IntKind.u8.wrap (o : Int) = (o : Int) := IntWalk.u8_in _ (by omega)
  have n4 : IntKind.i64.wrap (n : Int) = (n : Int) := IntWalk.i64_in _ (by omega)
  have m4 : IntKind.i64.wrap (m : Int) = (m : Int) := IntWalk.i64_in _ (by omega)
  have o4 : IntKind.i64.wrap (o : Int) = (o : Int) := IntWalk.i64_in _ (by omega)
  go_enter Tryd.func6, Tryd.ntmps6
  go_wp2_with fail
  try go_at_call 7
  refine (examples_any w hT).mono ?_
  rintro e w1 ⟨rfl, b1⟩
  have bn1 := ba w1 (.cells #[.string ⟨#[97]⟩, .string ⟨#[98]⟩, .string ⟨#[99]⟩, .string ⟨#[100]⟩, .string ⟨#[101]⟩, .string ⟨#[102]⟩, .string ⟨#[103]⟩, .string ⟨#[104]⟩, .string ⟨#[105]⟩, .string ⟨#[106]⟩, .string ⟨#[107]⟩] 9)
  have BN := Blk.new w1 9 #[.string ⟨#[97]⟩, .string ⟨#[98]⟩, .string ⟨#[99]⟩, .string ⟨#[100]⟩, .string ⟨#[101]⟩, .string ⟨#[102]⟩, .string ⟨#[103]⟩, .string ⟨#[104]⟩, .string ⟨#[105]⟩, .string ⟨#[106]⟩, .string ⟨#[107]⟩]
  obtain ⟨wb, hwb⟩ : ∃ wb, wb = w1.alloc (.cells #[.string ⟨#[97]⟩, .string ⟨#[98]⟩, .string ⟨#[99]⟩, .string ⟨#[100]⟩, .string ⟨#[101]⟩, .string ⟨#[102]⟩, .string ⟨#[103]⟩, .string ⟨#[104]⟩, .string ⟨#[105]⟩, .string ⟨#[106]⟩, .string ⟨#[107]⟩] 9) := ⟨_, rfl⟩
  rw [← hwb] at bn1 BN
  have hA : At wb 1 scV (.slice (some ⟨w1.heap.size, 0, none⟩) 11 11) nms11 := at_blk (k := 1) (f := scV) (fun _ => rfl) nms11 BN rfl (by unfold maxLen; omega) rfl
  obtain ⟨A', c', hrun, hat⟩ := At.upto (P := Tryd.prog) undSt szSt hA m (by simp; omega)
  have hz : ∀ i, i < 11 → wb.cell? ⟨w1.heap.size, i, none⟩ = some (.string (nm11 i)) := fun i hi => by
    rw [BN.cell i]
    rcases (by omega : i = 0 ∨ i = 1 ∨ i = 2 ∨ i = 3 ∨ i = 4 ∨ i = 5 ∨ i = 6 ∨ i = 7 ∨ i = 8 ∨ i = 9 ∨ i = 10) with rfl | rfl | rfl | rfl | rfl | rfl | rfl | rfl | rfl | rfl | rfl <;> rfl
  obtain ⟨_, _, hsh, _, _, _⟩ := hat.shape
  have hBq := Blk.new wb 27 #[.string xq, .bool false, .slice none 0 0, .int .i64 0, .string e0, .slice none 0 0]
  have bq := ba wb (.cells #[.string xq, .bool false, .slice none 0 0, .int .i64 0, .string e0, .slice none 0 0] 27)
  have hwbs : wb.heap.size = w1.heap.size + 1 := by rw [hwb]; exact World.size_alloc _ _
  rw [hwbs] at hBq
  have K := Lib.hid (And.intro (bt b1 bn1) (And.intro hz (And.intro hat (And.intro hBq bq)))); clear b1 bn1 BN hA hz hat hBq bq hsh
  have HR := Lib.hid hrun; clear hrun
  go_upto_region 9 with fail
  try rw [← hwb]
  go_wp2_with fail
  try rw [← hwb]
  clear hwb
  go_loopw [13] (fun iv wr => ∃ (i : Nat) (pv : Value) (l : List Px), i ≤ n ∧ iv = .int .i64 (i : Int) ∧ Blk wr (w1.heap.size + 1) 27 #[.string xq, .bool false, pv, .int .i64 0, .string e0, .slice none 0 0] ∧ Own wr (w1.heap.size + 1 + 1) 37 5 ptF pv l ∧ l = (List.range i).map (fun j => (limP m j, (A', m, c'), ((none, 0, 0) : SV))) ∧ Below wb.heap.size wb wr) (fun iv _ => n - (intOf iv).toNat)
  case atStart => exact ⟨0, _, [], Nat.zero_le _, rfl, K.out.2.2.2.1, Own.nil _ _ _ _ _, rfl, K.out.2.2.2.2⟩
  case round =>
    rename World => wr
    obtain ⟨i, pv, l, hi, rfl, hB, hO, hl, hb⟩ := hrel
    by_cases hlt : i < n
    · obtain ⟨pA, pn, pc, rfl⟩ := own_shape hO
      have U := Lib.hid (And.intro hB (And.intro hO (And.intro hl hb))); clear hB hO hl hb
      go_upto_region 12 with fail
      refine wp_of_eq (c' := ((Tryd.f6.body.bind (regionN 12)).getD .skip)) ?_ (by kernel_rfl)
      refine lim12 _ _ _ _ _ _ _ _ _ _ _ _ _ _ _ _ _ _ _ _ _ _ _ _ _ _ _ _ _ _ _ _ _ _ _ _ _ _ _ _ _ _ _ _ _ _ _ _ _ _ _ _ _ _ _ _ _ _ _ _ _ _ _ _ _ _ _ _ _ _ _ _ _ _ _ _ _ _ _ _ _ _ _ _ U.out.1 U.out.2.1 U.out.2.2.2 (Nat.le_of_eq hwbs) (by rw [U.out.2.2.1]; simp; omega) (by omega) (K.out.2.1 i (by omega)) HR.out (ss := nms11.take m) (fun x0 x1 x2 x3 x4 x5 x6 x7 x8 x9 x10 x11 x12 v12 wx hR => ?_)
      have Y := Lib.hid hR; clear hR
      go_wp2_with fail
      go_roundw
      case rel => exact ⟨i + 1, v12, _, by omega, by go_num, Y.out.1, Y.out.2.1, by rw [U.out.2.2.1, List.range_succ, List.map_append]; rfl, Y.out.2.2⟩
      case measure => simp [intOf]; omega
    · obtain rfl : i = n := by omega
      have U := Lib.hid (And.intro hB (And.intro hO (And.intro hl hb))); clear hB hO hl hb
      go_wp2_with fail
      go_loopw [14] (fun iv wr => ∃ (k : Nat) (ov : Value) (l2 : List Oy), k ≤ o ∧ iv = .int .i64 (k : Int) ∧ Blk wr (w1.heap.size + 1) 27 #[.string xq, .bool false, pv, .int .i64 0, .string e0, ov] ∧ Own wr (w1.heap.size + 1 + 1) 45 9 otS ov l2 ∧ l2 = (List.range k).map (fun j => (limO j, ((none, 0, 0) : SV))) ∧ Below wb.heap.size wb wr ∧ Own wr (w1.heap.size + 1 + 1) 37 5 ptF pv l) (fun iv _ => o - (intOf iv).toNat)
      case atStart => exact ⟨0, _, [], Nat.zero_le _, rfl, U.out.1, Own.nil _ _ _ _ _, rfl, U.out.2.2.2, U.out.2.1⟩
      case round =>
        rename World => wr2
        obtain ⟨k, ov, l2, hk, rfl, hB, hO, hl2, hb, hO2⟩ := hrel
        by_cases hlt2 : k < o
        · obtain ⟨pA, pn, pc, rfl⟩ := own_shape hO
          have V := Lib.hid (And.intro hB (And.intro hO (And.intro hl2 (And.intro hb hO2)))); clear hB hO hl2 hb hO2
          go_upto_region 16 with fail
          refine wp_of_eq (c' := ((Tryd.f6.body.bind (regionN 16)).getD .skip)) ?_ (by kernel_rfl)
          refine lim16 _ _ _ _ _ _ _ _ _ _ _ _ _ _ _ _ _ _ _ _ _ _ _ _ _ _ _ _ _ _ _ _ _ _ _ _ _ _ _ _ _ _ _ _ _ _ _ _ _ _ _ _ _ _ _ _ _ _ _ _ _ _ _ _ _ _ _ _ _ _ _ _ _ _ _ _ _ _ _ _ _ _ _ _ _ V.out.1 V.out.2.1 V.out.2.2.2.1 (Nat.le_of_eq hwbs) (by rw [V.out.2.2.1]; simp; omega) V.out.2.2.2.2 (by omega) (K.out.2.1 k (by omega)) (fun x0 x1 x2 x3 x4 x5 x6 x7 x8 x9 x10 x11 v16 wx hR => ?_)
          have Y := Lib.hid hR; clear hR
          go_wp2_with fail
          go_roundw
          case rel => exact ⟨k + 1, v16, _, by omega, by go_num, Y.out.1, Y.out.2.1, by rw [V.out.2.2.1, List.range_succ, List.map_append]; rfl, Y.out.2.2.1, Y.out.2.2.2⟩
          case measure => simp [intOf]; omega
        · obtain rfl : k = o := by omega
          have hQ : QyAt wr2 pv ov (limQ i m k) := by
            refine ⟨⟨l, hO2.at_ (f := ptF) (k := 5) (fun _ => rfl), by rw [U.out.2.2.1, List.map_map]; rfl, fun x hx => ?_⟩, ⟨l2.map (fun x => (x.1, sl x.2)), at_map (hO.at_ (f := otS) (k := 9) (fun _ => rfl)), by rw [hl2, List.map_map, List.map_map]; rfl, fun x hx => ?_⟩, by show xq.size ≤ maxLen; decide, by show e0.size ≤ maxLen; decide⟩
            · rw [U.out.2.2.1] at hx
              obtain ⟨j, hj, rfl⟩ := List.mem_map.1 hx
              refine ⟨K.out.2.2.1.later hb, ⟨[], At.nil _ _ _, rfl, fun x hx => by simp at hx⟩, nameB_size (nm11_ok _ (nm11_mem j (by simp at hj; omega))), fun s hs => nameB_size (nm11_ok s (List.mem_of_mem_take hs))⟩
            · rw [hl2, List.map_map] at hx
              obtain ⟨j, hj, rfl⟩ := List.mem_map.1 hx
              exact ⟨rfl, nameB_size (nm11_ok _ (nm11_mem j (by simp at hj; omega)))⟩
          have cR := RightQ_any (limQ i m k) pv ov wr2 hQ (lim_qok i m k hn10 hm6 ho8)
          rw [lim_right i m k hn10 hm6 ho8] at cR
          obtain ⟨pA, pn, pc, rfl⟩ := own_shape hO2
          obtain ⟨qA, qn, qc, rfl⟩ := own_shape hO
          have p1 := hB.cell
          have V := Lib.hid (And.intro cR hb); clear cR hb hQ hO hO2 hl2 hB
          obtain ⟨d1, hd1⟩ : ∃ d1, d1 = decide (1 ≤ i) := ⟨_, rfl⟩
          obtain ⟨d2, hd2⟩ : ∃ d2, d2 = decide (i ≤ 8) := ⟨_, rfl⟩
          obtain ⟨d3, hd3⟩ : ∃ d3, d3 = decide (1 ≤ m) := ⟨_, rfl⟩
          obtain ⟨d4, hd4⟩ : ∃ d4, d4 = decide (m ≤ 4) := ⟨_, rfl⟩
          obtain ⟨d5, hd5⟩ : ∃ d5, d5 = decide (k ≤ 6) := ⟨_, rfl⟩
          have VC := V.out.1
          rw [← hd1, ← hd2, ← hd3, ← hd4, ← hd5] at VC
          have VC := Lib.hid VC
          clear U
          go_wp2_with fail
          try go_at_call 9
          refine VC.out.mono ?_
          rintro e w9 ⟨rfl, b9⟩
          have B9 := Lib.hid (bt K.out.1 (bt V.out.2 b9)); clear b9 p1 V VC
          cases d1 with
          | false =>
            have h1 : ¬ 1 ≤ i := of_decide_eq_false hd1.symm
            have f1 : decide (1 ≤ i) = false := hd1.symm
            clear hd1 hd2 hd3 hd4 hd5
            go_wp2_with fail
            go_ret
            exact ⟨rfl, B9.out⟩
          | true =>
            have h1 : 1 ≤ i := of_decide_eq_true hd1.symm
            have f1 : decide (1 ≤ i) = true := hd1.symm
            cases d2 with
            | false =>
              have h2 : ¬ i ≤ 8 := of_decide_eq_false hd2.symm
              have f2 : decide (i ≤ 8) = false := hd2.symm
              clear hd1 hd2 hd3 hd4 hd5
              go_wp2_with fail
              go_ret
              exact ⟨rfl, B9.out⟩
            | true =>
              have h2 : i ≤ 8 := of_decide_eq_true hd2.symm
              have f2 : decide (i ≤ 8) = true := hd2.symm
              cases d3 with
              | false =>
                have h3 : ¬ 1 ≤ m := of_decide_eq_false hd3.symm
                have f3 : decide (1 ≤ m) = false := hd3.symm
                clear hd1 hd2 hd3 hd4 hd5
                go_wp2_with fail
                go_ret
                exact ⟨rfl, B9.out⟩
              | true =>
                have h3 : 1 ≤ m := of_decide_eq_true hd3.symm
                have f3 : decide (1 ≤ m) = true := hd3.symm
                cases d4 with
                | false =>
                  have h4 : ¬ m ≤ 4 := of_decide_eq_false hd4.symm
                  have f4 : decide (m ≤ 4) = false := hd4.symm
                  clear hd1 hd2 hd3 hd4 hd5
                  go_wp2_with fail
                  go_ret
                  exact ⟨rfl, B9.out⟩
                | true =>
                  have h4 : m ≤ 4 := of_decide_eq_true hd4.symm
                  have f4 : decide (m ≤ 4) = true := hd4.symm
                  cases d5 with
                  | false =>
                    have h5 : ¬ k ≤ 6 := of_decide_eq_false hd5.symm
                    have f5 : decide (k ≤ 6) = false := hd5.symm
                    clear hd1 hd2 hd3 hd4 hd5
                    go_wp2_with fail
                    go_ret
                    exact ⟨(by show Ending.returned (Value.bool (!decide ((k : Int) ≤ 6))) = _; rw [show decide ((k : Int) ≤ 6) = false from decide_eq_false (by omega)]; rfl), B9.out⟩
                  | true =>
                    have h5 : k ≤ 6 := of_decide_eq_true hd5.symm
                    have f5 : decide (k ≤ 6) = true := hd5.symm
                    clear hd1 hd2 hd3 hd4 hd5
                    go_wp2_with fail
                    go_ret
                    exact ⟨(by show Ending.returned (Value.bool (decide ((k : Int) ≤ 6))) = _; rw [show decide ((k : Int) ≤ 6) = true from decide_eq_true (by omega)]), B9.out⟩
end Go.Proofs.YtenmbahfgfmjjaaDoor
