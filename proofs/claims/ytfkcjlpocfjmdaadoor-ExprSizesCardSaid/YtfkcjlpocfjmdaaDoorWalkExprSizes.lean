/- ExprSizes: the walk. -/
import Derived.Test.YtfkcjlpocfjmdaaDoorSizesP
import Derived.Sort.Walk0
import Derived.Laws.Cover1
namespace Go.Proofs.YtfkcjlpocfjmdaaDoor
open Go.ChangeShapes Go.WideShapes Go.ChangeAt Go.RowKit
open Rk (inR)
set_option linter.unusedVariables false
set_option linter.unusedSimpArgs false

set_option maxRecDepth 20000 in
set_option maxHeartbeats 16000000 in
theorem walk_ExprSizes (v : Value) (l : List UInt8) (u : Value) (m : List UInt8) (p : Int) (w : World) (hv : BytesAt w v l) (hl : l.length ≤ 140737488351232) (hu : BytesAt w u m) (hm : m.length ≤ 140737488351232) (p0 : 0 ≤ p) (p1 : p ≤ 255) (hT : Tab w) :
    Calls Tryd.prog 5 #[v, u, .int .u8 p] w fun e w' => e = .returned (.bool true) ∧ Below w.heap.size w w' := by
  obtain ⟨VA, Vc, rfl⟩ := bytes_slice hv
  obtain ⟨UA, Uc, rfl⟩ := bytes_slice hu
  have K := Lib.hid (Keep.start w (fun X => Tab X ∧ BytesAt X (.slice VA l.length Vc) l ∧ BytesAt X (.slice UA m.length Uc) m) ⟨hT, hv, hu⟩ (fun _ _ hb h => ⟨h.1.later hb, h.2.1.later hb, h.2.2.later hb⟩))
  clear hT hv hu
  go_enter Tryd.func5, Tryd.ntmps5
  go_wp2_with fail
  go_at_call 9
  refine (examples_any _ K.out.p.1).mono ?_
  rintro e w1 ⟨rfl, hb⟩
  replace K := Lib.hid (K.out.go hb); clear hb
  go_wp2_with fail
  go_at_call 10
  refine (made_v _ l _ K.out.p.2.1 hl).mono ?_
  rintro e w2 ⟨⟨ta, k1, o1, a1, b1, s1, v1, f1, A1, n1, c1, A4, n4, c4, rfl, hT, e1, hf⟩, hb⟩
  replace K := Lib.hid ((((K.out.go hb).and (Q := fun X => TrAt X ta (.slice A4 n4 c4)) hT (fun _ _ hb h => h.later hb)).more 26 #[.int .i64 k1, .string o1, .int .i64 a1, .int .i64 b1, .string s1, .string v1, .string f1, .slice A1 n1 c1]).keepRow (List.mem_cons_self ..)); clear hb hT
  have F1 := Lib.hid (And.intro e1 hf); clear e1 hf
  go_wp2_with fail
  generalize w2.alloc _ = w2' at *
  generalize w2.heap.size = g1 at *
  go_at_call 10
  refine (made_v _ m _ K.out.p.1.1.2.2 hm).mono ?_
  rintro e w3 ⟨⟨tb, k2, o2, a2, b2, s2, v2, f2, A2, n2, c2, A5, n5, c5, rfl, hT, e1, hf⟩, hb⟩
  replace K := Lib.hid ((((K.out.go hb).and (Q := fun X => TrAt X tb (.slice A5 n5 c5)) hT (fun _ _ hb h => h.later hb)).more 26 #[.int .i64 k2, .string o2, .int .i64 a2, .int .i64 b2, .string s2, .string v2, .string f2, .slice A2 n2 c2]).keepRow (List.mem_cons_self ..)); clear hb hT
  have F2 := Lib.hid (And.intro e1 hf); clear e1 hf
  go_wp2_with fail
  generalize w3.alloc _ = w3' at *
  generalize w3.heap.size = g2 at *
  go_at_call 17
  refine (Ops_any _).mono ?_
  rintro e w4 ⟨rfl, rfl⟩
  replace K := Lib.hid ((K.out.more 9 opsC).keepRow (List.mem_cons_self ..))
  generalize w3'.alloc _ = w5 at *
  generalize w3'.heap.size = g0 at *
  obtain ⟨o, hX, hlo, hso⟩ := op_pick (p % 13).toNat (by omega)
  replace K := Lib.hid (K.out.weak (Q := fun X => Tab X ∧ (TrAt X ta (.slice A4 n4 c4) ∧ TrAt X tb (.slice A5 n5 c5)) ∧ (Blk X g1 26 #[.int .i64 k1, .string o1, .int .i64 a1, .int .i64 b1, .string s1, .string v1, .string f1, .slice A1 n1 c1] ∧ Blk X g2 26 #[.int .i64 k2, .string o2, .int .i64 a2, .int .i64 b2, .string s2, .string v2, .string f2, .slice A2 n2 c2]) ∧ Blk X g0 9 opsC) (fun X h => ⟨h.1.1.1.1.1.1, ⟨h.1.1.1.1.2, h.1.1.2⟩, ⟨h.1.1.1.2, h.1.2⟩, h.2⟩) (fun _ _ hb h => ⟨h.1.later hb, ⟨h.2.1.1.later hb, h.2.1.2.later hb⟩, ⟨h.2.2.1.1.later hb, h.2.2.1.2.later hb⟩, h.2.2.2.later hb⟩))
  have hg1 : ∀ X, (Tab X ∧ (TrAt X ta (.slice A4 n4 c4) ∧ TrAt X tb (.slice A5 n5 c5)) ∧ (Blk X g1 26 #[.int .i64 k1, .string o1, .int .i64 a1, .int .i64 b1, .string s1, .string v1, .string f1, .slice A1 n1 c1] ∧ Blk X g2 26 #[.int .i64 k2, .string o2, .int .i64 a2, .int .i64 b2, .string s2, .string v2, .string f2, .slice A2 n2 c2]) ∧ Blk X g0 9 opsC) → Blk X g1 26 #[.int .i64 k1, .string o1, .int .i64 a1, .int .i64 b1, .string s1, .string v1, .string f1, .slice A1 n1 c1] := fun X h => h.2.2.1.1
  go_wp2_with fail
  refine wp_of_eq (c' := ((Tryd.f5.body.bind (regionN 9)).getD .skip)) ?_ (by kernel_rfl)
  refine sizes9 _ _ _ _ _ _ _ _ _ _ _ _ _ _ _ _ _ _ _ _ _ _ _ _ _ _ _ _ _ _ _ _ _ _ _ _ _ _ _ _ _ _ _ _ _ _ _ _ _ _ _ _ _ _ _ _ _ _ _ _ _ _ _ _ _ _ _ _ _ _ _ _ _ _ _ _ _ _ _ _ _ _ _ _ _ _ _ _ _ _ _ _ _ _ _ _ _ _ _ _ _ _ _ _ _ _ _ _ _ _ _ _ _ _ _ _ _ _ _  p0 p1 K.out (fun X h => h.2.2.1.1) (fun X h => h.2.2.1.2) (fun X h => (h.2.2.2.cell _).trans hX) (fun _ _ _ _ _ _ _ _  gN h wx hK9 => ?_)
  replace K := Lib.hid (hK9.weak (Q := fun X => Tab X ∧ (TrAt X ta (.slice A4 n4 c4) ∧ TrAt X tb (.slice A5 n5 c5) ∧ TrAt X (.bin o ta tb) (.slice (some ⟨gN, 0, none⟩) 2 2)) ∧ (Blk X g1 26 #[.int .i64 k1, .string o1, .int .i64 a1, .int .i64 b1, .string s1, .string v1, .string f1, .slice A1 n1 c1] ∧ Blk X g2 26 #[.int .i64 k2, .string o2, .int .i64 a2, .int .i64 b2, .string s2, .string v2, .string f2, .slice A2 n2 c2] ∧ Blk X h 26 (NC o (some ⟨gN, 0, none⟩) 2 2))) (fun X h => ⟨h.1.1.1, ⟨h.1.1.2.1.1, h.1.1.2.1.2, bin_at h.1.1.2.1.1 F1.out.1 h.1.1.2.1.2 F2.out.1 h.1.2⟩, ⟨h.1.1.2.2.1.1, h.1.1.2.2.1.2, h.2⟩⟩) (fun _ _ hb h => ⟨h.1.later hb, ⟨h.2.1.1.later hb, h.2.1.2.1.later hb, h.2.1.2.2.later hb⟩, ⟨h.2.2.1.later hb, h.2.2.2.1.later hb, h.2.2.2.2.later hb⟩⟩))
  clear hK9 hg1 hX
  have q1 : ∀ j, wx.cell? ⟨h, j, none⟩ = (NC o (some ⟨gN, 0, none⟩) 2 2 : Array Value)[j]? := K.out.p.2.2.2.2.cell
  go_wp2_with fail
  clear q1
  have oE : (Tr.bin o ta tb).ok = true := by show (decide (0 < lvl o) && ta.ok && tb.ok) = true; rw [F1.out.2.1, F2.out.2.1, decide_eq_true hlo]; rfl
  have nE : (Tr.bin o ta tb).nodes ≤ 487 := by have := F1.out.2.2.2.2; have := F2.out.2.2.2.2; rw [Tr.nodes]; omega
  go_at_call 15
  refine (Vars_v (t := .bin o ta tb) (v := ev 4 o 0 0 e0 e0 e0 (.slice (some ⟨gN, 0, none⟩) 2 2)) rfl _ K.out.p.2.1.2.2 (ok_fits _ oE) (by omega)).mono ?_
  rintro e w6 ⟨⟨vv, r, rfl, hO, hS⟩, hb⟩
  obtain ⟨A, c, rfl, -, h2, h3⟩ := hO.shape
  have hrl : r.length ≤ 487 := Nat.le_trans (sorted_len hS) (Nat.le_trans (vars_len _) nE)
  replace K := Lib.hid ((K.out.go hb).and (Q := fun X => At X 1 scV (.slice A r.length c) r) (Own.at_ (f := scV) (fun _ => rfl) hO) (fun _ _ hb h => h.later hb)); clear hb hO
  have hmem : ∀ s, s ∈ r ↔ s ∈ ta.vars ∨ s ∈ tb.vars := fun s => by rw [hS.2 s]; show s ∈ ta.vars ++ tb.vars ↔ _; rw [List.mem_append]
  have HS := Lib.hid (And.intro hS.1 hmem); clear hS hmem
  obtain ⟨n, hn⟩ : ∃ n, n = r.length := ⟨_, rfl⟩
  rw [← hn] at K ⊢
  have hnm : n ≤ 487 := by rw [hn]; exact hrl
  clear hrl
  have HN := Lib.hid hn; clear hn h2 h3
  have hPs : ∀ A' B' : World, Below A'.heap.size A' B' → (fun X => (Tab X ∧ (TrAt X ta (.slice A4 n4 c4) ∧ TrAt X tb (.slice A5 n5 c5) ∧ TrAt X (.bin o ta tb) (.slice (some ⟨gN, 0, none⟩) 2 2)) ∧ (Blk X g1 26 #[.int .i64 k1, .string o1, .int .i64 a1, .int .i64 b1, .string s1, .string v1, .string f1, .slice A1 n1 c1] ∧ Blk X g2 26 #[.int .i64 k2, .string o2, .int .i64 a2, .int .i64 b2, .string s2, .string v2, .string f2, .slice A2 n2 c2] ∧ Blk X h 26 (NC o (some ⟨gN, 0, none⟩) 2 2))) ∧ At X 1 scV (.slice A n c) r) A' → (fun X => (Tab X ∧ (TrAt X ta (.slice A4 n4 c4) ∧ TrAt X tb (.slice A5 n5 c5) ∧ TrAt X (.bin o ta tb) (.slice (some ⟨gN, 0, none⟩) 2 2)) ∧ (Blk X g1 26 #[.int .i64 k1, .string o1, .int .i64 a1, .int .i64 b1, .string s1, .string v1, .string f1, .slice A1 n1 c1] ∧ Blk X g2 26 #[.int .i64 k2, .string o2, .int .i64 a2, .int .i64 b2, .string s2, .string v2, .string f2, .slice A2 n2 c2] ∧ Blk X h 26 (NC o (some ⟨gN, 0, none⟩) 2 2))) ∧ At X 1 scV (.slice A n c) r) B' := fun _ _ hb h => ⟨⟨h.1.1.later hb, ⟨h.1.2.1.1.later hb, h.1.2.1.2.1.later hb, h.1.2.1.2.2.later hb⟩, ⟨h.1.2.2.1.later hb, h.1.2.2.2.1.later hb, h.1.2.2.2.2.later hb⟩⟩, h.2.later hb⟩
  have hPg : ∀ X, (fun X => (Tab X ∧ (TrAt X ta (.slice A4 n4 c4) ∧ TrAt X tb (.slice A5 n5 c5) ∧ TrAt X (.bin o ta tb) (.slice (some ⟨gN, 0, none⟩) 2 2)) ∧ (Blk X g1 26 #[.int .i64 k1, .string o1, .int .i64 a1, .int .i64 b1, .string s1, .string v1, .string f1, .slice A1 n1 c1] ∧ Blk X g2 26 #[.int .i64 k2, .string o2, .int .i64 a2, .int .i64 b2, .string s2, .string v2, .string f2, .slice A2 n2 c2] ∧ Blk X h 26 (NC o (some ⟨gN, 0, none⟩) 2 2))) ∧ At X 1 scV (.slice A n c) r) X → Blk X g1 26 #[.int .i64 k1, .string o1, .int .i64 a1, .int .i64 b1, .string s1, .string v1, .string f1, .slice A1 n1 c1] := fun X h => h.1.2.2.1
  have hPg2 : ∀ X, (fun X => (Tab X ∧ (TrAt X ta (.slice A4 n4 c4) ∧ TrAt X tb (.slice A5 n5 c5) ∧ TrAt X (.bin o ta tb) (.slice (some ⟨gN, 0, none⟩) 2 2)) ∧ (Blk X g1 26 #[.int .i64 k1, .string o1, .int .i64 a1, .int .i64 b1, .string s1, .string v1, .string f1, .slice A1 n1 c1] ∧ Blk X g2 26 #[.int .i64 k2, .string o2, .int .i64 a2, .int .i64 b2, .string s2, .string v2, .string f2, .slice A2 n2 c2] ∧ Blk X h 26 (NC o (some ⟨gN, 0, none⟩) 2 2))) ∧ At X 1 scV (.slice A n c) r) X → Blk X g2 26 #[.int .i64 k2, .string o2, .int .i64 a2, .int .i64 b2, .string s2, .string v2, .string f2, .slice A2 n2 c2] := fun X h => h.1.2.2.2.1
  have hV1 : ∀ X, (fun X => (Tab X ∧ (TrAt X ta (.slice A4 n4 c4) ∧ TrAt X tb (.slice A5 n5 c5) ∧ TrAt X (.bin o ta tb) (.slice (some ⟨gN, 0, none⟩) 2 2)) ∧ (Blk X g1 26 #[.int .i64 k1, .string o1, .int .i64 a1, .int .i64 b1, .string s1, .string v1, .string f1, .slice A1 n1 c1] ∧ Blk X g2 26 #[.int .i64 k2, .string o2, .int .i64 a2, .int .i64 b2, .string s2, .string v2, .string f2, .slice A2 n2 c2] ∧ Blk X h 26 (NC o (some ⟨gN, 0, none⟩) 2 2))) ∧ At X 1 scV (.slice A n c) r) X → Calls Tryd.prog 15 #[ev k1 o1 a1 b1 s1 v1 f1 (.slice A1 n1 c1)] X fun e w' => VarsT X ta e w' ∧ Below X.heap.size X w' := fun X h => Vars_v F1.out.1 _ h.1.2.1.1 (ok_fits _ F1.out.2.1) (by have := F1.out.2.2.2.2; omega)
  have hV2 : ∀ X, (fun X => (Tab X ∧ (TrAt X ta (.slice A4 n4 c4) ∧ TrAt X tb (.slice A5 n5 c5) ∧ TrAt X (.bin o ta tb) (.slice (some ⟨gN, 0, none⟩) 2 2)) ∧ (Blk X g1 26 #[.int .i64 k1, .string o1, .int .i64 a1, .int .i64 b1, .string s1, .string v1, .string f1, .slice A1 n1 c1] ∧ Blk X g2 26 #[.int .i64 k2, .string o2, .int .i64 a2, .int .i64 b2, .string s2, .string v2, .string f2, .slice A2 n2 c2] ∧ Blk X h 26 (NC o (some ⟨gN, 0, none⟩) 2 2))) ∧ At X 1 scV (.slice A n c) r) X → Calls Tryd.prog 15 #[ev k2 o2 a2 b2 s2 v2 f2 (.slice A2 n2 c2)] X fun e w' => VarsT X tb e w' ∧ Below X.heap.size X w' := fun X h => Vars_v F2.out.1 _ h.1.2.1.2.1 (ok_fits _ F2.out.2.1) (by have := F2.out.2.2.2.2; omega)
  have hL1 : ta.vars.length ≤ 243 := Nat.le_trans (vars_len ta) F1.out.2.2.2.2
  have hL2 : tb.vars.length ≤ 243 := Nat.le_trans (vars_len tb) F2.out.2.2.2.2
  have hAt : ∀ X, (fun X => (Tab X ∧ (TrAt X ta (.slice A4 n4 c4) ∧ TrAt X tb (.slice A5 n5 c5) ∧ TrAt X (.bin o ta tb) (.slice (some ⟨gN, 0, none⟩) 2 2)) ∧ (Blk X g1 26 #[.int .i64 k1, .string o1, .int .i64 a1, .int .i64 b1, .string s1, .string v1, .string f1, .slice A1 n1 c1] ∧ Blk X g2 26 #[.int .i64 k2, .string o2, .int .i64 a2, .int .i64 b2, .string s2, .string v2, .string f2, .slice A2 n2 c2] ∧ Blk X h 26 (NC o (some ⟨gN, 0, none⟩) 2 2))) ∧ At X 1 scV (.slice A n c) r) X → At X 1 scV (.slice A n c) r := fun X h => h.2
  have hEE : ∀ X, (fun X => (Tab X ∧ (TrAt X ta (.slice A4 n4 c4) ∧ TrAt X tb (.slice A5 n5 c5) ∧ TrAt X (.bin o ta tb) (.slice (some ⟨gN, 0, none⟩) 2 2)) ∧ (Blk X g1 26 #[.int .i64 k1, .string o1, .int .i64 a1, .int .i64 b1, .string s1, .string v1, .string f1, .slice A1 n1 c1] ∧ Blk X g2 26 #[.int .i64 k2, .string o2, .int .i64 a2, .int .i64 b2, .string s2, .string v2, .string f2, .slice A2 n2 c2] ∧ Blk X h 26 (NC o (some ⟨gN, 0, none⟩) 2 2))) ∧ At X 1 scV (.slice A n c) r) X → (TrAt X ta (.slice A4 n4 c4) ∧ TrAt X tb (.slice A5 n5 c5) ∧ TrAt X (.bin o ta tb) (.slice (some ⟨gN, 0, none⟩) 2 2)) ∧ (Blk X g1 26 #[.int .i64 k1, .string o1, .int .i64 a1, .int .i64 b1, .string s1, .string v1, .string f1, .slice A1 n1 c1] ∧ Blk X g2 26 #[.int .i64 k2, .string o2, .int .i64 a2, .int .i64 b2, .string s2, .string v2, .string f2, .slice A2 n2 c2] ∧ Blk X h 26 (NC o (some ⟨gN, 0, none⟩) 2 2)) := fun X h => h.1.2
  generalize (fun X => (Tab X ∧ (TrAt X ta (.slice A4 n4 c4) ∧ TrAt X tb (.slice A5 n5 c5) ∧ TrAt X (.bin o ta tb) (.slice (some ⟨gN, 0, none⟩) 2 2)) ∧ (Blk X g1 26 #[.int .i64 k1, .string o1, .int .i64 a1, .int .i64 b1, .string s1, .string v1, .string f1, .slice A1 n1 c1] ∧ Blk X g2 26 #[.int .i64 k2, .string o2, .int .i64 a2, .int .i64 b2, .string s2, .string v2, .string f2, .slice A2 n2 c2] ∧ Blk X h 26 (NC o (some ⟨gN, 0, none⟩) 2 2))) ∧ At X 1 scV (.slice A n c) r) = P at *
  have D := Lib.hid (And.intro hPs (And.intro hPg (And.intro hPg2 (And.intro hV1 (And.intro hV2 (And.intro hL1 (And.intro hL2 (And.intro hAt hEE))))))))
  clear hPs hPg hPg2 hV1 hV2 hL1 hL2 hAt hEE oE nE
  go_wp2_with fail
  go_loopw [13] (fun iv wr => ∃ i : Nat, i ≤ n ∧ iv = .int .i64 i ∧ ∃ N', Keep w wr N' [] P) (fun iv _ => n - (intOf iv).toNat)
  case atStart => exact ⟨0, Nat.zero_le _, rfl, _, K.out⟩
  case round =>
    obtain ⟨i, hi, rfl, N', hK⟩ := hrel
    clear K; have K := Lib.hid hK; clear hK
    have hwr : IntKind.i64.wrap ((i : Int) + 1) = (i : Int) + 1 := IntWalk.i64_in _ (by omega)
    by_cases hlt : i + 1 < n
    · obtain ⟨va, hva, hc⟩ := (D.out.2.2.2.2.2.2.2.1 _ K.out.p).cells rfl (by have := HN.out; omega)
      subst hva
      have hll : i < r.length := by have := HN.out; omega
      have hll2 : i + 1 < r.length := by have := HN.out; omega
      have c0 := hc.row1 i hll rfl
      have c1 := hc.row1 (i + 1) hll2 rfl
      rw [Nat.mul_one] at c0 c1
      have hxy : (r[i]'hll).toList < (r[i + 1]'hll2).toList := List.pairwise_iff_getElem.1 HS.out.1 i (i + 1) hll hll2 (by omega)
      generalize r[i]'hll = x at *
      generalize r[i + 1]'hll2 = y at *
      have f0 := fun d os => cell_regrown c0 d os
      have c2 : wr.cell? ⟨va.block, va.off + (i + 1), none⟩ = some (.string y) := c1
      have f1 := fun d os => cell_regrown c2 d os
      have h0i : (0 : Int) ≤ (i : Int) := by omega
      have hi1 : (i : Int) < (n : Int) := by omega
      have h0j : (0 : Int) ≤ (i : Int) + 1 := by omega
      have hj1 : (i : Int) + 1 < (n : Int) := by omega
      have ht : ((i : Int) + 1).toNat = i + 1 := by omega
      have hxd : Op.bytesLess x.toList y.toList = true := by rw [Go.Proofs.bytesLess_eq]; exact decide_eq_true hxy
      clear hc hll hll2 c0 c1 c2
      go_wp2_with fail
      refine wp_region_quiet_below (by kernel_rfl) (by kernel_rfl) ?_
      repeat (go_big_quiet_step (fail))
      refine wpQuiet_nil ?_
      intro wq hw'
      have bq : Below wr.heap.size wr wq := by obtain ⟨p, rfl⟩ := hw'; exact below_regrown _ _ _
      clear hw' f0 f1
      go_wp2_with fail
      go_roundw
      case rel => exact ⟨i + 1, by omega, by go_num, _, K.out.go bq⟩
      case measure => simp [intOf]; omega
    · have hld : ¬ (i : Int) + 1 < (n : Int) := by omega
      go_wp2_with fail
      refine wp_of_eq (c' := ((Tryd.f5.body.bind (regionN 16)).getD .skip)) ?_ (by kernel_rfl)
      refine sizes16 _ _ _ _ _ _ _ _ _ _ _ _ _ _ _ _ _ _ _ _ _ _ _ _ _ _ _ _ _ _ _ _ _ _ _ _ _ _ _ _ _ _ _ _ _ _ _ _ _ _ _ _ _ _ _ _ _ _ _ _ _ _ _ _ _ _ _ _ _ _ _ _ _ _ _ _ _ _ _ _ _ _ _ _ _ _ _ _ _ _ _ _ _ _ _ _ _ _ _ _ _ _ _ _ _ _ _ _ _ _ _ _ _ _ _ _ _ _ _ _ _  K.out D.out.1 D.out.2.1 D.out.2.2.1 D.out.2.2.2.1 D.out.2.2.2.2.1 D.out.2.2.2.2.2.1 D.out.2.2.2.2.2.2.1 (fun _ _ _ _ _  LA nL cL r1 r2 wx2 hR16 => ?_)
      obtain ⟨hK16, hnL, hS1, hS2, hle⟩ := hR16
      clear K hwr hld hlt hi N'
      have K := Lib.hid hK16; clear hK16
      have HL := Lib.hid (And.intro hnL (fun s (hs : s ∈ r1 ++ r2) => (HS.out.2 s).2 ((List.mem_append.1 hs).imp (hS1.2 s).1 (hS2.2 s).1))); clear hnL hS1 hS2
      go_wp2_with fail
      go_loopw [63] (fun iv wr => ∃ j : Nat, j ≤ nL ∧ iv = .int .i64 j ∧ ∃ N', Keep w wr N' [] (fun X => P X ∧ At X 1 scV (.slice LA nL cL) (r1 ++ r2))) (fun iv _ => nL - (intOf iv).toNat)
      case atStart => exact ⟨0, Nat.zero_le _, rfl, _, K.out⟩
      case round =>
        obtain ⟨j, hj, rfl, N', hK⟩ := hrel
        clear K; have K := Lib.hid hK; clear hK
        by_cases hjt : j < nL
        · obtain ⟨la, hla, hc⟩ := K.out.p.2.cells rfl (by have := HL.out.1; omega)
          subst hla
          have hll : j < (r1 ++ r2).length := by have := HL.out.1; omega
          have c0 := hc.row1 j hll rfl
          rw [Nat.mul_one] at c0
          have hxr := HL.out.2 ((r1 ++ r2)[j]'hll) (List.getElem_mem hll)
          generalize (r1 ++ r2)[j]'hll = x at *
          have HX := Lib.hid hxr; clear hxr hc hll
          go_wp2_with fail
          go_at_call 27
          refine (has_yes _ r _ _ (D.out.2.2.2.2.2.2.2.1 _ K.out.p.1) HX.out).mono ?_
          rintro e w7 ⟨rfl, hb⟩
          go_wp2_with fail
          go_roundw
          case rel => exact ⟨j + 1, by omega, by go_num, _, K.out.go hb⟩
          case measure => simp [intOf]; omega
        · obtain rfl : j = nL := by omega
          go_wp2_with fail
          replace K := Lib.hid (K.out.weak (Q := P) (fun X h => h.1) D.out.1)
          go_loopw [16] (fun iv wr => ∃ i : Nat, i ≤ n ∧ iv = .int .i64 i ∧ ∃ N', Keep w wr N' [] P) (fun iv _ => n - (intOf iv).toNat)
          case atStart => exact ⟨0, Nat.zero_le _, rfl, _, K.out⟩
          case round =>
            obtain ⟨i', hi', rfl, N2, hK⟩ := hrel
            clear K; have K := Lib.hid hK; clear hK
            by_cases hlt' : i' < n
            · obtain ⟨va, hva, hc⟩ := (D.out.2.2.2.2.2.2.2.1 _ K.out.p).cells rfl (by have := HN.out; omega)
              subst hva
              clear hc
              have hll : i' < r.length := by have := HN.out; omega
              have hcX : ∀ X, P X → X.cell? (va.add i') = some (.string (r[i']'hll)) := fun X h => by
                obtain ⟨b, hb, hc⟩ := (D.out.2.2.2.2.2.2.2.1 _ h).cells rfl (by have := HN.out; omega)
                obtain rfl : va = b := by simpa using hb
                have := hc.row1 i' hll rfl
                rwa [Nat.mul_one] at this
              have hxm := (HS.out.2 (r[i']'hll)).1 (List.getElem_mem hll)
              generalize r[i']'hll = x at *
              have hi2 : (i' : Int) < (n : Int) := by omega
              rcases Classical.em (x ∈ ta.vars) with hxa | hxa
              · go_wp2_with fail
                refine wp_of_eq (c' := ((Tryd.f5.body.bind (regionN 25)).getD .skip)) ?_ (by kernel_rfl)
                refine sizes25a _ _ _ _ _ _ _ _ _ _ _ _ _ _ _ _ _ _ _ _ _ _ _ _ _ _ _ _ _ _ _ _ _ _ _ _ _ _ _ _ _ _ _ _ _ _ _ _ _ _ _ _ _ _ _ _ _ _ _ _ _ _ _ _ _ _ _ _ _ _ _ _ _ _ _ _ _ _ _ _ _ _ _ _ _ _ _ _ _ _ _ _ _ _ _ _ _ _ _ _ _ _ _ _ _ _ _ _ _ _ _ _ _ _ _ _ _ _ _  hlt' K.out D.out.1 D.out.2.1 D.out.2.2.1 hcX D.out.2.2.2.1 D.out.2.2.2.2.1 hxa (fun _ _ _ _ _ _ _ _ _ _ _ _ _ _ _ _ _  wx3 hR25 => ?_)
                obtain ⟨N3, hK3⟩ := hR25
                have HK3 := Lib.hid hK3; clear hK3 hcX hxm hxa
                go_wp2_with fail
                go_roundw
                case rel => exact ⟨i' + 1, by omega, by go_num, _, HK3.out⟩
                case measure => simp [intOf]; omega
              · go_wp2_with fail
                refine wp_of_eq (c' := ((Tryd.f5.body.bind (regionN 25)).getD .skip)) ?_ (by kernel_rfl)
                refine sizes25b _ _ _ _ _ _ _ _ _ _ _ _ _ _ _ _ _ _ _ _ _ _ _ _ _ _ _ _ _ _ _ _ _ _ _ _ _ _ _ _ _ _ _ _ _ _ _ _ _ _ _ _ _ _ _ _ _ _ _ _ _ _ _ _ _ _ _ _ _ _ _ _ _ _ _ _ _ _ _ _ _ _ _ _ _ _ _ _ _ _ _ _ _ _ _ _ _ _ _ _ _ _ _ _ _ _ _ _ _ _ _ _ _ _ _ _ _ _ _  hlt' K.out D.out.1 D.out.2.1 D.out.2.2.1 hcX D.out.2.2.2.1 D.out.2.2.2.2.1 ⟨hxa, hxm.resolve_left hxa⟩ (fun _ _ _ _ _ _ _ _ _ _ _ _ _ _ _ _ _  wx3 hR25 => ?_)
                obtain ⟨N3, hK3⟩ := hR25
                have HK3 := Lib.hid hK3; clear hK3 hcX hxm hxa
                go_wp2_with fail
                go_roundw
                case rel => exact ⟨i' + 1, by omega, by go_num, _, HK3.out⟩
                case measure => simp [intOf]; omega
            · obtain rfl : i' = n := by omega
              have q1 : ∀ j, wr.cell? ⟨g1, j, none⟩ = (#[.int .i64 k1, .string o1, .int .i64 a1, .int .i64 b1, .string s1, .string v1, .string f1, .slice A1 n1 c1] : Array Value)[j]? := (D.out.2.1 _ K.out.p).cell
              replace K := Lib.hid ((((K.out.more 26 #[.int .i64 k1, .string o1, .int .i64 a1, .int .i64 b1, .string s1, .string v1, .string f1, .slice A1 n1 c1]).keepRow (List.mem_cons_self ..)).more 26 (NN wr.heap.size)).keepRow (List.mem_cons_self ..))
              simp only [World.size_alloc] at K
              go_wp2_with fail
              clear q1
              generalize World.alloc _ _ = w9 at *
              generalize hg8 : wr.heap.size = g8 at *
              generalize hg9 : g8 + 1 = g9 at *
              clear hg8 hg9
              have E := D.out.2.2.2.2.2.2.2.2 _ K.out.p.1.1
              refine wp_of_eq (c' := ((Tryd.f5.body.bind (regionN 28)).getD .skip)) ?_ (by kernel_rfl)
              refine sizes28 _ _ _ _ _ _ _ _ _ _ _ _ _ _ _ _ _ _ _ _ _ _ _ _ _ _ _ _ _ _ _ _ _ _ _ _ _ _ _ _ _ _ _ _ _ _ _ _ _ _ _ _ _ _ _ _ _ _ _ _ _ _ _ _ _ _ _ _ _ _ _ _ _ _ _ _ _ _ _ _ _ _ _ _ _ _ _ _ _ _ _ _ _ _ _ _ _ _ _ _ _ _ _ _ _ _ _ _ _ _ _ _ _ _ _ _ _ _  ⟨E.1.1, E.1.2.1, E.1.2.2, un_at E.1.1 F1.out.1 K.out.p.1.2⟩ ⟨E.2.1, E.2.2.1, E.2.2.2, K.out.p.2⟩ F1 F2 hlo (fun _ _ _ _ _ _ _ _ _ _ _ _ _ _ _ _ _ _ _ _ _ _ _ _  wx4 hb => ?_)
              go_wp2_with fail
              go_ret
              exact ⟨rfl, bt K.out.bel hb⟩
end Go.Proofs.YtfkcjlpocfjmdaaDoor
