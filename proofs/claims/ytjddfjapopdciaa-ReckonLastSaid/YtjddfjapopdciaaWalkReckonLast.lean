/- The walk of ReckonLast. -/
import Derived.Test.YtjddfjapopdciaaLastM
import Derived.IntWalk
namespace Go.Proofs.Ytjddfjapopdciaa
open Go.ChangeShapes Go.WideShapes Go.ChangeAt Go.RowKit
open Rk (inR)
set_option linter.unusedVariables false
set_option linter.unusedSimpArgs false

set_option maxRecDepth 20000 in
set_option maxHeartbeats 8000000 in
theorem walk_ReckonLast (v : Value) (l : List UInt8) (n p : Int) (w : World) (hv : BytesAt w v l) (hl : l.length ≤ 140737488351232) (n0 : -9223372036854775808 ≤ n) (n1 : n ≤ 9223372036854775807) (p0 : 0 ≤ p) (p1 : p ≤ 255) :
    Calls Try.prog 8 #[v, .int .i64 n, .int .u8 p] w fun e w' => e = .returned (.bool true) ∧ Below w.heap.size w w' := by
  obtain ⟨VA, Vn, Vc, rfl⟩ := bytes_sl hv
  have HV := Lib.hid hv; clear hv
  rcases (by omega : p % 2 = 0 ∨ p % 2 = 1) with hp | hp
  all_goals
    go_enter Try.func8, Try.ntmps8
    go_wp2_with fail
    go_at_call 11
    refine (examples_any _).mono ?_
    rintro e w1 ⟨rfl, hb1⟩
    have HB := Lib.hid hb1; clear hb1
    go_wp2_with fail
    go_at_call 12
    refine (binds_rows _ l _ (HV.out.later HB.out) hl).mono ?_
    rintro e w2 ⟨⟨g, g1, g2, B1, B2, V1, V3, U1, U3, E, E2, M, M2, rfl, hBr, hg1, hg2, hM, hM2, hlt, hE, hE2, hl1, hl2, hb1, hb2, s1, s2, s3⟩, hb⟩
    replace s1 := Nat.le_trans HB.out.size s1
    replace s2 := Nat.le_trans HB.out.size s2
    replace s3 := Nat.le_trans HB.out.size s3
    replace HB := Lib.hid (bt HB.out hb); clear hb
    have HM := Lib.hid (And.intro hM hM2); clear hM hM2
    have HL := Lib.hid (And.intro hlt (And.intro hE hE2)); clear hlt hE hE2
    have HG := Lib.hid (And.intro hBr (And.intro hg1 hg2)); clear hg1 hg2
    have hm1 : M.length ≤ 3 := by have := HM.out.1.1; omega
    have hm2 : M2.length ≤ 3 := by have := HM.out.2.1; omega
  · have pB := hBr.cell
    have gl := hBr.lt
    have gl2 : g < w2.heap.size + 1 := by omega
    have e2 : IntKind.i64.wrap ((M.length : Int) + 1) = (M.length : Int) + 1 := IntWalk.i64_in _ (by omega)
    go_upto_region 9 with fail
    have Wv := Blk.new w2 23 #[.int .i64 1, .int .i64 n, .string mt, .int .i64 1, .int .i64 n, .string mt, .int .i64 3, .int .i64 0, .string nZ, .int .i64 2, .int .i64 1, .string mt]
    have Wb := bt (ba w2 (.cells #[.int .i64 1, .int .i64 n, .string mt, .int .i64 1, .int .i64 n, .string mt, .int .i64 3, .int .i64 0, .string nZ, .int .i64 2, .int .i64 1, .string mt] 23)) (ba _ (.cells (#[.int .i64 0, .slice (some ⟨w2.heap.size, 0, none⟩) 4 4] : Array Value) 62))
    have We := Blk.new (w2.alloc (.cells #[.int .i64 1, .int .i64 n, .string mt, .int .i64 1, .int .i64 n, .string mt, .int .i64 3, .int .i64 0, .string nZ, .int .i64 2, .int .i64 1, .string mt] 23)) 62 #[.int .i64 0, .slice (some ⟨w2.heap.size, 0, none⟩) 4 4]
    rw [World.size_alloc] at We
    have Wv2 := Wv.alloc (.cells (#[.int .i64 0, .slice (some ⟨w2.heap.size, 0, none⟩) 4 4] : Array Value) 62)
    generalize hW4 : (w2.alloc (.cells #[.int .i64 1, .int .i64 n, .string mt, .int .i64 1, .int .i64 n, .string mt, .int .i64 3, .int .i64 0, .string nZ, .int .i64 2, .int .i64 1, .string mt] 23)).alloc (.cells (#[.int .i64 0, .slice (some ⟨w2.heap.size, 0, none⟩) 4 4] : Array Value) 62) = w3 at *
    clear hW4 Wv pB
    have hb3 : B1 ≤ w3.heap.size := Nat.le_trans hb1 Wb.size
    refine wp_of_eq (c' := ((Try.f8.body.bind (regionN 9)).getD .skip)) ?_ (by kernel_rfl)
    refine last9_0 _ _ _ _ _ _ _ _ _ _ _ _ _ _ _ _ _ _ _ _ _ _ _ _ _ _ _ _ _ _ _ _ _ _ _ _ _ _ _ _ _ _ _ _ _ _ _ _ _ _ _ _ _ _ _ _ _ _ _ _ _ _ _ _ _ _ _ _ _ _ _ _ _ _ _ _ _ _ _ _ _ _ _ _ _ _ _ _ _ _ _ _ _ _ _ _ _ _ _ _ _ _ _ _ _ _ _ _ _ _ _ _ _ _ _ _ _ _ _ _ _ _ _ _ _ _ _ _ _ _ _ _ (HG.out.1.later Wb) We (HM.out.1.2.1.later Wb) hm1 hb3 (fun _ _ _ _ _ _ _ _ _ _ _ _ A5 n5 c5 wx hR => ?_)
    obtain ⟨w4, w5, b4, g5, o5, rfl⟩ := hR
    have hEv : EvsO (w5.setCell ⟨g, 2, none⟩ (.slice A5 n5 c5)) B1 (.slice A5 n5 c5) (E ++ [mE n]) := by
      have b24 := bt Wb b4
      have h := EvsO.more (w := w4) (e := mE n) HM.out.1.1 (HM.out.1.2.1.later b24) (fun i a b => ⟨(HM.out.1.2.2 i a b).1, (HM.out.1.2.2 i a b).2.later b24⟩) (x := (0, some ⟨w2.heap.size, 0, none⟩, 4, 4)) ⟨rfl, Own.blk (f := vc) (Wv2.later b4) rfl rfl rfl (by show 4 ≤ maxLen; decide)⟩ o5 g5
      exact h.grownT ((HG.out.1.later b24).grown g5 (fun e => own_ne_blk (HM.out.1.2.1.later b24) (HG.out.1.later b24) (by decide) e.symm)) (by decide) (by decide) (gb_set w5 2 _)
    have hOt : EvsO (w5.setCell ⟨g, 2, none⟩ (.slice A5 n5 c5)) B2 (.slice U1 M2.length U3) E2 := by
      have b24 := bt Wb b4
      have h : EvsO w4 B2 (.slice U1 M2.length U3) E2 := EvsO.later (w := w2) ⟨_, HM.out.2.1, HM.out.2.2.1, HM.out.2.2.2⟩ b24
      have h5 := h.grownR g5 (fun b hb hc => by have h1 := own_base HM.out.2.2.1 _ hc; have h2 := HL.out.1 b hb; omega) (fun b hb s vs hO => hO.apart (HM.out.1.2.1.later b24) (by decide) b hb)
      exact h5.grownT ((HG.out.1.later b24).grown g5 (fun e => own_ne_blk (HM.out.1.2.1.later b24) (HG.out.1.later b24) (by decide) e.symm)) (by decide) (by decide) (gb_set w5 2 _)
    have hBs : Blk (w5.setCell ⟨g, 2, none⟩ (.slice A5 n5 c5)) g 59 #[.string nA, .slice (some ⟨g1, 0, none⟩) 2 2, .slice A5 n5 c5, .string nB, .slice (some ⟨g2, 0, none⟩) 4 4, .slice U1 M2.length U3] := by
      have b24 := bt Wb b4
      exact ((HG.out.1.later b24).grown g5 (fun e => own_ne_blk (HM.out.1.2.1.later b24) (HG.out.1.later b24) (by decide) e.symm)).set_ 2 _
    have hS1 : Blk (w5.setCell ⟨g, 2, none⟩ (.slice A5 n5 c5)) g1 9 #[.string nK, .string nX] := by
      have b24 := bt Wb b4
      exact ((HG.out.2.1.later b24).grown g5 (fun e => own_ne_blk (HM.out.1.2.1.later b24) (HG.out.2.1.later b24) (by decide) e.symm)).far (p := ⟨g, 2, none⟩) (fun e => by have h1 := HG.out.1; have h2 := HG.out.2.1; simp only at e; subst e; unfold Blk at h1 h2; rw [h1] at h2; simp at h2) _
    have hS2 : Blk (w5.setCell ⟨g, 2, none⟩ (.slice A5 n5 c5)) g2 9 #[.string nK, .string nY, .string nS, .string nT] := by
      have b24 := bt Wb b4
      exact ((HG.out.2.2.later b24).grown g5 (fun e => own_ne_blk (HM.out.1.2.1.later b24) (HG.out.2.2.later b24) (by decide) e.symm)).far (p := ⟨g, 2, none⟩) (fun e => by have h1 := HG.out.1; have h2 := HG.out.2.2; simp only at e; subst e; unfold Blk at h1 h2; rw [h1] at h2; simp at h2) _
    have hBl : Below w.heap.size w (w5.setCell ⟨g, 2, none⟩ (.slice A5 n5 c5)) := by
      have b24 := bt (bt HB.out Wb) b4
      have x2 : Below w.heap.size w4 w5 := grownBy_below g5 b24.size (fun j hj => by have := own_base HM.out.1.2.1 j hj; omega)
      exact (b24.trans x2).setCell (p := ⟨g, 2, none⟩) s1 _
    generalize w5.setCell ⟨g, 2, none⟩ (.slice A5 n5 c5) = w6 at *
    clear g5 o5 b4 Wv2 We Wb hb3 gl gl2
    have K := Lib.hid (And.intro hEv (And.intro hOt (And.intro hBs (And.intro hS1 (And.intro hS2 hBl))))); clear hEv hOt hBs hS1 hS2 hBl
    obtain ⟨i3, hi, hz0, hz1, hz2⟩ := info_parts Try.infoBd
    have nS := Blk.new w6 9 #[.string nK, .string nQ]
    have nB_ := blk_cells (Blk.new (w6.alloc (.cells #[.string nK, .string nQ] 9)) 59 #[.string nA, .slice (some ⟨w6.heap.size, 0, none⟩) 2 2, .slice none 0 0])
    rw [World.size_alloc] at nB_
    have bb := bt (ba w6 (.cells #[.string nK, .string nQ] 9)) (ba _ (.cells #[.string nA, .slice (some ⟨w6.heap.size, 0, none⟩) 2 2, .slice none 0 0] 59))
    have hOl : Own w6 0 59 3 bc (.slice (some ⟨g, 0, none⟩) 2 2) [(nA, (some ⟨g1, 0, none⟩, 2, 2), (A5, n5, c5)), (nB, (some ⟨g2, 0, none⟩, 4, 4), (U1, M2.length, U3))] := Own.blk (f := bc) K.out.2.2.1 rfl rfl rfl (by show 2 ≤ maxLen; decide)
    generalize hlv : Value.slice (some ⟨g, 0, none⟩) 2 2 = lv at *
    have HLV := Lib.hid hlv.symm; clear hlv
    have Z := Lib.hid (And.intro nS (And.intro nB_ (And.intro bb hOl))); clear nS nB_ bb hOl
    go_wp2_with (at_builtin; refine wpList_append_own _ rfl (.tmp 63) (.tmp 67) 28 rfl 0 59 i3 (.agg #[.string ⟨#[]⟩, .slice none 0 0, .slice none 0 0]) 3 64 Try.underlying28 hi hz0 hz1 hz2 rfl (by decide) _ 2 _ rfl (Own.later Z.out.2.2.2 Z.out.2.2.1) ⟨w6.heap.size + 1, 0, none⟩ 1 1 (bc (nA, (some ⟨w6.heap.size, 0, none⟩, 2, 2), (none, 0, 0))) rfl rfl Z.out.2.1 (by simp [Value.oneCell']) (by decide) (by decide) (Nat.zero_le _) ?_; intro v7 w7 hO7 hg7 _; obtain ⟨A7, n7, c7, rfl⟩ := own_shape hO7; rw [HLV.out] at hg7; have Y := Lib.hid (And.intro hO7 (show (((w6.alloc (.cells #[.string nK, .string nQ] 9)).alloc (.cells #[.string nA, .slice (some ⟨w6.heap.size, 0, none⟩) 2 2, .slice none 0 0] 59)).grownBy w7 (some g)) from hg7)); clear hO7 hg7)
    have hBd : BdsAt w7 (.slice A7 n7 c7) (bs3 (E ++ [mE n]) E2 nA) := by
      have hgB := K.out.2.2.1.later Z.out.2.2.1
      exact bds3_at (g1 := g1) (g2 := g2) (g3 := w6.heap.size) (V := (A5, n5, c5)) (U := (U1, M2.length, U3)) (Own.more (l := ([(nA, (some ⟨g1, 0, none⟩, 2, 2), (A5, n5, c5)), (nB, (some ⟨g2, 0, none⟩, 4, 4), (U1, M2.length, U3))] : List (ByteArray × SV × SV))) (x := ((nA, (some ⟨w6.heap.size, 0, none⟩, 2, 2), (none, 0, 0)) : ByteArray × SV × SV)) rfl Y.out.1) ((K.out.2.2.2.1.later Z.out.2.2.1).grown Y.out.2 (fun e => by have := Option.some.inj e; subst this; have h1 := K.out.2.2.1; have h2 := K.out.2.2.2.1; unfold Blk at h1 h2; rw [h1] at h2; simp at h2)) ((K.out.2.2.2.2.1.later Z.out.2.2.1).grown Y.out.2 (fun e => by have := Option.some.inj e; subst this; have h1 := K.out.2.2.1; have h2 := K.out.2.2.2.2.1; unfold Blk at h1 h2; rw [h1] at h2; simp at h2)) ((Z.out.1.later (ba _ _)).grown Y.out.2 (fun e => by have := Option.some.inj e; have := K.out.2.2.1.lt; omega)) ((K.out.1.later Z.out.2.2.1).grownT hgB (by decide) (by decide) Y.out.2) ((K.out.2.1.later Z.out.2.2.1).grownT hgB (by decide) (by decide) Y.out.2)
    have hBl : Below w.heap.size w w7 := (bt K.out.2.2.2.2.2 Z.out.2.2.1).trans (grownBy_below Y.out.2 (bt K.out.2.2.2.2.2 Z.out.2.2.1).size (fun j hj => by have := Option.some.inj hj; subst this; exact s1))
    have hok : okBds (bs3 (E ++ [mE n]) E2 nA) := by
      refine bs3_ok (fun e he => by rcases List.mem_append.1 he with h | h; exact HL.out.2.1 e h; obtain rfl : e = mE n := (by simpa using h); exact mE_ok ⟨n0, n1⟩) HL.out.2.2 (by first | omega | (simp; omega)) (by first | omega | (simp; omega))
    have R := Lib.hid (fun X (h : BdsAt X (.slice A7 n7 c7) (bs3 (E ++ [mE n]) E2 nA)) => ref_told (n := n) (m := (M.length : Int) + 1) (nm := nA) h hok (ev_refA _ _ _) ((ev_cntA _ _ _).trans (by rw [HM.out.1.1])) (ev_qA _ _) (ev_zA _ _) (ev_czA _ _) (by kernel_rfl))
    clear K Z Y hok
    have K := Lib.hid ((show Keep w w7 w7.heap.size [] (fun X => BdsAt X (.slice A7 n7 c7) (bs3 (E ++ [mE n]) E2 nA)) from ⟨hBl, hBl.size, fun b hb => by simp at hb, List.Pairwise.nil, ⟨w7, rfl, hBd, Below.refl _ _⟩, fun _ _ hb h => h.later hb⟩))
    clear hBl hBd
    generalize (bs3 (E ++ [mE n]) E2 nA) = bs at *
    go_wp2_with fail
    go_at_call 14
    refine ((R.out _ (K.out.go (ba _ _)).p).1).mono ?_
    rintro e w9 ⟨rfl, hb⟩
    have K1 := Lib.hid ((((K.out.go (ba _ _)).go hb).more 23 #[.int .i64 1, .int .i64 n, .string mt]).keepRow (List.mem_cons_self ..)); clear hb
    go_wp2_with fail
    go_at_call 14
    refine ((R.out _ K1.out.p.1).2.1).mono ?_
    rintro e w9 ⟨rfl, hb⟩
    have K2 := Lib.hid (((K1.out.go hb).more 23 #[.int .i64 1, .int .i64 ((M.length : Int) + 1), .string mt]).keepRow (List.mem_cons_self ..)); clear hb
    go_wp2_with fail
    go_at_call 14
    refine ((R.out _ K2.out.p.1.1).2.2.1).mono ?_
    rintro e w9 ⟨rfl, hb⟩
    have K3 := Lib.hid (((K2.out.go hb).more 23 #[.int .i64 0, .int .i64 0, .string mt]).keepRow (List.mem_cons_self ..)); clear hb
    go_wp2_with fail
    go_at_call 14
    refine ((R.out _ K3.out.p.1.1.1).2.2.2.1).mono ?_
    rintro e w9 ⟨rfl, hb⟩
    have K4 := Lib.hid (((K3.out.go hb).more 23 #[.int .i64 0, .int .i64 0, .string mt]).keepRow (List.mem_cons_self ..)); clear hb
    go_wp2_with fail
    go_at_call 14
    refine ((R.out _ K4.out.p.1.1.1.1).2.2.2.2).mono ?_
    rintro e w9 ⟨rfl, hb⟩
    have K5 := Lib.hid (((K4.out.go hb).more 23 #[.int .i64 0, .int .i64 0, .string mt]).keepRow (List.mem_cons_self ..)); clear hb
    have q1 := K5.out.p.1.1.1.1.2.cell
    have q2 := K5.out.p.1.1.1.2.cell
    have q3 := K5.out.p.1.1.1.1.2.lt
    have q4 := K5.out.p.1.1.1.2.lt
    rw [World.size_alloc] at q3 q4
    go_wp2_with fail
    go_ret
    exact ⟨by first | rfl | simp, K5.out.bel⟩
  · have pB := hBr.cell
    have gl := hBr.lt
    have gl2 : g < w2.heap.size + 1 := by omega
    have e2 : IntKind.i64.wrap ((M2.length : Int) + 1) = (M2.length : Int) + 1 := IntWalk.i64_in _ (by omega)
    go_upto_region 9 with fail
    have Wv := Blk.new w2 23 #[.int .i64 1, .int .i64 n, .string mt, .int .i64 1, .int .i64 n, .string mt, .int .i64 3, .int .i64 0, .string nZ, .int .i64 2, .int .i64 1, .string mt]
    have Wb := bt (ba w2 (.cells #[.int .i64 1, .int .i64 n, .string mt, .int .i64 1, .int .i64 n, .string mt, .int .i64 3, .int .i64 0, .string nZ, .int .i64 2, .int .i64 1, .string mt] 23)) (ba _ (.cells (#[.int .i64 0, .slice (some ⟨w2.heap.size, 0, none⟩) 4 4] : Array Value) 62))
    have We := Blk.new (w2.alloc (.cells #[.int .i64 1, .int .i64 n, .string mt, .int .i64 1, .int .i64 n, .string mt, .int .i64 3, .int .i64 0, .string nZ, .int .i64 2, .int .i64 1, .string mt] 23)) 62 #[.int .i64 0, .slice (some ⟨w2.heap.size, 0, none⟩) 4 4]
    rw [World.size_alloc] at We
    have Wv2 := Wv.alloc (.cells (#[.int .i64 0, .slice (some ⟨w2.heap.size, 0, none⟩) 4 4] : Array Value) 62)
    generalize hW4 : (w2.alloc (.cells #[.int .i64 1, .int .i64 n, .string mt, .int .i64 1, .int .i64 n, .string mt, .int .i64 3, .int .i64 0, .string nZ, .int .i64 2, .int .i64 1, .string mt] 23)).alloc (.cells (#[.int .i64 0, .slice (some ⟨w2.heap.size, 0, none⟩) 4 4] : Array Value) 62) = w3 at *
    clear hW4 Wv pB
    have hb3 : B2 ≤ w3.heap.size := Nat.le_trans hb2 Wb.size
    refine wp_of_eq (c' := ((Try.f8.body.bind (regionN 9)).getD .skip)) ?_ (by kernel_rfl)
    refine last9_1 _ _ _ _ _ _ _ _ _ _ _ _ _ _ _ _ _ _ _ _ _ _ _ _ _ _ _ _ _ _ _ _ _ _ _ _ _ _ _ _ _ _ _ _ _ _ _ _ _ _ _ _ _ _ _ _ _ _ _ _ _ _ _ _ _ _ _ _ _ _ _ _ _ _ _ _ _ _ _ _ _ _ _ _ _ _ _ _ _ _ _ _ _ _ _ _ _ _ _ _ _ _ _ _ _ _ _ _ _ _ _ _ _ _ _ _ _ _ _ _ _ _ _ _ _ _ _ _ _ _ _ _ (HG.out.1.later Wb) We (HM.out.2.2.1.later Wb) hm2 hb3 (fun _ _ _ _ _ _ _ _ _ _ _ _ A5 n5 c5 wx hR => ?_)
    obtain ⟨w4, w5, b4, g5, o5, rfl⟩ := hR
    have hEv : EvsO (w5.setCell ⟨g, 5, none⟩ (.slice A5 n5 c5)) B2 (.slice A5 n5 c5) (E2 ++ [mE n]) := by
      have b24 := bt Wb b4
      have h := EvsO.more (w := w4) (e := mE n) HM.out.2.1 (HM.out.2.2.1.later b24) (fun i a b => ⟨(HM.out.2.2.2 i a b).1, (HM.out.2.2.2 i a b).2.later b24⟩) (x := (0, some ⟨w2.heap.size, 0, none⟩, 4, 4)) ⟨rfl, Own.blk (f := vc) (Wv2.later b4) rfl rfl rfl (by show 4 ≤ maxLen; decide)⟩ o5 g5
      exact h.grownT ((HG.out.1.later b24).grown g5 (fun e => own_ne_blk (HM.out.2.2.1.later b24) (HG.out.1.later b24) (by decide) e.symm)) (by decide) (by decide) (gb_set w5 5 _)
    have hOt : EvsO (w5.setCell ⟨g, 5, none⟩ (.slice A5 n5 c5)) B1 (.slice V1 M.length V3) E := by
      have b24 := bt Wb b4
      have h : EvsO w4 B1 (.slice V1 M.length V3) E := EvsO.later (w := w2) ⟨_, HM.out.1.1, HM.out.1.2.1, HM.out.1.2.2⟩ b24
      have h5 := h.grownR g5 (fun b hb hc => by have h1 := own_base HM.out.2.2.1 _ hb; have h2 := HL.out.1 b hc; omega) (fun b hb s vs hO => hO.apart (HM.out.2.2.1.later b24) (by decide) b hb)
      exact h5.grownT ((HG.out.1.later b24).grown g5 (fun e => own_ne_blk (HM.out.2.2.1.later b24) (HG.out.1.later b24) (by decide) e.symm)) (by decide) (by decide) (gb_set w5 5 _)
    have hBs : Blk (w5.setCell ⟨g, 5, none⟩ (.slice A5 n5 c5)) g 59 #[.string nA, .slice (some ⟨g1, 0, none⟩) 2 2, .slice V1 M.length V3, .string nB, .slice (some ⟨g2, 0, none⟩) 4 4, .slice A5 n5 c5] := by
      have b24 := bt Wb b4
      exact ((HG.out.1.later b24).grown g5 (fun e => own_ne_blk (HM.out.2.2.1.later b24) (HG.out.1.later b24) (by decide) e.symm)).set_ 5 _
    have hS1 : Blk (w5.setCell ⟨g, 5, none⟩ (.slice A5 n5 c5)) g1 9 #[.string nK, .string nX] := by
      have b24 := bt Wb b4
      exact ((HG.out.2.1.later b24).grown g5 (fun e => own_ne_blk (HM.out.2.2.1.later b24) (HG.out.2.1.later b24) (by decide) e.symm)).far (p := ⟨g, 5, none⟩) (fun e => by have h1 := HG.out.1; have h2 := HG.out.2.1; simp only at e; subst e; unfold Blk at h1 h2; rw [h1] at h2; simp at h2) _
    have hS2 : Blk (w5.setCell ⟨g, 5, none⟩ (.slice A5 n5 c5)) g2 9 #[.string nK, .string nY, .string nS, .string nT] := by
      have b24 := bt Wb b4
      exact ((HG.out.2.2.later b24).grown g5 (fun e => own_ne_blk (HM.out.2.2.1.later b24) (HG.out.2.2.later b24) (by decide) e.symm)).far (p := ⟨g, 5, none⟩) (fun e => by have h1 := HG.out.1; have h2 := HG.out.2.2; simp only at e; subst e; unfold Blk at h1 h2; rw [h1] at h2; simp at h2) _
    have hBl : Below w.heap.size w (w5.setCell ⟨g, 5, none⟩ (.slice A5 n5 c5)) := by
      have b24 := bt (bt HB.out Wb) b4
      have x2 : Below w.heap.size w4 w5 := grownBy_below g5 b24.size (fun j hj => by have := own_base HM.out.2.2.1 j hj; omega)
      exact (b24.trans x2).setCell (p := ⟨g, 5, none⟩) s1 _
    generalize w5.setCell ⟨g, 5, none⟩ (.slice A5 n5 c5) = w6 at *
    clear g5 o5 b4 Wv2 We Wb hb3 gl gl2
    have K := Lib.hid (And.intro hEv (And.intro hOt (And.intro hBs (And.intro hS1 (And.intro hS2 hBl))))); clear hEv hOt hBs hS1 hS2 hBl
    obtain ⟨i3, hi, hz0, hz1, hz2⟩ := info_parts Try.infoBd
    have nS := Blk.new w6 9 #[.string nK, .string nQ]
    have nB_ := blk_cells (Blk.new (w6.alloc (.cells #[.string nK, .string nQ] 9)) 59 #[.string nB, .slice (some ⟨w6.heap.size, 0, none⟩) 2 2, .slice none 0 0])
    rw [World.size_alloc] at nB_
    have bb := bt (ba w6 (.cells #[.string nK, .string nQ] 9)) (ba _ (.cells #[.string nB, .slice (some ⟨w6.heap.size, 0, none⟩) 2 2, .slice none 0 0] 59))
    have hOl : Own w6 0 59 3 bc (.slice (some ⟨g, 0, none⟩) 2 2) [(nA, (some ⟨g1, 0, none⟩, 2, 2), (V1, M.length, V3)), (nB, (some ⟨g2, 0, none⟩, 4, 4), (A5, n5, c5))] := Own.blk (f := bc) K.out.2.2.1 rfl rfl rfl (by show 2 ≤ maxLen; decide)
    generalize hlv : Value.slice (some ⟨g, 0, none⟩) 2 2 = lv at *
    have HLV := Lib.hid hlv.symm; clear hlv
    have Z := Lib.hid (And.intro nS (And.intro nB_ (And.intro bb hOl))); clear nS nB_ bb hOl
    go_wp2_with (at_builtin; refine wpList_append_own _ rfl (.tmp 63) (.tmp 67) 28 rfl 0 59 i3 (.agg #[.string ⟨#[]⟩, .slice none 0 0, .slice none 0 0]) 3 64 Try.underlying28 hi hz0 hz1 hz2 rfl (by decide) _ 2 _ rfl (Own.later Z.out.2.2.2 Z.out.2.2.1) ⟨w6.heap.size + 1, 0, none⟩ 1 1 (bc (nB, (some ⟨w6.heap.size, 0, none⟩, 2, 2), (none, 0, 0))) rfl rfl Z.out.2.1 (by simp [Value.oneCell']) (by decide) (by decide) (Nat.zero_le _) ?_; intro v7 w7 hO7 hg7 _; obtain ⟨A7, n7, c7, rfl⟩ := own_shape hO7; rw [HLV.out] at hg7; have Y := Lib.hid (And.intro hO7 (show (((w6.alloc (.cells #[.string nK, .string nQ] 9)).alloc (.cells #[.string nB, .slice (some ⟨w6.heap.size, 0, none⟩) 2 2, .slice none 0 0] 59)).grownBy w7 (some g)) from hg7)); clear hO7 hg7)
    have hBd : BdsAt w7 (.slice A7 n7 c7) (bs3 E (E2 ++ [mE n]) nB) := by
      have hgB := K.out.2.2.1.later Z.out.2.2.1
      exact bds3_at (g1 := g1) (g2 := g2) (g3 := w6.heap.size) (V := (V1, M.length, V3)) (U := (A5, n5, c5)) (Own.more (l := ([(nA, (some ⟨g1, 0, none⟩, 2, 2), (V1, M.length, V3)), (nB, (some ⟨g2, 0, none⟩, 4, 4), (A5, n5, c5))] : List (ByteArray × SV × SV))) (x := ((nB, (some ⟨w6.heap.size, 0, none⟩, 2, 2), (none, 0, 0)) : ByteArray × SV × SV)) rfl Y.out.1) ((K.out.2.2.2.1.later Z.out.2.2.1).grown Y.out.2 (fun e => by have := Option.some.inj e; subst this; have h1 := K.out.2.2.1; have h2 := K.out.2.2.2.1; unfold Blk at h1 h2; rw [h1] at h2; simp at h2)) ((K.out.2.2.2.2.1.later Z.out.2.2.1).grown Y.out.2 (fun e => by have := Option.some.inj e; subst this; have h1 := K.out.2.2.1; have h2 := K.out.2.2.2.2.1; unfold Blk at h1 h2; rw [h1] at h2; simp at h2)) ((Z.out.1.later (ba _ _)).grown Y.out.2 (fun e => by have := Option.some.inj e; have := K.out.2.2.1.lt; omega)) ((K.out.2.1.later Z.out.2.2.1).grownT hgB (by decide) (by decide) Y.out.2) ((K.out.1.later Z.out.2.2.1).grownT hgB (by decide) (by decide) Y.out.2)
    have hBl : Below w.heap.size w w7 := (bt K.out.2.2.2.2.2 Z.out.2.2.1).trans (grownBy_below Y.out.2 (bt K.out.2.2.2.2.2 Z.out.2.2.1).size (fun j hj => by have := Option.some.inj hj; subst this; exact s1))
    have hok : okBds (bs3 E (E2 ++ [mE n]) nB) := by
      refine bs3_ok HL.out.2.1 (fun e he => by rcases List.mem_append.1 he with h | h; exact HL.out.2.2 e h; obtain rfl : e = mE n := (by simpa using h); exact mE_ok ⟨n0, n1⟩) (by first | omega | (simp; omega)) (by first | omega | (simp; omega))
    have R := Lib.hid (fun X (h : BdsAt X (.slice A7 n7 c7) (bs3 E (E2 ++ [mE n]) nB)) => ref_told (n := n) (m := (M2.length : Int) + 1) (nm := nB) h hok (ev_refB _ _ _) ((ev_cntB _ _ _).trans (by rw [HM.out.2.1])) (ev_qB _ _) (ev_zB _ _) (ev_czB _ _) (by kernel_rfl))
    clear K Z Y hok
    have K := Lib.hid ((show Keep w w7 w7.heap.size [] (fun X => BdsAt X (.slice A7 n7 c7) (bs3 E (E2 ++ [mE n]) nB)) from ⟨hBl, hBl.size, fun b hb => by simp at hb, List.Pairwise.nil, ⟨w7, rfl, hBd, Below.refl _ _⟩, fun _ _ hb h => h.later hb⟩))
    clear hBl hBd
    generalize (bs3 E (E2 ++ [mE n]) nB) = bs at *
    go_wp2_with fail
    go_at_call 14
    refine ((R.out _ (K.out.go (ba _ _)).p).1).mono ?_
    rintro e w9 ⟨rfl, hb⟩
    have K1 := Lib.hid ((((K.out.go (ba _ _)).go hb).more 23 #[.int .i64 1, .int .i64 n, .string mt]).keepRow (List.mem_cons_self ..)); clear hb
    go_wp2_with fail
    go_at_call 14
    refine ((R.out _ K1.out.p.1).2.1).mono ?_
    rintro e w9 ⟨rfl, hb⟩
    have K2 := Lib.hid (((K1.out.go hb).more 23 #[.int .i64 1, .int .i64 ((M2.length : Int) + 1), .string mt]).keepRow (List.mem_cons_self ..)); clear hb
    go_wp2_with fail
    go_at_call 14
    refine ((R.out _ K2.out.p.1.1).2.2.1).mono ?_
    rintro e w9 ⟨rfl, hb⟩
    have K3 := Lib.hid (((K2.out.go hb).more 23 #[.int .i64 0, .int .i64 0, .string mt]).keepRow (List.mem_cons_self ..)); clear hb
    go_wp2_with fail
    go_at_call 14
    refine ((R.out _ K3.out.p.1.1.1).2.2.2.1).mono ?_
    rintro e w9 ⟨rfl, hb⟩
    have K4 := Lib.hid (((K3.out.go hb).more 23 #[.int .i64 0, .int .i64 0, .string mt]).keepRow (List.mem_cons_self ..)); clear hb
    go_wp2_with fail
    go_at_call 14
    refine ((R.out _ K4.out.p.1.1.1.1).2.2.2.2).mono ?_
    rintro e w9 ⟨rfl, hb⟩
    have K5 := Lib.hid (((K4.out.go hb).more 23 #[.int .i64 0, .int .i64 0, .string mt]).keepRow (List.mem_cons_self ..)); clear hb
    have q1 := K5.out.p.1.1.1.1.2.cell
    have q2 := K5.out.p.1.1.1.2.cell
    have q3 := K5.out.p.1.1.1.1.2.lt
    have q4 := K5.out.p.1.1.1.2.lt
    rw [World.size_alloc] at q3 q4
    go_wp2_with fail
    go_ret
    exact ⟨by first | rfl | simp, K5.out.bel⟩
end Go.Proofs.Ytjddfjapopdciaa
