/- Texts that several proofs stand on, part 17. -/
import Derived.Test.YtenmbahfgfmjjaaDoorQ16
namespace Go.Proofs.YtenmbahfgfmjjaaDoor
open Go.ChangeShapes Go.WideShapes Go.ChangeAt Go.RowKit
open Rk (inR)
set_option linter.unusedVariables false
set_option linter.unusedSimpArgs false

set_option maxRecDepth 20000 in
set_option maxHeartbeats 4000000 in
theorem number_gen (w0 : World) (g : Nat) (oo : Oo) (lv : Value) (L : List UInt8) (hL : L.length ≤ 140737488351232) (d : Nat) (hd : d ≤ 3) (IH : 1 ≤ d → ∀ W, FD w0 g oo lv L W → Calls Tryd.prog 17 #[.pointer (some ⟨g, 0, none⟩), .agg #[.string oo.nm, .slice oo.A oo.n oo.c], .int .i64 ((d : Int) - 1)] W fun e w' => Made (d - 1) W.heap.size e w' ∧ FD w0 g oo lv L w' ∧ GB g W w') (w : World) (h : FD w0 g oo lv L w) :
    Calls Tryd.prog 17 #[.pointer (some ⟨g, 0, none⟩), .agg #[.string oo.nm, .slice oo.A oo.n oo.c], .int .i64 d] w fun e w' => Made d w.heap.size e w' ∧ FD w0 g oo lv L w' ∧ GB g w w' := by
  have K := Lib.hid (KN.new h)
  have HI := Lib.hid IH; clear IH
  go_enter Tryd.func17, Tryd.ntmps17
  go_wp2_with fail
  go_at_call 15
  refine (next_any w0 g oo lv L _ hL K.out.fd).mono ?_
  rintro e w1 ⟨⟨b, hb255, rfl⟩, hF1, hg1⟩
  replace K := Lib.hid (K.out.grow hF1 hg1); clear hF1 hg1 h
  obtain ⟨p0, p1, p2⟩ := K.out.facts
  have hz := K.out.lt
  have HZ := Lib.hid K.out.lt2
  obtain ⟨r, hr8, hre⟩ : ∃ r : Nat, r < 8 ∧ (b : Int) % 8 = (r : Int) := ⟨b % 8, Nat.mod_lt _ (by omega), by simp⟩
  by_cases h3 : r < 3
  · have h3' : (r : Int) < 3 := by omega
    rcases (by omega : (b : Int) / 8 % 6 = 0 ∨ (b : Int) / 8 % 6 = 1 ∨ (b : Int) / 8 % 6 = 2 ∨ (b : Int) / 8 % 6 = 3 ∨ (b : Int) / 8 % 6 = 4 ∨ (b : Int) / 8 % 6 = 5) with hqe | hqe | hqe | hqe | hqe | hqe
    · have K9 := Lib.hid (K.out.step (ba w1 (.cells #[.int .i64 0, .int .i64 1, .int .i64 2, .int .i64 3, .int .i64 5, .int .i64 9223372036854775807] 2)))
      obtain ⟨p0', p1', p2'⟩ := K9.out.facts
      go_wp2_with fail
      exact bodyPost_ret (v := ev 0 e0 1 0 e0 e0 e0 nilk) (by simp [results, Tryd.results17, go_sem, p1']) rfl ⟨Made.lit _ (by kernel_rfl) (by decide), K9.out.out _ _ _ _ _ _ _ _⟩
    · have K9 := Lib.hid (K.out.step (ba w1 (.cells #[.int .i64 0, .int .i64 1, .int .i64 2, .int .i64 3, .int .i64 5, .int .i64 9223372036854775807] 2)))
      obtain ⟨p0', p1', p2'⟩ := K9.out.facts
      go_wp2_with fail
      exact bodyPost_ret (v := ev 0 e0 1 1 e0 e0 e0 nilk) (by simp [results, Tryd.results17, go_sem, p1']) rfl ⟨Made.lit _ (by kernel_rfl) (by decide), K9.out.out _ _ _ _ _ _ _ _⟩
    · have K9 := Lib.hid (K.out.step (ba w1 (.cells #[.int .i64 0, .int .i64 1, .int .i64 2, .int .i64 3, .int .i64 5, .int .i64 9223372036854775807] 2)))
      obtain ⟨p0', p1', p2'⟩ := K9.out.facts
      go_wp2_with fail
      exact bodyPost_ret (v := ev 0 e0 1 2 e0 e0 e0 nilk) (by simp [results, Tryd.results17, go_sem, p1']) rfl ⟨Made.lit _ (by kernel_rfl) (by decide), K9.out.out _ _ _ _ _ _ _ _⟩
    · have K9 := Lib.hid (K.out.step (ba w1 (.cells #[.int .i64 0, .int .i64 1, .int .i64 2, .int .i64 3, .int .i64 5, .int .i64 9223372036854775807] 2)))
      obtain ⟨p0', p1', p2'⟩ := K9.out.facts
      go_wp2_with fail
      exact bodyPost_ret (v := ev 0 e0 1 3 e0 e0 e0 nilk) (by simp [results, Tryd.results17, go_sem, p1']) rfl ⟨Made.lit _ (by kernel_rfl) (by decide), K9.out.out _ _ _ _ _ _ _ _⟩
    · have K9 := Lib.hid (K.out.step (ba w1 (.cells #[.int .i64 0, .int .i64 1, .int .i64 2, .int .i64 3, .int .i64 5, .int .i64 9223372036854775807] 2)))
      obtain ⟨p0', p1', p2'⟩ := K9.out.facts
      go_wp2_with fail
      exact bodyPost_ret (v := ev 0 e0 1 5 e0 e0 e0 nilk) (by simp [results, Tryd.results17, go_sem, p1']) rfl ⟨Made.lit _ (by kernel_rfl) (by decide), K9.out.out _ _ _ _ _ _ _ _⟩
    · have K9 := Lib.hid (K.out.step (ba w1 (.cells #[.int .i64 0, .int .i64 1, .int .i64 2, .int .i64 3, .int .i64 5, .int .i64 9223372036854775807] 2)))
      obtain ⟨p0', p1', p2'⟩ := K9.out.facts
      go_wp2_with fail
      exact bodyPost_ret (v := ev 0 e0 1 9223372036854775807 e0 e0 e0 nilk) (by simp [results, Tryd.results17, go_sem, p1']) rfl ⟨Made.lit _ (by kernel_rfl) (by decide), K9.out.out _ _ _ _ _ _ _ _⟩
  · have h3' : ¬ (r : Int) < 3 := by omega
    by_cases h5 : r < 5
    · have h5' : (r : Int) < 5 := by omega
      go_wp2_with (go_at_call 32; ((with_reducible refine (of_any d w0 g oo lv L _ ⟨#[107, 120, 121]⟩ 1 1 mt hL (by decide) (by kernel_rfl) (by decide) K.out.fd).mono ?_); rintro e w2 ⟨hM, hF2, hg2⟩; obtain ⟨x, kx, k1, o1, a1, b1, s1, v1, f1, A1, n1, c1, rfl, hT, ho, hs, hn⟩ := hM.open_; replace K := Lib.hid (K.out.grow hF2 hg2); have HT := Lib.hid (And.intro hT (And.intro ho (And.intro hs hn))); clear hM hF2 hg2 hT ho hs hn p0 p1 p2; obtain ⟨p0, p1, p2⟩ := K.out.facts))
      exact bodyPost_ret (v := ev k1 o1 a1 b1 s1 v1 f1 (.slice A1 n1 c1)) (by simp [results, Tryd.results17, go_sem, p1]) rfl ⟨Made.back HT.out.1 HT.out.2.2.2 HT.out.2.1 HT.out.2.2.1 HZ.out (by have := HZ.out; omega) _ _ _ _ _ _ _ _, K.out.out _ _ _ _ _ _ _ _⟩
    · have h5' : ¬ (r : Int) < 5 := by omega
      have h5d : decide ((r : Int) < 5) = false := decide_eq_false h5'
      by_cases hd0 : d < 1
      · have hd0' : (d : Int) < 1 := by omega
        go_wp2_with (go_at_call 32; ((with_reducible refine (of_any d w0 g oo lv L _ ⟨#[107, 120, 121]⟩ 1 1 mt hL (by decide) (by kernel_rfl) (by decide) K.out.fd).mono ?_); rintro e w2 ⟨hM, hF2, hg2⟩; obtain ⟨x, kx, k1, o1, a1, b1, s1, v1, f1, A1, n1, c1, rfl, hT, ho, hs, hn⟩ := hM.open_; replace K := Lib.hid (K.out.grow hF2 hg2); have HT := Lib.hid (And.intro hT (And.intro ho (And.intro hs hn))); clear hM hF2 hg2 hT ho hs hn p0 p1 p2; obtain ⟨p0, p1, p2⟩ := K.out.facts))
        exact bodyPost_ret (v := ev k1 o1 a1 b1 s1 v1 f1 (.slice A1 n1 c1)) (by simp [results, Tryd.results17, go_sem, p1]) rfl ⟨Made.back HT.out.1 HT.out.2.2.2 HT.out.2.1 HT.out.2.2.1 HZ.out (by have := HZ.out; omega) _ _ _ _ _ _ _ _, K.out.out _ _ _ _ _ _ _ _⟩
      · have hd1 : ¬ (d : Int) < 1 := by omega
        have hd2 : decide ((d : Int) < 1) = false := decide_eq_false hd1
        rcases (by omega : r = 5 ∨ r = 6 ∨ r = 7) with rfl | rfl | rfl
        · go_wp2_with fail
          exact bodyPost_ret (v := ev 2 e0 0 0 e0 oo.nm e0 nilk) (by simp [results, Tryd.results17, go_sem, p1]) rfl ⟨Made.cnt _ K.out.fd.nm, K.out.out _ _ _ _ _ _ _ _⟩
        · go_wp2_with (go_at_call 17; ((with_reducible refine (HI.out (by omega) _ K.out.fd).mono ?_); rintro e w2 ⟨hM, hF2, hg2⟩; obtain ⟨x, kx, k1, o1, a1, b1, s1, v1, f1, A1, n1, c1, rfl, hT, ho, hs, hn⟩ := hM.open_; replace K := Lib.hid (K.out.grow hF2 hg2); have HT := Lib.hid (And.intro hT (And.intro ho (And.intro hs hn))); clear hM hF2 hg2 hT ho hs hn p0 p1 p2; obtain ⟨p0, p1, p2⟩ := K.out.facts; have K9 := Lib.hid (K.out.step (ba w2 (.cells #[.int .i64 k1, .string o1, .int .i64 a1, .int .i64 b1, .string s1, .string v1, .string f1, .slice A1 n1 c1] 42))); obtain ⟨p0', p1', p2'⟩ := K9.out.facts))
          exact bodyPost_ret (v := ev 3 ⟨#[45]⟩ 0 0 e0 e0 e0 (.slice (some ⟨w2.heap.size, 0, none⟩) 1 1)) (by simp [results, Tryd.results17, go_sem, p1']) rfl ⟨Made.un (W := w2.alloc (.cells #[.int .i64 k1, .string o1, .int .i64 a1, .int .i64 b1, .string s1, .string v1, .string f1, .slice A1 n1 c1] 42)) (T := 42) (kx := kx) (by omega) (by kernel_rfl) (by omega) K.out.lt2 ((HT.out.1.later (ba _ _)).mono (Nat.le_of_lt hz)) HT.out.2.1 HT.out.2.2.1 (by rw [HT.out.2.2.2]; exact Blk.new w2 _ _) ((HT.out.1.later (ba _ _)).mono HZ.out) _ _ _ _ _ _ _ _, K9.out.out _ _ _ _ _ _ _ _⟩
        · go_wp2_with fail
          go_at_call 17
          refine (HI.out (by omega) _ K.out.fd).mono ?_
          rintro e w2 ⟨hM, hF2, hg2⟩
          obtain ⟨x, kx, k1, o1, a1, b1, s1, v1, f1, A1, n1, c1, rfl, hT, ho, hs, hn⟩ := hM.open_
          replace K := Lib.hid (K.out.grow hF2 hg2)
          have HT := Lib.hid (And.intro (hT.later (ba w2 (.cells #[.int .i64 k1, .string o1, .int .i64 a1, .int .i64 b1, .string s1, .string v1, .string f1, .slice A1 n1 c1] 42))) (And.intro ho (And.intro hs hn)))
          have K9 := Lib.hid (K.out.step (ba w2 (.cells #[.int .i64 k1, .string o1, .int .i64 a1, .int .i64 b1, .string s1, .string v1, .string f1, .slice A1 n1 c1] 42)))
          have r8 := Lib.hid (And.intro (Blk.new w2 42 #[.int .i64 k1, .string o1, .int .i64 a1, .int .i64 b1, .string s1, .string v1, .string f1, .slice A1 n1 c1]) (And.intro K.out.lt2 (show g < w2.heap.size from Nat.lt_trans K.out.2.2.2.2.1 K.out.lt)))
          clear hM hF2 hg2 hT ho hs hn p0 p1 p2 K
          obtain ⟨p0, p1, p2⟩ := K9.out.facts
          go_wp2_with fail
          generalize w2.alloc _ = W2 at *
          generalize w2.heap.size = g8 at *
          go_at_call 17
          refine (HI.out (by omega) _ K9.out.fd).mono ?_
          rintro e w3 ⟨hM, hF3, hg3⟩
          obtain ⟨y, ky, k2, o2, a2, b2, s2, v2, f2, A2, n2, c2, rfl, hT, ho, hs, hn⟩ := hM.open_
          have K4 := K9.out.grow hF3 hg3
          have K5 := Lib.hid (K4.step (ba w3 (.cells #[.int .i64 k2, .string o2, .int .i64 a2, .int .i64 b2, .string s2, .string v2, .string f2, .slice A2 n2 c2] 42)))
          have gB : g < w1.heap.size := by have := HZ.out; have := K4.2.2.2.2.1; omega
          have hx3 := ((HT.out.1.grown hg3 gB).later (ba w3 (.cells #[.int .i64 k2, .string o2, .int .i64 a2, .int .i64 b2, .string s2, .string v2, .string f2, .slice A2 n2 c2] 42))).mono (B' := w.heap.size + 1 + 1) HZ.out
          have hy3 := (hT.later (ba w3 (.cells #[.int .i64 k2, .string o2, .int .i64 a2, .int .i64 b2, .string s2, .string v2, .string f2, .slice A2 n2 c2] 42))).mono (B' := w.heap.size + 1 + 1) (by have := K9.out.lt2; omega)
          have hT8 : Two8 (w3.alloc (.cells #[.int .i64 k2, .string o2, .int .i64 a2, .int .i64 b2, .string s2, .string v2, .string f2, .slice A2 n2 c2] 42)) g8 w3.heap.size #[.int .i64 k1, .string o1, .int .i64 a1, .int .i64 b1, .string s1, .string v1, .string f1, .slice A1 n1 c1] #[.int .i64 k2, .string o2, .int .i64 a2, .int .i64 b2, .string s2, .string v2, .string f2, .slice A2 n2 c2] := ⟨(r8.out.1.grown hg3 (fun e => by have := Option.some.inj e; have := r8.out.2.2; omega)).alloc _, Blk.new w3 _ _⟩
          have ne9 : w3.heap.size ≠ w.heap.size + 1 := by have := K4.lt2; omega
          have ne8 : g8 ≠ w.heap.size + 1 := by have := r8.out.2.1; omega
          have HY := Lib.hid (And.intro hx3 (And.intro hy3 (And.intro hT8 (And.intro ne8 (And.intro ne9 (And.intro ho (And.intro hs hn)))))))
          clear hM hF3 hg3 hT ho hs hn K4 gB hx3 hy3 hT8 ne8 ne9 p0 p1 p2
          obtain ⟨p0, p1, p2⟩ := K5.out.facts
          go_wp2_with fail
          generalize w3.alloc _ = W3 at *
          generalize w3.heap.size = g9 at *
          refine wp_of_eq (c' := ((Tryd.f17.body.bind (regionN 12)).getD .skip)) ?_ (by kernel_rfl)
          refine num_pick _ _ _ _ _ _ _ _ _ _ _ _ _ _ _ _ _ _ _ _ _ _ _ _ _ _ _ _ _ _ _ _ _ _ _ _ _ _ _ _ _ _ _ _ _ _ _ _ _ _ _ _ _ _ _ _ _ _ _ _ _ _ _ _ _ _ _ _ _ _ K5.out HY.out.2.2.1 HY.out.2.2.2.1 HY.out.2.2.2.2.1 HY.out.1 HY.out.2.1 HT.out.2.1 HT.out.2.2.1 HY.out.2.2.2.2.2.1 HY.out.2.2.2.2.2.2.1 HT.out.2.2.2 HY.out.2.2.2.2.2.2.2 hb255 (fun _ _ _ _ _ _ _ _ _ _ wx hFin => ?_)
          obtain ⟨op, gN, hc, hM, hF, hG⟩ := hFin
          have HF := Lib.hid (And.intro hM (And.intro hF hG))
          clear hM hF hG p0 p1 p2
          go_wp2_with fail
          exact bodyPost_ret (v := ev 4 op 0 0 e0 e0 e0 (.slice (some ⟨gN, 0, none⟩) 2 2)) (by simp [results, Tryd.results17, go_sem, hc]) rfl ⟨HF.out.1.up (by omega), HF.out.2⟩
end Go.Proofs.YtenmbahfgfmjjaaDoor
