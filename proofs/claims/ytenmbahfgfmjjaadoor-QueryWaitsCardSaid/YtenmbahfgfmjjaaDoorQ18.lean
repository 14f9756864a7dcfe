/- Texts that several proofs stand on, part 18. -/
import Derived.Test.YtenmbahfgfmjjaaDoorQ17
namespace Go.Proofs.YtenmbahfgfmjjaaDoor
open Go.ChangeShapes Go.WideShapes Go.ChangeAt Go.RowKit
open Rk (inR)
set_option linter.unusedVariables false
set_option linter.unusedSimpArgs false

theorem numF_any (w0 : World) (g : Nat) (oo : Oo) (lv : Value) (L : List UInt8) (hL : L.length ≤ 140737488351232) : ∀ d : Nat, d ≤ 3 → ∀ w, FD w0 g oo lv L w → Calls Tryd.prog 17 #[.pointer (some ⟨g, 0, none⟩), .agg #[.string oo.nm, .slice oo.A oo.n oo.c], .int .i64 (d : Nat)] w fun e w' => Made d w.heap.size e w' ∧ FD w0 g oo lv L w' ∧ GB g w w' := by
  intro d
  induction d with
  | zero => exact fun hd w h => number_gen w0 g oo lv L hL 0 hd (fun h => by omega) w h
  | succ d ih => exact fun hd w h => number_gen w0 g oo lv L hL (d + 1) hd (fun _ W hW => by have := ih (by omega) W hW; rw [show ((d + 1 : Nat) : Int) - 1 = (d : Int) by omega, Nat.add_sub_cancel]; exact this) w h
set_option maxRecDepth 20000 in
set_option maxHeartbeats 4000000 in
theorem text_gen (w0 : World) (g : Nat) (oo : Oo) (lv : Value) (L : List UInt8) (hL : L.length ≤ 140737488351232) (d : Nat) (hd : d ≤ 3) (IH : 1 ≤ d → ∀ W, FD w0 g oo lv L W → Calls Tryd.prog 18 #[.pointer (some ⟨g, 0, none⟩), .agg #[.string oo.nm, .slice oo.A oo.n oo.c], .int .i64 ((d : Int) - 1)] W fun e w' => Made (d - 1) W.heap.size e w' ∧ FD w0 g oo lv L w' ∧ GB g W w') (w : World) (h : FD w0 g oo lv L w) :
    Calls Tryd.prog 18 #[.pointer (some ⟨g, 0, none⟩), .agg #[.string oo.nm, .slice oo.A oo.n oo.c], .int .i64 (d : Nat)] w fun e w' => Made d w.heap.size e w' ∧ FD w0 g oo lv L w' ∧ GB g w w' := by
  have K := Lib.hid (KN.new h)
  have HI := Lib.hid IH; clear IH
  go_enter Tryd.func18, Tryd.ntmps18
  go_wp2_with fail
  go_at_call 15
  refine (next_any w0 g oo lv L _ hL K.out.fd).mono ?_
  rintro e w1 ⟨⟨b, hb255, rfl⟩, hF1, hg1⟩
  replace K := Lib.hid (K.out.grow hF1 hg1); clear hF1 hg1 h
  obtain ⟨p0, p1, p2⟩ := K.out.facts
  have hz := K.out.lt
  have HZ := Lib.hid K.out.lt2
  obtain ⟨r, hr8, hre⟩ : ∃ r : Nat, r < 4 ∧ (b : Int) % 4 = (r : Int) := ⟨b % 4, Nat.mod_lt _ (by omega), by simp⟩
  rcases (by omega : r = 0 ∨ r = 1 ∨ r = 2 ∨ r = 3) with rfl | rfl | rfl | rfl
  · rcases (by omega : (b : Int) / 4 % 4 = 0 ∨ (b : Int) / 4 % 4 = 1 ∨ (b : Int) / 4 % 4 = 2 ∨ (b : Int) / 4 % 4 = 3) with hqe | hqe | hqe | hqe
    · have K9 := Lib.hid (K.out.step (ba w1 (.cells #[.string ⟨#[]⟩, .string ⟨#[97]⟩, .string ⟨#[98]⟩, .string ⟨#[120, 32, 121]⟩] 9)))
      obtain ⟨p0', p1', p2'⟩ := K9.out.facts
      go_wp2_with fail
      exact bodyPost_ret (v := ev 0 e0 3 0 ⟨#[]⟩ e0 e0 nilk) (by simp [results, Tryd.results18, go_sem, p1']) rfl ⟨Made.lit _ (by kernel_rfl) (by decide), K9.out.out _ _ _ _ _ _ _ _⟩
    · have K9 := Lib.hid (K.out.step (ba w1 (.cells #[.string ⟨#[]⟩, .string ⟨#[97]⟩, .string ⟨#[98]⟩, .string ⟨#[120, 32, 121]⟩] 9)))
      obtain ⟨p0', p1', p2'⟩ := K9.out.facts
      go_wp2_with fail
      exact bodyPost_ret (v := ev 0 e0 3 0 ⟨#[97]⟩ e0 e0 nilk) (by simp [results, Tryd.results18, go_sem, p1']) rfl ⟨Made.lit _ (by kernel_rfl) (by decide), K9.out.out _ _ _ _ _ _ _ _⟩
    · have K9 := Lib.hid (K.out.step (ba w1 (.cells #[.string ⟨#[]⟩, .string ⟨#[97]⟩, .string ⟨#[98]⟩, .string ⟨#[120, 32, 121]⟩] 9)))
      obtain ⟨p0', p1', p2'⟩ := K9.out.facts
      go_wp2_with fail
      exact bodyPost_ret (v := ev 0 e0 3 0 ⟨#[98]⟩ e0 e0 nilk) (by simp [results, Tryd.results18, go_sem, p1']) rfl ⟨Made.lit _ (by kernel_rfl) (by decide), K9.out.out _ _ _ _ _ _ _ _⟩
    · have K9 := Lib.hid (K.out.step (ba w1 (.cells #[.string ⟨#[]⟩, .string ⟨#[97]⟩, .string ⟨#[98]⟩, .string ⟨#[120, 32, 121]⟩] 9)))
      obtain ⟨p0', p1', p2'⟩ := K9.out.facts
      go_wp2_with fail
      exact bodyPost_ret (v := ev 0 e0 3 0 ⟨#[120, 32, 121]⟩ e0 e0 nilk) (by simp [results, Tryd.results18, go_sem, p1']) rfl ⟨Made.lit _ (by kernel_rfl) (by decide), K9.out.out _ _ _ _ _ _ _ _⟩
  · go_wp2_with (go_at_call 32; ((with_reducible refine (of_any d w0 g oo lv L _ ⟨#[115]⟩ 3 0 nA hL (by decide) (by kernel_rfl) (by decide) K.out.fd).mono ?_); rintro e w2 ⟨hM, hF2, hg2⟩; obtain ⟨x, kx, k1, o1, a1, b1, s1, v1, f1, A1, n1, c1, rfl, hT, ho, hs, hn⟩ := hM.open_; replace K := Lib.hid (K.out.grow hF2 hg2); have HT := Lib.hid (And.intro hT (And.intro ho (And.intro hs hn))); clear hM hF2 hg2 hT ho hs hn p0 p1 p2; obtain ⟨p0, p1, p2⟩ := K.out.facts))
    exact bodyPost_ret (v := ev k1 o1 a1 b1 s1 v1 f1 (.slice A1 n1 c1)) (by simp [results, Tryd.results18, go_sem, p1]) rfl ⟨Made.back HT.out.1 HT.out.2.2.2 HT.out.2.1 HT.out.2.2.1 (by have := HZ.out; omega) (by have := HZ.out; omega) _ _ _ _ _ _ _ _, K.out.out _ _ _ _ _ _ _ _⟩
  · go_wp2_with (go_at_call 32; ((with_reducible refine (of_any d w0 g oo lv L _ ⟨#[115]⟩ 3 0 nA hL (by decide) (by kernel_rfl) (by decide) K.out.fd).mono ?_); rintro e w2 ⟨hM, hF2, hg2⟩; obtain ⟨x, kx, k1, o1, a1, b1, s1, v1, f1, A1, n1, c1, rfl, hT, ho, hs, hn⟩ := hM.open_; replace K := Lib.hid (K.out.grow hF2 hg2); have HT := Lib.hid (And.intro hT (And.intro ho (And.intro hs hn))); clear hM hF2 hg2 hT ho hs hn p0 p1 p2; obtain ⟨p0, p1, p2⟩ := K.out.facts))
    exact bodyPost_ret (v := ev k1 o1 a1 b1 s1 v1 f1 (.slice A1 n1 c1)) (by simp [results, Tryd.results18, go_sem, p1]) rfl ⟨Made.back HT.out.1 HT.out.2.2.2 HT.out.2.1 HT.out.2.2.1 (by have := HZ.out; omega) (by have := HZ.out; omega) _ _ _ _ _ _ _ _, K.out.out _ _ _ _ _ _ _ _⟩
  · by_cases hd0 : d < 1
    · have hd0' : (d : Int) < 1 := by omega
      go_wp2_with (go_at_call 32; ((with_reducible refine (of_any d w0 g oo lv L _ ⟨#[115]⟩ 3 0 nA hL (by decide) (by kernel_rfl) (by decide) K.out.fd).mono ?_); rintro e w2 ⟨hM, hF2, hg2⟩; obtain ⟨x, kx, k1, o1, a1, b1, s1, v1, f1, A1, n1, c1, rfl, hT, ho, hs, hn⟩ := hM.open_; replace K := Lib.hid (K.out.grow hF2 hg2); have HT := Lib.hid (And.intro hT (And.intro ho (And.intro hs hn))); clear hM hF2 hg2 hT ho hs hn p0 p1 p2; obtain ⟨p0, p1, p2⟩ := K.out.facts))
      exact bodyPost_ret (v := ev k1 o1 a1 b1 s1 v1 f1 (.slice A1 n1 c1)) (by simp [results, Tryd.results18, go_sem, p1]) rfl ⟨Made.back HT.out.1 HT.out.2.2.2 HT.out.2.1 HT.out.2.2.1 (by have := HZ.out; omega) (by have := HZ.out; omega) _ _ _ _ _ _ _ _, K.out.out _ _ _ _ _ _ _ _⟩
    · have hd1 : ¬ (d : Int) < 1 := by omega
      have hd2 : decide ((d : Int) < 1) = false := decide_eq_false hd1
      go_wp2_with fail
      go_at_call 18
      refine (HI.out (by omega) _ K.out.fd).mono ?_
      rintro e w2 ⟨hM, hF2, hg2⟩
      obtain ⟨x, kx, k1, o1, a1, b1, s1, v1, f1, A1, n1, c1, rfl, hT, ho, hs, hn⟩ := hM.open_
      replace K := Lib.hid (K.out.grow hF2 hg2)
      have HT := Lib.hid (And.intro (hT.later (ba w2 (.cells #[.int .i64 k1, .string o1, .int .i64 a1, .int .i64 b1, .string s1, .string v1, .string f1, .slice A1 n1 c1] 42))) (And.intro ho (And.intro hs hn)))
      have K9 := Lib.hid (K.out.step (ba w2 (.cells #[.int .i64 k1, .string o1, .int .i64 a1, .int .i64 b1, .string s1, .string v1, .string f1, .slice A1 n1 c1] 42)))
      have r8 := Lib.hid (And.intro (Blk.new w2 42 #[.int .i64 k1, .string o1, .int .i64 a1, .int .i64 b1, .string s1, .string v1, .string f1, .slice A1 n1 c1]) (And.intro K.out.lt2 (show g < w2.heap.size from Nat.lt_trans K.out.2.2.2.2.1 K.out.lt)))
      clear hM hF2 hg2 hT ho hs hn p0 p1 p2 K
      obtain ⟨p0, p1, p2⟩ := K9.out.facts
      go_wp2_with fail
      generalize w2.alloc _ = W2 at *
      generalize w2.heap.size = g8 at *
      go_at_call 18
      refine (HI.out (by omega) _ K9.out.fd).mono ?_
      rintro e w3 ⟨hM, hF3, hg3⟩
      obtain ⟨y, ky, k2, o2, a2, b2, s2, v2, f2, A2, n2, c2, rfl, hT, ho, hs, hn⟩ := hM.open_
      have K4 := K9.out.grow hF3 hg3
      have K5 := Lib.hid (K4.step (ba w3 (.cells #[.int .i64 k2, .string o2, .int .i64 a2, .int .i64 b2, .string s2, .string v2, .string f2, .slice A2 n2 c2] 42)))
      have gB : g < w1.heap.size := by have := HZ.out; have := K4.2.2.2.2.1; omega
      have hx3 := ((HT.out.1.grown hg3 gB).later (ba w3 (.cells #[.int .i64 k2, .string o2, .int .i64 a2, .int .i64 b2, .string s2, .string v2, .string f2, .slice A2 n2 c2] 42))).mono (B' := w.heap.size + 1 + 1) HZ.out
      have hy3 := (hT.later (ba w3 (.cells #[.int .i64 k2, .string o2, .int .i64 a2, .int .i64 b2, .string s2, .string v2, .string f2, .slice A2 n2 c2] 42))).mono (B' := w.heap.size + 1 + 1) (by have := K9.out.lt2; omega)
      have hT8 : Two8 (w3.alloc (.cells #[.int .i64 k2, .string o2, .int .i64 a2, .int .i64 b2, .string s2, .string v2, .string f2, .slice A2 n2 c2] 42)) g8 w3.heap.size #[.int .i64 k1, .string o1, .int .i64 a1, .int .i64 b1, .string s1, .string v1, .string f1, .slice A1 n1 c1] #[.int .i64 k2, .string o2, .int .i64 a2, .int .i64 b2, .string s2, .string v2, .string f2, .slice A2 n2 c2] := ⟨(r8.out.1.grown hg3 (fun e => by have := Option.some.inj e; have := r8.out.2.2; omega)).alloc _, Blk.new w3 _ _⟩
      have ne9 : w3.heap.size ≠ w.heap.size + 1 := by have := K4.lt2; omega
      have ne8 : g8 ≠ w.heap.size + 1 := by have := r8.out.2.1; omega
      have HY := Lib.hid (And.intro hx3 (And.intro hy3 (And.intro hT8 (And.intro ne8 (And.intro ne9 (And.intro ho (And.intro hs hn)))))))
      clear hM hF3 hg3 hT ho hs hn K4 gB hx3 hy3 hT8 ne8 ne9 p0 p1 p2
      have K6 := Lib.hid (K5.out.step (ba (w3.alloc (.cells #[.int .i64 k2, .string o2, .int .i64 a2, .int .i64 b2, .string s2, .string v2, .string f2, .slice A2 n2 c2] 42)) (.cells #[.int .i64 k1, .string o1, .int .i64 a1, .int .i64 b1, .string s1, .string v1, .string f1, .slice A1 n1 c1, .int .i64 k2, .string o2, .int .i64 a2, .int .i64 b2, .string s2, .string v2, .string f2, .slice A2 n2 c2] 42)))
      have hN0 : Blk ((w3.alloc (.cells #[.int .i64 k2, .string o2, .int .i64 a2, .int .i64 b2, .string s2, .string v2, .string f2, .slice A2 n2 c2] 42)).alloc (.cells #[.int .i64 k1, .string o1, .int .i64 a1, .int .i64 b1, .string s1, .string v1, .string f1, .slice A1 n1 c1, .int .i64 k2, .string o2, .int .i64 a2, .int .i64 b2, .string s2, .string v2, .string f2, .slice A2 n2 c2] 42)) (w3.heap.size + 1) 42 #[.int .i64 k1, .string o1, .int .i64 a1, .int .i64 b1, .string s1, .string v1, .string f1, .slice A1 n1 c1, .int .i64 k2, .string o2, .int .i64 a2, .int .i64 b2, .string s2, .string v2, .string f2, .slice A2 n2 c2] := by have := Blk.new (w3.alloc (.cells #[.int .i64 k2, .string o2, .int .i64 a2, .int .i64 b2, .string s2, .string v2, .string f2, .slice A2 n2 c2] 42)) 42 #[.int .i64 k1, .string o1, .int .i64 a1, .int .i64 b1, .string s1, .string v1, .string f1, .slice A1 n1 c1, .int .i64 k2, .string o2, .int .i64 a2, .int .i64 b2, .string s2, .string v2, .string f2, .slice A2 n2 c2]; simpa using this
      have hN := Lib.hid hN0; clear hN0
      have bN := Lib.hid (ba (w3.alloc (.cells #[.int .i64 k2, .string o2, .int .i64 a2, .int .i64 b2, .string s2, .string v2, .string f2, .slice A2 n2 c2] 42)) (.cells #[.int .i64 k1, .string o1, .int .i64 a1, .int .i64 b1, .string s1, .string v1, .string f1, .slice A1 n1 c1, .int .i64 k2, .string o2, .int .i64 a2, .int .i64 b2, .string s2, .string v2, .string f2, .slice A2 n2 c2] 42))
      have lN0 : w.heap.size + 1 < w3.heap.size + 1 := by have := K5.out.lt2; simpa using this
      have lN := Lib.hid lN0; clear lN0
      obtain ⟨d8, d9⟩ := HY.out.2.2.1.held
      obtain ⟨p0, p1, p2⟩ := K5.out.facts
      obtain ⟨p0', p1', p2'⟩ := K6.out.facts
      go_wp2_with fail
      exact bodyPost_ret (v := ev 4 ⟨#[43]⟩ 0 0 e0 e0 e0 (.slice (some ⟨w3.heap.size + 1, 0, none⟩) 2 2)) (by simp [results, Tryd.results18, go_sem, p1']) rfl ⟨Made.bin (T := 42) (by omega) (of_decide_eq_true (by kernel_rfl)) (by omega) lN.out (HY.out.1.later bN.out) (HY.out.2.1.later bN.out) HT.out.2.1 HT.out.2.2.1 HY.out.2.2.2.2.2.1 HY.out.2.2.2.2.2.2.1 (by rw [HT.out.2.2.2, HY.out.2.2.2.2.2.2.2]; exact hN.out) _ _ _ _ _ _ _ _, K6.out.out _ _ _ _ _ _ _ _⟩
theorem text_any (w0 : World) (g : Nat) (oo : Oo) (lv : Value) (L : List UInt8) (hL : L.length ≤ 140737488351232) : ∀ d : Nat, d ≤ 3 → ∀ w, FD w0 g oo lv L w → Calls Tryd.prog 18 #[.pointer (some ⟨g, 0, none⟩), .agg #[.string oo.nm, .slice oo.A oo.n oo.c], .int .i64 (d : Nat)] w fun e w' => Made d w.heap.size e w' ∧ FD w0 g oo lv L w' ∧ GB g w w' := by
  intro d
  induction d with
  | zero => exact fun hd w h => text_gen w0 g oo lv L hL 0 hd (fun h => by omega) w h
  | succ d ih => exact fun hd w h => text_gen w0 g oo lv L hL (d + 1) hd (fun _ W hW => by have := ih (by omega) W hW; rw [show ((d + 1 : Nat) : Int) - 1 = (d : Int) by omega, Nat.add_sub_cancel]; exact this) w h
end Go.Proofs.YtenmbahfgfmjjaaDoor
