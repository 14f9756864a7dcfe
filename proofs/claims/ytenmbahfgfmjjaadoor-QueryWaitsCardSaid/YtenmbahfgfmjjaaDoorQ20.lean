/- Texts that several proofs stand on, part 20. -/
import Derived.Test.YtenmbahfgfmjjaaDoorQ18
import Derived.Test.YtenmbahfgfmjjaaDoorQ19
import Derived.Deep.Cut
namespace Go.Proofs.YtenmbahfgfmjjaaDoor
open Go.ChangeShapes Go.WideShapes Go.ChangeAt Go.RowKit
open Rk (inR)
set_option linter.unusedVariables false
set_option linter.unusedSimpArgs false

set_option maxRecDepth 20000 in
set_option maxHeartbeats 4000000 in
theorem truth_op (u0 u1 u2 u3 u4 u5 u6 u8 u9 u10 u11 u12 u13 u14 u15 u16 u17 u18 u19 u20 u21 u22 u23 u24 u25 u26 u27 u28 u29 u30 u31 u32 u33 u34 u35 u36 u37 u38 u39 u40 u41 u42 u43 u44 u45 u46 u47 u48 u49 u50 u51 u52 u53 u54 u55 u56 u57 u58 u59 u60 u61 u62 u63 u64 u65 u66 u67 u68 u69 u70 u71 u72 u73 u74 u75 u76 u77 u78 u79 u80 u81 u82 u83 u84 u85 u86 u87 u88 u89 u90 u91 u92 u93 u94 u95 u96 u97 u98 u99 u100 u101 u102 u103 u104 u105 u106 u107 u108 : Value) {w : World} {b : Nat} (hb255 : b ≤ 255) {Q : Exit → Act → World → Prop}
    (hQ : ∀ (x17 x18 x19 x20 x21 x22 : Value) (op : ByteArray) (wx : World), 0 < lvl op ∧ Below w.heap.size w wx → Q .normal ⟨#[u0, u1, u2, u3, u4, u5, u6, .int .i64 (b : Nat), .string op, u9, u10, u11, u12, u13, u14, u15, u16, x17, x18, x19, x20, x21, x22, u23, u24, u25, u26, u27, u28, u29, u30, u31, u32, u33, u34, u35, u36, u37, u38, u39, u40, u41, u42, u43, u44, u45, u46, u47, u48, u49, u50, u51, u52, u53, u54, u55, u56, u57, u58, u59, u60, u61, u62, u63, u64, u65, u66, u67, u68, u69, u70, u71, u72, u73, u74, u75, u76, u77, u78, u79, u80, u81, u82, u83, u84, u85, u86, u87, u88, u89, u90, u91, u92, u93, u94, u95, u96, u97, u98, u99, u100, u101, u102, u103, u104, u105, u106, u107, u108], []⟩ wx) :
    Code.wp Tryd.prog ((Tryd.f31.body.bind (regionN 2)).getD .skip) Q ⟨#[u0, u1, u2, u3, u4, u5, u6, .int .i64 (b : Nat), u8, u9, u10, u11, u12, u13, u14, u15, u16, u17, u18, u19, u20, u21, u22, u23, u24, u25, u26, u27, u28, u29, u30, u31, u32, u33, u34, u35, u36, u37, u38, u39, u40, u41, u42, u43, u44, u45, u46, u47, u48, u49, u50, u51, u52, u53, u54, u55, u56, u57, u58, u59, u60, u61, u62, u63, u64, u65, u66, u67, u68, u69, u70, u71, u72, u73, u74, u75, u76, u77, u78, u79, u80, u81, u82, u83, u84, u85, u86, u87, u88, u89, u90, u91, u92, u93, u94, u95, u96, u97, u98, u99, u100, u101, u102, u103, u104, u105, u106, u107, u108], []⟩ w := by
  have HQ := Lib.hid hQ; clear hQ
  conv => arg 2; whnf
  rcases (by omega : (b : Int) / 16 % 8 = 0 ∨ (b : Int) / 16 % 8 = 1 ∨ (b : Int) / 16 % 8 = 2 ∨ (b : Int) / 16 % 8 = 3 ∨ (b : Int) / 16 % 8 = 4 ∨ (b : Int) / 16 % 8 = 5 ∨ (b : Int) / 16 % 8 = 6 ∨ (b : Int) / 16 % 8 = 7) with hqe | hqe | hqe | hqe | hqe | hqe | hqe | hqe
  · go_wp2_with fail
    exact HQ.out _ _ _ _ _ _ ⟨#[61, 61]⟩ _ ⟨of_decide_eq_true (by kernel_rfl), ba _ _⟩
  · go_wp2_with fail
    exact HQ.out _ _ _ _ _ _ ⟨#[33, 61]⟩ _ ⟨of_decide_eq_true (by kernel_rfl), ba _ _⟩
  · go_wp2_with fail
    exact HQ.out _ _ _ _ _ _ ⟨#[60]⟩ _ ⟨of_decide_eq_true (by kernel_rfl), ba _ _⟩
  · go_wp2_with fail
    exact HQ.out _ _ _ _ _ _ ⟨#[60, 61]⟩ _ ⟨of_decide_eq_true (by kernel_rfl), ba _ _⟩
  · go_wp2_with fail
    exact HQ.out _ _ _ _ _ _ ⟨#[62]⟩ _ ⟨of_decide_eq_true (by kernel_rfl), ba _ _⟩
  · go_wp2_with fail
    exact HQ.out _ _ _ _ _ _ ⟨#[62, 61]⟩ _ ⟨of_decide_eq_true (by kernel_rfl), ba _ _⟩
  · go_wp2_with fail
    exact HQ.out _ _ _ _ _ _ ⟨#[60, 61]⟩ _ ⟨of_decide_eq_true (by kernel_rfl), ba _ _⟩
  · go_wp2_with fail
    exact HQ.out _ _ _ _ _ _ ⟨#[62, 61]⟩ _ ⟨of_decide_eq_true (by kernel_rfl), ba _ _⟩
set_option maxRecDepth 20000 in
set_option maxHeartbeats 4000000 in
theorem truth_gen (w0 : World) (g : Nat) (oo : Oo) (lv : Value) (L : List UInt8) (hL : L.length ≤ 140737488351232) (d : Nat) (hd : d ≤ 3) (IH : 1 ≤ d → ∀ W, FD w0 g oo lv L W → Calls Tryd.prog 31 #[.pointer (some ⟨g, 0, none⟩), .agg #[.string oo.nm, .slice oo.A oo.n oo.c], .int .i64 ((d : Int) - 1)] W fun e w' => Made (d - 1 + 2) W.heap.size e w' ∧ FD w0 g oo lv L w' ∧ GB g W w') (w : World) (h : FD w0 g oo lv L w) :
    Calls Tryd.prog 31 #[.pointer (some ⟨g, 0, none⟩), .agg #[.string oo.nm, .slice oo.A oo.n oo.c], .int .i64 (d : Nat)] w fun e w' => Made (d + 2) w.heap.size e w' ∧ FD w0 g oo lv L w' ∧ GB g w w' := by
  have K := Lib.hid (KN.new h)
  have HI := Lib.hid IH; clear IH
  go_enter Tryd.func31, Tryd.ntmps31
  go_wp2_with fail
  go_at_call 15
  refine (next_any w0 g oo lv L _ hL K.out.fd).mono ?_
  rintro e w1 ⟨⟨b, hb255, rfl⟩, hF1, hg1⟩
  replace K := Lib.hid (K.out.grow hF1 hg1); clear hF1 hg1 h
  obtain ⟨p0, p1, p2⟩ := K.out.facts
  have hz := K.out.lt
  have HZ := Lib.hid K.out.lt2
  go_upto_region 2 with fail
  refine wp_of_eq (c' := ((Tryd.f31.body.bind (regionN 2)).getD .skip)) ?_ (by kernel_rfl)
  refine truth_op _ _ _ _ _ _ _ _ _ _ _ _ _ _ _ _ _ _ _ _ _ _ _ _ _ _ _ _ _ _ _ _ _ _ _ _ _ _ _ _ _ _ _ _ _ _ _ _ _ _ _ _ _ _ _ _ _ _ _ _ _ _ _ _ _ _ _ _ _ _ _ _ _ _ _ _ _ _ _ _ _ _ _ _ _ _ _ _ _ _ _ _ _ _ _ _ _ _ _ _ _ _ _ _ _ _ _ _ hb255 (fun _ _ _ _ _ _ op wx hop => ?_)
  obtain ⟨hop, hbx⟩ := hop
  replace K := Lib.hid (K.out.step hbx)
  clear hbx p0 p1 p2 hz HZ
  obtain ⟨p0, p1, p2⟩ := K.out.facts
  have hz := K.out.lt
  have HZ := Lib.hid K.out.lt2
  have HOP := Lib.hid hop; clear hop
  obtain ⟨r, hr16, hre⟩ : ∃ r : Nat, r < 16 ∧ (b : Int) % 16 = (r : Int) := ⟨b % 16, Nat.mod_lt _ (by omega), by simp⟩
  by_cases h0 : r = 0
  · subst h0
    rcases (by omega : (b : Int) / 16 % 2 = 0 ∨ (b : Int) / 16 % 2 = 1) with hqe | hqe
    · go_wp2_with fail
      exact bodyPost_ret (v := ev 0 e0 2 0 e0 e0 e0 nilk) (by simp [results, Tryd.results31, go_sem, p1]) rfl ⟨Made.lit _ (by kernel_rfl) (by decide), K.out.out _ _ _ _ _ _ _ _⟩
    · go_wp2_with fail
      exact bodyPost_ret (v := ev 0 e0 2 1 e0 e0 e0 nilk) (by simp [results, Tryd.results31, go_sem, p1]) rfl ⟨Made.lit _ (by kernel_rfl) (by decide), K.out.out _ _ _ _ _ _ _ _⟩
  by_cases h1 : r = 1
  · subst h1
    go_wp2_with (go_at_call 32; ((with_reducible refine (of_any (d + 2) w0 g oo lv L _ ⟨#[116]⟩ 2 1 mt hL (by decide) (by kernel_rfl) (by decide) K.out.fd).mono ?_); rintro e w2 ⟨hM, hF2, hg2⟩; obtain ⟨x, kx, k1, o1, a1, b1, s1, v1, f1, A1, n1, c1, rfl, hT, ho, hs, hn⟩ := hM.open_; replace K := Lib.hid (K.out.grow hF2 hg2); have HT := Lib.hid (And.intro hT (And.intro ho (And.intro hs hn))); clear hM hF2 hg2 hT ho hs hn p0 p1 p2; obtain ⟨p0, p1, p2⟩ := K.out.facts))
    exact bodyPost_ret (v := ev k1 o1 a1 b1 s1 v1 f1 (.slice A1 n1 c1)) (by simp [results, Tryd.results31, go_sem, p1]) rfl ⟨Made.back HT.out.1 HT.out.2.2.2 HT.out.2.1 HT.out.2.2.1 (by have := HZ.out; omega) (by have := HZ.out; omega) _ _ _ _ _ _ _ _, K.out.out _ _ _ _ _ _ _ _⟩
  have f0 : ((r : Int) == 0) = false := beq_eq_false_iff_ne.2 (by omega)
  have f1 : ((r : Int) == 1) = false := beq_eq_false_iff_ne.2 (by omega)
  have f0' : ¬ (r : Int) = 0 := by omega
  have f1' : ¬ (r : Int) = 1 := by omega
  have f0'' : ¬ r = 0 := h0
  have f1'' : ¬ r = 1 := h1
  clear h0 h1
  by_cases hd0 : d < 1
  · have hd1 : ¬ (0 : Int) < (d : Int) := by omega
    have hd2 : decide ((0 : Int) < (d : Int)) = false := decide_eq_false hd1
    have hd3 : ¬ 0 < d := by omega
    by_cases h6 : r = 6
    · subst h6
      go_wp2_with fail
      go_at_call 18
      refine (text_any w0 g oo lv L hL 1 (by omega) _ K.out.fd).mono ?_
      rintro e w2 ⟨hM, hF2, hg2⟩
      obtain ⟨x, kx, k1, o1, a1, b1, s1, v1, f1, A1, n1, c1, rfl, hT, ho, hs, hn⟩ := hM.open_
      replace K := Lib.hid (K.out.grow hF2 hg2)
      have HT := Lib.hid (And.intro (hT.later (ba w2 (.cells #[.int .i64 k1, .string o1, .int .i64 a1, .int .i64 b1, .string s1, .string v1, .string f1, .slice A1 n1 c1] 42))) (And.intro ho (And.intro hs hn)))
      have K9 := Lib.hid (K.out.step (ba w2 (.cells #[.int .i64 k1, .string o1, .int .i64 a1, .int .i64 b1, .string s1, .string v1, .string f1, .slice A1 n1 c1] 42)))
      have r8 := Lib.hid (And.intro (Blk.new w2 42 #[.int .i64 k1, .string o1, .int .i64 a1, .int .i64 b1, .string s1, .string v1, .string f1, .slice A1 n1 c1]) (And.intro K.out.lt2 (show g < w2.heap.size from Nat.lt_trans K.out.2.2.2.2.1 K.out.lt)))
      clear hM hF2 hg2 hT ho hs hn p0 p1 p2 K
      obtain ⟨p0, p1, p2⟩ := K9.out.facts
      go_wp2_with fail
      generalize w2.alloc _ = W2 at *
      generalize w2.heap.size = g8 at *
      go_at_call 18
      refine (text_any w0 g oo lv L hL 1 (by omega) _ K9.out.fd).mono ?_
      rintro e w3 ⟨hM, hF3, hg3⟩
      obtain ⟨y, ky, k2, o2, a2, b2, s2, v2, f2, A2, n2, c2, rfl, hT, ho, hs, hn⟩ := hM.open_
      have K4 := K9.out.grow hF3 hg3
      have K5 := Lib.hid (K4.step (ba w3 (.cells #[.int .i64 k2, .string o2, .int .i64 a2, .int .i64 b2, .string s2, .string v2, .string f2, .slice A2 n2 c2] 42)))
      have gB : g < wx.heap.size := by have := HZ.out; have := K4.2.2.2.2.1; omega
      have hx3 := ((HT.out.1.grown hg3 gB).later (ba w3 (.cells #[.int .i64 k2, .string o2, .int .i64 a2, .int .i64 b2, .string s2, .string v2, .string f2, .slice A2 n2 c2] 42))).mono (B' := w.heap.size + 1 + 1) HZ.out
      have hy3 := (hT.later (ba w3 (.cells #[.int .i64 k2, .string o2, .int .i64 a2, .int .i64 b2, .string s2, .string v2, .string f2, .slice A2 n2 c2] 42))).mono (B' := w.heap.size + 1 + 1) (by have := K9.out.lt2; omega)
      have hT8 : Two8 (w3.alloc (.cells #[.int .i64 k2, .string o2, .int .i64 a2, .int .i64 b2, .string s2, .string v2, .string f2, .slice A2 n2 c2] 42)) g8 w3.heap.size #[.int .i64 k1, .string o1, .int .i64 a1, .int .i64 b1, .string s1, .string v1, .string f1, .slice A1 n1 c1] #[.int .i64 k2, .string o2, .int .i64 a2, .int .i64 b2, .string s2, .string v2, .string f2, .slice A2 n2 c2] := ⟨(r8.out.1.grown hg3 (fun e => by have := Option.some.inj e; have := r8.out.2.2; omega)).alloc _, Blk.new w3 _ _⟩
      have ne9 : w3.heap.size ≠ w.heap.size + 1 := by have := K4.lt2; omega
      have ne8 : g8 ≠ w.heap.size + 1 := by have := r8.out.2.1; omega
      have HY := Lib.hid (And.intro hx3 (And.intro hy3 (And.intro hT8 (And.intro ne8 (And.intro ne9 (And.intro ho (And.intro hs hn)))))))
      clear hM hF3 hg3 hT ho hs hn K4 gB hx3 hy3 hT8 ne8 ne9 p0 p1 p2
      have K6 := Lib.hid (K5.out.step (ba (w3.alloc (.cells #[.int .i64 k2, .string o2, .int .i64 a2, .int .i64 b2, .string s2, .string v2, .string f2, .slice A2 n2 c2] 42)) (.cells #[.int .i64 k1, .string o1, .int .i64 a1, .int .i64 b1, .string s1, .string v1, .string f1, .slice A1 n1 c1, .int .i64 k2, .string o2, .int .i64 a2, .int .i64 b2, .string s2, .string v2, .string f2, .slice A2 n2 c2] 42)))
      have hN0 : Blk ((w3.alloc (.cells #[.int .i64 k2, .string o2, .int .i64 a2, .int .i64 b2, .string s2, .string v2, .string f2, .slice A2 n2 c2] 42)).alloc (.cells #[.int .i64 k1, .string o1, .int .i64 a1, .int .i64 b1, .string s1, .string v1, .string f1, .slice A1 n1 c1, .int .i64 k2, .string o2, .int .i64 a2, .int .i64 b2, .string s2, .string v2, .string f2, .slice A2 n2 c2] 42)) (w3.heap.size + 1) 42 #[.int .i64 k1, .string o1, .int .i64 a1, .int .i64 b1, .string s1, .string v1, .string f1, .slice A1 n1 c1, .int .i64 k2, .string o2, .int .i64 a2, .int .i64 b2, .string s2, .string v2, .string f2, .slice A2 n2 c2] := by have := Blk.new (w3.alloc (.cells #[.int .i64 k2, .string o2, .int .i64 a2, .int .i64 b2, .string s2, .string v2, .string f2, .slice A2 n2 c2] 42)) 42 #[.int .i64 k1, .string o1, .int .i64 a1, .int .i64 b1, .string s1, .string v1, .string f1, .slice A1 n1 c1, .int .i64 k2, .string o2, .int .i64 a2, .int .i64 b2, .string s2, .string v2, .string f2, .slice A2 n2 c2]; simpa using this
      have hN := Lib.hid hN0; clear hN0
      have bN := Lib.hid (ba (w3.alloc (.cells #[.int .i64 k2, .string o2, .int .i64 a2, .int .i64 b2, .string s2, .string v2, .string f2, .slice A2 n2 c2] 42)) (.cells #[.int .i64 k1, .string o1, .int .i64 a1, .int .i64 b1, .string s1, .string v1, .string f1, .slice A1 n1 c1, .int .i64 k2, .string o2, .int .i64 a2, .int .i64 b2, .string s2, .string v2, .string f2, .slice A2 n2 c2] 42))
      have lN0 : w.heap.size + 1 < w3.heap.size + 1 := by have := K5.out.lt2; simpa using this
      have lN := Lib.hid lN0; clear lN0
      obtain ⟨d8, d9⟩ := HY.out.2.2.1.held
      obtain ⟨p0, p1, p2⟩ := K5.out.facts
      obtain ⟨p0', p1', p2'⟩ := K6.out.facts
      go_wp2_with fail
      exact bodyPost_ret (v := ev 4 op 0 0 e0 e0 e0 (.slice (some ⟨w3.heap.size + 1, 0, none⟩) 2 2)) (by simp [results, Tryd.results31, go_sem, p1']) rfl ⟨Made.bin (T := 42) (by omega) HOP.out (by omega) lN.out (HY.out.1.later bN.out) (HY.out.2.1.later bN.out) HT.out.2.1 HT.out.2.2.1 HY.out.2.2.2.2.2.1 HY.out.2.2.2.2.2.2.1 (by rw [HT.out.2.2.2, HY.out.2.2.2.2.2.2.2]; exact hN.out) _ _ _ _ _ _ _ _, K6.out.out _ _ _ _ _ _ _ _⟩
    · have f6 : ((r : Int) == 6) = false := beq_eq_false_iff_ne.2 (by omega)
      have f6' : ¬ (r : Int) = 6 := by omega
      have f6'' : ¬ r = 6 := h6
      clear h6
      rcases (by omega : r = 2 ∨ (r < 6 ∧ ¬ r = 2) ∨ ¬ r < 6) with rfl | ⟨h5, h2⟩ | h5
      · clear f0 f1 f0' f1' f0'' f1'' f6 f6' f6''
        go_wp2_with fail
        go_at_call 17
        refine (numF_any w0 g oo lv L hL 1 (by omega) _ K.out.fd).mono ?_
        rintro e w2 ⟨hM, hF2, hg2⟩
        obtain ⟨x, kx, k1, o1, a1, b1, s1, v1, f1, A1, n1, c1, rfl, hT, ho, hs, hn⟩ := hM.open_
        replace K := Lib.hid (K.out.grow hF2 hg2)
        have HT := Lib.hid (And.intro (hT.later (ba w2 (.cells #[.int .i64 k1, .string o1, .int .i64 a1, .int .i64 b1, .string s1, .string v1, .string f1, .slice A1 n1 c1] 42))) (And.intro ho (And.intro hs hn)))
        have K9 := Lib.hid (K.out.step (ba w2 (.cells #[.int .i64 k1, .string o1, .int .i64 a1, .int .i64 b1, .string s1, .string v1, .string f1, .slice A1 n1 c1] 42)))
        have r8 := Lib.hid (And.intro (Blk.new w2 42 #[.int .i64 k1, .string o1, .int .i64 a1, .int .i64 b1, .string s1, .string v1, .string f1, .slice A1 n1 c1]) (And.intro K.out.lt2 (show g < w2.heap.size from Nat.lt_trans K.out.2.2.2.2.1 K.out.lt)))
        clear hM hF2 hg2 hT ho hs hn p0 p1 p2 K
        obtain ⟨p0, p1, p2⟩ := K9.out.facts
        go_wp2_with fail
        generalize w2.alloc _ = W2 at *
        generalize w2.heap.size = g8 at *
        go_at_call 17
        refine (numF_any w0 g oo lv L hL 1 (by omega) _ K9.out.fd).mono ?_
        rintro e w3 ⟨hM, hF3, hg3⟩
        obtain ⟨y, ky, k2, o2, a2, b2, s2, v2, f2, A2, n2, c2, rfl, hT, ho, hs, hn⟩ := hM.open_
        have K4 := K9.out.grow hF3 hg3
        have K5 := Lib.hid (K4.step (ba w3 (.cells #[.int .i64 k2, .string o2, .int .i64 a2, .int .i64 b2, .string s2, .string v2, .string f2, .slice A2 n2 c2] 42)))
        have gB : g < wx.heap.size := by have := HZ.out; have := K4.2.2.2.2.1; omega
        have hx3 := ((HT.out.1.grown hg3 gB).later (ba w3 (.cells #[.int .i64 k2, .string o2, .int .i64 a2, .int .i64 b2, .string s2, .string v2, .string f2, .slice A2 n2 c2] 42))).mono (B' := w.heap.size + 1 + 1) HZ.out
        have hy3 := (hT.later (ba w3 (.cells #[.int .i64 k2, .string o2, .int .i64 a2, .int .i64 b2, .string s2, .string v2, .string f2, .slice A2 n2 c2] 42))).mono (B' := w.heap.size + 1 + 1) (by have := K9.out.lt2; omega)
        have hT8 : Two8 (w3.alloc (.cells #[.int .i64 k2, .string o2, .int .i64 a2, .int .i64 b2, .string s2, .string v2, .string f2, .slice A2 n2 c2] 42)) g8 w3.heap.size #[.int .i64 k1, .string o1, .int .i64 a1, .int .i64 b1, .string s1, .string v1, .string f1, .slice A1 n1 c1] #[.int .i64 k2, .string o2, .int .i64 a2, .int .i64 b2, .string s2, .string v2, .string f2, .slice A2 n2 c2] := ⟨(r8.out.1.grown hg3 (fun e => by have := Option.some.inj e; have := r8.out.2.2; omega)).alloc _, Blk.new w3 _ _⟩
        have ne9 : w3.heap.size ≠ w.heap.size + 1 := by have := K4.lt2; omega
        have ne8 : g8 ≠ w.heap.size + 1 := by have := r8.out.2.1; omega
        have HY := Lib.hid (And.intro hx3 (And.intro hy3 (And.intro hT8 (And.intro ne8 (And.intro ne9 (And.intro ho (And.intro hs hn)))))))
        clear hM hF3 hg3 hT ho hs hn K4 gB hx3 hy3 hT8 ne8 ne9 p0 p1 p2
        have K6 := Lib.hid (K5.out.step (ba (w3.alloc (.cells #[.int .i64 k2, .string o2, .int .i64 a2, .int .i64 b2, .string s2, .string v2, .string f2, .slice A2 n2 c2] 42)) (.cells #[.int .i64 k1, .string o1, .int .i64 a1, .int .i64 b1, .string s1, .string v1, .string f1, .slice A1 n1 c1, .int .i64 k2, .string o2, .int .i64 a2, .int .i64 b2, .string s2, .string v2, .string f2, .slice A2 n2 c2] 42)))
        have hN0 : Blk ((w3.alloc (.cells #[.int .i64 k2, .string o2, .int .i64 a2, .int .i64 b2, .string s2, .string v2, .string f2, .slice A2 n2 c2] 42)).alloc (.cells #[.int .i64 k1, .string o1, .int .i64 a1, .int .i64 b1, .string s1, .string v1, .string f1, .slice A1 n1 c1, .int .i64 k2, .string o2, .int .i64 a2, .int .i64 b2, .string s2, .string v2, .string f2, .slice A2 n2 c2] 42)) (w3.heap.size + 1) 42 #[.int .i64 k1, .string o1, .int .i64 a1, .int .i64 b1, .string s1, .string v1, .string f1, .slice A1 n1 c1, .int .i64 k2, .string o2, .int .i64 a2, .int .i64 b2, .string s2, .string v2, .string f2, .slice A2 n2 c2] := by have := Blk.new (w3.alloc (.cells #[.int .i64 k2, .string o2, .int .i64 a2, .int .i64 b2, .string s2, .string v2, .string f2, .slice A2 n2 c2] 42)) 42 #[.int .i64 k1, .string o1, .int .i64 a1, .int .i64 b1, .string s1, .string v1, .string f1, .slice A1 n1 c1, .int .i64 k2, .string o2, .int .i64 a2, .int .i64 b2, .string s2, .string v2, .string f2, .slice A2 n2 c2]; simpa using this
        have hN := Lib.hid hN0; clear hN0
        have bN := Lib.hid (ba (w3.alloc (.cells #[.int .i64 k2, .string o2, .int .i64 a2, .int .i64 b2, .string s2, .string v2, .string f2, .slice A2 n2 c2] 42)) (.cells #[.int .i64 k1, .string o1, .int .i64 a1, .int .i64 b1, .string s1, .string v1, .string f1, .slice A1 n1 c1, .int .i64 k2, .string o2, .int .i64 a2, .int .i64 b2, .string s2, .string v2, .string f2, .slice A2 n2 c2] 42))
        have lN0 : w.heap.size + 1 < w3.heap.size + 1 := by have := K5.out.lt2; simpa using this
        have lN := Lib.hid lN0; clear lN0
        obtain ⟨d8, d9⟩ := HY.out.2.2.1.held
        obtain ⟨p0, p1, p2⟩ := K5.out.facts
        obtain ⟨p0', p1', p2'⟩ := K6.out.facts
        go_wp2_with fail
        exact bodyPost_ret (v := ev 4 op 0 0 e0 e0 e0 (.slice (some ⟨w3.heap.size + 1, 0, none⟩) 2 2)) (by simp [results, Tryd.results31, go_sem, p1']) rfl ⟨Made.bin (T := 42) (by omega) HOP.out (by omega) lN.out (HY.out.1.later bN.out) (HY.out.2.1.later bN.out) HT.out.2.1 HT.out.2.2.1 HY.out.2.2.2.2.2.1 HY.out.2.2.2.2.2.2.1 (by rw [HT.out.2.2.2, HY.out.2.2.2.2.2.2.2]; exact hN.out) _ _ _ _ _ _ _ _, K6.out.out _ _ _ _ _ _ _ _⟩
      · have h5' : (r : Int) < 6 := by omega
        have h5'' : decide ((r : Int) < 6) = true := decide_eq_true h5'
        have f2 : ((r : Int) == 2) = false := beq_eq_false_iff_ne.2 (by omega)
        have f2' : ¬ (r : Int) = 2 := by omega
        have f2'' : ¬ r = 2 := by omega
        clear h2
        go_wp2_with fail
        go_at_call 17
        refine (numF_any w0 g oo lv L hL 1 (by omega) _ K.out.fd).mono ?_
        rintro e w2 ⟨hM, hF2, hg2⟩
        obtain ⟨x, kx, k1, o1, a1, b1, s1, v1, f1, A1, n1, c1, rfl, hT, ho, hs, hn⟩ := hM.open_
        replace K := Lib.hid (K.out.grow hF2 hg2)
        have HT := Lib.hid (And.intro (hT.later (ba w2 (.cells #[.int .i64 k1, .string o1, .int .i64 a1, .int .i64 b1, .string s1, .string v1, .string f1, .slice A1 n1 c1] 42))) (And.intro ho (And.intro hs hn)))
        have K9 := Lib.hid (K.out.step (ba w2 (.cells #[.int .i64 k1, .string o1, .int .i64 a1, .int .i64 b1, .string s1, .string v1, .string f1, .slice A1 n1 c1] 42)))
        have r8 := Lib.hid (And.intro (Blk.new w2 42 #[.int .i64 k1, .string o1, .int .i64 a1, .int .i64 b1, .string s1, .string v1, .string f1, .slice A1 n1 c1]) (And.intro K.out.lt2 (show g < w2.heap.size from Nat.lt_trans K.out.2.2.2.2.1 K.out.lt)))
        clear hM hF2 hg2 hT ho hs hn p0 p1 p2 K
        obtain ⟨p0, p1, p2⟩ := K9.out.facts
        go_wp2_with fail
        generalize w2.alloc _ = W2 at *
        generalize w2.heap.size = g8 at *
        go_at_call 17
        refine (numF_any w0 g oo lv L hL 1 (by omega) _ K9.out.fd).mono ?_
        rintro e w3 ⟨hM, hF3, hg3⟩
        obtain ⟨y, ky, k2, o2, a2, b2, s2, v2, f2, A2, n2, c2, rfl, hT, ho, hs, hn⟩ := hM.open_
        have K4 := K9.out.grow hF3 hg3
        have K5 := Lib.hid (K4.step (ba w3 (.cells #[.int .i64 k2, .string o2, .int .i64 a2, .int .i64 b2, .string s2, .string v2, .string f2, .slice A2 n2 c2] 42)))
        have gB : g < wx.heap.size := by have := HZ.out; have := K4.2.2.2.2.1; omega
        have hx3 := ((HT.out.1.grown hg3 gB).later (ba w3 (.cells #[.int .i64 k2, .string o2, .int .i64 a2, .int .i64 b2, .string s2, .string v2, .string f2, .slice A2 n2 c2] 42))).mono (B' := w.heap.size + 1 + 1) HZ.out
        have hy3 := (hT.later (ba w3 (.cells #[.int .i64 k2, .string o2, .int .i64 a2, .int .i64 b2, .string s2, .string v2, .string f2, .slice A2 n2 c2] 42))).mono (B' := w.heap.size + 1 + 1) (by have := K9.out.lt2; omega)
        have hT8 : Two8 (w3.alloc (.cells #[.int .i64 k2, .string o2, .int .i64 a2, .int .i64 b2, .string s2, .string v2, .string f2, .slice A2 n2 c2] 42)) g8 w3.heap.size #[.int .i64 k1, .string o1, .int .i64 a1, .int .i64 b1, .string s1, .string v1, .string f1, .slice A1 n1 c1] #[.int .i64 k2, .string o2, .int .i64 a2, .int .i64 b2, .string s2, .string v2, .string f2, .slice A2 n2 c2] := ⟨(r8.out.1.grown hg3 (fun e => by have := Option.some.inj e; have := r8.out.2.2; omega)).alloc _, Blk.new w3 _ _⟩
        have ne9 : w3.heap.size ≠ w.heap.size + 1 := by have := K4.lt2; omega
        have ne8 : g8 ≠ w.heap.size + 1 := by have := r8.out.2.1; omega
        have HY := Lib.hid (And.intro hx3 (And.intro hy3 (And.intro hT8 (And.intro ne8 (And.intro ne9 (And.intro ho (And.intro hs hn)))))))
        clear hM hF3 hg3 hT ho hs hn K4 gB hx3 hy3 hT8 ne8 ne9 p0 p1 p2
        have K6 := Lib.hid (K5.out.step (ba (w3.alloc (.cells #[.int .i64 k2, .string o2, .int .i64 a2, .int .i64 b2, .string s2, .string v2, .string f2, .slice A2 n2 c2] 42)) (.cells #[.int .i64 k1, .string o1, .int .i64 a1, .int .i64 b1, .string s1, .string v1, .string f1, .slice A1 n1 c1, .int .i64 k2, .string o2, .int .i64 a2, .int .i64 b2, .string s2, .string v2, .string f2, .slice A2 n2 c2] 42)))
        have hN0 : Blk ((w3.alloc (.cells #[.int .i64 k2, .string o2, .int .i64 a2, .int .i64 b2, .string s2, .string v2, .string f2, .slice A2 n2 c2] 42)).alloc (.cells #[.int .i64 k1, .string o1, .int .i64 a1, .int .i64 b1, .string s1, .string v1, .string f1, .slice A1 n1 c1, .int .i64 k2, .string o2, .int .i64 a2, .int .i64 b2, .string s2, .string v2, .string f2, .slice A2 n2 c2] 42)) (w3.heap.size + 1) 42 #[.int .i64 k1, .string o1, .int .i64 a1, .int .i64 b1, .string s1, .string v1, .string f1, .slice A1 n1 c1, .int .i64 k2, .string o2, .int .i64 a2, .int .i64 b2, .string s2, .string v2, .string f2, .slice A2 n2 c2] := by have := Blk.new (w3.alloc (.cells #[.int .i64 k2, .string o2, .int .i64 a2, .int .i64 b2, .string s2, .string v2, .string f2, .slice A2 n2 c2] 42)) 42 #[.int .i64 k1, .string o1, .int .i64 a1, .int .i64 b1, .string s1, .string v1, .string f1, .slice A1 n1 c1, .int .i64 k2, .string o2, .int .i64 a2, .int .i64 b2, .string s2, .string v2, .string f2, .slice A2 n2 c2]; simpa using this
        have hN := Lib.hid hN0; clear hN0
        have bN := Lib.hid (ba (w3.alloc (.cells #[.int .i64 k2, .string o2, .int .i64 a2, .int .i64 b2, .string s2, .string v2, .string f2, .slice A2 n2 c2] 42)) (.cells #[.int .i64 k1, .string o1, .int .i64 a1, .int .i64 b1, .string s1, .string v1, .string f1, .slice A1 n1 c1, .int .i64 k2, .string o2, .int .i64 a2, .int .i64 b2, .string s2, .string v2, .string f2, .slice A2 n2 c2] 42))
        have lN0 : w.heap.size + 1 < w3.heap.size + 1 := by have := K5.out.lt2; simpa using this
        have lN := Lib.hid lN0; clear lN0
        obtain ⟨d8, d9⟩ := HY.out.2.2.1.held
        obtain ⟨p0, p1, p2⟩ := K5.out.facts
        obtain ⟨p0', p1', p2'⟩ := K6.out.facts
        go_wp2_with fail
        exact bodyPost_ret (v := ev 4 op 0 0 e0 e0 e0 (.slice (some ⟨w3.heap.size + 1, 0, none⟩) 2 2)) (by simp [results, Tryd.results31, go_sem, p1']) rfl ⟨Made.bin (T := 42) (by omega) HOP.out (by omega) lN.out (HY.out.1.later bN.out) (HY.out.2.1.later bN.out) HT.out.2.1 HT.out.2.2.1 HY.out.2.2.2.2.2.1 HY.out.2.2.2.2.2.2.1 (by rw [HT.out.2.2.2, HY.out.2.2.2.2.2.2.2]; exact hN.out) _ _ _ _ _ _ _ _, K6.out.out _ _ _ _ _ _ _ _⟩
      · have h5' : ¬ (r : Int) < 6 := by omega
        have h5'' : decide ((r : Int) < 6) = false := decide_eq_false h5'
        have f2 : ((r : Int) == 2) = false := beq_eq_false_iff_ne.2 (by omega)
        have f2' : ¬ (r : Int) = 2 := by omega
        have f2'' : ¬ r = 2 := by omega
        go_wp2_with fail
        go_at_call 17
        refine (numF_any w0 g oo lv L hL 1 (by omega) _ K.out.fd).mono ?_
        rintro e w2 ⟨hM, hF2, hg2⟩
        obtain ⟨x, kx, k1, o1, a1, b1, s1, v1, f1, A1, n1, c1, rfl, hT, ho, hs, hn⟩ := hM.open_
        replace K := Lib.hid (K.out.grow hF2 hg2)
        have HT := Lib.hid (And.intro (hT.later (ba w2 (.cells #[.int .i64 k1, .string o1, .int .i64 a1, .int .i64 b1, .string s1, .string v1, .string f1, .slice A1 n1 c1] 42))) (And.intro ho (And.intro hs hn)))
        have K9 := Lib.hid (K.out.step (ba w2 (.cells #[.int .i64 k1, .string o1, .int .i64 a1, .int .i64 b1, .string s1, .string v1, .string f1, .slice A1 n1 c1] 42)))
        have r8 := Lib.hid (And.intro (Blk.new w2 42 #[.int .i64 k1, .string o1, .int .i64 a1, .int .i64 b1, .string s1, .string v1, .string f1, .slice A1 n1 c1]) (And.intro K.out.lt2 (show g < w2.heap.size from Nat.lt_trans K.out.2.2.2.2.1 K.out.lt)))
        clear hM hF2 hg2 hT ho hs hn p0 p1 p2 K
        obtain ⟨p0, p1, p2⟩ := K9.out.facts
        go_wp2_with fail
        generalize w2.alloc _ = W2 at *
        generalize w2.heap.size = g8 at *
        go_at_call 17
        refine (numF_any w0 g oo lv L hL 1 (by omega) _ K9.out.fd).mono ?_
        rintro e w3 ⟨hM, hF3, hg3⟩
        obtain ⟨y, ky, k2, o2, a2, b2, s2, v2, f2, A2, n2, c2, rfl, hT, ho, hs, hn⟩ := hM.open_
        have K4 := K9.out.grow hF3 hg3
        have K5 := Lib.hid (K4.step (ba w3 (.cells #[.int .i64 k2, .string o2, .int .i64 a2, .int .i64 b2, .string s2, .string v2, .string f2, .slice A2 n2 c2] 42)))
        have gB : g < wx.heap.size := by have := HZ.out; have := K4.2.2.2.2.1; omega
        have hx3 := ((HT.out.1.grown hg3 gB).later (ba w3 (.cells #[.int .i64 k2, .string o2, .int .i64 a2, .int .i64 b2, .string s2, .string v2, .string f2, .slice A2 n2 c2] 42))).mono (B' := w.heap.size + 1 + 1) HZ.out
        have hy3 := (hT.later (ba w3 (.cells #[.int .i64 k2, .string o2, .int .i64 a2, .int .i64 b2, .string s2, .string v2, .string f2, .slice A2 n2 c2] 42))).mono (B' := w.heap.size + 1 + 1) (by have := K9.out.lt2; omega)
        have hT8 : Two8 (w3.alloc (.cells #[.int .i64 k2, .string o2, .int .i64 a2, .int .i64 b2, .string s2, .string v2, .string f2, .slice A2 n2 c2] 42)) g8 w3.heap.size #[.int .i64 k1, .string o1, .int .i64 a1, .int .i64 b1, .string s1, .string v1, .string f1, .slice A1 n1 c1] #[.int .i64 k2, .string o2, .int .i64 a2, .int .i64 b2, .string s2, .string v2, .string f2, .slice A2 n2 c2] := ⟨(r8.out.1.grown hg3 (fun e => by have := Option.some.inj e; have := r8.out.2.2; omega)).alloc _, Blk.new w3 _ _⟩
        have ne9 : w3.heap.size ≠ w.heap.size + 1 := by have := K4.lt2; omega
        have ne8 : g8 ≠ w.heap.size + 1 := by have := r8.out.2.1; omega
        have HY := Lib.hid (And.intro hx3 (And.intro hy3 (And.intro hT8 (And.intro ne8 (And.intro ne9 (And.intro ho (And.intro hs hn)))))))
        clear hM hF3 hg3 hT ho hs hn K4 gB hx3 hy3 hT8 ne8 ne9 p0 p1 p2
        have K6 := Lib.hid (K5.out.step (ba (w3.alloc (.cells #[.int .i64 k2, .string o2, .int .i64 a2, .int .i64 b2, .string s2, .string v2, .string f2, .slice A2 n2 c2] 42)) (.cells #[.int .i64 k1, .string o1, .int .i64 a1, .int .i64 b1, .string s1, .string v1, .string f1, .slice A1 n1 c1, .int .i64 k2, .string o2, .int .i64 a2, .int .i64 b2, .string s2, .string v2, .string f2, .slice A2 n2 c2] 42)))
        have hN0 : Blk ((w3.alloc (.cells #[.int .i64 k2, .string o2, .int .i64 a2, .int .i64 b2, .string s2, .string v2, .string f2, .slice A2 n2 c2] 42)).alloc (.cells #[.int .i64 k1, .string o1, .int .i64 a1, .int .i64 b1, .string s1, .string v1, .string f1, .slice A1 n1 c1, .int .i64 k2, .string o2, .int .i64 a2, .int .i64 b2, .string s2, .string v2, .string f2, .slice A2 n2 c2] 42)) (w3.heap.size + 1) 42 #[.int .i64 k1, .string o1, .int .i64 a1, .int .i64 b1, .string s1, .string v1, .string f1, .slice A1 n1 c1, .int .i64 k2, .string o2, .int .i64 a2, .int .i64 b2, .string s2, .string v2, .string f2, .slice A2 n2 c2] := by have := Blk.new (w3.alloc (.cells #[.int .i64 k2, .string o2, .int .i64 a2, .int .i64 b2, .string s2, .string v2, .string f2, .slice A2 n2 c2] 42)) 42 #[.int .i64 k1, .string o1, .int .i64 a1, .int .i64 b1, .string s1, .string v1, .string f1, .slice A1 n1 c1, .int .i64 k2, .string o2, .int .i64 a2, .int .i64 b2, .string s2, .string v2, .string f2, .slice A2 n2 c2]; simpa using this
        have hN := Lib.hid hN0; clear hN0
        have bN := Lib.hid (ba (w3.alloc (.cells #[.int .i64 k2, .string o2, .int .i64 a2, .int .i64 b2, .string s2, .string v2, .string f2, .slice A2 n2 c2] 42)) (.cells #[.int .i64 k1, .string o1, .int .i64 a1, .int .i64 b1, .string s1, .string v1, .string f1, .slice A1 n1 c1, .int .i64 k2, .string o2, .int .i64 a2, .int .i64 b2, .string s2, .string v2, .string f2, .slice A2 n2 c2] 42))
        have lN0 : w.heap.size + 1 < w3.heap.size + 1 := by have := K5.out.lt2; simpa using this
        have lN := Lib.hid lN0; clear lN0
        obtain ⟨d8, d9⟩ := HY.out.2.2.1.held
        obtain ⟨p0, p1, p2⟩ := K5.out.facts
        obtain ⟨p0', p1', p2'⟩ := K6.out.facts
        go_wp2_with fail
        exact bodyPost_ret (v := ev 4 op 0 0 e0 e0 e0 (.slice (some ⟨w3.heap.size + 1, 0, none⟩) 2 2)) (by simp [results, Tryd.results31, go_sem, p1']) rfl ⟨Made.bin (T := 42) (by omega) HOP.out (by omega) lN.out (HY.out.1.later bN.out) (HY.out.2.1.later bN.out) HT.out.2.1 HT.out.2.2.1 HY.out.2.2.2.2.2.1 HY.out.2.2.2.2.2.2.1 (by rw [HT.out.2.2.2, HY.out.2.2.2.2.2.2.2]; exact hN.out) _ _ _ _ _ _ _ _, K6.out.out _ _ _ _ _ _ _ _⟩
  have hd1 : (0 : Int) < (d : Int) := by omega
  have hd2 : decide ((0 : Int) < (d : Int)) = true := decide_eq_true hd1
  have hd3 : 0 < d := by omega
  by_cases h2 : r = 2
  · subst h2
    go_wp2_with (go_at_call 31; ((with_reducible refine (HI.out (by omega) _ K.out.fd).mono ?_); rintro e w2 ⟨hM, hF2, hg2⟩; obtain ⟨x, kx, k1, o1, a1, b1, s1, v1, f1, A1, n1, c1, rfl, hT, ho, hs, hn⟩ := hM.open_; replace K := Lib.hid (K.out.grow hF2 hg2); have HT := Lib.hid (And.intro hT (And.intro ho (And.intro hs hn))); clear hM hF2 hg2 hT ho hs hn p0 p1 p2; obtain ⟨p0, p1, p2⟩ := K.out.facts; have K9 := Lib.hid (K.out.step (ba w2 (.cells #[.int .i64 k1, .string o1, .int .i64 a1, .int .i64 b1, .string s1, .string v1, .string f1, .slice A1 n1 c1] 42))); obtain ⟨p0', p1', p2'⟩ := K9.out.facts))
    exact bodyPost_ret (v := ev 3 ⟨#[33]⟩ 0 0 e0 e0 e0 (.slice (some ⟨w2.heap.size, 0, none⟩) 1 1)) (by simp [results, Tryd.results31, go_sem, p1']) rfl ⟨Made.un (W := w2.alloc (.cells #[.int .i64 k1, .string o1, .int .i64 a1, .int .i64 b1, .string s1, .string v1, .string f1, .slice A1 n1 c1] 42)) (T := 42) (kx := kx) (by omega) (by kernel_rfl) (by omega) K.out.lt2 ((HT.out.1.later (ba _ _)).mono (Nat.le_of_lt hz)) HT.out.2.1 HT.out.2.2.1 (by rw [HT.out.2.2.2]; exact Blk.new w2 _ _) ((HT.out.1.later (ba _ _)).mono HZ.out) _ _ _ _ _ _ _ _, K9.out.out _ _ _ _ _ _ _ _⟩
  have f2 : ((r : Int) == 2) = false := beq_eq_false_iff_ne.2 (by omega)
  have f2' : ¬ (r : Int) = 2 := by omega
  have f2'' : ¬ r = 2 := h2
  clear h2
  by_cases h5 : r < 6
  · have h5' : (r : Int) < 6 := by omega
    have h5'' : decide ((r : Int) < 6) = true := decide_eq_true h5'
    go_wp2_with fail
    go_at_call 31
    refine (HI.out (by omega) _ K.out.fd).mono ?_
    rintro e w2 ⟨hM, hF2, hg2⟩
    obtain ⟨x, kx, k1, o1, a1, b1, s1, v1, f1, A1, n1, c1, rfl, hT, ho, hs, hn⟩ := hM.open_
    replace K := Lib.hid (K.out.grow hF2 hg2)
    have HT := Lib.hid (And.intro (hT.later (ba w2 (.cells #[.int .i64 k1, .string o1, .int .i64 a1, .int .i64 b1, .string s1, .string v1, .string f1, .slice A1 n1 c1] 42))) (And.intro ho (And.intro hs hn)))
    have K9 := Lib.hid (K.out.step (ba w2 (.cells #[.int .i64 k1, .string o1, .int .i64 a1, .int .i64 b1, .string s1, .string v1, .string f1, .slice A1 n1 c1] 42)))
    have r8 := Lib.hid (And.intro (Blk.new w2 42 #[.int .i64 k1, .string o1, .int .i64 a1, .int .i64 b1, .string s1, .string v1, .string f1, .slice A1 n1 c1]) (And.intro K.out.lt2 (show g < w2.heap.size from Nat.lt_trans K.out.2.2.2.2.1 K.out.lt)))
    clear hM hF2 hg2 hT ho hs hn p0 p1 p2 K
    obtain ⟨p0, p1, p2⟩ := K9.out.facts
    go_wp2_with fail
    generalize w2.alloc _ = W2 at *
    generalize w2.heap.size = g8 at *
    go_at_call 31
    refine (HI.out (by omega) _ K9.out.fd).mono ?_
    rintro e w3 ⟨hM, hF3, hg3⟩
    obtain ⟨y, ky, k2, o2, a2, b2, s2, v2, f2, A2, n2, c2, rfl, hT, ho, hs, hn⟩ := hM.open_
    have K4 := K9.out.grow hF3 hg3
    have K5 := Lib.hid (K4.step (ba w3 (.cells #[.int .i64 k2, .string o2, .int .i64 a2, .int .i64 b2, .string s2, .string v2, .string f2, .slice A2 n2 c2] 42)))
    have gB : g < wx.heap.size := by have := HZ.out; have := K4.2.2.2.2.1; omega
    have hx3 := ((HT.out.1.grown hg3 gB).later (ba w3 (.cells #[.int .i64 k2, .string o2, .int .i64 a2, .int .i64 b2, .string s2, .string v2, .string f2, .slice A2 n2 c2] 42))).mono (B' := w.heap.size + 1 + 1) HZ.out
    have hy3 := (hT.later (ba w3 (.cells #[.int .i64 k2, .string o2, .int .i64 a2, .int .i64 b2, .string s2, .string v2, .string f2, .slice A2 n2 c2] 42))).mono (B' := w.heap.size + 1 + 1) (by have := K9.out.lt2; omega)
    have hT8 : Two8 (w3.alloc (.cells #[.int .i64 k2, .string o2, .int .i64 a2, .int .i64 b2, .string s2, .string v2, .string f2, .slice A2 n2 c2] 42)) g8 w3.heap.size #[.int .i64 k1, .string o1, .int .i64 a1, .int .i64 b1, .string s1, .string v1, .string f1, .slice A1 n1 c1] #[.int .i64 k2, .string o2, .int .i64 a2, .int .i64 b2, .string s2, .string v2, .string f2, .slice A2 n2 c2] := ⟨(r8.out.1.grown hg3 (fun e => by have := Option.some.inj e; have := r8.out.2.2; omega)).alloc _, Blk.new w3 _ _⟩
    have ne9 : w3.heap.size ≠ w.heap.size + 1 := by have := K4.lt2; omega
    have ne8 : g8 ≠ w.heap.size + 1 := by have := r8.out.2.1; omega
    have HY := Lib.hid (And.intro hx3 (And.intro hy3 (And.intro hT8 (And.intro ne8 (And.intro ne9 (And.intro ho (And.intro hs hn)))))))
    clear hM hF3 hg3 hT ho hs hn K4 gB hx3 hy3 hT8 ne8 ne9 p0 p1 p2
    obtain ⟨p0, p1, p2⟩ := K5.out.facts
    go_wp2_with fail
    generalize w3.alloc _ = W3 at *
    generalize w3.heap.size = g9 at *
    refine wp_of_eq (c' := ((Tryd.f31.body.bind (regionN 12)).getD .skip)) ?_ (by kernel_rfl)
    refine truth_pick _ _ _ _ _ _ _ _ _ _ _ _ _ _ _ _ _ _ _ _ _ _ _ _ _ _ _ _ _ _ _ _ _ _ _ _ _ _ _ _ _ _ _ _ _ _ _ _ _ _ _ _ _ _ _ _ _ _ _ _ _ _ _ _ _ _ _ _ _ _ _ _ _ _ _ _ _ _ _ _ _ _ _ _ _ _ _ _ _ _ _ _ _ _ _ _ _ _ _ _ _ _ _ _ _ K5.out HY.out.2.2.1 HY.out.2.2.2.1 HY.out.2.2.2.2.1 HY.out.1 HY.out.2.1 HT.out.2.1 HT.out.2.2.1 HY.out.2.2.2.2.2.1 HY.out.2.2.2.2.2.2.1 HT.out.2.2.2 HY.out.2.2.2.2.2.2.2 hb255 (fun _ _ _ _ _ _ _ _ _ _ wx9 hFin => ?_)
    obtain ⟨op9, gN, hc, hM, hF, hG⟩ := hFin
    have HF := Lib.hid (And.intro hM (And.intro hF hG))
    clear hM hF hG p0 p1 p2
    go_wp2_with fail
    exact bodyPost_ret (v := ev 4 op9 0 0 e0 e0 e0 (.slice (some ⟨gN, 0, none⟩) 2 2)) (by simp [results, Tryd.results31, go_sem, hc]) rfl ⟨HF.out.1.up (by omega), HF.out.2⟩
  have h5' : ¬ (r : Int) < 6 := by omega
  have h5'' : decide ((r : Int) < 6) = false := decide_eq_false h5'
  by_cases h6 : r = 6
  · subst h6
    go_wp2_with fail
    go_at_call 18
    refine (text_any w0 g oo lv L hL 1 (by omega) _ K.out.fd).mono ?_
    rintro e w2 ⟨hM, hF2, hg2⟩
    obtain ⟨x, kx, k1, o1, a1, b1, s1, v1, f1, A1, n1, c1, rfl, hT, ho, hs, hn⟩ := hM.open_
    replace K := Lib.hid (K.out.grow hF2 hg2)
    have HT := Lib.hid (And.intro (hT.later (ba w2 (.cells #[.int .i64 k1, .string o1, .int .i64 a1, .int .i64 b1, .string s1, .string v1, .string f1, .slice A1 n1 c1] 42))) (And.intro ho (And.intro hs hn)))
    have K9 := Lib.hid (K.out.step (ba w2 (.cells #[.int .i64 k1, .string o1, .int .i64 a1, .int .i64 b1, .string s1, .string v1, .string f1, .slice A1 n1 c1] 42)))
    have r8 := Lib.hid (And.intro (Blk.new w2 42 #[.int .i64 k1, .string o1, .int .i64 a1, .int .i64 b1, .string s1, .string v1, .string f1, .slice A1 n1 c1]) (And.intro K.out.lt2 (show g < w2.heap.size from Nat.lt_trans K.out.2.2.2.2.1 K.out.lt)))
    clear hM hF2 hg2 hT ho hs hn p0 p1 p2 K
    obtain ⟨p0, p1, p2⟩ := K9.out.facts
    go_wp2_with fail
    generalize w2.alloc _ = W2 at *
    generalize w2.heap.size = g8 at *
    go_at_call 18
    refine (text_any w0 g oo lv L hL 1 (by omega) _ K9.out.fd).mono ?_
    rintro e w3 ⟨hM, hF3, hg3⟩
    obtain ⟨y, ky, k2, o2, a2, b2, s2, v2, f2, A2, n2, c2, rfl, hT, ho, hs, hn⟩ := hM.open_
    have K4 := K9.out.grow hF3 hg3
    have K5 := Lib.hid (K4.step (ba w3 (.cells #[.int .i64 k2, .string o2, .int .i64 a2, .int .i64 b2, .string s2, .string v2, .string f2, .slice A2 n2 c2] 42)))
    have gB : g < wx.heap.size := by have := HZ.out; have := K4.2.2.2.2.1; omega
    have hx3 := ((HT.out.1.grown hg3 gB).later (ba w3 (.cells #[.int .i64 k2, .string o2, .int .i64 a2, .int .i64 b2, .string s2, .string v2, .string f2, .slice A2 n2 c2] 42))).mono (B' := w.heap.size + 1 + 1) HZ.out
    have hy3 := (hT.later (ba w3 (.cells #[.int .i64 k2, .string o2, .int .i64 a2, .int .i64 b2, .string s2, .string v2, .string f2, .slice A2 n2 c2] 42))).mono (B' := w.heap.size + 1 + 1) (by have := K9.out.lt2; omega)
    have hT8 : Two8 (w3.alloc (.cells #[.int .i64 k2, .string o2, .int .i64 a2, .int .i64 b2, .string s2, .string v2, .string f2, .slice A2 n2 c2] 42)) g8 w3.heap.size #[.int .i64 k1, .string o1, .int .i64 a1, .int .i64 b1, .string s1, .string v1, .string f1, .slice A1 n1 c1] #[.int .i64 k2, .string o2, .int .i64 a2, .int .i64 b2, .string s2, .string v2, .string f2, .slice A2 n2 c2] := ⟨(r8.out.1.grown hg3 (fun e => by have := Option.some.inj e; have := r8.out.2.2; omega)).alloc _, Blk.new w3 _ _⟩
    have ne9 : w3.heap.size ≠ w.heap.size + 1 := by have := K4.lt2; omega
    have ne8 : g8 ≠ w.heap.size + 1 := by have := r8.out.2.1; omega
    have HY := Lib.hid (And.intro hx3 (And.intro hy3 (And.intro hT8 (And.intro ne8 (And.intro ne9 (And.intro ho (And.intro hs hn)))))))
    clear hM hF3 hg3 hT ho hs hn K4 gB hx3 hy3 hT8 ne8 ne9 p0 p1 p2
    have K6 := Lib.hid (K5.out.step (ba (w3.alloc (.cells #[.int .i64 k2, .string o2, .int .i64 a2, .int .i64 b2, .string s2, .string v2, .string f2, .slice A2 n2 c2] 42)) (.cells #[.int .i64 k1, .string o1, .int .i64 a1, .int .i64 b1, .string s1, .string v1, .string f1, .slice A1 n1 c1, .int .i64 k2, .string o2, .int .i64 a2, .int .i64 b2, .string s2, .string v2, .string f2, .slice A2 n2 c2] 42)))
    have hN0 : Blk ((w3.alloc (.cells #[.int .i64 k2, .string o2, .int .i64 a2, .int .i64 b2, .string s2, .string v2, .string f2, .slice A2 n2 c2] 42)).alloc (.cells #[.int .i64 k1, .string o1, .int .i64 a1, .int .i64 b1, .string s1, .string v1, .string f1, .slice A1 n1 c1, .int .i64 k2, .string o2, .int .i64 a2, .int .i64 b2, .string s2, .string v2, .string f2, .slice A2 n2 c2] 42)) (w3.heap.size + 1) 42 #[.int .i64 k1, .string o1, .int .i64 a1, .int .i64 b1, .string s1, .string v1, .string f1, .slice A1 n1 c1, .int .i64 k2, .string o2, .int .i64 a2, .int .i64 b2, .string s2, .string v2, .string f2, .slice A2 n2 c2] := by have := Blk.new (w3.alloc (.cells #[.int .i64 k2, .string o2, .int .i64 a2, .int .i64 b2, .string s2, .string v2, .string f2, .slice A2 n2 c2] 42)) 42 #[.int .i64 k1, .string o1, .int .i64 a1, .int .i64 b1, .string s1, .string v1, .string f1, .slice A1 n1 c1, .int .i64 k2, .string o2, .int .i64 a2, .int .i64 b2, .string s2, .string v2, .string f2, .slice A2 n2 c2]; simpa using this
    have hN := Lib.hid hN0; clear hN0
    have bN := Lib.hid (ba (w3.alloc (.cells #[.int .i64 k2, .string o2, .int .i64 a2, .int .i64 b2, .string s2, .string v2, .string f2, .slice A2 n2 c2] 42)) (.cells #[.int .i64 k1, .string o1, .int .i64 a1, .int .i64 b1, .string s1, .string v1, .string f1, .slice A1 n1 c1, .int .i64 k2, .string o2, .int .i64 a2, .int .i64 b2, .string s2, .string v2, .string f2, .slice A2 n2 c2] 42))
    have lN0 : w.heap.size + 1 < w3.heap.size + 1 := by have := K5.out.lt2; simpa using this
    have lN := Lib.hid lN0; clear lN0
    obtain ⟨d8, d9⟩ := HY.out.2.2.1.held
    obtain ⟨p0, p1, p2⟩ := K5.out.facts
    obtain ⟨p0', p1', p2'⟩ := K6.out.facts
    go_wp2_with fail
    exact bodyPost_ret (v := ev 4 op 0 0 e0 e0 e0 (.slice (some ⟨w3.heap.size + 1, 0, none⟩) 2 2)) (by simp [results, Tryd.results31, go_sem, p1']) rfl ⟨Made.bin (T := 42) (by omega) HOP.out (by omega) lN.out (HY.out.1.later bN.out) (HY.out.2.1.later bN.out) HT.out.2.1 HT.out.2.2.1 HY.out.2.2.2.2.2.1 HY.out.2.2.2.2.2.2.1 (by rw [HT.out.2.2.2, HY.out.2.2.2.2.2.2.2]; exact hN.out) _ _ _ _ _ _ _ _, K6.out.out _ _ _ _ _ _ _ _⟩
  · have f6 : ((r : Int) == 6) = false := beq_eq_false_iff_ne.2 (by omega)
    have f6' : ¬ (r : Int) = 6 := by omega
    have f6'' : ¬ r = 6 := h6
    clear h6
    go_wp2_with fail
    go_at_call 17
    refine (numF_any w0 g oo lv L hL 1 (by omega) _ K.out.fd).mono ?_
    rintro e w2 ⟨hM, hF2, hg2⟩
    obtain ⟨x, kx, k1, o1, a1, b1, s1, v1, f1, A1, n1, c1, rfl, hT, ho, hs, hn⟩ := hM.open_
    replace K := Lib.hid (K.out.grow hF2 hg2)
    have HT := Lib.hid (And.intro (hT.later (ba w2 (.cells #[.int .i64 k1, .string o1, .int .i64 a1, .int .i64 b1, .string s1, .string v1, .string f1, .slice A1 n1 c1] 42))) (And.intro ho (And.intro hs hn)))
    have K9 := Lib.hid (K.out.step (ba w2 (.cells #[.int .i64 k1, .string o1, .int .i64 a1, .int .i64 b1, .string s1, .string v1, .string f1, .slice A1 n1 c1] 42)))
    have r8 := Lib.hid (And.intro (Blk.new w2 42 #[.int .i64 k1, .string o1, .int .i64 a1, .int .i64 b1, .string s1, .string v1, .string f1, .slice A1 n1 c1]) (And.intro K.out.lt2 (show g < w2.heap.size from Nat.lt_trans K.out.2.2.2.2.1 K.out.lt)))
    clear hM hF2 hg2 hT ho hs hn p0 p1 p2 K
    obtain ⟨p0, p1, p2⟩ := K9.out.facts
    go_wp2_with fail
    generalize w2.alloc _ = W2 at *
    generalize w2.heap.size = g8 at *
    go_at_call 17
    refine (numF_any w0 g oo lv L hL 1 (by omega) _ K9.out.fd).mono ?_
    rintro e w3 ⟨hM, hF3, hg3⟩
    obtain ⟨y, ky, k2, o2, a2, b2, s2, v2, f2, A2, n2, c2, rfl, hT, ho, hs, hn⟩ := hM.open_
    have K4 := K9.out.grow hF3 hg3
    have K5 := Lib.hid (K4.step (ba w3 (.cells #[.int .i64 k2, .string o2, .int .i64 a2, .int .i64 b2, .string s2, .string v2, .string f2, .slice A2 n2 c2] 42)))
    have gB : g < wx.heap.size := by have := HZ.out; have := K4.2.2.2.2.1; omega
    have hx3 := ((HT.out.1.grown hg3 gB).later (ba w3 (.cells #[.int .i64 k2, .string o2, .int .i64 a2, .int .i64 b2, .string s2, .string v2, .string f2, .slice A2 n2 c2] 42))).mono (B' := w.heap.size + 1 + 1) HZ.out
    have hy3 := (hT.later (ba w3 (.cells #[.int .i64 k2, .string o2, .int .i64 a2, .int .i64 b2, .string s2, .string v2, .string f2, .slice A2 n2 c2] 42))).mono (B' := w.heap.size + 1 + 1) (by have := K9.out.lt2; omega)
    have hT8 : Two8 (w3.alloc (.cells #[.int .i64 k2, .string o2, .int .i64 a2, .int .i64 b2, .string s2, .string v2, .string f2, .slice A2 n2 c2] 42)) g8 w3.heap.size #[.int .i64 k1, .string o1, .int .i64 a1, .int .i64 b1, .string s1, .string v1, .string f1, .slice A1 n1 c1] #[.int .i64 k2, .string o2, .int .i64 a2, .int .i64 b2, .string s2, .string v2, .string f2, .slice A2 n2 c2] := ⟨(r8.out.1.grown hg3 (fun e => by have := Option.some.inj e; have := r8.out.2.2; omega)).alloc _, Blk.new w3 _ _⟩
    have ne9 : w3.heap.size ≠ w.heap.size + 1 := by have := K4.lt2; omega
    have ne8 : g8 ≠ w.heap.size + 1 := by have := r8.out.2.1; omega
    have HY := Lib.hid (And.intro hx3 (And.intro hy3 (And.intro hT8 (And.intro ne8 (And.intro ne9 (And.intro ho (And.intro hs hn)))))))
    clear hM hF3 hg3 hT ho hs hn K4 gB hx3 hy3 hT8 ne8 ne9 p0 p1 p2
    have K6 := Lib.hid (K5.out.step (ba (w3.alloc (.cells #[.int .i64 k2, .string o2, .int .i64 a2, .int .i64 b2, .string s2, .string v2, .string f2, .slice A2 n2 c2] 42)) (.cells #[.int .i64 k1, .string o1, .int .i64 a1, .int .i64 b1, .string s1, .string v1, .string f1, .slice A1 n1 c1, .int .i64 k2, .string o2, .int .i64 a2, .int .i64 b2, .string s2, .string v2, .string f2, .slice A2 n2 c2] 42)))
    have hN0 : Blk ((w3.alloc (.cells #[.int .i64 k2, .string o2, .int .i64 a2, .int .i64 b2, .string s2, .string v2, .string f2, .slice A2 n2 c2] 42)).alloc (.cells #[.int .i64 k1, .string o1, .int .i64 a1, .int .i64 b1, .string s1, .string v1, .string f1, .slice A1 n1 c1, .int .i64 k2, .string o2, .int .i64 a2, .int .i64 b2, .string s2, .string v2, .string f2, .slice A2 n2 c2] 42)) (w3.heap.size + 1) 42 #[.int .i64 k1, .string o1, .int .i64 a1, .int .i64 b1, .string s1, .string v1, .string f1, .slice A1 n1 c1, .int .i64 k2, .string o2, .int .i64 a2, .int .i64 b2, .string s2, .string v2, .string f2, .slice A2 n2 c2] := by have := Blk.new (w3.alloc (.cells #[.int .i64 k2, .string o2, .int .i64 a2, .int .i64 b2, .string s2, .string v2, .string f2, .slice A2 n2 c2] 42)) 42 #[.int .i64 k1, .string o1, .int .i64 a1, .int .i64 b1, .string s1, .string v1, .string f1, .slice A1 n1 c1, .int .i64 k2, .string o2, .int .i64 a2, .int .i64 b2, .string s2, .string v2, .string f2, .slice A2 n2 c2]; simpa using this
    have hN := Lib.hid hN0; clear hN0
    have bN := Lib.hid (ba (w3.alloc (.cells #[.int .i64 k2, .string o2, .int .i64 a2, .int .i64 b2, .string s2, .string v2, .string f2, .slice A2 n2 c2] 42)) (.cells #[.int .i64 k1, .string o1, .int .i64 a1, .int .i64 b1, .string s1, .string v1, .string f1, .slice A1 n1 c1, .int .i64 k2, .string o2, .int .i64 a2, .int .i64 b2, .string s2, .string v2, .string f2, .slice A2 n2 c2] 42))
    have lN0 : w.heap.size + 1 < w3.heap.size + 1 := by have := K5.out.lt2; simpa using this
    have lN := Lib.hid lN0; clear lN0
    obtain ⟨d8, d9⟩ := HY.out.2.2.1.held
    obtain ⟨p0, p1, p2⟩ := K5.out.facts
    obtain ⟨p0', p1', p2'⟩ := K6.out.facts
    go_wp2_with fail
    exact bodyPost_ret (v := ev 4 op 0 0 e0 e0 e0 (.slice (some ⟨w3.heap.size + 1, 0, none⟩) 2 2)) (by simp [results, Tryd.results31, go_sem, p1']) rfl ⟨Made.bin (T := 42) (by omega) HOP.out (by omega) lN.out (HY.out.1.later bN.out) (HY.out.2.1.later bN.out) HT.out.2.1 HT.out.2.2.1 HY.out.2.2.2.2.2.1 HY.out.2.2.2.2.2.2.1 (by rw [HT.out.2.2.2, HY.out.2.2.2.2.2.2.2]; exact hN.out) _ _ _ _ _ _ _ _, K6.out.out _ _ _ _ _ _ _ _⟩
theorem truF_any (w0 : World) (g : Nat) (oo : Oo) (lv : Value) (L : List UInt8) (hL : L.length ≤ 140737488351232) : ∀ d : Nat, d ≤ 3 → ∀ w, FD w0 g oo lv L w → Calls Tryd.prog 31 #[.pointer (some ⟨g, 0, none⟩), .agg #[.string oo.nm, .slice oo.A oo.n oo.c], .int .i64 (d : Nat)] w fun e w' => Made (d + 2) w.heap.size e w' ∧ FD w0 g oo lv L w' ∧ GB g w w' := by
  intro d
  induction d with
  | zero => exact fun hd w h => truth_gen w0 g oo lv L hL 0 hd (fun h => by omega) w h
  | succ d ih => exact fun hd w h => truth_gen w0 g oo lv L hL (d + 1) hd (fun _ W hW => by have := ih (by omega) W hW; rw [show ((d + 1 : Nat) : Int) - 1 = (d : Int) by omega, Nat.add_sub_cancel]; exact this) w h
end Go.Proofs.YtenmbahfgfmjjaaDoor
