/- An expression that is made of bytes: a right tree. -/
import Derived.Test.YtfkcjlpocfjmdaaDoorFeedU
namespace Go.Proofs.YtfkcjlpocfjmdaaDoor
open Go.ChangeShapes Go.WideShapes Go.ChangeAt Go.RowKit
open Rk (inR)
set_option linter.unusedVariables false
set_option linter.unusedSimpArgs false

/-- What is told is a right tree. -/
def MadeT (e : Ending) (w : World) : Prop := ∃ (t : Tr) (K : Value), e = .returned (t.val K) ∧ TrAt w t K ∧ t.ok = true ∧ t.small
/-- What is told is a right tree of few below one another. -/
def MadeD (e : Ending) (w : World) : Prop := ∃ (t : Tr) (K : Value), e = .returned (t.val K) ∧ TrAt w t K ∧ t.ok = true ∧ t.smd 5
theorem Tr.smd.up {t : Tr} {D D' : Nat} (h : t.smd D) (hD : D ≤ D') : t.smd D' := ⟨h.1, Nat.le_trans h.2 hD⟩
/-- The rows of 'made'. -/
def KM (w : World) (lv : Value) (L : List UInt8) (W : World) : Prop :=
  FD w (w.heap.size + 1 + 1 + 1) (w.heap.size + 1 + 1) (w.heap.size + 1) (w.heap.size + 1 + 1 + 1 + 1) lv L W ∧ Blk W w.heap.size 26 z8 ∧ Blk W (w.heap.size + 1 + 1 + 1 + 1 + 1) 59 #[.string nB, .slice (some ⟨w.heap.size + 1 + 1 + 1 + 1, 0, none⟩) 4 4]
theorem KM.new (w : World) (lv : Value) (L : List UInt8) (hv : BytesAt w lv L) : KM w lv L ((((((w.alloc (.cells z8 26)).alloc (.cells #[.string nK, .string nX] 9)).alloc (.cells #[.string nA, .slice (some ⟨w.heap.size + 1, 0, none⟩) 2 2] 59)).alloc (.cells (fC lv 0 (w.heap.size + 1 + 1)) 62)).alloc (.cells #[.string nK, .string nY, .string nS, .string nT] 9)).alloc (.cells #[.string nB, .slice (some ⟨w.heap.size + 1 + 1 + 1 + 1, 0, none⟩) 4 4] 59)) := by
  have b0 := Blk.new w 26 z8
  generalize h0 : w.alloc (.cells z8 26) = W0 at *
  have s0 : W0.heap.size = w.heap.size + 1 := by rw [← h0]; simp
  have e0 : Below w.heap.size w W0 := by rw [← h0]; exact ba _ _
  clear h0
  have b1 := Blk.new W0 9 #[.string nK, .string nX]
  rw [s0] at b1
  generalize h1 : W0.alloc (.cells #[.string nK, .string nX] 9) = W1 at *
  have s1 : W1.heap.size = w.heap.size + 1 + 1 := by rw [← h1]; simp [s0]
  have e1 : Below W0.heap.size W0 W1 := by rw [← h1]; exact ba _ _
  clear h1
  have b2 := Blk.new W1 59 #[.string nA, .slice (some ⟨w.heap.size + 1, 0, none⟩) 2 2]
  rw [s1] at b2
  generalize h2 : W1.alloc (.cells #[.string nA, .slice (some ⟨w.heap.size + 1, 0, none⟩) 2 2] 59) = W2 at *
  have s2 : W2.heap.size = w.heap.size + 1 + 1 + 1 := by rw [← h2]; simp [s1]
  have e2 : Below W1.heap.size W1 W2 := by rw [← h2]; exact ba _ _
  clear h2
  have b3 := Blk.new W2 62 (fC lv 0 (w.heap.size + 1 + 1))
  rw [s2] at b3
  generalize h3 : W2.alloc (.cells (fC lv 0 (w.heap.size + 1 + 1)) 62) = W3 at *
  have s3 : W3.heap.size = w.heap.size + 1 + 1 + 1 + 1 := by rw [← h3]; simp [s2]
  have e3 : Below W2.heap.size W2 W3 := by rw [← h3]; exact ba _ _
  clear h3
  have b4 := Blk.new W3 9 #[.string nK, .string nY, .string nS, .string nT]
  rw [s3] at b4
  generalize h4 : W3.alloc (.cells #[.string nK, .string nY, .string nS, .string nT] 9) = W4 at *
  have s4 : W4.heap.size = w.heap.size + 1 + 1 + 1 + 1 + 1 := by rw [← h4]; simp [s3]
  have e4 : Below W3.heap.size W3 W4 := by rw [← h4]; exact ba _ _
  clear h4
  have b5 := Blk.new W4 59 #[.string nB, .slice (some ⟨w.heap.size + 1 + 1 + 1 + 1, 0, none⟩) 4 4]
  rw [s4] at b5
  generalize h5 : W4.alloc (.cells #[.string nB, .slice (some ⟨w.heap.size + 1 + 1 + 1 + 1, 0, none⟩) 4 4] 59) = W5 at *
  have s5 : W5.heap.size = w.heap.size + 1 + 1 + 1 + 1 + 1 + 1 := by rw [← h5]; simp [s4]
  have e5 : Below W4.heap.size W4 W5 := by rw [← h5]; exact ba _ _
  clear h5
  have eb := bt (bt (bt (bt (bt e0 e1) e2) e3) e4) e5
  exact ⟨⟨eb, by omega, hv, ⟨0, Nat.zero_le _, ((b3.later e4).later e5)⟩, ⟨by omega, (((b2.later e3).later e4).later e5)⟩, ⟨by omega, ((((b1.later e2).later e3).later e4).later e5)⟩, ⟨by omega, (b4.later e5)⟩⟩, (((((b0.later e1).later e2).later e3).later e4).later e5), b5⟩
theorem KM.grow {w : World} {lv : Value} {L : List UInt8} {W W1 : World} (h : KM w lv L W) (hF : FD w (w.heap.size + 1 + 1 + 1) (w.heap.size + 1 + 1) (w.heap.size + 1) (w.heap.size + 1 + 1 + 1 + 1) lv L W1) (hb : GB (w.heap.size + 1 + 1 + 1) W W1) : KM w lv L W1 :=
  ⟨hF, h.2.1.grown hb (fun e => by have := Option.some.inj e; omega), h.2.2.grown hb (fun e => by have := Option.some.inj e; omega)⟩
theorem KM.fd {w : World} {lv : Value} {L : List UInt8} {W : World} (h : KM w lv L W) : FD w (w.heap.size + 1 + 1 + 1) (w.heap.size + 1 + 1) (w.heap.size + 1) (w.heap.size + 1 + 1 + 1 + 1) lv L W := h.1
theorem KM.facts {w : World} {lv : Value} {L : List UInt8} {W : World} (h : KM w lv L W) : (∀ j, W.cell? ⟨w.heap.size, j, none⟩ = z8[j]?) ∧ (∀ j, W.frozen? ⟨w.heap.size, j, none⟩ = false) ∧ (∀ j, W.cell? ⟨w.heap.size + 1 + 1 + 1 + 1 + 1, j, none⟩ = #[Value.string nB, .slice (some ⟨w.heap.size + 1 + 1 + 1 + 1, 0, none⟩) 4 4][j]?) :=
  ⟨fun j => h.2.1.cell j, fun j => h.2.1.frozen j, fun j => h.2.2.cell j⟩
theorem KM.lt {w : World} {lv : Value} {L : List UInt8} {W : World} (h : KM w lv L W) : w.heap.size < W.heap.size := h.2.1.lt
theorem KM.end_ {w : World} {lv : Value} {L : List UInt8} {W : World} {B : Nat} {x : Tr} {kx : Value} {k : Int} {op : ByteArray} {vk vn : Int} {vs va f : ByteArray} {A : Option Addr} {n c : Nat} (h : KM w lv L W) (hx : TrF B W x kx) (hB : w.heap.size < B) (hn : x.node kx = (k, op, vk, vn, vs, va, f, .slice A n c)) (ho : x.ok = true) (hs : x.smd 5) (x0 x1 x2 x3 x4 x5 x6 x7 : Value) :
    MadeD (.returned (ev k op vk vn vs va f (.slice A n c))) (set8 W w.heap.size x0 x1 x2 x3 x4 x5 x6 x7) ∧ Below w.heap.size w (set8 W w.heap.size x0 x1 x2 x3 x4 x5 x6 x7) :=
  ⟨⟨x, kx, by unfold Tr.val; rw [hn], (hx.grown (set8_gb W w.heap.size x0 x1 x2 x3 x4 x5 x6 x7) hB).at_, ho, hs⟩, h.1.1.trans (gb_below (set8_gb W w.heap.size x0 x1 x2 x3 x4 x5 x6 x7) (Nat.le_of_lt h.lt) (Nat.le_refl _))⟩
set_option maxRecDepth 20000 in
set_option maxHeartbeats 4000000 in
theorem made_dep (lv : Value) (L : List UInt8) (w : World) (hv : BytesAt w lv L) (hL : L.length ≤ 140737488351232) :
    Calls Tryd.prog 10 #[lv] w fun e w' => MadeD e w' ∧ Below w.heap.size w w' := by
  obtain ⟨A, n, c, rfl⟩ : ∃ A n c, lv = .slice A n c := by rcases hv with ⟨h, _⟩ | ⟨a, cap, h, _⟩ <;> exact ⟨_, _, _, h⟩
  have K := Lib.hid (KM.new w _ L hv)
  clear hv
  go_enter Tryd.func10, Tryd.ntmps10
  go_wp2_with fail
  go_at_call 29
  refine (next_any w _ _ _ _ _ L _ hL K.out.fd).mono ?_
  rintro e w1 ⟨⟨b, hb255, rfl⟩, hF1, hg1⟩
  replace K := Lib.hid (K.out.grow hF1 hg1); clear hF1 hg1
  obtain ⟨p0, p1, p2⟩ := K.out.facts
  have HZ := Lib.hid K.out.lt
  by_cases h0 : (b : Int) % 4 = 0
  · go_wp2_with fail
    go_at_call 30
    refine (numF_any w _ _ _ _ _ L hL 3 (by omega) _ K.out.fd).mono ?_
    rintro e w2 ⟨hM, hF2, hg2⟩
    obtain ⟨x, kx, k1, o1, a1, b1, s1, v1, f1, A1, n1, c1, rfl, hT, ho, hs, hn⟩ := hM.open_
    replace K := Lib.hid (K.out.grow hF2 hg2)
    have HT := Lib.hid (And.intro hT (And.intro ho (And.intro hs hn)))
    clear hM hF2 hg2 hT ho hs hn p0 p1 p2
    obtain ⟨p0, p1, p2⟩ := K.out.facts
    go_wp2_with fail
    exact bodyPost_ret (v := ev k1 o1 a1 b1 s1 v1 f1 (.slice A1 n1 c1)) (by simp [results, Tryd.results10, go_sem, p0]) rfl (K.out.end_ HT.out.1 HZ.out HT.out.2.2.2 HT.out.2.1 (HT.out.2.2.1.up (by decide)) _ _ _ _ _ _ _ _)
  by_cases h1 : (b : Int) % 4 = 1
  · go_wp2_with fail
    go_at_call 31
    refine (text_any w _ _ _ _ _ L hL 2 (by omega) _ K.out.fd).mono ?_
    rintro e w2 ⟨hM, hF2, hg2⟩
    obtain ⟨x, kx, k1, o1, a1, b1, s1, v1, f1, A1, n1, c1, rfl, hT, ho, hs, hn⟩ := hM.open_
    replace K := Lib.hid (K.out.grow hF2 hg2)
    have HT := Lib.hid (And.intro hT (And.intro ho (And.intro hs hn)))
    clear hM hF2 hg2 hT ho hs hn p0 p1 p2
    obtain ⟨p0, p1, p2⟩ := K.out.facts
    go_wp2_with fail
    exact bodyPost_ret (v := ev k1 o1 a1 b1 s1 v1 f1 (.slice A1 n1 c1)) (by simp [results, Tryd.results10, go_sem, p0]) rfl (K.out.end_ HT.out.1 HZ.out HT.out.2.2.2 HT.out.2.1 (HT.out.2.2.1.up (by decide)) _ _ _ _ _ _ _ _)
  · have f0 : ((b : Int) % 4 == 0) = false := beq_eq_false_iff_ne.2 h0
    have f1 : ((b : Int) % 4 == 1) = false := beq_eq_false_iff_ne.2 h1
    go_wp2_with fail
    go_at_call 32
    refine (truF_any w _ _ _ _ _ L hL 3 (by omega) _ K.out.fd).mono ?_
    rintro e w2 ⟨hM, hF2, hg2⟩
    obtain ⟨x, kx, k1, o1, a1, b1, s1, v1, f1, A1, n1, c1, rfl, hT, ho, hs, hn⟩ := hM.open_
    replace K := Lib.hid (K.out.grow hF2 hg2)
    have HT := Lib.hid (And.intro hT (And.intro ho (And.intro hs hn)))
    clear hM hF2 hg2 hT ho hs hn p0 p1 p2
    obtain ⟨p0, p1, p2⟩ := K.out.facts
    go_wp2_with fail
    exact bodyPost_ret (v := ev k1 o1 a1 b1 s1 v1 f1 (.slice A1 n1 c1)) (by simp [results, Tryd.results10, go_sem, p0]) rfl (K.out.end_ HT.out.1 HZ.out HT.out.2.2.2 HT.out.2.1 (HT.out.2.2.1.up (by decide)) _ _ _ _ _ _ _ _)
theorem made_any (lv : Value) (L : List UInt8) (w : World) (hv : BytesAt w lv L) (hL : L.length ≤ 140737488351232) :
    Calls Tryd.prog 10 #[lv] w fun e w' => MadeT e w' ∧ Below w.heap.size w w' := by
  refine (made_dep lv L w hv hL).mono ?_
  rintro e w' ⟨⟨t, K, h1, h2, h3, h4⟩, hb⟩
  exact ⟨⟨t, K, h1, h2, h3, h4.1⟩, hb⟩
end Go.Proofs.YtfkcjlpocfjmdaaDoor
