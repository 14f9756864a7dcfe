/- Binds of bytes: the walk. -/
import Derived.Test.YtjddfjapopdciaaBindsC
import Derived.Deep.Cut
import Derived.Test.YtjddfjapopdciaaEx08
namespace Go.Proofs.Ytjddfjapopdciaa
open Go.ChangeShapes Go.WideShapes Go.ChangeAt Go.RowKit
open Rk (inR)
set_option linter.unusedVariables false
set_option linter.unusedSimpArgs false

/-- What binds keeps in its first loop. -/
def KB1 (w : World) (lv : Value) (L : List UInt8) (v : Value) (E : List Ev) (W : World) : Prop :=
  FB w (w.heap.size + 1) w.heap.size lv L W ∧ Blk W (w.heap.size + 1 + 1) 9 #[.string nK, .string nX] ∧ Blk W (w.heap.size + 1 + 1 + 1) 59 #[.string nA, .slice (some ⟨w.heap.size + 1 + 1, 0, none⟩) 2 2, v] ∧ EvsO W (w.heap.size + 1 + 1 + 1 + 1) v E ∧ E.length ≤ 3 ∧ (∀ e ∈ E, okEv e) ∧ w.heap.size + 1 + 1 + 1 + 1 ≤ W.heap.size
theorem KB1.new (w : World) (lv : Value) (L : List UInt8) (hv : BytesAt w lv L) : KB1 w lv L (.slice none 0 0) [] ((((w.alloc (.cells #[lv] 27)).alloc (.cells #[.int .i64 0] 3)).alloc (.cells #[.string nK, .string nX] 9)).alloc (.cells #[.string nA, .slice (some ⟨w.heap.size + 1 + 1, 0, none⟩) 2 2, .slice none 0 0] 59)) := by
  have b0 := Blk.new w 27 #[lv]
  generalize h0 : w.alloc (.cells #[lv] 27) = W0 at *
  have s0 : W0.heap.size = w.heap.size + 1 := by rw [← h0]; simp
  have e0 : Below w.heap.size w W0 := by rw [← h0]; exact ba _ _
  clear h0
  have b1 := Blk.new W0 3 #[.int .i64 0]
  rw [s0] at b1
  generalize h1 : W0.alloc (.cells #[.int .i64 0] 3) = W1 at *
  have s1 : W1.heap.size = w.heap.size + 1 + 1 := by rw [← h1]; simp [s0]
  have e1 : Below W0.heap.size W0 W1 := by rw [← h1]; exact ba _ _
  clear h1
  have b2 := Blk.new W1 9 #[.string nK, .string nX]
  rw [s1] at b2
  generalize h2 : W1.alloc (.cells #[.string nK, .string nX] 9) = W2 at *
  have s2 : W2.heap.size = w.heap.size + 1 + 1 + 1 := by rw [← h2]; simp [s1]
  have e2 : Below W1.heap.size W1 W2 := by rw [← h2]; exact ba _ _
  clear h2
  have b3 := Blk.new W2 59 #[.string nA, .slice (some ⟨w.heap.size + 1 + 1, 0, none⟩) 2 2, .slice none 0 0]
  rw [s2] at b3
  generalize h3 : W2.alloc (.cells #[.string nA, .slice (some ⟨w.heap.size + 1 + 1, 0, none⟩) 2 2, .slice none 0 0] 59) = W3 at *
  have s3 : W3.heap.size = w.heap.size + 1 + 1 + 1 + 1 := by rw [← h3]; simp [s2]
  have e3 : Below W2.heap.size W2 W3 := by rw [← h3]; exact ba _ _
  clear h3
  exact ⟨⟨bt (bt (bt e0 e1) e2) e3, by omega, hv, ⟨0, Nat.zero_le _, (b1.later e2).later e3⟩, ⟨by omega, ((b0.later e1).later e2).later e3⟩⟩, b2.later e3, b3, EvsO.nil _ _, by simp, by simp, by omega⟩
theorem KB1.fb {w : World} {lv : Value} {L : List UInt8} {v : Value} {E : List Ev} {W : World} (h : KB1 w lv L v E W) : FB w (w.heap.size + 1) w.heap.size lv L W := h.1
/-- Behind the closure's call. -/
theorem EvsO.grownG {w w' : World} {base g : Nat} {v : Value} {E : List Ev} {cs : Array Value} (h : EvsO w base v E) (hB : Blk w g 3 cs) (hb : GB g w w') : EvsO w' base v E := by
  obtain ⟨M, h1, h2, h3⟩ := h
  exact ⟨M, h1, h2.grown hb (fun k hk => by obtain rfl := Option.some.inj hk; exact own_ne_blk h2 hB (by decide)), fun i a b => ⟨(h3 i a b).1, (h3 i a b).2.grown hb (fun k hk => by obtain rfl := Option.some.inj hk; exact own_ne_blk (h3 i a b).2 hB (by decide))⟩⟩
theorem KB1.grow {w : World} {lv : Value} {L : List UInt8} {v : Value} {E : List Ev} {W W1 : World} (h : KB1 w lv L v E W) (hF : FB w (w.heap.size + 1) w.heap.size lv L W1) (hb : GB (w.heap.size + 1) W W1) : KB1 w lv L v E W1 := by
  obtain ⟨_, _, hg⟩ := h.1.2.2.2.1
  exact ⟨hF, h.2.1.grown hb (fun e => by have := Option.some.inj e; omega), h.2.2.1.grown hb (fun e => by have := Option.some.inj e; omega), h.2.2.2.1.grownG hg hb, h.2.2.2.2.1, h.2.2.2.2.2.1, Nat.le_trans h.2.2.2.2.2.2 hb.size⟩
theorem KB1.more {w : World} {lv : Value} {L : List UInt8} {v v' : Value} {E : List Ev} {W wx : World} {e : Ev} (h : KB1 w lv L v E W) (h1 : Blk wx (w.heap.size + 1 + 1 + 1) 59 #[.string nA, .slice (some ⟨w.heap.size + 1 + 1, 0, none⟩) 2 2, v']) (h2 : EvsO wx (w.heap.size + 1 + 1 + 1 + 1) v' (E ++ [e])) (h3 : okEv e)
    (h4 : ∀ k, k < W.heap.size → k < w.heap.size + 1 + 1 + 1 + 1 → k ≠ w.heap.size + 1 + 1 + 1 → wx.heap[k]? = W.heap[k]?) (h5 : ∀ B, B ≤ W.heap.size → B ≤ w.heap.size + 1 + 1 + 1 → Below B W wx) (hl : E.length + 1 ≤ 3) : KB1 w lv L v' (E ++ [e]) wx := by
  have hs := h.2.2.2.2.2.2
  have hbB := h5 (w.heap.size + 1 + 1 + 1) (by omega) (Nat.le_refl _)
  obtain ⟨at_, ha, hg⟩ := h.1.2.2.2.1
  refine ⟨⟨h.1.1.trans (h5 w.heap.size (by omega) (by omega)), h.1.2.1, h.1.2.2.1, ⟨at_, ha, (h4 _ (by omega) (by omega) (by omega)).trans hg⟩, ⟨h.1.2.2.2.2.1, (h4 _ (by omega) (by omega) (by omega)).trans h.1.2.2.2.2.2⟩⟩, (h4 _ (by omega) (by omega) (by omega)).trans h.2.1, h1, h2, by simp; omega, ?_, Nat.le_trans hs hbB.size⟩
  intro x hx
  rcases List.mem_append.1 hx with hx | hx
  · exact h.2.2.2.2.2.1 x hx
  · obtain rfl : x = e := by simpa using hx
    exact h3
/-- What binds keeps in its second loop; w5: the world in which it begins. -/
def KB2 (w : World) (lv : Value) (L : List UInt8) (w5 : World) (v : Value) (E : List Ev) (W : World) : Prop :=
  FB w (w.heap.size + 1) w.heap.size lv L W ∧ GB (w.heap.size + 1) w5 W ∧ Blk W w5.heap.size 9 #[.string nK, .string nY, .string nS, .string nT] ∧ Blk W (w5.heap.size + 1) 59 #[.string nB, .slice (some ⟨w5.heap.size, 0, none⟩) 4 4, v] ∧ EvsO W (w5.heap.size + 1 + 1) v E ∧ E.length ≤ 3 ∧ (∀ e ∈ E, okEv e) ∧ w5.heap.size + 1 + 1 ≤ W.heap.size ∧ w.heap.size + 1 < w5.heap.size
theorem KB2.new {w w5 : World} {lv : Value} {L : List UInt8} (h : FB w (w.heap.size + 1) w.heap.size lv L w5) (hl : w.heap.size + 1 < w5.heap.size) : KB2 w lv L w5 (.slice none 0 0) [] ((w5.alloc (.cells #[.string nK, .string nY, .string nS, .string nT] 9)).alloc (.cells #[.string nB, .slice (some ⟨w5.heap.size, 0, none⟩) 4 4, .slice none 0 0] 59)) := by
  have b0 := bt (ba w5 (.cells #[.string nK, .string nY, .string nS, .string nT] 9)) (ba _ (.cells #[.string nB, .slice (some ⟨w5.heap.size, 0, none⟩) 4 4, .slice none 0 0] 59))
  refine ⟨h.go b0, gb_of b0, (Blk.new w5 _ _).alloc _, ?_, EvsO.nil _ _, by simp, by simp, by simp, hl⟩
  have := Blk.new (w5.alloc (.cells #[.string nK, .string nY, .string nS, .string nT] 9)) 59 #[.string nB, .slice (some ⟨w5.heap.size, 0, none⟩) 4 4, .slice none 0 0]
  simpa using this
theorem KB2.fb {w w5 : World} {lv : Value} {L : List UInt8} {v : Value} {E : List Ev} {W : World} (h : KB2 w lv L w5 v E W) : FB w (w.heap.size + 1) w.heap.size lv L W := h.1
theorem KB2.grow {w w5 : World} {lv : Value} {L : List UInt8} {v : Value} {E : List Ev} {W W1 : World} (h : KB2 w lv L w5 v E W) (hF : FB w (w.heap.size + 1) w.heap.size lv L W1) (hb : GB (w.heap.size + 1) W W1) : KB2 w lv L w5 v E W1 := by
  obtain ⟨_, _, hg⟩ := h.1.2.2.2.1
  have hl := h.2.2.2.2.2.2.2.2
  exact ⟨hF, gb_trans h.2.1 hb, h.2.2.1.grown hb (fun e => by have := Option.some.inj e; omega), h.2.2.2.1.grown hb (fun e => by have := Option.some.inj e; omega), h.2.2.2.2.1.grownG hg hb, h.2.2.2.2.2.1, h.2.2.2.2.2.2.1, Nat.le_trans h.2.2.2.2.2.2.2.1 hb.size, hl⟩
theorem KB2.more {w w5 : World} {lv : Value} {L : List UInt8} {v v' : Value} {E : List Ev} {W wx : World} {e : Ev} (h : KB2 w lv L w5 v E W) (h1 : Blk wx (w5.heap.size + 1) 59 #[.string nB, .slice (some ⟨w5.heap.size, 0, none⟩) 4 4, v']) (h2 : EvsO wx (w5.heap.size + 1 + 1) v' (E ++ [e])) (h3 : okEv e)
    (h4 : ∀ k, k < W.heap.size → k < w5.heap.size + 1 + 1 → k ≠ w5.heap.size + 1 → wx.heap[k]? = W.heap[k]?) (h5 : ∀ B, B ≤ W.heap.size → B ≤ w5.heap.size + 1 → Below B W wx) (hl : E.length + 1 ≤ 3) : KB2 w lv L w5 v' (E ++ [e]) wx := by
  have hs := h.2.2.2.2.2.2.2.1
  have hlt := h.2.2.2.2.2.2.2.2
  have hbB := h5 (w5.heap.size + 1) (by omega) (Nat.le_refl _)
  obtain ⟨at_, ha, hg⟩ := h.1.2.2.2.1
  refine ⟨⟨h.1.1.trans (h5 w.heap.size (by omega) (by omega)), h.1.2.1, h.1.2.2.1, ⟨at_, ha, (h4 _ (by omega) (by omega) (by omega)).trans hg⟩, ⟨h.1.2.2.2.2.1, (h4 _ (by omega) (by omega) (by omega)).trans h.1.2.2.2.2.2⟩⟩,
    ⟨hbB.os.trans h.2.1.os, hbB.tape.trans h.2.1.tape, hbB.output.trans h.2.1.output, Nat.le_trans h.2.1.size hbB.size, fun k hk hn => (h4 k (by omega) (by omega) (by omega)).trans (h.2.1.block k hk hn)⟩,
    (h4 _ (by omega) (by omega) (by omega)).trans h.2.2.1, h1, h2, by simp; omega, ?_, Nat.le_trans hs hbB.size, hlt⟩
  intro x hx
  rcases List.mem_append.1 hx with hx | hx
  · exact h.2.2.2.2.2.2.1 x hx
  · obtain rfl : x = e := by simpa using hx
    exact h3
/-- What is told are binds that may be. -/
def BindsT (e : Ending) (w : World) : Prop := ∃ (v : Value) (l : List Bd), e = .returned v ∧ BdsAt w v l ∧ okBds l
set_option maxRecDepth 20000 in
set_option maxHeartbeats 4000000 in
theorem binds_any (lv : Value) (L : List UInt8) (w : World) (hv : BytesAt w lv L) (hL : L.length ≤ 140737488351232) :
    Calls Try.prog 12 #[lv] w fun e w' => BindsT e w' ∧ Below w.heap.size w w' := by
  obtain ⟨A, n, c, rfl⟩ : ∃ A n c, lv = .slice A n c := by rcases hv with ⟨h, _⟩ | ⟨a, cap, h, _⟩ <;> exact ⟨_, _, _, h⟩
  have hmf : ∀ (fn : Fn) (first cap : Array Value) (w : World), (Instr.makeFunc fn first cap).run Try.prog w = .ok (.func fn first cap) w := fun _ _ _ _ => rfl
  have K := Lib.hid (KB1.new w _ L hv)
  clear hv
  go_enter Try.func12, Try.ntmps12
  go_wp2_with fail
  go_at_call 35
  refine (nextB_any w _ _ _ L _ hL K.out.fb).mono ?_
  rintro e w1 ⟨⟨b, hb255, rfl⟩, hF1, hg1⟩
  replace K := Lib.hid (K.out.grow hF1 hg1); clear hF1 hg1
  have hm3 : 0 ≤ (b : Int) % 3 ∧ (b : Int) % 3 ≤ 2 := by omega
  have HM := Lib.hid hm3; clear hm3
  go_wp2_with fail
  go_loopw [6] (fun iv wr => ∃ (t : Int) (v : Value) (E : List Ev), iv = .int .i64 t ∧ -1 ≤ t ∧ t ≤ 2 ∧ (E.length : Int) + t ≤ 2 ∧ KB1 w (.slice A n c) L v E wr) (fun iv _ => (intOf iv + 1).toNat)
  case atStart => exact ⟨_, _, [], rfl, by have := HM.out; omega, by have := HM.out; omega, by have := HM.out; simp; omega, K.out⟩
  case round =>
    clear K
    obtain ⟨t, v, E, rfl, ht1, ht2, hEl, hK⟩ := hrel
    have K := Lib.hid hK; clear hK
    have HE := Lib.hid hEl; clear hEl
    by_cases ht : 0 ≤ t
    · go_wp2_with fail
      go_at_call 35
      refine (nextB_any w _ _ _ L _ hL K.out.fb).mono ?_
      rintro e w2 ⟨⟨b2, hb2, rfl⟩, hF1, hg1⟩
      replace K := Lib.hid (K.out.grow hF1 hg1); clear hF1 hg1
      go_wp2_with fail
      refine wp_of_eq (c' := ((Try.f12.body.bind (regionN 8)).getD .skip)) ?_ (by kernel_rfl)
      refine bindA_ev _ _ _ _ _ _ _ _ _ _ _ _ _ _ _ _ _ _ _ _ _ _ _ _ _ _ _ _ _ _ _ _ _ _ _ _ _ _ _ _ _ _ _ _ _ _ _ _ _ _ _ _ _ _ _ _ _ _ _ _ _ _ _ _ _ _ _ _ _ _ _ _ _ _ _ _ _ _ _ _ hb2 K.out.2.2.1 K.out.2.2.2.1 (by have := K.out.2.2.2.2.1; omega) K.out.2.2.2.2.2.2 (by omega) (fun _ _ _ _ _ _ _ _ _ _ _ _ _ _ _ _ _ _ _ _ _ _ v' vs wx hR => ?_)
      have K2 := Lib.hid (K.out.more hR.1 hR.2.1 hR.2.2.1 hR.2.2.2.1 hR.2.2.2.2 (by have := HE.out; omega))
      clear hR
      go_wp2_with fail
      go_roundw
      case rel => exact ⟨t - 1, v', _, by go_num, by omega, by omega, by have := HE.out; simp; omega, K2.out⟩
      case measure => simp [intOf]; omega
    · have hlt : w.heap.size + 1 < wr.heap.size := by have := K.out.2.2.2.2.2.2; omega
      have K5 := Lib.hid (And.intro K.out (KB2.new K.out.fb hlt)); clear K hlt
      go_wp2_with fail
      go_at_call 35
      refine (nextB_any w _ _ _ L _ hL K5.out.2.fb).mono ?_
      rintro e w6 ⟨⟨b3, hb3, rfl⟩, hF1, hg1⟩
      have J := Lib.hid (K5.out.2.grow hF1 hg1); clear hF1 hg1
      obtain ⟨w5, rfl⟩ : ∃ W : World, W = wr := ⟨_, rfl⟩
      have hm4 : 0 ≤ (b3 : Int) % 4 ∧ (b3 : Int) % 4 ≤ 3 := by omega
      have HM4 := Lib.hid hm4; clear hm4
      go_wp2_with fail
      go_loopw [9] (fun iv wr => ∃ (t2 : Int) (v2 : Value) (E2 : List Ev), iv = .int .i64 t2 ∧ 0 ≤ t2 ∧ t2 ≤ 3 ∧ (E2.length : Int) + t2 ≤ 3 ∧ KB2 w (.slice A n c) L w5 v2 E2 wr) (fun iv _ => (intOf iv).toNat)
      case atStart => exact ⟨_, _, [], rfl, HM4.out.1, HM4.out.2, by have := HM4.out; simp; omega, J.out⟩
      case round =>
        clear J
        obtain ⟨t2, v2, E2, rfl, hs1, hs2, hEl2, hJ⟩ := hrel
        have J := Lib.hid hJ; clear hJ
        have HE2 := Lib.hid hEl2; clear hEl2
        by_cases ht2 : 0 < t2
        · go_wp2_with fail
          go_at_call 35
          refine (nextB_any w _ _ _ L _ hL J.out.fb).mono ?_
          rintro e w7 ⟨⟨b4, hb4, rfl⟩, hF1, hg1⟩
          replace J := Lib.hid (J.out.grow hF1 hg1); clear hF1 hg1
          go_wp2_with fail
          refine wp_of_eq (c' := ((Try.f12.body.bind (regionN 14)).getD .skip)) ?_ (by kernel_rfl)
          refine bindB_ev _ _ _ _ _ _ _ _ _ _ _ _ _ _ _ _ _ _ _ _ _ _ _ _ _ _ _ _ _ _ _ _ _ _ _ _ _ _ _ _ _ _ _ _ _ _ _ _ _ _ _ _ _ _ _ _ _ _ _ _ _ _ _ _ _ _ _ _ _ _ _ _ _ _ _ _ _ _ _ _ hb4 J.out.2.2.2.1 J.out.2.2.2.2.1 (by have := J.out.2.2.2.2.2.1; omega) J.out.2.2.2.2.2.2.2.1 (by omega) (fun _ _ _ _ _ _ _ _ _ _ _ _ _ _ _ _ _ _ _ _ _ _ _ _ v' vs wx hR => ?_)
          have J2 := Lib.hid (J.out.more hR.1 hR.2.1 hR.2.2.1 hR.2.2.2.1 hR.2.2.2.2 (by have := HE2.out; omega))
          clear hR
          go_wp2_with fail
          go_roundw
          case rel => exact ⟨t2 - 1, v', _, by go_num, by omega, by omega, by have := HE2.out; simp; omega, J2.out⟩
          case measure => simp [intOf]; omega
        · have aB := K5.out.1.2.2.1.grown J.out.2.1 (fun e => by have := Option.some.inj e; omega)
          obtain ⟨_, _, hgB⟩ := K5.out.1.1.2.2.2.1
          have aE := K5.out.1.2.2.2.1.grownG hgB J.out.2.1
          have bB := J.out.2.2.2.1
          have bE := J.out.2.2.2.2.1
          obtain ⟨M1, q1, mO1, q2⟩ := id aE; clear q1 q2
          obtain ⟨V1, V3, rfl, _⟩ := mO1.shape
          obtain ⟨M2, q1, mO2, q2⟩ := id bE; clear q1 q2
          obtain ⟨U1, U3, rfl, _⟩ := mO2.shape
          have a0 := fun j => aB.cell j
          have b0 := fun j => bB.cell j
          have aN := K5.out.1.2.1.grown J.out.2.1 (fun e => by have := Option.some.inj e; omega)
          have bN := J.out.2.2.1
          have Z := Lib.hid (And.intro aE (And.intro bE (And.intro aN bN)))
          clear aB bB aE bE mO1 mO2 aN bN hgB
          go_wp2_with fail
          go_ret
          have hb9 := ba wr (.cells #[.string nA, .slice (some ⟨w.heap.size + 1 + 1, 0, none⟩) 2 2, .slice V1 M1.length V3, .string nB, .slice (some ⟨w5.heap.size, 0, none⟩) 4 4, .slice U1 M2.length U3] 59)
          refine ⟨⟨_, [(nA, [nK, nX], E), (nB, [nK, nY, nS, nT], E2)], rfl, ⟨[(nA, (some ⟨w.heap.size + 1 + 1, 0, none⟩, 2, 2), (V1, M1.length, V3)), (nB, (some ⟨w5.heap.size, 0, none⟩, 4, 4), (U1, M2.length, U3))], rfl, At.blk (k := 3) (f := bc) (fun _ => rfl) (Blk.new wr _ _) rfl rfl (by show 2 ≤ maxLen; decide), ?_⟩, ?_⟩, bt J.out.1.1 hb9⟩
          · intro i h h'
            have h2 : i < 2 := h
            rcases (by omega : i = 0 ∨ i = 1) with rfl | rfl
            · exact ⟨rfl, At.blk (k := 1) (f := sc) (fun _ => rfl) (Z.out.2.2.1.later hb9) rfl rfl (by show 2 ≤ maxLen; decide), (Z.out.1.later hb9).at_⟩
            · exact ⟨rfl, At.blk (k := 1) (f := sc) (fun _ => rfl) (Z.out.2.2.2.later hb9) rfl rfl (by show 4 ≤ maxLen; decide), (Z.out.2.1.later hb9).at_⟩
          · intro x hx
            simp only [List.mem_cons, List.not_mem_nil, or_false] at hx
            rcases hx with rfl | rfl
            · exact ⟨Nat.le_trans K5.out.1.2.2.2.2.1 (by decide), K5.out.1.2.2.2.2.2.1⟩
            · exact ⟨Nat.le_trans J.out.2.2.2.2.2.1 (by decide), J.out.2.2.2.2.2.2.1⟩
end Go.Proofs.Ytjddfjapopdciaa
