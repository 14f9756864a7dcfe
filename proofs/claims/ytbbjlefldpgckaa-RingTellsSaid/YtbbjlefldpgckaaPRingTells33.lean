/- Texts of the proof of RingTells, part 33. -/
import Derived.Test.YtbbjlefldpgckaaPRingTells32
namespace Go.Proofs.Ytbbjlefldpgckaa
open Go.ChangeShapes Go.WideShapes Go.ChangeAt Go.RowKit Go.Maps
open Ev (V3 rightV OkV)
set_option linter.unusedVariables false
set_option linter.unusedSimpArgs false
set_option maxRecDepth 20000

section
variable {w w' : World} {B p : Nat} {vl vq : Value} {L : List Raw} {Q : List Qr} {s : Rg}
variable (mk : Bool) (t : Int) (v : Value) (l : List V3)
set_option maxHeartbeats 2000000 in
theorem mPut_ok (h : RM w B p vl vq L Q s) (hv : Own w B tMv 3 row3 v l) (hs : ∀ x ∈ l, x.2.2.size ≤ maxLen) (hr : Ev.rightI mk t l = true) (hsh : s.shut = false) (hL : ¬ late s mk t) {q0 : Nat} (hF : IsLen s.hist.length s.rd q0) (hF2 : q0 < s.room) (hT0 : s.hist.length < 1000000) :
    Calls Try.prog 32 #[.pointer (some ⟨p, 0, none⟩), item mk t v] w (mPutP B p s mk t l w) := by
  have bA := ba w (.cells #[.bool mk, .int .i64 t, v] tMi)
  have hva : ValsAt w v l := at_vals (Own.at_ (f := row3) (k := 3) (fun _ => rfl) hv)
  have hT : s.hist.length < 4000000000000000000 := by omega
  obtain ⟨j0, hj, hy0, hy1, hy2⟩ := info_parts (P := Try.prog) (e := tMi) (z := .agg #[.bool false, .int .i64 0, .slice none 0 0]) (size := 3) (bytes := 40) (by kernel_rfl)
  have cR := rRight_i mk t v l _ (hva.later bA) hs
  have hp := Blk.new w tMi #[.bool mk, .int .i64 t, v]
  rw [hr] at cR
  have cF := fun W (hb : Below w.heap.size w W) => mLen_any (h.later hb)
  have hB := h.low'
  obtain ⟨p1, p2, p3, p4⟩ := Ev.plain_parts (Ev.rightI_plain hr)
  obtain ⟨A, cap, rfl, _, _, _⟩ := hv.shape
  obtain ⟨A0, cap0, rfl, _, k1, k2⟩ := h.l.shape
  have hLl := h.llen
  obtain ⟨nl, hnl⟩ : ∃ nl, nl = L.length := ⟨_, rfl⟩
  have hnl4 : nl < 1000000 := by omega
  rw [← hnl] at h k1
  have hE1 : s.edge ≤ behindI mk t := by unfold late at hL; unfold behindI; split <;> omega
  have hE2 : behindI mk t ≤ 2305843009213693953 := by unfold behindI; split <;> omega
  have cB := fun W => mAfter_any mk t (.slice A l.length cap) W ⟨p1, p2⟩
  have hL' := hL
  have H := Lib.hid (And.intro cR (And.intro bA (And.intro h (And.intro hr (And.intro hB (And.intro hsh (And.intro hp (And.intro hL' (And.intro hF (And.intro cF (And.intro hF2 (And.intro hv (And.intro hnl (And.intro hE1 (And.intro hE2 (And.intro cB hT)))))))))))))))); clear cR bA h hr hB hsh hp hL' cF hv hnl hE1 hE2 cB hva hLl p4
  unfold late at hL
  have n1 : ¬ t < s.edge := fun e => hL (Or.inl e)
  have n1b : decide (t < s.edge) = false := decide_eq_false n1
  have n2 : mk = false ∨ (mk = true ∧ ¬ t = s.edge) := by
    cases mk
    · exact Or.inl rfl
    · exact Or.inr ⟨rfl, fun e => hL (Or.inr ⟨rfl, e⟩)⟩
  clear hL
  have n2' : (mk = false ∧ True ∧ True) ∨ (mk = true ∧ decide (t = s.edge) = false ∧ (t == s.edge) = false) := by
    rcases n2 with h | ⟨h, n2⟩
    · exact Or.inl ⟨h, trivial, trivial⟩
    · exact Or.inr ⟨h, decide_eq_false n2, by simpa using n2⟩
  clear n2
  rcases n2' with ⟨rfl, n2b, n2c⟩ | ⟨rfl, n2b, n2c⟩
  · go_enter Try.func32, Try.ntmps32
    go_wp2_with (go_at_call 48; ((with_reducible refine H.out.1.mono ?_); rintro e w1 ⟨rfl, b1⟩; obtain ⟨_, _, _, _, c4, c5, dl, df⟩ := (H.out.2.2.1.later (bt H.out.2.1 b1)).cells; rw [H.out.2.2.2.2.2.1] at c4; obtain ⟨p0, p1, p2⟩ := (H.out.2.2.2.2.2.2.1.later b1).three))
    go_quiet (fail)
    obtain ⟨r0, _, _, _, _, _, _, _⟩ := (H.out.2.2.1.later (bt H.out.2.1 b1)).cells
    have K := Lib.hid (And.intro (below_drewN (Below.refl w1.heap.size w1) nq) (And.intro (fun X (hb : Below w1.heap.size w1 X) => H.out.2.2.1.later (bt (bt H.out.2.1 b1) hb)) (And.intro (fun X (hb : Below w1.heap.size w1 X) => (H.out.2.2.2.2.2.2.1.later b1).later hb) (bt H.out.2.1 b1))))
    clear b1 c4 c5 dl df p0 p1 p2
    go_wp2_with fail
    refine wp_region_noPanic ?_
    go_region_held3 (fun X => X.cell? ⟨p, 0, none⟩ = some (.int .i64 (s.room : Int))) (exact (K.out.2.1 _ (by first | exact K.out.1 | exact below_drew K.out.1 | exact K2.out)).blk.cell 0) ((go_at_call 38; ((refine (H.out.2.2.2.2.2.2.2.2.2.1 _ (bt K.out.2.2.2 (by first | exact K.out.1 | exact below_drew K.out.1))).mono ?_); rintro e w2 ⟨q, ⟨rfl, hq⟩, b2⟩; obtain rfl := H.out.2.2.2.2.2.2.2.2.1.one hq; have K2 := Lib.hid (by first | exact bt K.out.1 b2 | exact bt (below_drew K.out.1) b2 : Below w1.heap.size w1 w2); have hz : decide ((s.room : Int) ≤ (q0 : Int)) = false := decide_eq_false (by have := H.out.2.2.2.2.2.2.2.2.2.2.1; omega); have hz2 : ¬ (s.room : Int) ≤ (q0 : Int) := of_decide_eq_false hz; clear b2 hq)))
    all_goals
      refine NoPanic.normal ?_
      have hR2 := K.out.2.1 w2 K2.out
      have hP2 := K.out.2.2.1 w2 K2.out
      obtain ⟨s0, s1, s2⟩ := hP2.three
      obtain ⟨_, c1, _, _, _, c5, dl, df⟩ := hR2.cells
      have M := Lib.hid (And.intro hR2 hP2); clear hR2 hP2
      have hdp : ¬ w.heap.size = p := by have := H.out.2.2.1.blk.lt; omega
      have hdp' : ¬ p = w.heap.size := fun e => hdp e.symm
      have hW2 := bt K.out.2.2.2 K2.out
      have hqr := Lib.hid (fun X (hb : Below w2.heap.size w2 X) => (own_n (M.out.1.l.later hb) H.out.2.2.2.2.2.2.2.2.2.2.2.2.1 : X.ownsRow B tMi 3 (.slice A0 nl cap0) nl (L.flatMap rowI)))
      have hnc := Lib.hid (fun (b : Bool) => (new_cells rfl tMi #[.bool b, .int .i64 t, .slice A l.length cap] : ∀ j u, (rowI (b, t, (A, l.length, cap)))[j]? = some u → (w2.alloc (.cells #[.bool b, .int .i64 t, .slice A l.length cap] tMi)).drew.cell? ((⟨w2.heap.size, 0, none⟩ : Addr).add j) = some u))
      have hBs : B ≤ w2.heap.size := Nat.le_trans H.out.2.2.2.2.1 hW2.size
      have hW2 := Lib.hid (And.intro hW2 (And.intro p1 (And.intro p2 p3)))
      go_wp2_with fail
      go_region_law (first
        | (refine step_append_own_at rfl (.tmp 49) (.tmp 51) 64 rfl B tMi j0 (.agg #[.bool false, .int .i64 0, .slice none 0 0]) 3 40 Try.underlying64 hj hy0 hy1 hy2 rfl (by decide) (.slice A0 nl cap0) nl _ rfl (hqr.out _ (below_drew (ba w2 (.cells #[.bool false, .int .i64 t, .slice A l.length cap] tMi)))) ⟨w2.heap.size, 0, none⟩ 1 1 (rowI (false, t, (A, l.length, cap))) rfl rfl (hnc.out false) (by simp [Value.oneCell']) (by unfold maxLen; omega) (by omega) (by simp; omega) ?_; intro v5 w5 hO5 hg5 _; obtain ⟨A5, n5, c5', hv5⟩ := own_shape hO5; have hX4 := (below_drew (ba w2 (.cells #[.bool false, .int .i64 t, .slice A l.length cap] tMi))); have hq := M.out.1.later hX4; have hb5 := hq.blk.grown hg5 (fun e => own_nep hq.l hq.blk (by decide) e.symm); have hP5 := (M.out.2.later hX4).grown hg5 (fun e => (by obtain ⟨_, cs', hc⟩ := H.out.2.2.1.l.block e.symm; have := (Array.getElem?_eq_some_iff.1 hc).1; omega)); have y1 : w5.cell? ⟨p, 1, none⟩ = some (.slice A0 nl cap0) := (by have := hb5.cell 1; simpa [mgCells] using this); have y5 : w5.cell? ⟨p, 5, none⟩ = some (.int .i64 s.edge) := (by have := hb5.cell 5; simpa [mgCells] using this); have yl := hb5.lt; have yf := hb5.frozen; obtain ⟨x0, x1', x2⟩ := hP5.three; have xl := hP5.lt; have h6 := hq.newL hg5 (Own.more H.out.2.2.2.2.2.2.2.2.2.2.2.2.1 hO5) (H.out.2.2.2.2.2.2.2.2.2.2.2.1.later (bt hW2.out.1 hX4)) H.out.2.2.2.2.2.2.2.2.2.2.2.2.2.2.2.2 ⟨hW2.out.2.2.2, hW2.out.2.1, hW2.out.2.2.1⟩; subst hv5; have K5 := Lib.hid (And.intro h6 (ChM.later H.out.2.2.2.2.1 (bt hW2.out.1 hX4))); clear hO5 hg5 hq hb5 hP5 h6 hX4))
      all_goals
        go_wp2_with (go_at_call 49; refine (H.out.2.2.2.2.2.2.2.2.2.2.2.2.2.2.2.1 _).mono ?_; rintro e w7 ⟨rfl, b7⟩; have h7 := K5.out.1.1.later b7; obtain ⟨_, _, _, _, _, z5, zl, zf⟩ := h7.cells; have h8 := h7.edge_ _ H.out.2.2.2.2.2.2.2.2.2.2.2.2.2.1 H.out.2.2.2.2.2.2.2.2.2.2.2.2.2.2.1; have K8 := Lib.hid (And.intro h8 (ChM.later K5.out.1.1.low' b7)); clear h7 h8 b7)
        go_ret
        exact ⟨0, _, ⟨rfl, Or.inr (Or.inr (Or.inr (Or.inr ⟨H.out.2.2.2.1, H.out.2.2.2.2.2.1, H.out.2.2.2.2.2.2.2.1, ⟨q0, H.out.2.2.2.2.2.2.2.2.1, hF2⟩, rfl, rfl⟩))), ⟨_, _, _, _, K8.out.1.1⟩⟩, K5.out.2.trans (K5.out.1.2.trans (K8.out.2.trans K8.out.1.2))⟩
  · go_enter Try.func32, Try.ntmps32
    go_wp2_with (go_at_call 48; ((with_reducible refine H.out.1.mono ?_); rintro e w1 ⟨rfl, b1⟩; obtain ⟨_, _, _, _, c4, c5, dl, df⟩ := (H.out.2.2.1.later (bt H.out.2.1 b1)).cells; rw [H.out.2.2.2.2.2.1] at c4; obtain ⟨p0, p1, p2⟩ := (H.out.2.2.2.2.2.2.1.later b1).three))
    go_quiet (fail)
    obtain ⟨r0, _, _, _, _, _, _, _⟩ := (H.out.2.2.1.later (bt H.out.2.1 b1)).cells
    have K := Lib.hid (And.intro (below_drewN (Below.refl w1.heap.size w1) nq) (And.intro (fun X (hb : Below w1.heap.size w1 X) => H.out.2.2.1.later (bt (bt H.out.2.1 b1) hb)) (And.intro (fun X (hb : Below w1.heap.size w1 X) => (H.out.2.2.2.2.2.2.1.later b1).later hb) (bt H.out.2.1 b1))))
    clear b1 c4 c5 dl df p0 p1 p2
    go_wp2_with fail
    refine wp_region_noPanic ?_
    go_region_held3 (fun X => X.cell? ⟨p, 0, none⟩ = some (.int .i64 (s.room : Int))) (exact (K.out.2.1 _ (by first | exact K.out.1 | exact below_drew K.out.1 | exact K2.out)).blk.cell 0) ((go_at_call 38; ((refine (H.out.2.2.2.2.2.2.2.2.2.1 _ (bt K.out.2.2.2 (by first | exact K.out.1 | exact below_drew K.out.1))).mono ?_); rintro e w2 ⟨q, ⟨rfl, hq⟩, b2⟩; obtain rfl := H.out.2.2.2.2.2.2.2.2.1.one hq; have K2 := Lib.hid (by first | exact bt K.out.1 b2 | exact bt (below_drew K.out.1) b2 : Below w1.heap.size w1 w2); have hz : decide ((s.room : Int) ≤ (q0 : Int)) = false := decide_eq_false (by have := H.out.2.2.2.2.2.2.2.2.2.2.1; omega); have hz2 : ¬ (s.room : Int) ≤ (q0 : Int) := of_decide_eq_false hz; clear b2 hq)))
    all_goals
      refine NoPanic.normal ?_
      have hR2 := K.out.2.1 w2 K2.out
      have hP2 := K.out.2.2.1 w2 K2.out
      obtain ⟨s0, s1, s2⟩ := hP2.three
      obtain ⟨_, c1, _, _, _, c5, dl, df⟩ := hR2.cells
      have M := Lib.hid (And.intro hR2 hP2); clear hR2 hP2
      have hdp : ¬ w.heap.size = p := by have := H.out.2.2.1.blk.lt; omega
      have hdp' : ¬ p = w.heap.size := fun e => hdp e.symm
      have hW2 := bt K.out.2.2.2 K2.out
      have hqr := Lib.hid (fun X (hb : Below w2.heap.size w2 X) => (own_n (M.out.1.l.later hb) H.out.2.2.2.2.2.2.2.2.2.2.2.2.1 : X.ownsRow B tMi 3 (.slice A0 nl cap0) nl (L.flatMap rowI)))
      have hnc := Lib.hid (fun (b : Bool) => (new_cells rfl tMi #[.bool b, .int .i64 t, .slice A l.length cap] : ∀ j u, (rowI (b, t, (A, l.length, cap)))[j]? = some u → (w2.alloc (.cells #[.bool b, .int .i64 t, .slice A l.length cap] tMi)).drew.cell? ((⟨w2.heap.size, 0, none⟩ : Addr).add j) = some u))
      have hBs : B ≤ w2.heap.size := Nat.le_trans H.out.2.2.2.2.1 hW2.size
      have hW2 := Lib.hid (And.intro hW2 (And.intro p1 (And.intro p2 p3)))
      go_wp2_with fail
      go_region_law (first
        | (refine step_append_own_at rfl (.tmp 49) (.tmp 51) 64 rfl B tMi j0 (.agg #[.bool false, .int .i64 0, .slice none 0 0]) 3 40 Try.underlying64 hj hy0 hy1 hy2 rfl (by decide) (.slice A0 nl cap0) nl _ rfl (hqr.out _ (below_drew (ba w2 (.cells #[.bool true, .int .i64 t, .slice A l.length cap] tMi)))) ⟨w2.heap.size, 0, none⟩ 1 1 (rowI (true, t, (A, l.length, cap))) rfl rfl (hnc.out true) (by simp [Value.oneCell']) (by unfold maxLen; omega) (by omega) (by simp; omega) ?_; intro v5 w5 hO5 hg5 _; obtain ⟨A5, n5, c5', hv5⟩ := own_shape hO5; have hX4 := (below_drew (ba w2 (.cells #[.bool true, .int .i64 t, .slice A l.length cap] tMi))); have hq := M.out.1.later hX4; have hb5 := hq.blk.grown hg5 (fun e => own_nep hq.l hq.blk (by decide) e.symm); have hP5 := (M.out.2.later hX4).grown hg5 (fun e => (by obtain ⟨_, cs', hc⟩ := H.out.2.2.1.l.block e.symm; have := (Array.getElem?_eq_some_iff.1 hc).1; omega)); have y1 : w5.cell? ⟨p, 1, none⟩ = some (.slice A0 nl cap0) := (by have := hb5.cell 1; simpa [mgCells] using this); have y5 : w5.cell? ⟨p, 5, none⟩ = some (.int .i64 s.edge) := (by have := hb5.cell 5; simpa [mgCells] using this); have yl := hb5.lt; have yf := hb5.frozen; obtain ⟨x0, x1', x2⟩ := hP5.three; have xl := hP5.lt; have h6 := hq.newL hg5 (Own.more H.out.2.2.2.2.2.2.2.2.2.2.2.2.1 hO5) (H.out.2.2.2.2.2.2.2.2.2.2.2.1.later (bt hW2.out.1 hX4)) H.out.2.2.2.2.2.2.2.2.2.2.2.2.2.2.2.2 ⟨hW2.out.2.2.2, hW2.out.2.1, hW2.out.2.2.1⟩; subst hv5; have K5 := Lib.hid (And.intro h6 (ChM.later H.out.2.2.2.2.1 (bt hW2.out.1 hX4))); clear hO5 hg5 hq hb5 hP5 h6 hX4))
      all_goals
        go_wp2_with (go_at_call 49; refine (H.out.2.2.2.2.2.2.2.2.2.2.2.2.2.2.2.1 _).mono ?_; rintro e w7 ⟨rfl, b7⟩; have h7 := K5.out.1.1.later b7; obtain ⟨_, _, _, _, _, z5, zl, zf⟩ := h7.cells; have h8 := h7.edge_ _ H.out.2.2.2.2.2.2.2.2.2.2.2.2.2.1 H.out.2.2.2.2.2.2.2.2.2.2.2.2.2.2.1; have K8 := Lib.hid (And.intro h8 (ChM.later K5.out.1.1.low' b7)); clear h7 h8 b7)
        go_ret
        exact ⟨0, _, ⟨rfl, Or.inr (Or.inr (Or.inr (Or.inr ⟨H.out.2.2.2.1, H.out.2.2.2.2.2.1, H.out.2.2.2.2.2.2.2.1, ⟨q0, H.out.2.2.2.2.2.2.2.2.1, hF2⟩, rfl, rfl⟩))), ⟨_, _, _, _, K8.out.1.1⟩⟩, K5.out.2.trans (K5.out.1.2.trans (K8.out.2.trans K8.out.1.2))⟩
theorem mPut_any (h : RM w B p vl vq L Q s) (hv : Own w B tMv 3 row3 v l) (hs : ∀ x ∈ l, x.2.2.size ≤ maxLen) (hT : s.hist.length < 1000000) {q : Nat} (hq : IsLen s.hist.length s.rd q) (hqr : q ≤ s.room) :
    Calls Try.prog 32 #[.pointer (some ⟨p, 0, none⟩), item mk t v] w (mPutP B p s mk t l w) := by
  have hva : ValsAt w v l := at_vals (Own.at_ (f := row3) (k := 3) (fun _ => rfl) hv)
  rcases hr : Ev.rightI mk t l with _ | _
  · exact mPut_no mk t v l h hva hs hr
  · rcases hsh : s.shut with _ | _
    · by_cases hL : late s mk t
      · exact mPut_late mk t v l h hva hs hr hsh hL
      · rcases Nat.lt_or_ge q s.room with h1 | h1
        · exact mPut_ok mk t v l h hv hs hr hsh hL hq h1 hT
        · have e : q = s.room := Nat.le_antisymm hqr h1
          subst e
          exact mPut_full mk t v l h hva hs hr hsh hL hq
    · exact mPut_shut mk t v l h hva hs hr hsh
end
end Go.Proofs.Ytbbjlefldpgckaa
