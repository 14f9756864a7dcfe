/- Texts of the proof of RingTells, part 38. -/
import Derived.Test.YtbbjlefldpgckaaPRingTells37
namespace Go.Proofs.Ytbbjlefldpgckaa
open Go.ChangeShapes Go.WideShapes Go.ChangeAt Go.RowKit Go.Maps
open Ev (V3 rightV OkV)
set_option linter.unusedVariables false
set_option linter.unusedSimpArgs false
set_option maxRecDepth 20000

section
variable {w w' : World} {B p : Nat} {vl vq : Value} {L : List Raw} {Q : List Qr} {s : Rg}
theorem own_ltq {α : Type} {w : World} {b : Nat} {e : TypeId} {k : Nat} {f : α → List Value} {g n c : Nat} {l : List α} (h : Own w b e k f (.slice (some ⟨g, 0, none⟩) n c) l) : g < w.heap.size := by
  obtain ⟨_, cs, hc⟩ := h.block (g := g) rfl
  exact (Array.getElem?_eq_some_iff.1 hc).1
/-- A box of an item that is none of its rows is written. -/
theorem RM.box {W : World} (h : RM W B p vl vq L Q s) {b : Nat} {cs : Array Value} (hb : Blk W b tMi cs) (hne : ∀ g, vl.ownBlock = some g → g ≠ b) (o : Nat) (u : Value) : RM (W.setCell ⟨b, o, none⟩ u) B p vl vq L Q s := by
  have hbp : p ≠ b := by
    rintro rfl
    have h1 : W.heap[p]? = some (.cells cs tMi (0, 0)) := hb
    have := h1.symm.trans h.blk
    simp at this
    exact absurd this.2 (by decide)
  exact ⟨h.low, h.blk.far (p := ⟨b, o, none⟩) hbp u, h.l.grown (grown_set W b o u) (fun g hg e => hne g e (by simpa using hg.symm)), h.its.mono (fun _ _ hn => own_setp hn hb (by decide) o u), own_setp h.q hb (by decide) o u, h.qok, h.ok⟩
abbrev ziB : Obj := .cells #[.bool false, .int .i64 0, .slice none 0 0] tMi
theorem mNext_none (id : Int) (h : RM w B p vl vq L Q s) (h0 : waitR s id = 0) : Calls Try.prog 36 #[.pointer (some ⟨p, 0, none⟩), .int .i64 id] w (mNextP B p s id w) := by
  have bA := ba w ziB
  have hp := Blk.new w tMi #[.bool false, .int .i64 0, .slice none 0 0]
  have cP : Calls Try.prog 39 #[.pointer (some ⟨p, 0, none⟩), .int .i64 id] (w.alloc ziB) fun e w1 => e = .returned (.tuple #[item false 0 (.slice none 0 0), .bool false]) ∧ Below (w.alloc ziB).heap.size (w.alloc ziB) w1 :=
    (mPeek_any id (h.later bA)).mono fun e w1 hh => by
      obtain ⟨hc, hb⟩ := hh
      rcases hc with ⟨_, he⟩ | ⟨r', x, v', ⟨hr', hx⟩, _⟩
      · exact ⟨he, hb⟩
      · have := (List.getElem?_eq_some_iff.1 hx).1
        unfold waitR at h0
        rw [hr'] at h0
        simp only at h0
        omega
  have hB := h.low'
  have H := Lib.hid (And.intro cP (And.intro bA (And.intro hp (And.intro h0 (And.intro h hB))))); clear cP bA hp h0 h hB
  go_enter Try.func36, Try.ntmps36
  go_wp2_with (go_at_call 39; ((with_reducible refine H.out.1.mono ?_); rintro e w1 ⟨rfl, b1⟩; have hq := H.out.2.2.1.later b1; obtain ⟨p0, p1, p2⟩ := (H.out.2.2.1.later b1).three; have pl := (H.out.2.2.1.later b1).lt; have pf := (H.out.2.2.1.later b1).frozen; have K := Lib.hid (And.intro b1 hq); clear b1 hq))
  obtain ⟨z0, z1, z2⟩ := ((K.out.2.put3 (.bool false) (.int .i64 0) (.slice none 0 0)).alloc ziB).three
  refine bodyPost_ret (v := .tuple #[item false 0 (.slice none 0 0), .bool false]) (by simp only [results, Try.results36]; simp [go_sem, z0, z1, z2]) rfl ?_
  have bW := bt H.out.2.1 K.out.1
  have hbe := (below_put3 bW (Nat.le_refl _) (.bool false) (.int .i64 0) (.slice none 0 0))
  have hbf := bt hbe (ba _ ziB)
  exact ⟨none, s, .slice none 0 0, ⟨rfl, Or.inl ⟨H.out.2.2.2.1, rfl, rfl⟩, fun y hy => (by cases hy), ⟨_, _, _, _, H.out.2.2.2.2.1.later hbf⟩⟩, ChM.later H.out.2.2.2.2.2 hbf⟩
set_option maxHeartbeats 4000000 in
theorem mNext_some (id : Int) (h : RM w B p vl vq L Q s) (r : Rdr) (hr : s.rd id = some r) (y : It) (hy : s.hist[r.1]? = some y) (hye : behindI y.1 y.2.1 ≤ s.edge) : Calls Try.prog 36 #[.pointer (some ⟨p, 0, none⟩), .int .i64 id] w (mNextP B p s id w) := by
  have bA := ba w ziB
  have hp4 := Blk.new w tMi #[.bool false, .int .i64 0, .slice none 0 0]
  have hlt := (List.getElem?_eq_some_iff.1 hy).1
  have hw0 : ¬ waitR s id = 0 := by unfold waitR; rw [hr]; simp only; omega
  have cP : Calls Try.prog 39 #[.pointer (some ⟨p, 0, none⟩), .int .i64 id] (w.alloc ziB) fun e w1 => ∃ v', (e = .returned (.tuple #[item y.1 y.2.1 v', .bool true]) ∧ Own w1 0 tMv 3 row3 v' y.2.2) ∧ Below (w.alloc ziB).heap.size (w.alloc ziB) w1 :=
    (mPeek_any id (h.later bA)).mono fun e w1 hh => by
      obtain ⟨hc, hb⟩ := hh
      rcases hc with ⟨h0, _⟩ | ⟨r', x, v', ⟨hr', hx⟩, he, hN⟩
      · exact absurd h0 hw0
      · rw [hr] at hr'
        cases hr'
        rw [hy] at hx
        cases hx
        exact ⟨v', ⟨he, hN⟩, hb⟩
  obtain ⟨k, hk, hx⟩ := h.qok.place hr
  have hT := h.ok.total
  obtain ⟨A, c, rfl, _, hc1, hc2⟩ := h.q.shape
  obtain ⟨g, rfl⟩ := own_some h.q (by omega)
  obtain ⟨n, hn⟩ : ∃ n, n = Q.length := ⟨_, rfl⟩
  have hn16 : n ≤ 16 := by rw [hn]; exact h.qlen
  rw [← hn] at h
  have hkn : k < n := by rw [hn]; exact hk
  obtain ⟨_, y1, y2⟩ := h.ok.items y (List.mem_of_getElem? hy)
  obtain ⟨mk, t, vals⟩ := y
  obtain ⟨ra, rl⟩ := r
  simp only at cP y1 y2 hlt hye
  have hw1 : IntKind.i64.wrap ((ra : Int) + 1) = (ra : Int) + 1 := IntWalk.i64_in _ (by omega)
  have hF : ∀ W, Below w.heap.size w W → Calls Try.prog 51 #[.pointer (some ⟨p, 0, none⟩), .int .i64 id] W fun e w' => e = .returned (.int .i64 (k : Int)) ∧ W = w' := fun W hb => Find_at (h.later hb) hk hx
  have cB := fun W v => mAfter_any mk t v W ⟨y1, y2⟩
  -- both cells of the reader
  have h1 : ∀ W, Below w.heap.size w W → RM (W.setCell ⟨g, k * 3 + 1, none⟩ (.int .i64 ((ra : Int) + 1))) B p vl (.slice (some ⟨g, 0, none⟩) n c) L (Q.set k (id, ra + 1, rl)) { s with rd := upd s.rd id (some (ra + 1, rl)) } ∧ ChM B W (W.setCell ⟨g, k * 3 + 1, none⟩ (.int .i64 ((ra : Int) + 1))) := fun W hb =>
    (h.later hb).setQ hk (i := 1) (by decide) (x' := (id, ra + 1, rl)) (by rw [hx]; simp) (by rw [hx]) hlt (h.ok.rd _ _ hr).2.2.2
  have hdp := h.blk.lt
  have hB := h.low'
  have H := Lib.hid (And.intro h (And.intro bA (And.intro hp4 (And.intro cP (And.intro hF (And.intro cB (And.intro h1 (And.intro hr (And.intro hy (And.intro hk (And.intro hx (And.intro hn (And.intro hye (And.intro hB hlt))))))))))))))
  clear h bA hp4 cP hF cB h1 hr hy hx hn hye hB hlt hw0 hc1
  go_enter Try.func36, Try.ntmps36
  go_wp2_with (go_at_call 39; ((with_reducible refine H.out.2.2.2.1.mono ?_); rintro e w1 ⟨v1, ⟨rfl, hN1⟩, b1⟩; obtain ⟨A1, n1, m1, hv1⟩ : ∃ A n m, v1 = .slice A n m := (by obtain ⟨A, m, hv, _⟩ := hN1.shape; exact ⟨_, _, _, hv⟩); subst hv1; have K := Lib.hid (And.intro hN1 b1); clear hN1 b1))
  obtain ⟨W2, hW2⟩ : ∃ W2, W2 = w1.alloc (.cells #[.bool mk, .int .i64 t, .slice A1 n1 m1] tMi) := ⟨_, rfl⟩
  rw [← hW2]
  have hb2 : Below w1.heap.size w1 W2 := by rw [hW2]; exact ba _ _
  have hp6 : Blk W2 w1.heap.size tMi #[.bool mk, .int .i64 t, .slice A1 n1 m1] := by rw [hW2]; exact Blk.new _ _ _
  clear hW2
  have hsz1 := K.out.2.size
  rw [World.size_alloc] at hsz1
  have bW : Below w.heap.size w W2 := bt (bt H.out.2.1 K.out.2) hb2
  have hp4 : Blk W2 w.heap.size tMi #[.bool false, .int .i64 0, .slice none 0 0] := (H.out.2.2.1.later K.out.2).later hb2
  have hR2 := H.out.1.later bW
  obtain ⟨_, _, c2, _, _, _, _, _⟩ := hR2.cells
  obtain ⟨_, d1, d2⟩ := three_cells hR2.q k hk
  rw [H.out.2.2.2.2.2.2.2.2.2.2.1] at d1 d2
  simp only at d1 d2
  obtain ⟨hBg, cs, hcs⟩ := hR2.q.block (g := g) rfl
  have hBk : Blk W2 g tMq cs := hcs
  have gf := hBk.frozen
  have gl := hBk.lt
  have hgw : g < w.heap.size := own_ltq H.out.1.q
  have hs1 := H.out.2.2.2.2.2.2.1 W2 bW
  have hgp4 : ¬ w.heap.size = g := by omega
  have hgp6 : ¬ w1.heap.size = g := by omega
  have hp43 := hp4.far (p := ⟨g, k * 3 + 1, none⟩) hgp4 (.int .i64 ((ra : Int) + 1))
  have hp63 := hp6.far (p := ⟨g, k * 3 + 1, none⟩) hgp6 (.int .i64 ((ra : Int) + 1))
  have hN2 : Own W2 0 tMv 3 row3 (.slice A1 n1 m1) vals := K.out.1.later hb2
  have K2 := Lib.hid (And.intro bW (And.intro hs1 (And.intro hp43 (And.intro hp63 (And.intro hN2 (And.intro hsz1 hgw)))))); clear hs1 hp43 hp63 hN2 hp4 hp6 hR2 hBk hcs hb2
  go_at_call 51
  refine (H.out.2.2.2.2.1 W2 K2.out.1).mono ?_
  rintro e w3 ⟨rfl, rfl⟩
  go_wp2_with fail
  clear c2 d1 d2 gf gl
  generalize W2.setCell ⟨g, k * 3 + 1, none⟩ (.int .i64 ((ra : Int) + 1)) = W3 at *
  have hk' : k < (Q.set k ((id, ra + 1, rl) : Qr)).length := by rw [List.length_set]; exact hk
  have D := Lib.hid (fun X (hb : Below W3.heap.size W3 X) => (And.intro (K2.out.2.1.1.later hb) (And.intro (K2.out.2.2.2.1.later hb) (K2.out.2.2.1.later hb)) : RM X B p vl (.slice (some ⟨g, 0, none⟩) n c) L (Q.set k (id, ra + 1, rl)) { s with rd := upd s.rd id (some (ra + 1, rl)) } ∧ Blk X w1.heap.size tMi #[.bool mk, .int .i64 t, .slice A1 n1 m1] ∧ Blk X w.heap.size tMi #[.bool false, .int .i64 0, .slice none 0 0]))
  have hS : ∀ X, Below W3.heap.size W3 X → X.cell? ⟨p, 2, none⟩ = some (.slice (some ⟨g, 0, none⟩) n c) ∧ X.cell? ⟨w1.heap.size, 0, none⟩ = some (.bool mk) ∧ X.cell? ⟨w1.heap.size, 1, none⟩ = some (.int .i64 t) ∧ X.cell? ⟨w1.heap.size, 2, none⟩ = some (.slice A1 n1 m1) := fun X hb => ⟨(D.out X hb).1.blk.cell 2, (D.out X hb).2.1.three⟩
  have hS := Lib.hid hS
  obtain ⟨s0, s1, s2, s3⟩ := hS.out W3 (Below.refl _ _)
  refine wp_region_noPanic ?_
  go_region_held3 (fun X => X.cell? ⟨p, 2, none⟩ = some (.slice (some ⟨g, 0, none⟩) n c) ∧ X.cell? ⟨w1.heap.size, 0, none⟩ = some (.bool mk) ∧ X.cell? ⟨w1.heap.size, 1, none⟩ = some (.int .i64 t) ∧ X.cell? ⟨w1.heap.size, 2, none⟩ = some (.slice A1 n1 m1)) (first | exact hS.out _ (Below.refl _ _) | exact hS.out _ (below_drew (Below.refl _ _)) | exact hS.out _ K7.out | exact hE.out) ((go_at_call 49; refine (H.out.2.2.2.2.2.1 _ _).mono ?_; rintro e w7 ⟨rfl, b7⟩; have K7 := Lib.hid ((below_drew (Below.refl W3.heap.size W3)).trans b7); obtain ⟨hR7, hP6, hP4⟩ := D.out w7 K7.out; obtain ⟨hBg7, cs7, hcs7⟩ := hR7.q.block (g := g) rfl; have hB7 : Blk w7 g tMq cs7 := hcs7; have gf7 := hB7.frozen; have gl7 := hB7.lt; obtain ⟨_, _, d27⟩ := three_cells hR7.q k hk'; simp only [List.getElem_set_self] at d27; have hE := Lib.hid (show (w7.setCell ⟨g, k * 3 + 2, none⟩ (.int .i64 (behindI mk t))).cell? ⟨p, 2, none⟩ = some (.slice (some ⟨g, 0, none⟩) n c) ∧ (w7.setCell ⟨g, k * 3 + 2, none⟩ (.int .i64 (behindI mk t))).cell? ⟨w1.heap.size, 0, none⟩ = some (.bool mk) ∧ (w7.setCell ⟨g, k * 3 + 2, none⟩ (.int .i64 (behindI mk t))).cell? ⟨w1.heap.size, 1, none⟩ = some (.int .i64 t) ∧ (w7.setCell ⟨g, k * 3 + 2, none⟩ (.int .i64 (behindI mk t))).cell? ⟨w1.heap.size, 2, none⟩ = some (.slice A1 n1 m1) from ⟨(hR7.setQ hk' (i := 2) (by decide) (x' := (id, ra + 1, behindI mk t)) (by simp) (by simp) (by exact H.out.2.2.2.2.2.2.2.2.2.2.2.2.2.2) (by exact H.out.2.2.2.2.2.2.2.2.2.2.2.2.1)).1.blk.cell 2, (hP6.far (p := ⟨g, k * 3 + 2, none⟩) hgp6 _).three⟩); clear b7 hB7 hcs7 hR7 hP6 hP4))
  all_goals
    refine NoPanic.normal ?_
    obtain ⟨hR7, hP6, hP4⟩ := D.out w7 K7.out
    have h8 := hR7.setQ hk' (i := 2) (by decide) (u := .int .i64 (behindI mk t)) (x' := (id, ra + 1, behindI mk t)) (by simp) (by simp) (by exact H.out.2.2.2.2.2.2.2.2.2.2.2.2.2.2) (by exact H.out.2.2.2.2.2.2.2.2.2.2.2.2.1)
    have hP48 := hP4.far (p := ⟨g, k * 3 + 2, none⟩) hgp4 (.int .i64 (behindI mk t))
    have hP68 := hP6.far (p := ⟨g, k * 3 + 2, none⟩) hgp6 (.int .i64 (behindI mk t))
    obtain ⟨a0, a1, a2⟩ := hP48.three
    obtain ⟨b0, b1, b2⟩ := hP68.three
    have al := hP48.lt
    have af := hP48.frozen
    have Z := Lib.hid (And.intro h8 (And.intro hP48 (ChM.later (Nat.le_trans H.out.2.2.2.2.2.2.2.2.2.2.2.2.2.1 (Nat.le_trans K2.out.1.size K2.out.2.1.2.bel.size)) K7.out))); clear h8 hP48 hP68 hR7 hP6 hP4 d27 gf7 gl7
    generalize w7.setCell ⟨g, k * 3 + 2, none⟩ (.int .i64 (behindI mk t)) = W8 at *
    go_wp2
    obtain ⟨z0, z1, z2⟩ := (Z.out.2.1.put3 (.bool mk) (.int .i64 t) (.slice A1 n1 m1)).three
    refine bodyPost_ret (v := .tuple #[item mk t (.slice A1 n1 m1), .bool true]) (by simp only [results, Try.results36]; simp [go_sem, Act.put, z0, z1, z2]) rfl ?_
    have hne : ∀ g', vl.ownBlock = some g' → g' ≠ w.heap.size := fun g' hg' => by
      obtain ⟨_, cs', hc'⟩ := H.out.1.l.block hg'
      have := (Array.getElem?_eq_some_iff.1 hc').1
      omega
    have hB := H.out.2.2.2.2.2.2.2.2.2.2.2.2.2.1
    have q0 := Z.out.2.1
    have q1 := q0.set_ 0 (.bool mk)
    have q2 := q1.set_ 1 (.int .i64 t)
    have hR9 := ((Z.out.1.1.box q0 hne 0 (.bool mk)).box q1 hne 1 (.int .i64 t)).box q2 hne 2 (.slice A1 n1 m1)
    have hF9 := (FrM.set q0 (Or.inr (Or.inl rfl)) 0 (.bool mk)).trans ((FrM.set q1 (Or.inr (Or.inl rfl)) 1 (.int .i64 t)).trans (FrM.set q2 (Or.inr (Or.inl rfl)) 2 (.slice A1 n1 m1)))
    have hC9 : ChM B W8 _ := ⟨below_put3 (Below.refl _ _) hB (.bool mk) (.int .i64 t) (.slice A1 n1 m1), hF9⟩
    have hCC := (ChM.later hB K2.out.1).trans (K2.out.2.1.2.trans (Z.out.2.2.trans Z.out.1.2))
    have hN9 := Own.frm (K2.out.2.2.2.2.1) (K2.out.2.1.2.frm.trans (Z.out.2.2.frm.trans (Z.out.1.2.frm.trans hF9))) (by decide)
    have e : ({ s with rd := upd (upd s.rd id (some (ra + 1, rl))) id (some (ra + 1, behindI mk t)) } : Rg) = { s with rd := upd s.rd id (some (ra + 1, behindI mk t)) } := by rw [upd_upd]
    have h9 : RM _ B p _ _ _ _ ({ s with rd := upd (upd s.rd id (some (ra + 1, rl))) id (some (ra + 1, behindI mk t)) } : Rg) := hR9
    rw [e] at h9
    have hMS : MS _ B p { s with rd := upd s.rd id (some (ra + 1, behindI mk t)) } := ⟨_, _, _, _, h9⟩
    refine ⟨some (mk, t, vals), { s with rd := upd s.rd id (some (ra + 1, behindI mk t)) }, _, ⟨rfl, Or.inr ⟨(ra, rl), (mk, t, vals), H.out.2.2.2.2.2.2.2.1, H.out.2.2.2.2.2.2.2.2.1, rfl, rfl⟩, fun y hy => ?_, hMS⟩, hCC.trans hC9⟩
    cases hy
    exact hN9
theorem mNext_any (id : Int) (h : RM w B p vl vq L Q s) (ht : ∀ x ∈ s.hist, behindI x.1 x.2.1 ≤ s.edge) : Calls Try.prog 36 #[.pointer (some ⟨p, 0, none⟩), .int .i64 id] w (mNextP B p s id w) := by
  by_cases h0 : waitR s id = 0
  · exact mNext_none id h h0
  · rcases hr : s.rd id with _ | r
    · exact absurd (by unfold waitR; rw [hr]) h0
    · have hle := (h.ok.rd id r hr).2.2.1
      have hw : waitR s id = (s.hist.length : Int) - (r.1 : Int) := by unfold waitR; rw [hr]
      have hlt : r.1 < s.hist.length := by omega
      exact mNext_some id h r hr (s.hist[r.1]'hlt) (List.getElem?_eq_getElem _) (ht _ (List.getElem_mem hlt))
end
end Go.Proofs.Ytbbjlefldpgckaa
