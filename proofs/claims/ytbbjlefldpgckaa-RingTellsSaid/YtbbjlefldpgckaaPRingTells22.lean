/- Texts of the proof of RingTells, part 22. -/
import Derived.Test.YtbbjlefldpgckaaPRingTells21
import Derived.Deep.RegionHeld3
import Derived.Lib.Hide
import Derived.Test.YtbbjlefldpgckaaPRingTells0
import Derived.Test.YtbbjlefldpgckaaPRingTells7
namespace Go.Proofs.Ytbbjlefldpgckaa
open Go.ChangeShapes Go.WideShapes Go.ChangeAt Go.RowKit Go.Maps
open Ev (V3 rightV OkV)
set_option linter.unusedVariables false
set_option linter.unusedSimpArgs false
set_option maxRecDepth 20000

section
variable {w : World} {B p : Nat} {vl vq : Value} {L : List Raw} {Q : List Qr} {s : Rg}
theorem nd_idx {Q : List Qr} (hn : (Q.map (·.1)).Nodup) {i j : Nat} (hi : i < Q.length) (hj : j < Q.length) (h : (Q[i]'hi).1 = (Q[j]'hj).1) : i = j := by
  have hp := List.pairwise_iff_getElem.1 hn
  rcases Nat.lt_trichotomy i j with h1 | h1 | h1
  · exact absurd (by rw [List.getElem_map, List.getElem_map]; exact h) (hp i j (by simpa using hi) (by simpa using hj) h1)
  · exact h1
  · exact absurd (by rw [List.getElem_map, List.getElem_map]; exact h.symm) (hp j i (by simpa using hj) (by simpa using hi) h1)
/-- A reader that is there has a place. -/
theorem QOk.place {Q : List Qr} {s : Rg} (h : QOk Q s) {id : Int} {r : Rdr} (hr : s.rd id = some r) : ∃ k, ∃ hk : k < Q.length, Q[k]'hk = (id, r) := by
  rw [h.rd] at hr
  rcases hf : Q.find? (fun x => x.1 == id) with _ | x
  · rw [hf] at hr; cases hr
  · rw [hf] at hr
    have hid := List.find?_some hf
    simp only [beq_iff_eq] at hid
    obtain ⟨k, hk, hx⟩ := List.getElem_of_mem (List.mem_of_find?_eq_some hf)
    refine ⟨k, hk, ?_⟩
    rw [hx]
    obtain ⟨a, b⟩ := x
    simp only [Option.map_some, Option.some.injEq] at hr hid
    subst hid
    rw [← hr]
theorem Find_at {id : Int} (h : RM w B p vl vq L Q s) {k : Nat} (hk : k < Q.length) {r : Rdr} (hx : Q[k]'hk = (id, r)) : Calls Try.prog 51 #[.pointer (some ⟨p, 0, none⟩), .int .i64 id] w fun e w' => e = .returned (.int .i64 (k : Int)) ∧ w = w' :=
  (Find_any id h).mono fun e w' hh => by
    obtain ⟨i, ⟨he, hF⟩, hw⟩ := hh
    rcases hF with ⟨k', r', hk', hx', rfl⟩ | ⟨hno, _⟩
    · obtain rfl := nd_idx h.qok.nd hk' hk (by rw [hx, hx'])
      exact ⟨he, hw⟩
    · exact absurd (by rw [hx]) (hno k hk)
def mPeekP (s : Rg) (id : Int) (w : World) (e : Ending) (w' : World) : Prop :=
  ((waitR s id = 0 ∧ e = .returned (.tuple #[item false 0 (.slice none 0 0), .bool false])) ∨
    ∃ r x v', (s.rd id = some r ∧ s.hist[r.1]? = some x) ∧ e = .returned (.tuple #[item x.1 x.2.1 v', .bool true]) ∧ Own w' 0 tMv 3 row3 v' x.2.2) ∧ Below w.heap.size w w'
theorem mPeek_none (id : Int) (h : RM w B p vl vq L Q s) (h0 : waitR s id = 0) : Calls Try.prog 39 #[.pointer (some ⟨p, 0, none⟩), .int .i64 id] w (mPeekP s id w) := by
  have bA := ba w (.cells #[.bool false, .int .i64 0, .slice none 0 0] tMi)
  have cW := mWait_any id (h.later bA)
  have hp := Blk.new w tMi #[.bool false, .int .i64 0, .slice none 0 0]
  rw [h0] at cW
  have H := Lib.hid (And.intro cW (And.intro bA (And.intro hp h0))); clear cW bA hp h0 h
  go_enter Try.func39, Try.ntmps39
  go_wp2_with (go_at_call 40; ((with_reducible refine H.out.1.mono ?_); rintro e w1 ⟨rfl, b1⟩; obtain ⟨p0, p1, p2⟩ := (H.out.2.2.1.later b1).three; have pl := (H.out.2.2.1.later b1).lt; have pf := (H.out.2.2.1.later b1).frozen))
  obtain ⟨z0, z1, z2⟩ := ((H.out.2.2.1.later b1).put3 (.bool false) (.int .i64 0) (.slice none 0 0)).three
  refine bodyPost_ret (v := .tuple #[item false 0 (.slice none 0 0), .bool false]) (by simp only [results, Try.results39]; simp [go_sem, z0, z1, z2]) rfl ?_
  exact ⟨Or.inl ⟨H.out.2.2.2, rfl⟩, below_put3 (bt H.out.2.1 b1) (Nat.le_refl _) _ _ _⟩
set_option maxHeartbeats 2000000 in
theorem mPeek_some (id : Int) (h : RM w B p vl vq L Q s) (r : Rdr) (hr : s.rd id = some r) (hlt : r.1 < s.hist.length) : Calls Try.prog 39 #[.pointer (some ⟨p, 0, none⟩), .int .i64 id] w (mPeekP s id w) := by
  have bA := ba w (.cells #[.bool false, .int .i64 0, .slice none 0 0] tMi)
  have cW := mWait_any id (h.later bA)
  have hp := Blk.new w tMi #[.bool false, .int .i64 0, .slice none 0 0]
  have h0 : waitR s id = (s.hist.length : Int) - (r.1 : Int) := by unfold waitR; rw [hr]
  rw [h0] at cW
  obtain ⟨k, hk, hx⟩ := h.qok.place hr
  have hT := h.ok.total
  have hL := h.llen
  obtain ⟨A, c, rfl, _, hc1, hc2⟩ := h.q.shape
  obtain ⟨AL, cL, rfl, _, hl1, hl2⟩ := h.l.shape
  have hlL : r.1 < L.length := by rw [hL]; exact hlt
  obtain ⟨g, rfl⟩ := own_some h.q (by omega)
  obtain ⟨gl, rfl, _, gll, _, hcell⟩ := h.l.cells (f := rowI) (k := 3) (fun _ => rfl) rfl (by omega)
  obtain ⟨_, d1, _⟩ := three_cells h.q k hk
  rw [hx] at d1
  obtain ⟨y, hy⟩ : ∃ y, s.hist[r.1]'hlt = y := ⟨_, rfl⟩
  obtain ⟨e1, e2, hN⟩ := h.its.2 r.1 hlL hlt
  rw [hy] at e1 e2 hN
  have hyh : s.hist[r.1]? = some y := by rw [List.getElem?_eq_getElem hlt, hy]
  have g0 := hcell r.1 hlL 0 _ rfl
  have g1 := hcell r.1 hlL 1 _ rfl
  have g2 := hcell r.1 hlL 2 _ rfl
  generalize L[r.1]'hlL = z at *
  obtain ⟨mk, t, A1, n1, c1⟩ := z
  obtain ⟨ra, rl⟩ := r
  simp only at e1 e2 hN d1 hlL hlt hyh cW
  obtain ⟨n, hn⟩ : ∃ n, n = Q.length := ⟨_, rfl⟩
  have hn16 : n ≤ 16 := by rw [hn]; exact h.qlen
  obtain ⟨nl, hnl⟩ : ∃ nl, nl = L.length := ⟨_, rfl⟩
  have hkn : k < n := by rw [hn]; exact hk
  have hkI : (k : Int) < (n : Int) := by omega
  have hkN : ¬ (n : Int) ≤ (k : Int) := by omega
  have hrn : ra < nl := by rw [hnl]; exact hlL
  have hrI : (ra : Int) < (nl : Int) := by omega
  have hrN : ¬ (nl : Int) ≤ (ra : Int) := by omega
  have hmx : nl ≤ 4000000000000000000 := by omega
  have hz : ((s.hist.length : Int) - (ra : Int) == 0) = false := by simp; omega
  have hql := (Array.getElem?_eq_some_iff.1 (h.q.block (g := g) rfl).2.choose_spec).1
  have hG : ∀ W, Below w.heap.size w W → (W.cell? ⟨gl, ra * 3, none⟩ = some (.bool mk) ∧ W.cell? ⟨gl, ra * 3 + 1, none⟩ = some (.int .i64 t) ∧ W.cell? ⟨gl, ra * 3 + 2, none⟩ = some (.slice A1 n1 c1)) ∧ W.cell? ⟨g, k * 3 + 1, none⟩ = some (.int .i64 (ra : Int)) ∧ W.cell? ⟨p, 1, none⟩ = some (.slice (some ⟨gl, 0, none⟩) nl cL) ∧ W.cell? ⟨p, 2, none⟩ = some (.slice (some ⟨g, 0, none⟩) n c) := fun W hb => by
    have hcs := (h.later hb).cells
    rw [← hn, ← hnl] at hcs
    exact ⟨⟨by rw [hb.cell gll]; exact g0, by rw [hb.cell gll]; exact g1, by rw [hb.cell gll]; exact g2⟩, by rw [hb.cell hql]; exact d1, hcs.2.1, hcs.2.2.1⟩
  have hF : ∀ W, Below w.heap.size w W → Calls Try.prog 51 #[.pointer (some ⟨p, 0, none⟩), .int .i64 id] W fun e w' => e = .returned (.int .i64 (k : Int)) ∧ W = w' := fun W hb => Find_at (h.later hb) hk hx
  have H := Lib.hid (And.intro cW (And.intro bA (And.intro hp (And.intro hG (And.intro hF (And.intro hN (And.intro hyh (And.intro e1 (And.intro e2 (And.intro hr (h.low')))))))))))
  clear cW bA hp hG hF hN hyh e1 e2 hr hcell g0 g1 g2 d1 h0 hy hT hL hc1 hc2 hl1 hl2 h hx hn hnl hql gll
  go_enter Try.func39, Try.ntmps39
  go_wp2_with (go_at_call 40; ((with_reducible refine H.out.1.mono ?_); rintro e w1 ⟨rfl, b1⟩; obtain ⟨p0, p1, p2⟩ := (H.out.2.2.1.later b1).three; have pl := (H.out.2.2.1.later b1).lt; have pf := (H.out.2.2.1.later b1).frozen; obtain ⟨⟨f0, f1, f2⟩, f3, f4, f5⟩ := H.out.2.2.2.1 w1 (bt H.out.2.1 b1); have K := Lib.hid b1; clear b1))
  refine wp_region_noPanic ?_
  go_region_held3 (fun W => (W.cell? ⟨gl, ra * 3, none⟩ = some (.bool mk) ∧ W.cell? ⟨gl, ra * 3 + 1, none⟩ = some (.int .i64 t) ∧ W.cell? ⟨gl, ra * 3 + 2, none⟩ = some (.slice A1 n1 c1)) ∧ W.cell? ⟨g, k * 3 + 1, none⟩ = some (.int .i64 (ra : Int)) ∧ W.cell? ⟨p, 1, none⟩ = some (.slice (some ⟨gl, 0, none⟩) nl cL) ∧ W.cell? ⟨p, 2, none⟩ = some (.slice (some ⟨g, 0, none⟩) n c)) (exact H.out.2.2.2.1 _ (by first | exact bt H.out.2.1 K.out | exact below_drew (bt H.out.2.1 K.out) | exact below_put3 (below_drew (bt H.out.2.1 K.out)) (Nat.le_refl _) _ _ _)) ((go_at_call 51; refine (H.out.2.2.2.2.1 _ (by first | exact (bt H.out.2.1 K.out) | exact below_drew (bt H.out.2.1 K.out))).mono ?_; rintro e w3 ⟨rfl, rfl⟩))
  all_goals
    refine NoPanic.normal ?_
    go_wp2
  all_goals
    have hpp := H.out.2.2.1.later K.out
    obtain ⟨z0, z1, z2⟩ := (blk_drew (hpp.put3 (.bool mk) (.int .i64 t) (.slice A1 n1 c1))).three
    refine bodyPost_ret (v := .tuple #[item mk t (.slice A1 n1 c1), .bool true]) (by simp only [results, Try.results39]; simp [go_sem, Act.put, z0, z1, z2]) rfl ?_
    refine ⟨Or.inr ⟨(ra, rl), y, _, ⟨H.out.2.2.2.2.2.2.2.2.2.1, H.out.2.2.2.2.2.2.1⟩, by rw [← H.out.2.2.2.2.2.2.2.1, ← H.out.2.2.2.2.2.2.2.2.1], ?_⟩, below_drew (below_put3 (bt H.out.2.1 K.out) (Nat.le_refl _) _ _ _)⟩
    have hNw := (H.out.2.2.2.2.2.1.later (bt H.out.2.1 K.out)).lift (Nat.zero_le B)
    have hF := (FrM.set hpp (Or.inr (Or.inl rfl)) 0 (.bool mk)).trans ((FrM.set (hpp.set_ 0 _) (Or.inr (Or.inl rfl)) 1 (.int .i64 t)).trans (FrM.set ((hpp.set_ 0 _).set_ 1 _) (Or.inr (Or.inl rfl)) 2 (.slice A1 n1 c1)))
    exact (Own.frm hNw hF (by decide)).later (below_drew (Below.refl _ _))
theorem mPeek_any (id : Int) (h : RM w B p vl vq L Q s) : Calls Try.prog 39 #[.pointer (some ⟨p, 0, none⟩), .int .i64 id] w (mPeekP s id w) := by
  by_cases h0 : waitR s id = 0
  · exact mPeek_none id h h0
  · rcases hr : s.rd id with _ | r
    · exact absurd (by unfold waitR; rw [hr]) h0
    · have hle := (h.ok.rd id r hr).2.2.1
      have hw : waitR s id = (s.hist.length : Int) - (r.1 : Int) := by unfold waitR; rw [hr]
      exact mPeek_some id h r hr (by omega)
end
end Go.Proofs.Ytbbjlefldpgckaa
namespace Go.Proofs.Ytbbjlefldpgckaa
/-- The region of number n. -/
def regionN (n : Nat) : Code → Option Code
  | .region m o d => if m = n then some (.region m o d) else none
  | .seq a b => match regionN n a with
    | some c => some c
    | none => regionN n b
  | .cond _ a b => match regionN n a with
    | some c => some c
    | none => regionN n b
  | .loop c => regionN n c
  | .block _ c => regionN n c
  | .scope c => regionN n c
  | _ => none
theorem wp_of_eq {P : Program} {c c' : Code} {Q : Exit → Act → World → Prop} {a : Act} {w : World} (h : Code.wp P c' Q a w) (e : c' = c) : Code.wp P c Q a w := e ▸ h
end Go.Proofs.Ytbbjlefldpgckaa
namespace Go.Proofs.Ytbbjlefldpgckaa
open Go.ChangeShapes Go.WideShapes Go.ChangeAt Go.RowKit
open Ev (V3 rightV OkV)
set_option linter.unusedVariables false
set_option linter.unusedSimpArgs false
theorem rSameItem_any (m : Bool) (t : Int) (v : Value) (l : List V3) (m' : Bool) (t' : Int) (v' : Value) (l' : List V3) (w : World) (hv : ValsAt w v l) (hv' : ValsAt w v' l') :
    Calls Try.prog 37 #[item m t v, item m' t' v'] w fun e w' => e = .returned (.bool (decide (m = m') && (decide (t = t') && decide (l = l')))) ∧ Below w.heap.size w w' := by
  have bA : Below w.heap.size w ((w.alloc (.cells #[.bool m, .int .i64 t, v] 73)).alloc (.cells #[.bool m', .int .i64 t', v'] 73)) := bt (ba _ _) (ba _ _)
  have cS := fun (w0 : World) (b : Below w.heap.size w w0) => rSame_any t v l t' v' l' w0 (hv.later b) (hv'.later b)
  have H := Lib.hid cS; clear cS hv hv'
  generalize (decide (t = t') && decide (l = l')) = q at *
  cases m <;> cases m'
  all_goals
    go_enter Try.func37, Try.ntmps37
    go_wp2_with (go_at_call 52; ((with_reducible refine (H.out _ bA).mono ?_); rintro e w1 ⟨rfl, b1⟩; have b2 := bt bA b1))
    go_ret
    first | exact ⟨by simp, b2⟩ | exact ⟨by simp, bA⟩

end Go.Proofs.Ytbbjlefldpgckaa
