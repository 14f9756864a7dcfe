/- Texts of the proof of RingTells, part 25. -/
import Derived.Test.YtbbjlefldpgckaaPRingTells18
import Derived.Test.YtbbjlefldpgckaaPRingTells22
import Derived.Deep.RegionHeld3
namespace Go.Proofs.Ytbbjlefldpgckaa
open Go.ChangeShapes Go.WideShapes Go.ChangeAt Go.RowKit Go.Maps
open Ev (V3 rightV OkV)
set_option linter.unusedVariables false
set_option linter.unusedSimpArgs false

set_option maxRecDepth 20000 in
set_option maxHeartbeats 4000000 in
theorem next4 (u2 u3 u7 u8 u9 u10 u11 u12 u13 u14 u15 u16 u17 u18 u19 u20 u21 u22 u23 u24 u25 u26 u27 u28 u29 u30 u31 u32 u33 u34 u35 : Value) {w : World} {B d m g4 g6 : Nat} {v : Value} {L : List Raw} {s : Rg} {id rlo t : Int} {rr : Nat} {mk : Bool} {v1 : Value}
    (h : RPre w B d v m L s) (hi : wfI id) (hr : s.rd id = some (rr, rlo)) (hrl : rr ≤ 4000000000000000000) (hy : 0 ≤ t ∧ t ≤ 2305843009213693952) (hp6 : Blk w g6 37 #[.bool mk, .int .i64 t, v1])
    (hnx : ∀ x r', upd s.rd id (some (rr + 1, behindI mk t)) x = some r' → 1 ≤ x ∧ x ≤ s.given ∧ r'.1 ≤ s.hist.length ∧ r'.2 ≤ s.edge) {Q : Exit → Act → World → Prop}
    (hQ : ∀ (x17 x18 x19 x20 x21 x22 x23 x24 x25 x26 x27 x28 x29 x30 x31 x32 : Value)  (wx : World), (RPre wx B d v m L { s with rd := upd s.rd id (some (rr + 1, behindI mk t)) } ∧ Chg B w wx ∧ ∀ k, k < w.heap.size → k ≠ m → wx.heap[k]? = w.heap[k]?) → Q .normal ⟨#[.pointer (some ⟨d, 0, none⟩), .int .i64 id, u2, u3, .pointer (some ⟨g4, 0, none⟩), .bool false, .pointer (some ⟨g6, 0, none⟩), u7, u8, u9, u10, u11, u12, u13, u14, u15, u16, x17, x18, x19, x20, x21, x22, x23, x24, x25, x26, x27, x28, x29, x30, x31, x32, u33, u34, u35], []⟩ wx) :
    Code.wp Try.prog ((Try.f17.body.bind (regionN 4)).getD .skip) Q ⟨#[.pointer (some ⟨d, 0, none⟩), .int .i64 id, u2, u3, .pointer (some ⟨g4, 0, none⟩), .bool false, .pointer (some ⟨g6, 0, none⟩), u7, u8, u9, u10, u11, u12, u13, u14, u15, u16, u17, u18, u19, u20, u21, u22, u23, u24, u25, u26, u27, u28, u29, u30, u31, u32, u33, u34, u35], []⟩ w := by
  have HQ := Lib.hid hQ; clear hQ
  conv => arg 2; whnf
  have hw1 : IntKind.i64.wrap ((rr : Int) + 1) = (rr : Int) + 1 := IntWalk.i64_in _ (by omega)
  have cB := fun W => behind_any mk t v1 W hy
  have r1 : (Instr.lookup 60 (.map (some m)) (.int .i64 id) false).run Try.prog w.drew = .ok (.agg #[.int .i64 (rr : Int), .int .i64 rlo]) w.drew := by
    have := (h.later (below_drew (Below.refl _ _))).map.look hi
    rw [hr] at this
    exact this
  obtain ⟨_, _, _, _, _, c5, _, _, _⟩ := h.cells
  obtain ⟨s0, s1, s2⟩ := hp6.three
  have hSt : ∀ w7, Below w.heap.size w w7 → ∃ w8, (Instr.mapUpdate 60 (.map (some m)) (.int .i64 id) (.agg #[.int .i64 ((rr : Int) + 1), .int .i64 (behindI mk t)])).run Try.prog w7 = .ok () w8 ∧
      (RPre w8 B d v m L { s with rd := upd s.rd id (some (rr + 1, behindI mk t)) } ∧ Chg B w w8 ∧ ∀ k, k < w.heap.size → k ≠ m → w8.heap[k]? = w.heap[k]?) := fun w7 b7 => by
    have h7 := h.later b7
    have hcnt := h.ok.cnt
    obtain ⟨w8, hr8, hm8, hg8⟩ := h7.map.put (by unfold maxLen; omega) (id := id) (rr + 1, behindI mk t) hi
    have hcc : (if (s.rd id).isSome then s.cnt else s.cnt + 1) = s.cnt := by rw [hr]; rfl
    rw [hcc] at hm8
    simp only [rv, Int.natCast_add, Int.natCast_one] at hr8
    obtain ⟨q1, q2⟩ := h7.turn hg8 hm8 hcnt hnx
    exact ⟨w8, hr8, q1, (Chg.later h.low' b7).trans q2, fun k hk hne => (hg8.block k (Nat.lt_of_lt_of_le hk b7.size) (fun e => hne (by simpa using e))).trans (b7.block k hk)⟩
  have H := Lib.hid (And.intro h (And.intro cB (And.intro hr hSt))); clear h cB hr hSt hnx
  have hf : ∀ w, (Instr.field 79 (.agg #[.int .i64 (rr : Int), .int .i64 rlo]) 0).run Try.prog w = .ok (.int .i64 (rr : Int)) w := fun _ => rfl
  clear hrl
  refine wp_region_noPanic ?_
  go_region_law (first
    | (go_simp; go_at_call 45; refine (H.out.2.1 _).mono ?_; rintro e w7 ⟨rfl, b7⟩; have b7' : Below w.heap.size w w7 := (below_drew (Below.refl _ _)).trans b7; obtain ⟨w8, hr8, h8⟩ := H.out.2.2.2 w7 b7'; obtain ⟨_, _, _, _, _, f5, _, _, _⟩ := (H.out.1.later b7').cells; have r2 := (H.out.1.later b7').map.look (by assumption); rw [H.out.2.2.1] at r2; have r3 : (Instr.lookup 60 (.map (some m)) (.int .i64 id) false).run Try.prog w7 = .ok (.agg #[.int .i64 (rr : Int), .int .i64 rlo]) w7 := r2; have K7 := Lib.hid h8; clear h8 b7 b7' r2))
  all_goals
    refine NoPanic.normal ?_
    exact HQ.out _ _ _ _ _ _ _ _ _ _ _ _ _ _ _ _ _ K7.out
end Go.Proofs.Ytbbjlefldpgckaa
namespace Go.Proofs.Ytbbjlefldpgckaa
open Go.ChangeShapes Go.WideShapes Go.ChangeAt Go.RowKit Go.Maps
open Ev (V3 rightV OkV)
set_option linter.unusedVariables false
set_option linter.unusedSimpArgs false
set_option maxRecDepth 20000

set_option maxHeartbeats 4000000 in
theorem Next_some (X : Nat → Prop) (B d : Nat) (s : Rg) (w : World) (id : Int) (hi : wfI id) (h : RX X w B d s) (r : Rdr) (hr : s.rd id = some r) (y : It) (hy : s.hist[r.1]? = some y) : Calls Try.prog 17 #[.pointer (some ⟨d, 0, none⟩), .int .i64 id] w (NextP X B d s id w) := by
  have bA := ba w (.cells #[.bool false, .int .i64 0, .slice none 0 0] 37)
  have hp4 := Blk.new w 37 #[.bool false, .int .i64 0, .slice none 0 0]
  have hw0 : ¬ waitR s id = 0 := by
    have := (List.getElem?_eq_some_iff.1 hy).1
    unfold waitR; rw [hr]; simp only; omega
  have cP : Calls Try.prog 27 #[.pointer (some ⟨d, 0, none⟩), .int .i64 id] (w.alloc (.cells #[.bool false, .int .i64 0, .slice none 0 0] 37)) fun e w1 => ∃ v', (e = .returned (.tuple #[item y.1 y.2.1 v', .bool true]) ∧ NewAt (w.heap.size + 1) w1 v' y.2.2) ∧ Below (w.heap.size + 1) (w.alloc (.cells #[.bool false, .int .i64 0, .slice none 0 0] 37)) w1 :=
    (Peek_any B d s _ id hi (h.rs.later bA)).mono (fun e w1 hh => by
      obtain ⟨hc, hb⟩ := hh
      rw [World.size_alloc] at hb hc
      rcases hc with ⟨h0, _⟩ | ⟨r', x, v', ⟨hr', hx⟩, he, hN⟩
      · exact absurd h0 hw0
      · rw [hr] at hr'
        cases hr'
        rw [hy] at hx
        cases hx
        exact ⟨v', ⟨he, hN⟩, hb⟩)
  obtain ⟨v, m, L, h, hX⟩ := h
  have hX := Lib.hid hX
  have hT := h.pre.ok.total
  have hcnt := h.pre.ok.cnt
  have hrl := (h.pre.ok.rd id r hr).2.2.1
  obtain ⟨_, y1, y2⟩ := h.pre.ok.items y (List.mem_of_getElem? hy)
  have hnx := next_ok h hr hy
  obtain ⟨rr, rlo⟩ := r
  obtain ⟨mk, t, vals⟩ := y
  simp only at cP hrl y1 y2 hnx
  have hw1 : IntKind.i64.wrap ((rr : Int) + 1) = (rr : Int) + 1 := IntWalk.i64_in _ (by omega)
  have cB := fun W v => behind_any mk t v W ⟨y1, y2⟩
  have hfq : ∀ q, IsLen s.hist.length (upd s.rd id (some (rr + 1, behindI mk t))) q → q ≤ L.length ∧ q ≤ s.room := fun q hq => by
    have := isLen_next h.len hr _ hq
    have := h.fits
    omega
  have hdw := h.pre.blk.lt
  have H := Lib.hid (And.intro h (And.intro bA (And.intro hp4 (And.intro cP (And.intro cB (And.intro hnx (And.intro hfq (And.intro hr (And.intro hy hcnt))))))))); clear h bA hp4 cP cB hnx hfq hr hy hw0 hcnt
  go_enter Try.func17, Try.ntmps17
  go_wp2_with (go_at_call 27; ((with_reducible refine H.out.2.2.2.1.mono ?_); rintro e w1 ⟨v1, ⟨rfl, hN1⟩, b1⟩; obtain ⟨A1, n1, hv1⟩ := hN1.shape; subst hv1; have K := Lib.hid (And.intro hN1 b1); clear hN1 b1))
  obtain ⟨W2, hW2⟩ : ∃ W2, W2 = w1.alloc (.cells #[.bool mk, .int .i64 t, .slice A1 vals.length n1] 37) := ⟨_, rfl⟩
  rw [← hW2]
  have hb2 : Below w1.heap.size w1 W2 := by rw [hW2]; exact ba _ _
  have hp6 : Blk W2 w1.heap.size 37 #[.bool mk, .int .i64 t, .slice A1 vals.length n1] := by rw [hW2]; exact Blk.new _ _ _
  clear hW2
  have hsz1 := K.out.2.size
  rw [World.size_alloc] at hsz1
  have bW1 : Below w.heap.size w w1 := H.out.2.1.trans (K.out.2.mono (Nat.le_succ _))
  have bW : Below w.heap.size w W2 := bt bW1 hb2
  have hN2 : NewAt (w.heap.size + 1) W2 (.slice A1 vals.length n1) vals := K.out.1.later hb2
  have hp4 : Blk W2 w.heap.size 37 #[.bool false, .int .i64 0, .slice none 0 0] := (H.out.2.2.1.later (by rw [World.size_alloc]; exact K.out.2)).later hb2
  have hmlt : m < w.heap.size := H.out.1.pre.map.lt
  have K2 := Lib.hid (And.intro bW (And.intro hN2 (And.intro hp4 (And.intro hp6 (And.intro hsz1 hmlt))))); clear hb2 hp6 bW1 bW hN2 hp4 hsz1 hmlt
  go_upto_region 4 with fail
  refine wp_of_eq (c' := ((Try.f17.body.bind (regionN 4)).getD .skip)) ?_ (by kernel_rfl)
  refine next4 _ _ _ _ _ _ _ _ _ _ _ _ _ _ _ _ _ _ _ _ _ _ _ _ _ _ _ _ _ _ _ (H.out.1.pre.later K2.out.1) hi H.out.2.2.2.2.2.2.2.1 (by omega) ⟨y1, y2⟩ K2.out.2.2.2.1 H.out.2.2.2.2.2.1 (fun _ _ _ _ _ _ _ _ _ _ _ _ _ _ _ _ w8 h8 => ?_)
  have K7 := Lib.hid h8; clear h8
  go_wp2_with (go_at_call 46; refine (forget_any B d v m L _ w8 K7.out.1 H.out.2.2.2.2.2.2.1 H.out.1.times).mono ?_; rintro e w9 ⟨⟨⟨x9, rfl⟩, ⟨vR, LR, hR, hv9⟩, hs9⟩, C9⟩; have hno : ∀ k, w.heap.size ≤ k → some k ≠ v.ownBlock := (fun k hk e => by obtain ⟨_, cs', hc⟩ := H.out.1.pre.row.block e.symm; have := (Array.getElem?_eq_some_iff.1 hc).1; omega); have hsz := K2.out.2.2.2.2.1; have hml := K2.out.2.2.2.2.2; have l4 := K2.out.2.2.1.lt; have l6 := K2.out.2.2.2.1.lt; have D6 := (K7.out.2.2 _ l6 (by omega)).trans K2.out.2.2.2.1; have D4 := (K7.out.2.2 _ l4 (by omega)).trans K2.out.2.2.1; have B6 : Blk w9 w1.heap.size 37 #[.bool mk, .int .i64 t, .slice A1 vals.length n1] := (hs9 _ (Nat.lt_of_lt_of_le l6 K7.out.2.1.bel.size) (by omega) (hno _ (by omega))).trans D6; have B4 : Blk w9 w.heap.size 37 #[.bool false, .int .i64 0, .slice none 0 0] := (hs9 _ (Nat.lt_of_lt_of_le l4 K7.out.2.1.bel.size) (by omega) (hno _ (Nat.le_refl _))).trans D4; obtain ⟨t0, t1, t2⟩ := B6.three; obtain ⟨u0, u1, u2⟩ := B4.three; have ul := B4.lt; have uf := B4.frozen; have K9 := Lib.hid (And.intro (And.intro hR (show some w.heap.size ≠ vR.ownBlock by rw [hv9]; exact hno _ (Nat.le_refl _))) (And.intro C9 (And.intro B4 (And.intro hv9 hs9)))); clear hR hv9 hs9 C9 B6 B4 D4 D6 hno hsz hml l4 l6)
  obtain ⟨z0, z1, z2⟩ := (K9.out.2.2.1.put3 (.bool mk) (.int .i64 t) (.slice A1 vals.length n1)).three
  refine bodyPost_ret (v := .tuple #[item mk t (.slice A1 vals.length n1), .bool true]) (by simp only [results, Try.results17]; simp [go_sem, Act.put, z0, z1, z2]) rfl ?_
  have hB := H.out.1.pre.low'
  have Cp := chg_put3 hB rfl K9.out.2.2.1 (.bool mk) (.int .i64 t) (.slice A1 vals.length n1)
  have hx1 : ∀ k, X k → k < w.heap.size := fun k hk => (hX.out k hk).1
  have hk9 : Kx X w w9 := fun k hk => ((K9.out.2.2.2.2 k (Nat.lt_of_lt_of_le (hx1 k hk) (Nat.le_trans K2.out.1.size K7.out.2.1.bel.size)) (hX.out k hk).2.1 (hX.out k hk).2.2.2).trans (K7.out.2.2 k (Nat.lt_of_lt_of_le (hx1 k hk) K2.out.1.size) (hX.out k hk).2.2.1)).trans (K2.out.1.block k (hx1 k hk))
  refine ⟨some (mk, t, vals), _, _, ⟨rfl, Or.inr ⟨_, _, H.out.2.2.2.2.2.2.2.1, H.out.2.2.2.2.2.2.2.2.1, rfl, rfl⟩, fun y hy => ?_, ?_⟩, (Chg.later hB K2.out.1).trans (K7.out.2.1.trans (K9.out.2.1.trans Cp)), kx_next hx1 hk9 (Nat.le_refl _) _ _ _⟩
  · cases hy
    exact ((((K2.out.2.1.frr K7.out.2.1.frm).frr K9.out.2.1.frm).put3 (g := w.heap.size) (Nat.lt_succ_self _) _ _ _)).weak (Nat.le_succ _)
  · exact next_put K9.out.1.1 (fun k hk => ⟨Nat.lt_of_lt_of_le (hx1 k hk) (Nat.le_trans K2.out.1.size (Nat.le_trans K7.out.2.1.bel.size K9.out.2.1.bel.size)), (hX.out k hk).2.1, (hX.out k hk).2.2.1, by rw [K9.out.2.2.2.1]; exact (hX.out k hk).2.2.2⟩) K9.out.2.2.1 K9.out.1.2 _ _ _

theorem Next_any (X : Nat → Prop) (B d : Nat) (s : Rg) (w : World) (id : Int) (hi : wfI id) (h : RX X w B d s) : Calls Try.prog 17 #[.pointer (some ⟨d, 0, none⟩), .int .i64 id] w (NextP X B d s id w) := by
  by_cases h0 : waitR s id = 0
  · exact Next_none X B d s w id hi h h0
  · rcases hr : s.rd id with _ | r
    · exact absurd (by unfold waitR; rw [hr]) h0
    · have hle : r.1 ≤ s.hist.length := by
        obtain ⟨_, _, _, h', _⟩ := h
        exact (h'.pre.ok.rd id r hr).2.2.1
      have hw : waitR s id = (s.hist.length : Int) - (r.1 : Int) := by unfold waitR; rw [hr]
      exact Next_some X B d s w id hi h r hr (s.hist[r.1]'(by omega)) (List.getElem?_eq_getElem _)
end Go.Proofs.Ytbbjlefldpgckaa
