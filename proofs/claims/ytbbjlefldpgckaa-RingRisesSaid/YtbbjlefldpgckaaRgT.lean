/- Rings: Next's region that turns the map, a piece. -/
import Derived.Test.YtbbjlefldpgckaaRgN
import Derived.Test.YtbbjlefldpgckaaPiece
import Derived.Deep.RegionHeld3
namespace Go.Proofs.Ytbbjlefldpgckaa
open Go.ChangeShapes Go.WideShapes Go.ChangeAt Go.RowKit Go.Maps
open Ev (V3 rightV OkV)
set_option linter.unusedVariables false
set_option linter.unusedSimpArgs false

set_option maxRecDepth 20000 in
set_option maxHeartbeats 4000000 in
theorem next4 (u2 u3 u7 u8 u9 u10 u11 u12 u13 u14 u15 u16 u17 u18 u19 u20 u21 u22 u23 u24 u25 u26 u27 u28 u29 u30 u31 u32 u33 u34 u35 : Value) {w : World} {B d m g4 g6 : Nat} {v : Value} {L : List Raw} {s : Rg} {id rlo t : Int} {rr : Nat} {mk : Bool} {v1 : Value}
    (h : RPre w B d v m L s) (hi : wfI id) (hr : s.rd id = some (rr, rlo)) (hrl : rr ≤ 4000000000000000000) (hy : 0 ≤ t ∧ t ≤ 2305843009213693952) (hp6 : Blk w g6 37 #[.bool mk, .int .i64 t, v1])
    (hnx : ∀ x r', upd s.rd id (some (rr + 1, behindI mk t)) x = some r' → 1 ≤ x ∧ x ≤ s.given ∧ r'.1 ≤ s.hist.length ∧ r'.2 ≤ s.edge) {Q : Exit → Act → World → Prop}
    (hQ : ∀ (x17 x18 x19 x20 x21 x22 x23 x24 x25 x26 x27 x28 x29 x30 x31 x32 : Value)  (wx : World), (RPre wx B d v m L { s with rd := upd s.rd id (some (rr + 1, behindI mk t)) } ∧ Chg B w wx ∧ ∀ k, k < w.heap.size → k ≠ m → wx.heap[k]? = w.heap[k]?) → Q .normal ⟨#[.pointer (some ⟨d, 0, none⟩), .int .i64 id, u2, u3, .pointer (some ⟨g4, 0, none⟩), .bool false, .pointer (some ⟨g6, 0, none⟩), u7, u8, u9, u10, u11, u12, u13, u14, u15, u16, x17, x18, x19, x20, x21, x22, x23, x24, x25, x26, x27, x28, x29, x30, x31, x32, u33, u34, u35], []⟩ wx) :
    Code.wp Try.prog ((Try.f17.body.bind (regionN 4)).getD .skip) Q ⟨#[.pointer (some ⟨d, 0, none⟩), .int .i64 id, u2, u3, .pointer (some ⟨g4, 0, none⟩), .bool false, .pointer (some ⟨g6, 0, none⟩), u7, u8, u9, u10, u11, u12, u13, u14, u15, u16, u17, u18, u19, u20, u21, u22, u23, u24, u25, u26, u27, u28, u29, u30, u31, u32, u33, u34, u35], []⟩ w := by
  have HQ := Lib.hid hQ; clear hQ
  conv => arg 2; whnf
  have hw1 : IntKind.i64.wrap ((rr : Int) + 1) = (rr : Int) + 1 := IntWalk.i64_in _ (by omega)
  have cB := fun W => behind_any mk t v1 W hy
  have r1 : (Instr.lookup 60 (.map (some m)) (.int .i64 id) false).run Try.prog w.drew = .ok (.agg #[.int .i64 (rr : Int), .int .i64 rlo]) w.drew := by
    have := (h.later (below_drew (Below.refl _ _))).map.look hi
    rw [hr] at this
    exact this
  obtain ⟨_, _, _, _, _, c5, _, _, _⟩ := h.cells
  obtain ⟨s0, s1, s2⟩ := hp6.three
  have hSt : ∀ w7, Below w.heap.size w w7 → ∃ w8, (Instr.mapUpdate 60 (.map (some m)) (.int .i64 id) (.agg #[.int .i64 ((rr : Int) + 1), .int .i64 (behindI mk t)])).run Try.prog w7 = .ok () w8 ∧
      (RPre w8 B d v m L { s with rd := upd s.rd id (some (rr + 1, behindI mk t)) } ∧ Chg B w w8 ∧ ∀ k, k < w.heap.size → k ≠ m → w8.heap[k]? = w.heap[k]?) := fun w7 b7 => by
    have h7 := h.later b7
    have hcnt := h.ok.cnt
    obtain ⟨w8, hr8, hm8, hg8⟩ := h7.map.put (by unfold maxLen; omega) (id := id) (rr + 1, behindI mk t) hi
    have hcc : (if (s.rd id).isSome then s.cnt else s.cnt + 1) = s.cnt := by rw [hr]; rfl
    rw [hcc] at hm8
    simp only [rv, Int.natCast_add, Int.natCast_one] at hr8
    obtain ⟨q1, q2⟩ := h7.turn hg8 hm8 hcnt hnx
    exact ⟨w8, hr8, q1, (Chg.later h.low' b7).trans q2, fun k hk hne => (hg8.block k (Nat.lt_of_lt_of_le hk b7.size) (fun e => hne (by simpa using e))).trans (b7.block k hk)⟩
  have H := Lib.hid (And.intro h (And.intro cB (And.intro hr hSt))); clear h cB hr hSt hnx
  have hf : ∀ w, (Instr.field 79 (.agg #[.int .i64 (rr : Int), .int .i64 rlo]) 0).run Try.prog w = .ok (.int .i64 (rr : Int)) w := fun _ => rfl
  clear hrl
  refine wp_region_noPanic ?_
  go_region_law (first
    | (go_simp; go_at_call 45; refine (H.out.2.1 _).mono ?_; rintro e w7 ⟨rfl, b7⟩; have b7' : Below w.heap.size w w7 := (below_drew (Below.refl _ _)).trans b7; obtain ⟨w8, hr8, h8⟩ := H.out.2.2.2 w7 b7'; obtain ⟨_, _, _, _, _, f5, _, _, _⟩ := (H.out.1.later b7').cells; have r2 := (H.out.1.later b7').map.look (by assumption); rw [H.out.2.2.1] at r2; have r3 : (Instr.lookup 60 (.map (some m)) (.int .i64 id) false).run Try.prog w7 = .ok (.agg #[.int .i64 (rr : Int), .int .i64 rlo]) w7 := r2; have K7 := Lib.hid h8; clear h8 b7 b7' r2))
  all_goals
    refine NoPanic.normal ?_
    exact HQ.out _ _ _ _ _ _ _ _ _ _ _ _ _ _ _ _ _ K7.out
end Go.Proofs.Ytbbjlefldpgckaa
