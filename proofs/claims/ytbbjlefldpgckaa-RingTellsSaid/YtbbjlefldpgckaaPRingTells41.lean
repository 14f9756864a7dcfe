/- Texts of the proof of RingTells, part 41. -/
import Derived.Test.YtbbjlefldpgckaaPRingTells40
import Derived.Test.YtbbjlefldpgckaaPRingTells30
import Derived.Test.YtbbjlefldpgckaaPRingTells27
namespace Go.Proofs.Ytbbjlefldpgckaa
open Go.ChangeShapes Go.WideShapes Go.ChangeAt Go.RowKit Go.Maps
open Ev (V3 rightV OkV)
set_option linter.unusedVariables false
set_option linter.unusedSimpArgs false
set_option maxRecDepth 20000

set_option maxHeartbeats 4000000 in
theorem alike_any {w : World} {B B' d p q : Nat} {vl vq : Value} {L : List Raw} {Q' : List Qr} {s : Rg} (h : RS w B d s) (hm : RM w B' p vl vq L Q' s) (hq : IsLen s.hist.length s.rd q) (hqr : q ≤ s.room) (hr : s.room ≤ 256) (hg : s.given ≤ 4000000000000000000) (hl : ∀ x ∈ s.hist, x.2.2.length * 32 ≤ 140737488355328) :
    Calls Try.prog 13 #[.pointer (some ⟨d, 0, none⟩), .pointer (some ⟨p, 0, none⟩)] w fun e w' => e = .returned (.bool true) ∧ Below w.heap.size w w' := by
  obtain ⟨AL, cL, rfl, _, _, _⟩ := hm.l.shape
  rw [hm.its.1] at hm
  have hgw : IntKind.i64.wrap ((s.given : Int) + 2) = (s.given : Int) + 2 := IntWalk.i64_in _ (by omega)
  have C := Lib.hid (And.intro h (And.intro hm (And.intro hq hl))); clear h hm hq hl
  go_enter Try.func13, Try.ntmps13
  go_wp2_with fail
  refine wp_of_eq (c' := (((Try.f13.body.bind (regionN 1)).getD .skip))) ?_ (by kernel_rfl)
  refine alike1 _ _ _ _ _ _ _ _ _ _ _ _ _ _ _ _ _ _ _ _ _ _ _ _ _ _ _ _ _ _ _ _ _ _ _ _ _ _ _ _ _ _ _ _ _ _ _ _ _ _ _ _ _ _ _ _ _ _ _ _ _ _ _ _ _ _ _ _ _ _ _ _ _ _ _ _ _ _ _ _ _ _ _ _ _ _ _ _ _ _ _ _ _ _ _ _ _ _ _ _ _ _ _ _ _ _ _ _ _ _ _ _ _ _ _ _ _ _ _ _ C.out.1 C.out.2.1 C.out.2.2.1 hqr hr (fun _ _ _ _ _ _ _ _ _ _ _ _ _ _ _ _ _ _ _ _ _ _ _ _ _ _ _ _ _ _ _ _ _ _ _ _ _ _ _ _ _ _ _ _ _ _ _ _ _ _ _ _ _ wx hx => ?_)
  have K := Lib.hid hx; clear hx
  go_wp2_with fail
  go_loopw [5] (fun iv wr => ∃ k : Nat, k ≤ s.given + 3 ∧ iv = .int .i64 ((k : Int) - 1) ∧ Below w.heap.size w wr) (fun i _ => s.given + 3 - (intOf i + 1).toNat)
  case atStart => exact ⟨0, Nat.zero_le _, by simp, K.out⟩
  case round =>
    obtain ⟨k, hk, rfl, hb⟩ := hrel
    obtain ⟨_, _, _, c3, _⟩ := (C.out.2.1.later hb).cells
    by_cases hlt : k < s.given + 3
    · have hlI : (k : Int) - 1 < (s.given : Int) + 2 := by omega
      have hlb : decide ((k : Int) - 1 < (s.given : Int) + 2) = true := decide_eq_true hlI
      have hk5 : IntKind.i64.wrap ((k : Int) - 1 + 1) = (k : Int) := by rw [Int.sub_add_cancel]; exact IntWalk.i64_in _ (by omega)
      have hi : wfI ((k : Int) - 1) := by constructor <;> omega
      obtain ⟨bb, m, t, l, hlx, cP, cM⟩ := peeks s ((k : Int) - 1) hi
      have hll : l.length * 32 ≤ 140737488355328 := by
        rcases hlx with rfl | ⟨x, hx, rfl⟩
        · simp
        · exact C.out.2.2.2 x hx
      have D := Lib.hid (And.intro hb (And.intro cP (And.intro cM (And.intro hll hi)))); clear hb cP cM hll hlx hi
      go_wp2_with fail
      go_at_call 27
      refine (D.out.2.1 _ B d (C.out.1.later D.out.1)).mono ?_
      rintro e w1 ⟨A1, n1, c1, ⟨rfl, hV1⟩, hb1⟩
      have M := Lib.hid (And.intro (bt D.out.1 hb1) hV1); clear hb1 hV1
      go_wp2_with fail
      go_at_call 39
      refine (D.out.2.2.1 _ B' p _ _ _ _ (C.out.2.1.later (bt M.out.1 (ba w1 (.cells #[.bool m, .int .i64 t, .slice A1 n1 c1] 37))))).mono ?_
      rintro e w3 ⟨A2, n2, c2, ⟨rfl, hV2⟩, hb3⟩
      have P1 := (Blk.new w1 37 #[.bool m, .int .i64 t, .slice A1 n1 c1]).later hb3
      have N := Lib.hid (And.intro (bt (bt M.out.1 (ba w1 (.cells #[.bool m, .int .i64 t, .slice A1 n1 c1] 37))) hb3) (And.intro hV2 (And.intro P1 ((M.out.2.later (ba w1 (.cells #[.bool m, .int .i64 t, .slice A1 n1 c1] 37))).later hb3)))); clear hV2 hb3 P1
      go_wp2_with fail
      have P2 := Blk.new w3 73 #[.bool m, .int .i64 t, .slice A2 n2 c2]
      have b4 := bt N.out.1 (ba w3 (.cells #[.bool m, .int .i64 t, .slice A2 n2 c2] 73))
      refine wp_of_eq (c' := (((Try.f13.body.bind (regionN 8)).getD .skip))) ?_ (by kernel_rfl)
      refine alike8 _ _ _ _ _ _ _ _ _ _ _ _ _ _ _ _ _ _ _ _ _ _ _ _ _ _ _ _ _ _ _ _ _ _ _ _ _ _ _ _ _ _ _ _ _ _ _ _ _ _ _ _ _ _ _ _ _ _ _ _ _ _ _ _ _ _ _ _ _ _ _ _ _ _ _ _ _ _ _ _ _ _ _ _ _ _ _ _ _ _ _ _ _ _ _ _ _ _ _ _ _ _ _ _ _ _ _ _ _ _ _ _ _ _ _ D.out.2.2.2.2 (C.out.1.later b4) (C.out.2.1.later b4) (N.out.2.2.1.later (ba w3 (.cells #[.bool m, .int .i64 t, .slice A2 n2 c2] 73))) P2 (N.out.2.2.2.later (ba w3 (.cells #[.bool m, .int .i64 t, .slice A2 n2 c2] 73))) (N.out.2.1.later (ba w3 (.cells #[.bool m, .int .i64 t, .slice A2 n2 c2] 73))) D.out.2.2.2.1 (fun _ _ _ _ _ _ _ _ _ _ _ _ _ _ _ _ _ _ _ _ _ _ _ _ _ _ _ _ _ _ _ _ _ _ _ _ wx hx => ?_)
      have K5 := Lib.hid (bt b4 hx); clear hx b4 P2
      go_wp2_with fail
      go_roundw
      case rel => exact ⟨k + 1, by omega, by first | (congr 1; omega) | go_num | (simp [hk5]), K5.out⟩
      case measure => simp [intOf]; omega
    · obtain rfl : k = s.given + 3 := by omega
      have hlI : ¬ (((s.given + 3 : Nat) : Int) - 1 < (s.given : Int) + 2) := by omega
      have hlb : decide (((s.given + 3 : Nat) : Int) - 1 < (s.given : Int) + 2) = false := decide_eq_false hlI
      have E := Lib.hid hb; clear hb
      go_wp2
      go_ret
      exact ⟨rfl, E.out⟩
end Go.Proofs.Ytbbjlefldpgckaa
namespace Go.Proofs.Ytbbjlefldpgckaa
open Go.ChangeShapes Go.WideShapes Go.ChangeAt Go.RowKit
open Ev (V3)
set_option linter.unusedVariables false
set_option linter.unusedSimpArgs false
set_option maxRecDepth 100000

section
variable {H : Type} {enc : TypeId × Value → H}
theorem weights_in5 {P : Program} {e : TypeId} {d : DataW H} {n : Nat} : ∀ {l : List (DataW H)}, d ∈ l → n ∈ d.weights P e → n ∈ DataW.weightsAll P e l
  | [], h, _ => absurd h (by simp)
  | x :: r, h, hn => by
    simp only [DataW.weightsAll, List.mem_append]
    rcases List.mem_cons.1 h with rfl | h
    · exact Or.inl hn
    · exact Or.inr (weights_in5 h hn)
theorem weights_each5 {P : Program} {t : TypeId} {d : DataW H} {n : Nat} : ∀ {ts : List TypeId} {l : List (DataW H)} (j : Nat), ts[j]? = some t → l[j]? = some d → n ∈ d.weights P t → n ∈ DataW.weightsEach P ts l
  | [], _, j, h, _, _ => by simp at h
  | _ :: _, [], j, _, h, _ => by simp at h
  | u :: ts, x :: l, 0, h, h', hn => by
    simp only [List.getElem?_cons_zero, Option.some.injEq] at h h'
    subst h; subst h'
    simp only [DataW.weightsEach, List.mem_append]
    exact Or.inl hn
  | u :: ts, x :: l, j + 1, h, h', hn => by
    simp only [List.getElem?_cons_succ] at h h'
    simp only [DataW.weightsEach, List.mem_append]
    exact Or.inr (weights_each5 j h h' hn)
theorem weights_field {P : Program} {t : TypeId} {fs : Array Field} (ht : P.underlying t = some (.struct fs)) {x : DataW H × List MemPlace} {ys : List (DataW H × List MemPlace)} {pl : List MemPlace} (hx : x = (.agg (ys.map (·.1)), pl)) (j : Nat) {f : Field} (hf : fs.toList[j]? = some f) {y : DataW H × List MemPlace} (hy : ys[j]? = some y) {n : Nat} (hn : n ∈ y.1.weights P f.type) : n ∈ x.1.weights P t := by
  rw [hx]
  simp only
  unfold DataW.weights
  rw [ht]
  exact weights_each5 j (by simp [hf]) (by simp [hy]) hn
/-- What lies in one cell as a slice of values. -/
theorem vals_cell2 {W : World} {fuel : Nat} {cs : List Value} {x : DataW H × List MemPlace} (h : DataW.trod enc Try.prog W 0 (fun _ => true) true fuel 33 cs = some x) :
    ∃ (s : SV) (L : List V3), cs = [sl s] ∧ At W 3 row3 (sl s) L ∧ (∀ y ∈ L, y.2.2.size ≤ maxLen) ∧ ((∀ n ∈ x.1.weights Try.prog 33, n ≤ reachBytes) → L.length * 32 ≤ 140737488355328) := by
  have hC : Try.prog.cellsOf 84 = 3 := by kernel_rfl
  rcases Go.Deep.open_slice Try.underlying33 h with ⟨rfl, _⟩ | ⟨a, len', cap', m, n, D, Pl, rfl, hb, hl, hm, hmm, hx, hi⟩
  · exact ⟨(none, 0, 0), [], rfl, At.nil _ _ _, (fun y hy => by cases hy), (fun _ => by simp)⟩
  · simp only [if_true] at hmm
    subst hmm
    rw [hC] at hi
    have hcell : ∀ i, ∃ x : V3, i < m → (∀ j u, (row3 x)[j]? = some u → W.cell? (a.add (i * 3 + j)) = some u) ∧ x.2.2.size ≤ maxLen := by
      intro i
      by_cases him : i < m
      · obtain ⟨cs', hc, ht'⟩ := hi i him
        obtain ⟨ys, n', hn', hy, hlen, hyl, hf⟩ := DataW.trod_struct Try.underlying84 ht'
        obtain ⟨_, hcl, hat⟩ := World.cells?_some hc
        have f0 := hf 0 _ rfl
        have f1 := hf 1 _ rfl
        have f2 := hf 2 _ rfl
        simp only [List.getElem?_eq_getElem (show 0 < ys.length by rw [hyl]; decide), List.getElem?_eq_getElem (show 1 < ys.length by rw [hyl]; decide), List.getElem?_eq_getElem (show 2 < ys.length by rw [hyl]; decide)] at f0 f1 f2
        obtain ⟨kk, e0, _⟩ := DataW.trod_int Try.underlying3 f0
        obtain ⟨nn, e1, _⟩ := DataW.trod_int Try.underlying2 f1
        obtain ⟨s, e2, _, hs⟩ := DataW.trod_string Try.underlying9 f2
        have hcs' : cs' = [.int .i64 kk, .int .i64 nn, .string s] := three_of hcl e0 e1 e2
        refine ⟨(kk, nn, s), fun _ => ⟨fun j u hu => ?_, hs⟩⟩
        have hj : j < 3 := (List.getElem?_eq_some_iff.1 hu).1
        have := hat j hj
        rw [add_twice, hcs'] at this
        rw [this]; exact hu
      · exact ⟨(0, 0, ⟨#[]⟩), fun h => absurd h him⟩
    obtain ⟨f, hfc⟩ := Classical.axiomOfChoice hcell
    have hln : ((List.range len').map f).length = len' := by simp
    refine ⟨(some a, len', m), (List.range len').map f, rfl, ⟨some a, m, by rw [hln], by omega, hm, fun h => by simp at h, fun b hb j hj i u hu => ?_⟩, fun y hy => ?_, fun hw => ?_⟩
    · obtain rfl : a = b := by simpa using hb
      rw [hln] at hj
      simp only [List.getElem_map, List.getElem_range] at hu
      exact (hfc j (by omega)).1 i u hu
    · obtain ⟨i, hir, rfl⟩ := List.mem_map.1 hy
      have hil : i < len' := by simpa using hir
      exact (hfc i (by omega)).2
    · rw [hln]
      have := hw (((List.range len').map D).length * Try.prog.bytesOf 84 + ((List.range (m - len')).map fun j => D (len' + j)).length * Try.prog.bytesOf 84) (by
        rw [hx]
        simp only
        unfold DataW.weights
        rw [Try.underlying33]
        simp only [Nat.add_mul]
        exact List.mem_cons_self ..)
      rw [show Try.prog.bytesOf 84 = 32 by kernel_rfl] at this
      simp only [List.length_map, List.length_range] at this
      unfold reachBytes at this
      omega
theorem open_acts2 {W : World} {r : Reach} {b0 : Nat} {v : Value} {d : DataW H} {ps : List MemPlace} (hval : Value.okWide Try.prog W r b0 22 v) (h : DataW.Trod enc Try.prog W 0 (fun _ => true) true 22 v d ps) :
    ∃ L : List ActD, ActsAt W v L ∧ ((∀ x ∈ d.weights Try.prog 22, x ≤ reachBytes) → L.length ≤ maxLen ∧ ∀ x ∈ L, x.vs.length * 32 ≤ 140737488355328) := by
  have hC : Try.prog.cellsOf 39 = 6 := by kernel_rfl
  obtain ⟨a0, len, cap, rfl⟩ := okWide_slice Try.underlying22 hval
  obtain ⟨fuel, hf⟩ := h
  rcases Go.Deep.open_slice Try.underlying22 hf with ⟨h, _⟩ | ⟨a, len', cap', m, n, D, Pl, hcs, hb, hl, hm, hmm, hx, hi⟩
  · have hv : Value.slice a0 len cap = .slice none 0 0 := by simpa [Value.cells] using h
    rw [hv]
    exact ⟨[], ⟨At.nil _ _ _, fun x hx => by cases hx⟩, fun _ => ⟨Nat.zero_le _, (fun x hx => by cases hx)⟩⟩
  · simp only [if_true] at hmm
    subst hmm
    have hv : Value.slice a0 len cap = .slice (some a) len' m := by simpa [Value.cells] using hcs
    rw [hC] at hi
    have hcell : ∀ i, ∃ x : ActD, i < m → (∀ j u, (rowAct x)[j]? = some u → W.cell? (a.add (i * 6 + j)) = some u) ∧ ActOk W x ∧ ((∀ n ∈ (D i).weights Try.prog 39, n ≤ reachBytes) → x.vs.length * 32 ≤ 140737488355328) := by
      intro i
      by_cases him : i < m
      · obtain ⟨cs', hc, ht'⟩ := hi i him
        obtain ⟨ys, n', hn', hy, hlen, hyl, hf⟩ := DataW.trod_struct Try.underlying39 ht'
        obtain ⟨_, hcl, hat⟩ := World.cells?_some hc
        have f0 := hf 0 _ rfl
        have f1 := hf 1 _ rfl
        have f2 := hf 2 _ rfl
        have f3 := hf 3 _ rfl
        simp only [List.getElem?_eq_getElem (show 0 < ys.length by rw [hyl]; decide), List.getElem?_eq_getElem (show 1 < ys.length by rw [hyl]; decide), List.getElem?_eq_getElem (show 2 < ys.length by rw [hyl]; decide), List.getElem?_eq_getElem (show 3 < ys.length by rw [hyl]; decide)] at f0 f1 f2 f3
        obtain ⟨zs, n2, _, hz, _, zyl, hg⟩ := DataW.trod_struct Try.underlying37 f3
        have g0 := hg 0 _ rfl
        have g1 := hg 1 _ rfl
        simp only [List.getElem?_eq_getElem (show 0 < zs.length by rw [zyl]; decide), List.getElem?_eq_getElem (show 1 < zs.length by rw [zyl]; decide)] at g0 g1
        obtain ⟨us, n3, _, hu3, _, uyl, hk⟩ := DataW.trod_struct Try.underlying35 g1
        have k0 := hk 0 _ rfl
        have k1 := hk 1 _ rfl
        simp only [List.getElem?_eq_getElem (show 0 < us.length by rw [uyl]; decide), List.getElem?_eq_getElem (show 1 < us.length by rw [uyl]; decide)] at k0 k1
        obtain ⟨x0, e0, _, w0⟩ := DataW.trod_int Try.underlying5 f0
        obtain ⟨x1, e1, _, w1⟩ := DataW.trod_int Try.underlying5 f1
        obtain ⟨x2, e2, _, w2⟩ := DataW.trod_int Try.underlying5 f2
        obtain ⟨x3, e3, _⟩ := DataW.trod_bool Try.underlying4 g0
        obtain ⟨x4, e4, _, w4⟩ := DataW.trod_int Try.underlying2 k0
        obtain ⟨s, l, e5, hat5, hsz, hwt⟩ := vals_cell2 k1
        have hcs' : cs' = [.int .u8 x0, .int .u8 x1, .int .u8 x2, .bool x3, .int .i64 x4, sl s] := six_of hcl e0 e1 e2 e3 e4 e5
        refine ⟨⟨x0, x1, x2, x3, x4, s, l⟩, fun _ => ⟨fun j u hu => ?_, ⟨wf_u8 w0, wf_u8 w1, wf_u8 w2, wf_i64 w4, hat5, hsz⟩, fun hw => hwt (fun n hn => hw n (weights_field (x := (D i, Pl i)) Try.underlying39 hy 3 rfl (List.getElem?_eq_getElem (show 3 < ys.length by rw [hyl]; decide)) (weights_field Try.underlying37 hz 1 rfl (List.getElem?_eq_getElem (show 1 < zs.length by rw [zyl]; decide)) (weights_field Try.underlying35 hu3 1 rfl (List.getElem?_eq_getElem (show 1 < us.length by rw [uyl]; decide)) hn))))⟩⟩
        have hj : j < 6 := (List.getElem?_eq_some_iff.1 hu).1
        have := hat j hj
        rw [add_twice, hcs'] at this
        rw [this]; exact hu
      · exact ⟨⟨0, 0, 0, false, 0, (none, 0, 0), []⟩, fun h => absurd h him⟩
    obtain ⟨f, hfc⟩ := Classical.axiomOfChoice hcell
    have hln : ((List.range len').map f).length = len' := by simp
    refine ⟨(List.range len').map f, ⟨⟨some a, m, by rw [hv, hln], by omega, hm, fun h => by simp at h, fun b hb j hj i u hu => ?_⟩, fun y hy => ?_⟩, fun hw => ⟨(by rw [hln]; omega), fun y hy => ?_⟩⟩
    · obtain rfl : a = b := by simpa using hb
      rw [hln] at hj
      simp only [List.getElem_map, List.getElem_range] at hu
      exact (hfc j (by omega)).1 i u hu
    · obtain ⟨i, hir, rfl⟩ := List.mem_map.1 hy
      have hil : i < len' := by simpa using hir
      exact (hfc i (by omega)).2.1
    · obtain ⟨i, hir, rfl⟩ := List.mem_map.1 hy
      have hil : i < len' := by simpa using hir
      refine (hfc i (by omega)).2.2 (fun k hk => hw k ?_)
      have hd : d = .slice ((List.range len').map D) ((List.range (m - len')).map fun j => D (len' + j)) := (Prod.mk.inj hx).1
      rw [hd]
      unfold DataW.weights
      rw [Try.underlying22]
      refine List.mem_cons_of_mem _ (List.mem_append_left _ ?_)
      exact weights_in5 (List.mem_map.2 ⟨i, hir, rfl⟩) hk
end
end Go.Proofs.Ytbbjlefldpgckaa
