/- Texts of the proof of RingTells, part 27. -/
import Derived.Test.YtbbjlefldpgckaaPRingTells0
import Derived.Test.YtbbjlefldpgckaaPRingTells26
import Derived.Deep.Slices
import Derived.ChangeSame
import Derived.Test.YtbbjlefldpgckaaPRingTells19
namespace Go.Proofs.Ytbbjlefldpgckaa
open Go.ChangeShapes Go.WideShapes Go.ChangeAt Go.RowKit
open Ev (V3)
set_option linter.unusedVariables false
set_option linter.unusedSimpArgs false
set_option maxRecDepth 100000

/-- An act: its kind, its reader, how far, its raw item. -/
structure ActD where
  k : Int
  n : Int
  t : Int
  ma : Bool
  tm : Int
  sv : SV
  vs : List V3
def rowAct (x : ActD) : List Value := [.int .u8 x.k, .int .u8 x.n, .int .u8 x.t, .bool x.ma, .int .i64 x.tm, sl x.sv]
structure ActOk (W : World) (x : ActD) : Prop where
  k : 0 ≤ x.k ∧ x.k ≤ 255
  n : 0 ≤ x.n ∧ x.n ≤ 255
  t : 0 ≤ x.t ∧ x.t ≤ 255
  tm : -9223372036854775808 ≤ x.tm ∧ x.tm ≤ 9223372036854775807
  vs : At W 3 row3 (sl x.sv) x.vs
  sz : ∀ y ∈ x.vs, y.2.2.size ≤ maxLen
def ActsAt (W : World) (v : Value) (L : List ActD) : Prop := At W 6 rowAct v L ∧ ∀ x ∈ L, ActOk W x
section
variable {H : Type} {enc : TypeId × Value → H}
theorem three_of {cs : List Value} {x0 x1 x2 : Value} (hl : cs.length = 3) (h0 : (cs.drop 0).take 1 = [x0]) (h1 : (cs.drop 1).take 1 = [x1]) (h2 : (cs.drop 2).take 1 = [x2]) : cs = [x0, x1, x2] := by
  match cs, hl with
  | [a, b, c], _ => simp at h0 h1 h2; simp [h0, h1, h2]
theorem six_of {cs : List Value} {x0 x1 x2 x3 x4 x5 : Value} (hl : cs.length = 6) (h0 : (cs.drop 0).take 1 = [x0]) (h1 : (cs.drop 1).take 1 = [x1]) (h2 : (cs.drop 2).take 1 = [x2]) (h3 : (((cs.drop 3).take 3).drop 0).take 1 = [x3])
    (h4 : (((((cs.drop 3).take 3).drop 1).take 2).drop 0).take 1 = [x4]) (h5 : (((((cs.drop 3).take 3).drop 1).take 2).drop 1).take 1 = [x5]) : cs = [x0, x1, x2, x3, x4, x5] := by
  match cs, hl with
  | [a, b, c, d, e, f], _ => simp at h0 h1 h2 h3 h4 h5; simp [h0, h1, h2, h3, h4, h5]
/-- What lies in one cell as a slice of values. -/
theorem vals_cell {W : World} {fuel : Nat} {cs : List Value} {x : DataW H × List MemPlace} (h : DataW.trod enc Try.prog W 0 (fun _ => true) true fuel 33 cs = some x) :
    ∃ (s : SV) (L : List V3), cs = [sl s] ∧ At W 3 row3 (sl s) L ∧ ∀ y ∈ L, y.2.2.size ≤ maxLen := by
  have hC : Try.prog.cellsOf 84 = 3 := by kernel_rfl
  rcases Go.Deep.open_slice Try.underlying33 h with ⟨rfl, _⟩ | ⟨a, len', cap', m, n, D, Pl, rfl, hb, hl, hm, hmm, hx, hi⟩
  · exact ⟨(none, 0, 0), [], rfl, At.nil _ _ _, fun y hy => by cases hy⟩
  · simp only [if_true] at hmm
    subst hmm
    rw [hC] at hi
    have hcell : ∀ i, ∃ x : V3, i < m → (∀ j u, (row3 x)[j]? = some u → W.cell? (a.add (i * 3 + j)) = some u) ∧ x.2.2.size ≤ maxLen := by
      intro i
      by_cases him : i < m
      · obtain ⟨cs', hc, ht'⟩ := hi i him
        obtain ⟨ys, n', hn', hy, hlen, hyl, hf⟩ := DataW.trod_struct Try.underlying84 ht'
        obtain ⟨_, hcl, hat⟩ := World.cells?_some hc
        have f0 := hf 0 _ rfl
        have f1 := hf 1 _ rfl
        have f2 := hf 2 _ rfl
        simp only [List.getElem?_eq_getElem (show 0 < ys.length by rw [hyl]; decide), List.getElem?_eq_getElem (show 1 < ys.length by rw [hyl]; decide), List.getElem?_eq_getElem (show 2 < ys.length by rw [hyl]; decide)] at f0 f1 f2
        obtain ⟨kk, e0, _⟩ := DataW.trod_int Try.underlying3 f0
        obtain ⟨nn, e1, _⟩ := DataW.trod_int Try.underlying2 f1
        obtain ⟨s, e2, _, hs⟩ := DataW.trod_string Try.underlying9 f2
        have hcs' : cs' = [.int .i64 kk, .int .i64 nn, .string s] := three_of hcl e0 e1 e2
        refine ⟨(kk, nn, s), fun _ => ⟨fun j u hu => ?_, hs⟩⟩
        have hj : j < 3 := (List.getElem?_eq_some_iff.1 hu).1
        have := hat j hj
        rw [add_twice, hcs'] at this
        rw [this]; exact hu
      · exact ⟨(0, 0, ⟨#[]⟩), fun h => absurd h him⟩
    obtain ⟨f, hfc⟩ := Classical.axiomOfChoice hcell
    have hln : ((List.range len').map f).length = len' := by simp
    refine ⟨(some a, len', m), (List.range len').map f, rfl, ⟨some a, m, by rw [hln], by omega, hm, fun h => by simp at h, fun b hb j hj i u hu => ?_⟩, fun y hy => ?_⟩
    · obtain rfl : a = b := by simpa using hb
      rw [hln] at hj
      simp only [List.getElem_map, List.getElem_range] at hu
      exact (hfc j (by omega)).1 i u hu
    · obtain ⟨i, hir, rfl⟩ := List.mem_map.1 hy
      have hil : i < len' := by simpa using hir
      exact (hfc i (by omega)).2
theorem open_acts {W : World} {r : Reach} {b0 : Nat} {v : Value} {d : DataW H} {ps : List MemPlace} (hval : Value.okWide Try.prog W r b0 22 v) (h : DataW.Trod enc Try.prog W 0 (fun _ => true) true 22 v d ps) :
    ∃ L : List ActD, ActsAt W v L ∧ ((∀ x ∈ d.weights Try.prog 22, x ≤ reachBytes) → L.length ≤ maxLen) := by
  have hC : Try.prog.cellsOf 39 = 6 := by kernel_rfl
  obtain ⟨a0, len, cap, rfl⟩ := okWide_slice Try.underlying22 hval
  obtain ⟨fuel, hf⟩ := h
  rcases Go.Deep.open_slice Try.underlying22 hf with ⟨h, _⟩ | ⟨a, len', cap', m, n, D, Pl, hcs, hb, hl, hm, hmm, hx, hi⟩
  · have hv : Value.slice a0 len cap = .slice none 0 0 := by simpa [Value.cells] using h
    rw [hv]
    exact ⟨[], ⟨At.nil _ _ _, fun x hx => by cases hx⟩, fun _ => Nat.zero_le _⟩
  · simp only [if_true] at hmm
    subst hmm
    have hv : Value.slice a0 len cap = .slice (some a) len' m := by simpa [Value.cells] using hcs
    rw [hC] at hi
    have hcell : ∀ i, ∃ x : ActD, i < m → (∀ j u, (rowAct x)[j]? = some u → W.cell? (a.add (i * 6 + j)) = some u) ∧ ActOk W x := by
      intro i
      by_cases him : i < m
      · obtain ⟨cs', hc, ht'⟩ := hi i him
        obtain ⟨ys, n', hn', hy, hlen, hyl, hf⟩ := DataW.trod_struct Try.underlying39 ht'
        obtain ⟨_, hcl, hat⟩ := World.cells?_some hc
        have f0 := hf 0 _ rfl
        have f1 := hf 1 _ rfl
        have f2 := hf 2 _ rfl
        have f3 := hf 3 _ rfl
        simp only [List.getElem?_eq_getElem (show 0 < ys.length by rw [hyl]; decide), List.getElem?_eq_getElem (show 1 < ys.length by rw [hyl]; decide), List.getElem?_eq_getElem (show 2 < ys.length by rw [hyl]; decide), List.getElem?_eq_getElem (show 3 < ys.length by rw [hyl]; decide)] at f0 f1 f2 f3
        obtain ⟨zs, n2, _, _, _, zyl, hg⟩ := DataW.trod_struct Try.underlying37 f3
        have g0 := hg 0 _ rfl
        have g1 := hg 1 _ rfl
        simp only [List.getElem?_eq_getElem (show 0 < zs.length by rw [zyl]; decide), List.getElem?_eq_getElem (show 1 < zs.length by rw [zyl]; decide)] at g0 g1
        obtain ⟨us, n3, _, _, _, uyl, hk⟩ := DataW.trod_struct Try.underlying35 g1
        have k0 := hk 0 _ rfl
        have k1 := hk 1 _ rfl
        simp only [List.getElem?_eq_getElem (show 0 < us.length by rw [uyl]; decide), List.getElem?_eq_getElem (show 1 < us.length by rw [uyl]; decide)] at k0 k1
        obtain ⟨x0, e0, _, w0⟩ := DataW.trod_int Try.underlying5 f0
        obtain ⟨x1, e1, _, w1⟩ := DataW.trod_int Try.underlying5 f1
        obtain ⟨x2, e2, _, w2⟩ := DataW.trod_int Try.underlying5 f2
        obtain ⟨x3, e3, _⟩ := DataW.trod_bool Try.underlying4 g0
        obtain ⟨x4, e4, _, w4⟩ := DataW.trod_int Try.underlying2 k0
        obtain ⟨s, l, e5, hat5, hsz⟩ := vals_cell k1
        have hcs' : cs' = [.int .u8 x0, .int .u8 x1, .int .u8 x2, .bool x3, .int .i64 x4, sl s] := six_of hcl e0 e1 e2 e3 e4 e5
        refine ⟨⟨x0, x1, x2, x3, x4, s, l⟩, fun _ => ⟨fun j u hu => ?_, ⟨wf_u8 w0, wf_u8 w1, wf_u8 w2, wf_i64 w4, hat5, hsz⟩⟩⟩
        have hj : j < 6 := (List.getElem?_eq_some_iff.1 hu).1
        have := hat j hj
        rw [add_twice, hcs'] at this
        rw [this]; exact hu
      · exact ⟨⟨0, 0, 0, false, 0, (none, 0, 0), []⟩, fun h => absurd h him⟩
    obtain ⟨f, hfc⟩ := Classical.axiomOfChoice hcell
    have hln : ((List.range len').map f).length = len' := by simp
    refine ⟨(List.range len').map f, ⟨⟨some a, m, by rw [hv, hln], by omega, hm, fun h => by simp at h, fun b hb j hj i u hu => ?_⟩, fun y hy => ?_⟩, fun _ => by rw [hln]; omega⟩
    · obtain rfl : a = b := by simpa using hb
      rw [hln] at hj
      simp only [List.getElem_map, List.getElem_range] at hu
      exact (hfc j (by omega)).1 i u hu
    · obtain ⟨i, hir, rfl⟩ := List.mem_map.1 hy
      have hil : i < len' := by simpa using hir
      exact (hfc i (by omega)).2
end
end Go.Proofs.Ytbbjlefldpgckaa
namespace Go.Proofs.Ytbbjlefldpgckaa
open Go.ChangeShapes Go.WideShapes Go.ChangeAt Go.RowKit Go.Maps
open Ev (V3 rightV OkV)
set_option linter.unusedVariables false
theorem right_one (t n : Int) (h0 : 0 ≤ t) (h1 : t ≤ 2305843009213693952) : Ev.rightI false t [(1, n, ⟨#[]⟩)] = true := by
  simp [Ev.rightI, Ev.plain, Ev.rightV, Val.right, h0, h1]
  rfl
theorem one_size (n : Int) : ∀ x ∈ ([(1, n, ⟨#[]⟩)] : List V3), x.2.2.size ≤ maxLen := fun x hx => by
  rw [List.mem_singleton] at hx
  subst hx
  exact Nat.zero_le _
end Go.Proofs.Ytbbjlefldpgckaa
