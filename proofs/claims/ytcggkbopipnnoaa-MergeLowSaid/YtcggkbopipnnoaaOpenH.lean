/- A slice of merge.Head that came in, opened. -/
import Derived.Test.YtcggkbopipnnoaaLift
import Derived.Test.YtcggkbopipnnoaaEx16
import Derived.Deep.Slices
import Derived.ChangeSame
namespace Go.Proofs.Ytcggkbopipnnoaa
open Go.ChangeShapes Go.WideShapes Go.ChangeAt Go.RowKit
open Mrg (Hd)
set_option linter.unusedVariables false
set_option linter.unusedSimpArgs false
section
variable {H : Type} {enc : TypeId × Value → H}
theorem four_of {cs : List Value} {x0 x1 x2 x3 : Value} (hl : cs.length = 4) (h0 : (cs.drop 0).take 1 = [x0]) (h1 : (cs.drop 1).take 1 = [x1]) (h2 : (cs.drop 2).take 1 = [x2]) (h3 : (cs.drop 3).take 1 = [x3]) : cs = [x0, x1, x2, x3] := by
  match cs, hl with
  | [a, b, c, d], _ => simp at h0 h1 h2 h3; simp [h0, h1, h2, h3]
theorem open_heads {W : World} {r : Reach} {b0 : Nat} {v : Value} {d : DataW H} {ps : List MemPlace} (hval : Value.okWide Try.prog W r b0 22 v) (h : DataW.Trod enc Try.prog W 0 (fun _ => true) true 22 v d ps) :
    ∃ L : List Hd, At W 4 rowH v L ∧ ((∀ x ∈ d.weights Try.prog 22, x ≤ reachBytes) → L.length ≤ 4398046511104) := by
  have hC : Try.prog.cellsOf 28 = 4 := by kernel_rfl
  have hB : Try.prog.bytesOf 28 = 32 := by kernel_rfl
  obtain ⟨a0, len, cap, rfl⟩ := okWide_slice Try.underlying22 hval
  obtain ⟨fuel, hf⟩ := h
  rcases Go.Deep.open_slice Try.underlying22 hf with ⟨h, _⟩ | ⟨a, len', cap', m, n, D, Pl, hcs, hb, hl, hm, hmm, hx, hi⟩
  · have hv : Value.slice a0 len cap = .slice none 0 0 := by simpa [Value.cells] using h
    rw [hv]
    exact ⟨[], At.nil _ _ _, fun _ => by simp⟩
  · simp only [if_true] at hmm
    subst hmm
    have hv : Value.slice a0 len cap = .slice (some a) len' m := by simpa [Value.cells] using hcs
    rw [hC] at hi
    have hcell : ∀ i, ∃ x : Hd, i < m → ∀ j u, (rowH x)[j]? = some u → W.cell? (a.add (i * 4 + j)) = some u := by
      intro i
      by_cases him : i < m
      · obtain ⟨cs', hc, ht'⟩ := hi i him
        obtain ⟨ys, n', hn', hy, hlen, hyl, hf⟩ := DataW.trod_struct Try.underlying28 ht'
        obtain ⟨_, hcl, hat⟩ := World.cells?_some hc
        have f0 := hf 0 _ rfl
        have f1 := hf 1 _ rfl
        have f2 := hf 2 _ rfl
        have f3 := hf 3 _ rfl
        simp only [List.getElem?_eq_getElem (show 0 < ys.length by rw [hyl]; decide), List.getElem?_eq_getElem (show 1 < ys.length by rw [hyl]; decide), List.getElem?_eq_getElem (show 2 < ys.length by rw [hyl]; decide), List.getElem?_eq_getElem (show 3 < ys.length by rw [hyl]; decide)] at f0 f1 f2 f3
        obtain ⟨x, e0, _⟩ := DataW.trod_bool Try.underlying4 f0
        obtain ⟨t, e1, _⟩ := DataW.trod_int Try.underlying2 f1
        obtain ⟨l, e2, _⟩ := DataW.trod_int Try.underlying2 f2
        obtain ⟨y, e3, _⟩ := DataW.trod_bool Try.underlying4 f3
        have hcs' : cs' = [.bool x, .int .i64 t, .int .i64 l, .bool y] := four_of hcl e0 e1 e2 e3
        refine ⟨(x, t, l, y), fun _ j u hu => ?_⟩
        have hj : j < 4 := by have := (List.getElem?_eq_some_iff.1 hu).1; simpa using this
        have := hat j hj
        rw [add_twice, hcs'] at this
        rw [this]; exact hu
      · exact ⟨(false, 0, 0, false), fun h => absurd h him⟩
    obtain ⟨f, hfc⟩ := Classical.axiomOfChoice hcell
    refine ⟨(List.range len').map f, ?_, ?_⟩
    · have hln : ((List.range len').map f).length = len' := by simp
      refine ⟨some a, m, by rw [hv, hln], by omega, hm, fun h => by simp at h, fun b hb j hj i u hu => ?_⟩
      obtain rfl : a = b := by simpa using hb
      rw [hln] at hj
      simp only [List.getElem_map, List.getElem_range] at hu
      exact hfc j (by omega) i u hu
    · intro hw
      have hd : d = .slice ((List.range len').map D) ((List.range (m - len')).map fun j => D (len' + j)) := (Prod.mk.inj hx).1
      have := hw ((len' + (m - len')) * Try.prog.bytesOf 28) (by
        subst hd
        unfold DataW.weights
        rw [Try.underlying22]
        simp)
      rw [hB] at this
      unfold reachBytes at this
      simp only [List.length_map, List.length_range]
      omega
end
end Go.Proofs.Ytcggkbopipnnoaa
