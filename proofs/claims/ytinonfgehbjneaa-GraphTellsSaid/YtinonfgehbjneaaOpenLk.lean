/- A slice of links that came in, opened. -/
import Derived.Test.YtinonfgehbjneaaLift
import Derived.Test.YtinonfgehbjneaaCells
import Derived.Deep.Slices
import Derived.ChangeSame
namespace Go.Proofs.Ytinonfgehbjneaa
open Go.ChangeShapes Go.WideShapes Go.ChangeAt Go.RowKit
set_option linter.unusedVariables false
set_option linter.unusedSimpArgs false
set_option maxRecDepth 100000

abbrev rowB (b : UInt8) : List Value := [.int .u8 (b.toNat : Int)]
/-- A link: its byte, the bytes of its From; where these lie. -/
abbrev Lk := (Int × List UInt8) × SV
abbrev rowL (x : Lk) : List Value := [.int .u8 x.1.1, sl x.2]
def LkR (W : World) (x : Lk) : Prop := (0 ≤ x.1.1 ∧ x.1.1 ≤ 255) ∧ At W 1 rowB (sl x.2) x.1.2
def LksR (W : World) (v : Value) (L : List Lk) : Prop := At W 2 rowL v L ∧ ∀ x ∈ L, LkR W x
theorem LksR.later {w w' : World} {v : Value} {L : List Lk} (h : LksR w v L) (hb : Below w.heap.size w w') : LksR w' v L :=
  ⟨h.1.later hb, fun x hx => ⟨(h.2 x hx).1, (h.2 x hx).2.later hb⟩⟩
theorem two_of {cs : List Value} {x0 x1 : Value} (hl : cs.length = 2) (h0 : (cs.drop 0).take 1 = [x0]) (h1 : (cs.drop 1).take 1 = [x1]) : cs = [x0, x1] := by
  match cs, hl with
  | [a, b], _ => simp at h0 h1; simp [h0, h1]
section
variable {H : Type} {enc : TypeId × Value → H}
theorem lists_cell {W : World} {fuel : Nat} {cs : List Value} {x : DataW H × List MemPlace} (h : DataW.trod enc Try.prog W 0 (fun _ => true) true fuel 48 cs = some x) :
    ∃ (s : SV) (L : List UInt8), cs = [sl s] ∧ At W 1 rowB (sl s) L ∧ ((∀ n ∈ x.1.weights Try.prog 48, n ≤ reachBytes) → L.length ≤ 140737488355328) := by
  rcases open_ints Try.underlying48 Try.underlying5 (by kernel_rfl) h with ⟨rfl, _⟩ | ⟨a, len, cap, zs, rfl, _, h1, h2, h3, h4, h5, h6⟩
  · exact ⟨(none, 0, 0), [], rfl, At.nil _ _ _, fun _ => by simp⟩
  · simp only [if_true] at h3
    have hl : ((zs.take len).map fun n => UInt8.ofNat n.toNat).length = len := by simp; omega
    refine ⟨(some a, len, cap), (zs.take len).map fun n => UInt8.ofNat n.toNat, rfl, ⟨some a, cap, by rw [hl], by omega, h2, fun h => by simp at h, fun b hb j hj i u hu => ?_⟩, ?_⟩
    · obtain rfl : a = b := by simpa using hb
      rw [hl] at hj
      have hj' : j < zs.length := by omega
      have hi : i = 0 := by
        have := (List.getElem?_eq_some_iff.1 hu).1
        simp at this; exact this
      subst hi
      rw [Nat.mul_one, Nat.add_zero, h5 j hj']
      simp only [List.getElem_map, List.getElem_take, List.getElem?_cons_zero] at hu
      rw [toNat_ofNat_bytes h6 j hj'] at hu
      rw [← hu]
      simp [List.getD, List.getElem?_eq_getElem hj']
    · intro hw
      rw [hl]
      have hd : x.1 = .slice (lits .u8 (zs.take len)) (lits .u8 (zs.drop len)) := by rw [h4]
      have := hw ((len + (zs.length - len)) * Try.prog.bytesOf 5) (by
        rw [hd]
        unfold DataW.weights
        rw [Try.underlying48]
        simp [lits]
        left; rw [Nat.min_eq_left (by omega)])
      rw [show Try.prog.bytesOf 5 = 1 by kernel_rfl] at this
      unfold reachBytes at this
      omega
theorem open_links {W : World} {r : Reach} {b0 : Nat} {v : Value} {d : DataW H} {ps : List MemPlace} (hval : Value.okWide Try.prog W r b0 22 v) (h : DataW.Trod enc Try.prog W 0 (fun _ => true) true 22 v d ps) :
    ∃ L : List Lk, LksR W v L ∧ ((∀ x ∈ d.weights Try.prog 22, x ≤ reachBytes) → True) := by
  have hC : Try.prog.cellsOf 52 = 2 := by kernel_rfl
  obtain ⟨a0, len, cap, rfl⟩ := okWide_slice Try.underlying22 hval
  obtain ⟨fuel, hf⟩ := h
  rcases Go.Deep.open_slice Try.underlying22 hf with ⟨h, _⟩ | ⟨a, len', cap', m, n, D, Pl, hcs, hb, hl, hm, hmm, hx, hi⟩
  · have hv : Value.slice a0 len cap = .slice none 0 0 := by simpa [Value.cells] using h
    rw [hv]
    exact ⟨[], ⟨At.nil _ _ _, fun x hx => by cases hx⟩, fun _ => trivial⟩
  · simp only [if_true] at hmm
    subst hmm
    have hv : Value.slice a0 len cap = .slice (some a) len' m := by simpa [Value.cells] using hcs
    rw [hC] at hi
    have hcell : ∀ i, ∃ x : Lk, i < m → (∀ j u, (rowL x)[j]? = some u → W.cell? (a.add (i * 2 + j)) = some u) ∧ LkR W x := by
      intro i
      by_cases him : i < m
      · obtain ⟨cs', hc, ht'⟩ := hi i him
        obtain ⟨ys, n', hn', hy, hlen, hyl, hf⟩ := DataW.trod_struct Try.underlying52 ht'
        obtain ⟨_, hcl, hat⟩ := World.cells?_some hc
        have f0 := hf 0 _ rfl
        have f1 := hf 1 _ rfl
        simp only [List.getElem?_eq_getElem (show 0 < ys.length by rw [hyl]; decide), List.getElem?_eq_getElem (show 1 < ys.length by rw [hyl]; decide)] at f0 f1
        obtain ⟨x0, e0, _, w0⟩ := DataW.trod_int Try.underlying5 f0
        obtain ⟨s, p, e1, hat2, _⟩ := lists_cell f1
        have hcs' : cs' = [.int .u8 x0, sl s] := two_of hcl e0 e1
        refine ⟨((x0, p), s), fun _ => ⟨fun j u hu => ?_, wf_u8 w0, hat2⟩⟩
        have hj : j < 2 := (List.getElem?_eq_some_iff.1 hu).1
        have := hat j hj
        rw [add_twice, hcs'] at this
        rw [this]; exact hu
      · exact ⟨((0, []), (none, 0, 0)), fun h => absurd h him⟩
    obtain ⟨f, hfc⟩ := Classical.axiomOfChoice hcell
    have hln : ((List.range len').map f).length = len' := by simp
    refine ⟨(List.range len').map f, ⟨⟨some a, m, by rw [hv, hln], by omega, hm, fun h => by simp at h, fun b hb j hj i u hu => ?_⟩, fun y hy => ?_⟩, fun _ => trivial⟩
    · obtain rfl : a = b := by simpa using hb
      rw [hln] at hj
      simp only [List.getElem_map, List.getElem_range] at hu
      exact (hfc j (by omega)).1 i u hu
    · obtain ⟨i, hir, rfl⟩ := List.mem_map.1 hy
      have hil : i < len' := by simpa using hir
      exact (hfc i (by omega)).2
end
end Go.Proofs.Ytinonfgehbjneaa
