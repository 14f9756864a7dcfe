/- A slice of acts on a round that came in, opened. -/
import Derived.Test.YtckpecddglfjkaaDrS6
namespace Go.Proofs.Ytckpecddglfjkaa
open Go.ChangeShapes Go.WideShapes Go.ChangeAt Go.RowKit
open Dr
set_option linter.unusedVariables false
set_option linter.unusedSimpArgs false
set_option maxRecDepth 100000

structure AcD where
  k : Int
  x : Int
  n : Int
  s : SV
  b : SV
  cs : List (Int × Int)
  bs : List UInt8
abbrev rowAcD (a : AcD) : List Value := [.int .u8 a.k, .int .i64 a.x, .int .i64 a.n, sl a.s, sl a.b]
structure AcDR (W : World) (a : AcD) : Prop where
  k : 0 ≤ a.k ∧ a.k ≤ 255
  x : wfI a.x
  n : wfI a.n
  cs : At W 2 rowC (sl a.s) a.cs
  bs : At W 1 rowB (sl a.b) a.bs
  wf : ∀ c ∈ a.cs, wfI c.1 ∧ wfI c.2
abbrev FitD (a : AcD) : Prop := a.cs.length * 16 ≤ 140737488351232
def ActsD (W : World) (v : Value) (L : List AcD) : Prop := At W 5 rowAcD v L ∧ ∀ a ∈ L, AcDR W a
section
variable {H : Type} {enc : TypeId × Value → H}
theorem weights_eachD {P : Program} {t : TypeId} {d : DataW H} {n : Nat} : ∀ {ts : List TypeId} {l : List (DataW H)} (j : Nat), ts[j]? = some t → l[j]? = some d → n ∈ d.weights P t → n ∈ DataW.weightsEach P ts l
  | [], _, j, h, _, _ => by simp at h
  | _ :: _, [], j, _, h, _ => by simp at h
  | u :: ts, x :: l, 0, h, h', hn => by
    simp only [List.getElem?_cons_zero, Option.some.injEq] at h h'
    subst h; subst h'
    simp only [DataW.weightsEach, List.mem_append]
    exact Or.inl hn
  | u :: ts, x :: l, j + 1, h, h', hn => by
    simp only [List.getElem?_cons_succ] at h h'
    simp only [DataW.weightsEach, List.mem_append]
    exact Or.inr (weights_eachD j h h' hn)
theorem weights_fieldD {P : Program} {t : TypeId} {fs : Array Field} (ht : P.underlying t = some (.struct fs)) {x : DataW H × List MemPlace} {ys : List (DataW H × List MemPlace)} {pl : List MemPlace} (hx : x = (.agg (ys.map (·.1)), pl)) (j : Nat) {f : Field} (hf : fs.toList[j]? = some f) {y : DataW H × List MemPlace} (hy : ys[j]? = some y) {n : Nat} (hn : n ∈ y.1.weights P f.type) : n ∈ x.1.weights P t := by
  rw [hx]
  simp only
  unfold DataW.weights
  rw [ht]
  exact weights_eachD j (by simp [hf]) (by simp [hy]) hn
theorem two_ofD {cs : List Value} {x0 x1 : Value} (hl : cs.length = 2) (h0 : (cs.drop 0).take 1 = [x0]) (h1 : (cs.drop 1).take 1 = [x1]) : cs = [x0, x1] := by
  match cs, hl with
  | [a, b], _ => simp at h0 h1; simp [h0, h1]
theorem five_ofD {cs : List Value} {x0 x1 x2 x3 x4 : Value} (hl : cs.length = 5) (h0 : (cs.drop 0).take 1 = [x0]) (h1 : (cs.drop 1).take 1 = [x1]) (h2 : (cs.drop 2).take 1 = [x2]) (h3 : (cs.drop 3).take 1 = [x3]) (h4 : (cs.drop 4).take 1 = [x4]) : cs = [x0, x1, x2, x3, x4] := by
  match cs, hl with
  | [a, b, c, d, e], _ => simp at h0 h1 h2 h3 h4; simp [h0, h1, h2, h3, h4]
/-- What lies in one cell as a slice of costs. -/
theorem costs_cell {W : World} {fuel : Nat} {cs : List Value} {x : DataW H × List MemPlace} (h : DataW.trod enc Try.prog W 0 (fun _ => true) true fuel 30 cs = some x) :
    ∃ (s : SV) (L : List (Int × Int)), cs = [sl s] ∧ At W 2 rowC (sl s) L ∧ (∀ c ∈ L, wfI c.1 ∧ wfI c.2) ∧ ((∀ n ∈ x.1.weights Try.prog 30, n ≤ reachBytes) → L.length * 16 ≤ 140737488351232) := by
  have hC : Try.prog.cellsOf 55 = 2 := by kernel_rfl
  rcases Go.Deep.open_slice Try.underlying30 h with ⟨rfl, _⟩ | ⟨a, len', cap', m, n, D, Pl, rfl, hb, hl, hm, hmm, hx, hi⟩
  · exact ⟨(none, 0, 0), [], rfl, At.nil _ _ _, fun c hc => absurd hc (by simp), fun _ => by simp⟩
  · simp only [if_true] at hmm
    subst hmm
    rw [hC] at hi
    have hcell : ∀ i, ∃ y : Int × Int, i < m → ((∀ j u, (rowC y)[j]? = some u → W.cell? (a.add (i * 2 + j)) = some u) ∧ wfI y.1 ∧ wfI y.2) := by
      intro i
      by_cases him : i < m
      · obtain ⟨cs', hc, ht'⟩ := hi i him
        obtain ⟨ys, n', hn', hy, hlen, hyl, hf⟩ := DataW.trod_struct Try.underlying55 ht'
        obtain ⟨_, hcl, hat⟩ := World.cells?_some hc
        have f0 := hf 0 _ rfl
        have f1 := hf 1 _ rfl
        simp only [List.getElem?_eq_getElem (show 0 < ys.length by rw [hyl]; decide), List.getElem?_eq_getElem (show 1 < ys.length by rw [hyl]; decide)] at f0 f1
        obtain ⟨x0, e0, _, w0⟩ := DataW.trod_int Try.underlying3 f0
        obtain ⟨x1, e1, _, w1⟩ := DataW.trod_int Try.underlying3 f1
        have hcs' : cs' = [.int .i64 x0, .int .i64 x1] := two_ofD hcl e0 e1
        refine ⟨(x0, x1), fun _ => ⟨fun j u hu => ?_, wf_i64 w0, wf_i64 w1⟩⟩
        have hj : j < 2 := (List.getElem?_eq_some_iff.1 hu).1
        have := hat j hj
        rw [add_twice, hcs'] at this
        rw [this]; exact hu
      · exact ⟨(0, 0), fun h => absurd h him⟩
    obtain ⟨f, hfc⟩ := Classical.axiomOfChoice hcell
    have hln : ((List.range len').map f).length = len' := by simp
    refine ⟨(some a, len', m), (List.range len').map f, rfl, ⟨some a, m, by rw [hln], by omega, hm, fun h => by simp at h, fun b hb j hj i u hu => ?_⟩, fun c hc => ?_, fun hw => ?_⟩
    · obtain rfl : a = b := by simpa using hb
      rw [hln] at hj
      simp only [List.getElem_map, List.getElem_range] at hu
      exact (hfc j (by omega)).1 i u hu
    · obtain ⟨i, hir, rfl⟩ := List.mem_map.1 hc
      have hil : i < len' := by simpa using hir
      exact (hfc i (by omega)).2
    · rw [hln]
      have := hw (((List.range len').map D).length * Try.prog.bytesOf 55 + ((List.range (m - len')).map fun j => D (len' + j)).length * Try.prog.bytesOf 55) (by
        rw [hx]
        simp only
        unfold DataW.weights
        rw [Try.underlying30]
        simp only [Nat.add_mul]
        exact List.mem_cons_self ..)
      rw [show Try.prog.bytesOf 55 = 16 by kernel_rfl] at this
      simp only [List.length_map, List.length_range] at this
      unfold reachBytes at this
      omega
theorem open_actsD {W : World} {r : Reach} {b0 : Nat} {v : Value} {d : DataW H} {ps : List MemPlace} (hval : Value.okWide Try.prog W r b0 22 v) (h : DataW.Trod enc Try.prog W 0 (fun _ => true) true 22 v d ps) :
    ∃ L : List AcD, ActsD W v L ∧ ((∀ x ∈ d.weights Try.prog 22, x ≤ reachBytes) → ∀ a ∈ L, FitD a) := by
  have hC : Try.prog.cellsOf 33 = 5 := by kernel_rfl
  obtain ⟨a0, len, cap, rfl⟩ := okWide_slice Try.underlying22 hval
  obtain ⟨fuel, hf⟩ := h
  rcases Go.Deep.open_slice Try.underlying22 hf with ⟨h, _⟩ | ⟨a, len', cap', m, n, D, Pl, hcs, hb, hl, hm, hmm, hx, hi⟩
  · have hv : Value.slice a0 len cap = .slice none 0 0 := by simpa [Value.cells] using h
    rw [hv]
    exact ⟨[], ⟨At.nil _ _ _, fun x hx => by cases hx⟩, fun _ => (fun x hx => by cases hx)⟩
  · simp only [if_true] at hmm
    subst hmm
    have hv : Value.slice a0 len cap = .slice (some a) len' m := by simpa [Value.cells] using hcs
    rw [hC] at hi
    have hcell : ∀ i, ∃ x : AcD, i < m → (∀ j u, (rowAcD x)[j]? = some u → W.cell? (a.add (i * 5 + j)) = some u) ∧ AcDR W x ∧ ((∀ n ∈ (D i).weights Try.prog 33, n ≤ reachBytes) → FitD x) := by
      intro i
      by_cases him : i < m
      · obtain ⟨cs', hc, ht'⟩ := hi i him
        obtain ⟨ys, n', hn', hy, hlen, hyl, hf⟩ := DataW.trod_struct Try.underlying33 ht'
        obtain ⟨_, hcl, hat⟩ := World.cells?_some hc
        have f0 := hf 0 _ rfl
        have f1 := hf 1 _ rfl
        have f2 := hf 2 _ rfl
        have f3 := hf 3 _ rfl
        have f4 := hf 4 _ rfl
        simp only [List.getElem?_eq_getElem (show 0 < ys.length by rw [hyl]; decide), List.getElem?_eq_getElem (show 1 < ys.length by rw [hyl]; decide), List.getElem?_eq_getElem (show 2 < ys.length by rw [hyl]; decide), List.getElem?_eq_getElem (show 3 < ys.length by rw [hyl]; decide), List.getElem?_eq_getElem (show 4 < ys.length by rw [hyl]; decide)] at f0 f1 f2 f3 f4
        obtain ⟨x0, e0, _, w0⟩ := DataW.trod_int Try.underlying5 f0
        obtain ⟨x1, e1, _, w1⟩ := DataW.trod_int Try.underlying3 f1
        obtain ⟨x2, e2, _, w2⟩ := DataW.trod_int Try.underlying3 f2
        obtain ⟨s, p, e3, hat2, hwf, hwt⟩ := costs_cell f3
        obtain ⟨b, q, e4, hat3, _⟩ := lists_cell f4
        have hcs' : cs' = [.int .u8 x0, .int .i64 x1, .int .i64 x2, sl s, sl b] := five_ofD hcl e0 e1 e2 e3 e4
        refine ⟨⟨x0, x1, x2, s, b, p, q⟩, fun _ => ⟨fun j u hu => ?_, ⟨wf_u8 w0, wf_i64 w1, wf_i64 w2, hat2, hat3, hwf⟩, fun hw => hwt (fun n hn => hw n (weights_fieldD (x := (D i, Pl i)) Try.underlying33 hy 3 rfl (List.getElem?_eq_getElem (show 3 < ys.length by rw [hyl]; decide)) hn))⟩⟩
        have hj : j < 5 := (List.getElem?_eq_some_iff.1 hu).1
        have := hat j hj
        rw [add_twice, hcs'] at this
        rw [this]; exact hu
      · exact ⟨⟨0, 0, 0, (none, 0, 0), (none, 0, 0), [], []⟩, fun h => absurd h him⟩
    obtain ⟨f, hfc⟩ := Classical.axiomOfChoice hcell
    have hln : ((List.range len').map f).length = len' := by simp
    refine ⟨(List.range len').map f, ⟨⟨some a, m, by rw [hv, hln], by omega, hm, fun h => by simp at h, fun b hb j hj i u hu => ?_⟩, fun y hy => ?_⟩, fun hw => fun y hy => ?_⟩
    · obtain rfl : a = b := by simpa using hb
      rw [hln] at hj
      simp only [List.getElem_map, List.getElem_range] at hu
      exact (hfc j (by omega)).1 i u hu
    · obtain ⟨i, hir, rfl⟩ := List.mem_map.1 hy
      have hil : i < len' := by simpa using hir
      exact (hfc i (by omega)).2.1
    · obtain ⟨i, hir, rfl⟩ := List.mem_map.1 hy
      have hil : i < len' := by simpa using hir
      refine (hfc i (by omega)).2.2 (fun k hk => hw k ?_)
      have hd : d = .slice ((List.range len').map D) ((List.range (m - len')).map fun j => D (len' + j)) := (Prod.mk.inj hx).1
      rw [hd]
      unfold DataW.weights
      rw [Try.underlying22]
      refine List.mem_cons_of_mem _ (List.mem_append_left _ ?_)
      exact weights_in (List.mem_map.2 ⟨i, hir, rfl⟩) hk
end
end Go.Proofs.Ytckpecddglfjkaa
