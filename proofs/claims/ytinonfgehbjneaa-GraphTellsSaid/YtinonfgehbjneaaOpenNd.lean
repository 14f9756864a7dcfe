/- A slice of nodes that came in, opened. -/
import Derived.Test.YtinonfgehbjneaaLift
import Derived.Test.YtinonfgehbjneaaGphA
import Derived.Deep.Slices
import Derived.ChangeSame
namespace Go.Proofs.Ytinonfgehbjneaa
open Go.ChangeShapes Go.WideShapes Go.ChangeAt Go.RowKit
set_option linter.unusedVariables false
set_option linter.unusedSimpArgs false
set_option maxRecDepth 100000

def NdR (W : World) (y : Ny) : Prop := At W 1 scV (sl y.2) y.1.2 ∧ y.1.1.size ≤ maxLen ∧ ∀ f ∈ y.1.2, f.size ≤ maxLen
def NdsR (W : World) (v : Value) (L : List Ny) : Prop := At W 2 rowN v L ∧ ∀ y ∈ L, NdR W y
section
variable {H : Type} {enc : TypeId × Value → H}
theorem nd_weights_in {P : Program} {e : TypeId} {d : DataW H} {n : Nat} : ∀ {l : List (DataW H)}, d ∈ l → n ∈ d.weights P e → n ∈ DataW.weightsAll P e l
  | [], h, _ => absurd h (by simp)
  | x :: r, h, hn => by
    simp only [DataW.weightsAll, List.mem_append]
    rcases List.mem_cons.1 h with rfl | h
    · exact Or.inl hn
    · exact Or.inr (nd_weights_in h hn)
theorem nd_weights_each {P : Program} {t : TypeId} {d : DataW H} {n : Nat} : ∀ {ts : List TypeId} {l : List (DataW H)} (j : Nat), ts[j]? = some t → l[j]? = some d → n ∈ d.weights P t → n ∈ DataW.weightsEach P ts l
  | [], _, j, h, _, _ => by simp at h
  | _ :: _, [], j, _, h, _ => by simp at h
  | u :: ts, x :: l, 0, h, h', hn => by
    simp only [List.getElem?_cons_zero, Option.some.injEq] at h h'
    subst h; subst h'
    simp only [DataW.weightsEach, List.mem_append]
    exact Or.inl hn
  | u :: ts, x :: l, j + 1, h, h', hn => by
    simp only [List.getElem?_cons_succ] at h h'
    simp only [DataW.weightsEach, List.mem_append]
    exact Or.inr (nd_weights_each j h h' hn)
theorem nd_weights_field {P : Program} {t : TypeId} {fs : Array Field} (ht : P.underlying t = some (.struct fs)) {x : DataW H × List MemPlace} {ys : List (DataW H × List MemPlace)} {pl : List MemPlace} (hx : x = (.agg (ys.map (·.1)), pl)) (j : Nat) {f : Field} (hf : fs.toList[j]? = some f) {y : DataW H × List MemPlace} (hy : ys[j]? = some y) {n : Nat} (hn : n ∈ y.1.weights P f.type) : n ∈ x.1.weights P t := by
  rw [hx]
  simp only
  unfold DataW.weights
  rw [ht]
  exact nd_weights_each j (by simp [hf]) (by simp [hy]) hn
theorem nd_two_of {cs : List Value} {x0 x1 : Value} (hl : cs.length = 2) (h0 : (cs.drop 0).take 1 = [x0]) (h1 : (cs.drop 1).take 1 = [x1]) : cs = [x0, x1] := by
  match cs, hl with
  | [a, b], _ => simp at h0 h1; simp [h0, h1]
/-- What lies in one cell as a slice of texts. -/
theorem strs_cell {W : World} {fuel : Nat} {cs : List Value} {x : DataW H × List MemPlace} (h : DataW.trod enc Try.prog W 0 (fun _ => true) true fuel 27 cs = some x) :
    ∃ (s : SV) (p : List ByteArray), cs = [sl s] ∧ At W 1 scV (sl s) p ∧ (∀ f ∈ p, f.size ≤ maxLen) ∧ ((∀ n ∈ x.1.weights Try.prog 27, n ≤ reachBytes) → p.length * 16 ≤ 140737488355328) := by
  have hC : Try.prog.cellsOf 9 = 1 := by kernel_rfl
  rcases Go.Deep.open_slice Try.underlying27 h with ⟨rfl, _⟩ | ⟨a, len', cap', m, n, D, Pl, rfl, hb, hl, hm, hmm, hx, hi⟩
  · exact ⟨(none, 0, 0), [], rfl, At.nil _ _ _, fun f hf => (by cases hf), fun _ => by simp⟩
  · simp only [if_true] at hmm
    subst hmm
    rw [hC] at hi
    have hcell : ∀ i, ∃ y : ByteArray, i < m → (W.cell? (a.add i) = some (.string y) ∧ y.size ≤ maxLen) := by
      intro i
      by_cases him : i < m
      · obtain ⟨cs', hc, ht'⟩ := hi i him
        obtain ⟨y, hcs', _, hs⟩ := DataW.trod_string Try.underlying9 ht'
        obtain ⟨_, hcl, hcc⟩ := World.cells?_some hc
        refine ⟨y, fun _ => ⟨?_, hs⟩⟩
        have := hcc 0 (by omega)
        rw [hcs', add_twice, Nat.mul_one, Nat.add_zero] at this
        exact this
      · exact ⟨⟨#[]⟩, fun h => absurd h him⟩
    obtain ⟨f, hfc⟩ := Classical.axiomOfChoice hcell
    have hln : ((List.range len').map f).length = len' := by simp
    refine ⟨(some a, len', m), (List.range len').map f, rfl, ⟨some a, m, by rw [hln], by omega, hm, fun h => by simp at h, fun b hb j hj i u hu => ?_⟩, fun y hy => ?_, fun hw => ?_⟩
    · obtain rfl : a = b := by simpa using hb
      rw [hln] at hj
      have hi0 : i = 0 := by
        have := (List.getElem?_eq_some_iff.1 hu).1
        simp at this; exact this
      subst hi0
      rw [Nat.mul_one, Nat.add_zero, (hfc j (by omega)).1]
      simpa using hu
    · obtain ⟨i, hir, rfl⟩ := List.mem_map.1 hy
      have hil : i < len' := by simpa using hir
      exact (hfc i (by omega)).2
    · rw [List.length_map, List.length_range]
      have := hw (((List.range len').map D).length * Try.prog.bytesOf 9 + ((List.range (m - len')).map fun j => D (len' + j)).length * Try.prog.bytesOf 9) (by
        rw [hx]
        simp only
        unfold DataW.weights
        rw [Try.underlying27]
        simp only [Nat.add_mul]
        exact List.mem_cons_self ..)
      rw [show Try.prog.bytesOf 9 = 16 by kernel_rfl] at this
      simp only [List.length_map, List.length_range] at this
      unfold reachBytes at this
      omega
theorem open_nodes {W : World} {r : Reach} {b0 : Nat} {v : Value} {d : DataW H} {ps : List MemPlace} (hval : Value.okWide Try.prog W r b0 23 v) (h : DataW.Trod enc Try.prog W 0 (fun _ => true) true 23 v d ps) :
    ∃ L : List Ny, NdsR W v L ∧ ((∀ x ∈ d.weights Try.prog 23, x ≤ reachBytes) → ∀ y ∈ L, y.1.2.length * 16 ≤ 140737488355328) := by
  have hC : Try.prog.cellsOf 45 = 2 := by kernel_rfl
  obtain ⟨a0, len, cap, rfl⟩ := okWide_slice Try.underlying23 hval
  obtain ⟨fuel, hf⟩ := h
  rcases Go.Deep.open_slice Try.underlying23 hf with ⟨h, _⟩ | ⟨a, len', cap', m, n, D, Pl, hcs, hb, hl, hm, hmm, hx, hi⟩
  · have hv : Value.slice a0 len cap = .slice none 0 0 := by simpa [Value.cells] using h
    rw [hv]
    exact ⟨[], ⟨At.nil _ _ _, fun x hx => by cases hx⟩, fun _ x hx => by cases hx⟩
  · simp only [if_true] at hmm
    subst hmm
    have hv : Value.slice a0 len cap = .slice (some a) len' m := by simpa [Value.cells] using hcs
    rw [hC] at hi
    have hcell : ∀ i, ∃ x : Ny, i < m → (∀ j u, (rowN x)[j]? = some u → W.cell? (a.add (i * 2 + j)) = some u) ∧ NdR W x ∧ ((∀ n ∈ (D i).weights Try.prog 45, n ≤ reachBytes) → x.1.2.length * 16 ≤ 140737488355328) := by
      intro i
      by_cases him : i < m
      · obtain ⟨cs', hc, ht'⟩ := hi i him
        obtain ⟨ys, n', hn', hy, hlen, hyl, hf⟩ := DataW.trod_struct Try.underlying45 ht'
        obtain ⟨_, hcl, hat⟩ := World.cells?_some hc
        have f0 := hf 0 _ rfl
        have f1 := hf 1 _ rfl
        simp only [List.getElem?_eq_getElem (show 0 < ys.length by rw [hyl]; decide), List.getElem?_eq_getElem (show 1 < ys.length by rw [hyl]; decide)] at f0 f1
        obtain ⟨x0, e0, _, w0⟩ := DataW.trod_string Try.underlying9 f0
        obtain ⟨s, p, e1, hat2, hsz, hwt⟩ := strs_cell f1
        have hcs' : cs' = [.string x0, sl s] := nd_two_of hcl e0 e1
        refine ⟨((x0, p), s), fun _ => ⟨fun j u hu => ?_, ⟨hat2, w0, hsz⟩, fun hw => hwt (fun n hn => hw n (nd_weights_field (x := (D i, Pl i)) Try.underlying45 hy 1 rfl (List.getElem?_eq_getElem (show 1 < ys.length by rw [hyl]; decide)) hn))⟩⟩
        have hj : j < 2 := (List.getElem?_eq_some_iff.1 hu).1
        have := hat j hj
        rw [add_twice, hcs'] at this
        rw [this]; exact hu
      · exact ⟨((⟨#[]⟩, []), (none, 0, 0)), fun h => absurd h him⟩
    obtain ⟨f, hfc⟩ := Classical.axiomOfChoice hcell
    have hln : ((List.range len').map f).length = len' := by simp
    refine ⟨(List.range len').map f, ⟨⟨some a, m, by rw [hv, hln], by omega, hm, fun h => by simp at h, fun b hb j hj i u hu => ?_⟩, fun y hy => ?_⟩, fun hw y hy => ?_⟩
    · obtain rfl : a = b := by simpa using hb
      rw [hln] at hj
      simp only [List.getElem_map, List.getElem_range] at hu
      exact (hfc j (by omega)).1 i u hu
    · obtain ⟨i, hir, rfl⟩ := List.mem_map.1 hy
      have hil : i < len' := by simpa using hir
      exact (hfc i (by omega)).2.1
    · obtain ⟨i, hir, rfl⟩ := List.mem_map.1 hy
      have hil : i < len' := by simpa using hir
      refine (hfc i (by omega)).2.2 (fun k hk => hw k ?_)
      have hd : d = .slice ((List.range len').map D) ((List.range (m - len')).map fun j => D (len' + j)) := (Prod.mk.inj hx).1
      rw [hd]
      unfold DataW.weights
      rw [Try.underlying23]
      refine List.mem_cons_of_mem _ (List.mem_append_left _ ?_)
      exact nd_weights_in (List.mem_map.2 ⟨i, hir, rfl⟩) hk
end
end Go.Proofs.Ytinonfgehbjneaa
