/- A slice of acts on a hold that came in, opened. -/
import Derived.Test.YticjfhagpmlieaaLift
import Derived.Test.YticjfhagpmlieaaHoX
import Derived.Deep.Slices
import Derived.ChangeSame
namespace Go.Proofs.Yticjfhagpmlieaa
open Go.ChangeShapes Go.WideShapes Go.ChangeAt Go.RowKit
open Ho
set_option linter.unusedVariables false
set_option linter.unusedSimpArgs false
set_option maxRecDepth 100000

structure AcR (W : World) (a : Ac) : Prop where
  k : 0 ≤ a.k ∧ a.k ≤ 255
  x : -9223372036854775808 ≤ a.x ∧ a.x ≤ 9223372036854775807
  u : -9223372036854775808 ≤ a.u ∧ a.u ≤ 9223372036854775807
  pts : PtsAt W (sl a.s) a.p
def ActsR (W : World) (v : Value) (L : List Ac) : Prop := At W 4 rowAc v L ∧ ∀ a ∈ L, AcR W a
theorem ActsR.ok {W : World} {v : Value} {L : List Ac} (h : ActsR W v L) (hf : ∀ a ∈ L, Fit a.p) : ActsAt W v L := ⟨h.1, fun a ha => ⟨(h.2 a ha).k, (h.2 a ha).x, (h.2 a ha).pts, hf a ha⟩⟩
section
variable {H : Type} {enc : TypeId × Value → H}
theorem weights_in {P : Program} {e : TypeId} {d : DataW H} {n : Nat} : ∀ {l : List (DataW H)}, d ∈ l → n ∈ d.weights P e → n ∈ DataW.weightsAll P e l
  | [], h, _ => absurd h (by simp)
  | x :: r, h, hn => by
    simp only [DataW.weightsAll, List.mem_append]
    rcases List.mem_cons.1 h with rfl | h
    · exact Or.inl hn
    · exact Or.inr (weights_in h hn)
theorem weights_each {P : Program} {t : TypeId} {d : DataW H} {n : Nat} : ∀ {ts : List TypeId} {l : List (DataW H)} (j : Nat), ts[j]? = some t → l[j]? = some d → n ∈ d.weights P t → n ∈ DataW.weightsEach P ts l
  | [], _, j, h, _, _ => by simp at h
  | _ :: _, [], j, _, h, _ => by simp at h
  | u :: ts, x :: l, 0, h, h', hn => by
    simp only [List.getElem?_cons_zero, Option.some.injEq] at h h'
    subst h; subst h'
    simp only [DataW.weightsEach, List.mem_append]
    exact Or.inl hn
  | u :: ts, x :: l, j + 1, h, h', hn => by
    simp only [List.getElem?_cons_succ] at h h'
    simp only [DataW.weightsEach, List.mem_append]
    exact Or.inr (weights_each j h h' hn)
theorem weights_field {P : Program} {t : TypeId} {fs : Array Field} (ht : P.underlying t = some (.struct fs)) {x : DataW H × List MemPlace} {ys : List (DataW H × List MemPlace)} {pl : List MemPlace} (hx : x = (.agg (ys.map (·.1)), pl)) (j : Nat) {f : Field} (hf : fs.toList[j]? = some f) {y : DataW H × List MemPlace} (hy : ys[j]? = some y) {n : Nat} (hn : n ∈ y.1.weights P f.type) : n ∈ x.1.weights P t := by
  rw [hx]
  simp only
  unfold DataW.weights
  rw [ht]
  exact weights_each j (by simp [hf]) (by simp [hy]) hn
theorem four_of {cs : List Value} {x0 x1 x2 x3 : Value} (hl : cs.length = 4) (h0 : (cs.drop 0).take 1 = [x0]) (h1 : (cs.drop 1).take 1 = [x1]) (h2 : (cs.drop 2).take 1 = [x2]) (h3 : (cs.drop 3).take 1 = [x3]) : cs = [x0, x1, x2, x3] := by
  match cs, hl with
  | [a, b, c, d], _ => simp at h0 h1 h2 h3; simp [h0, h1, h2, h3]
/-- What lies in one cell as a slice of numbers. -/
theorem ints_cell {W : World} {fuel : Nat} {cs : List Value} {x : DataW H × List MemPlace} (h : DataW.trod enc Try.prog W 0 (fun _ => true) true fuel 60 cs = some x) :
    ∃ (s : SV) (L : List Int), cs = [sl s] ∧ At W 1 rowI (sl s) L ∧ ((∀ n ∈ x.1.weights Try.prog 60, n ≤ reachBytes) → L.length * 8 ≤ 140737488355328) := by
  rcases open_ints Try.underlying60 Try.underlying3 (by kernel_rfl) h with ⟨rfl, _⟩ | ⟨a, len, cap, zs, rfl, _, h1, h2, h3, h4, h5, h6⟩
  · exact ⟨(none, 0, 0), [], rfl, At.nil _ _ _, fun _ => by simp⟩
  · simp only [if_true] at h3
    have hl : (zs.take len).length = len := by simp; omega
    refine ⟨(some a, len, cap), zs.take len, rfl, ⟨some a, cap, by rw [hl], by omega, h2, fun h => by simp at h, fun b hb j hj i u hu => ?_⟩, ?_⟩
    · obtain rfl : a = b := by simpa using hb
      rw [hl] at hj
      have hj' : j < zs.length := by omega
      have hi : i = 0 := by
        have := (List.getElem?_eq_some_iff.1 hu).1
        simp at this; exact this
      subst hi
      rw [Nat.mul_one, Nat.add_zero, h5 j hj']
      simp only [List.getElem_take, List.getElem?_cons_zero] at hu
      rw [← hu]
      simp [List.getD, List.getElem?_eq_getElem hj']
    · intro hw
      rw [hl]
      have hd : x.1 = .slice (lits .i64 (zs.take len)) (lits .i64 (zs.drop len)) := by rw [h4]
      have := hw ((len + (zs.length - len)) * Try.prog.bytesOf 3) (by
        rw [hd]
        unfold DataW.weights
        rw [Try.underlying60]
        simp [lits]
        left; rw [Nat.min_eq_left (by omega)])
      rw [show Try.prog.bytesOf 3 = 8 by kernel_rfl] at this
      unfold reachBytes at this
      omega
/-- What lies in one cell as a slice of slices of numbers. -/
theorem pts_cell {W : World} {fuel : Nat} {cs : List Value} {x : DataW H × List MemPlace} (h : DataW.trod enc Try.prog W 0 (fun _ => true) true fuel 30 cs = some x) :
    ∃ (s : SV) (p : List (List Int)), cs = [sl s] ∧ PtsAt W (sl s) p ∧ ((∀ n ∈ x.1.weights Try.prog 30, n ≤ reachBytes) → Fit p) := by
  have hC : Try.prog.cellsOf 60 = 1 := by kernel_rfl
  rcases Go.Deep.open_slice Try.underlying30 h with ⟨rfl, _⟩ | ⟨a, len', cap', m, n, D, Pl, rfl, hb, hl, hm, hmm, hx, hi⟩
  · exact ⟨(none, 0, 0), [], rfl, PtsAt.nil _, fun _ => fit_nil⟩
  · simp only [if_true] at hmm
    subst hmm
    rw [hC] at hi
    have hcell : ∀ i, ∃ y : SV × List Int, i < m → (W.cell? (a.add i) = some (sl y.1) ∧ At W 1 rowI (sl y.1) y.2 ∧ ((∀ n ∈ (D i).weights Try.prog 60, n ≤ reachBytes) → y.2.length * 8 ≤ 140737488355328)) := by
      intro i
      by_cases him : i < m
      · obtain ⟨cs', hc, ht'⟩ := hi i him
        obtain ⟨s, L, hcs', hat, hw⟩ := ints_cell ht'
        obtain ⟨_, hcl, hcc⟩ := World.cells?_some hc
        refine ⟨(s, L), fun _ => ⟨?_, hat, hw⟩⟩
        have := hcc 0 (by omega)
        rw [hcs', add_twice, Nat.mul_one, Nat.add_zero] at this
        exact this
      · exact ⟨((none, 0, 0), []), fun h => absurd h him⟩
    obtain ⟨f, hfc⟩ := Classical.axiomOfChoice hcell
    have hln : ((List.range len').map fun i => (f i).1).length = len' := by simp
    refine ⟨(some a, len', m), (List.range len').map fun i => (f i).2, rfl, ⟨(List.range len').map fun i => (f i).1, ?_, by simp, fun j hj hj' => ?_⟩, fun hw => ⟨?_, fun L hL => ?_⟩⟩
    · refine ⟨some a, m, by rw [hln], by omega, hm, fun h => by simp at h, fun b hb j hj i u hu => ?_⟩
      obtain rfl : a = b := by simpa using hb
      rw [hln] at hj
      have hi0 : i = 0 := by
        have := (List.getElem?_eq_some_iff.1 hu).1
        simp at this; exact this
      subst hi0
      rw [Nat.mul_one, Nat.add_zero, (hfc j (by omega)).1]
      simpa using hu
    · simp only [List.getElem_map, List.getElem_range]
      have : j < len' := by simpa using hj
      exact (hfc j (by omega)).2.1
    · rw [List.length_map, List.length_range]
      have := hw (((List.range len').map D).length * Try.prog.bytesOf 60 + ((List.range (m - len')).map fun j => D (len' + j)).length * Try.prog.bytesOf 60) (by
        rw [hx]
        simp only
        unfold DataW.weights
        rw [Try.underlying30]
        simp only [Nat.add_mul]
        exact List.mem_cons_self ..)
      rw [show Try.prog.bytesOf 60 = 24 by kernel_rfl] at this
      simp only [List.length_map, List.length_range] at this
      unfold reachBytes at this
      omega
    · obtain ⟨i, hir, rfl⟩ := List.mem_map.1 hL
      have hil : i < len' := by simpa using hir
      refine (hfc i (by omega)).2.2 (fun k hk => hw k ?_)
      rw [hx]
      simp only
      unfold DataW.weights
      rw [Try.underlying30]
      refine List.mem_cons_of_mem _ (List.mem_append_left _ ?_)
      exact weights_in (List.mem_map.2 ⟨i, hir, rfl⟩) hk
theorem open_actsH {W : World} {r : Reach} {b0 : Nat} {v : Value} {d : DataW H} {ps : List MemPlace} (hval : Value.okWide Try.prog W r b0 22 v) (h : DataW.Trod enc Try.prog W 0 (fun _ => true) true 22 v d ps) :
    ∃ L : List Ac, ActsR W v L ∧ ((∀ x ∈ d.weights Try.prog 22, x ≤ reachBytes) → L.length * 48 ≤ 140737488355328 ∧ ∀ a ∈ L, Fit a.p) := by
  have hC : Try.prog.cellsOf 32 = 4 := by kernel_rfl
  obtain ⟨a0, len, cap, rfl⟩ := okWide_slice Try.underlying22 hval
  obtain ⟨fuel, hf⟩ := h
  rcases Go.Deep.open_slice Try.underlying22 hf with ⟨h, _⟩ | ⟨a, len', cap', m, n, D, Pl, hcs, hb, hl, hm, hmm, hx, hi⟩
  · have hv : Value.slice a0 len cap = .slice none 0 0 := by simpa [Value.cells] using h
    rw [hv]
    exact ⟨[], ⟨At.nil _ _ _, fun x hx => by cases hx⟩, fun _ => ⟨by simp, (fun x hx => by cases hx)⟩⟩
  · simp only [if_true] at hmm
    subst hmm
    have hv : Value.slice a0 len cap = .slice (some a) len' m := by simpa [Value.cells] using hcs
    rw [hC] at hi
    have hcell : ∀ i, ∃ x : Ac, i < m → (∀ j u, (rowAc x)[j]? = some u → W.cell? (a.add (i * 4 + j)) = some u) ∧ AcR W x ∧ ((∀ n ∈ (D i).weights Try.prog 32, n ≤ reachBytes) → Fit x.p) := by
      intro i
      by_cases him : i < m
      · obtain ⟨cs', hc, ht'⟩ := hi i him
        obtain ⟨ys, n', hn', hy, hlen, hyl, hf⟩ := DataW.trod_struct Try.underlying32 ht'
        obtain ⟨_, hcl, hat⟩ := World.cells?_some hc
        have f0 := hf 0 _ rfl
        have f1 := hf 1 _ rfl
        have f2 := hf 2 _ rfl
        have f3 := hf 3 _ rfl
        simp only [List.getElem?_eq_getElem (show 0 < ys.length by rw [hyl]; decide), List.getElem?_eq_getElem (show 1 < ys.length by rw [hyl]; decide), List.getElem?_eq_getElem (show 2 < ys.length by rw [hyl]; decide), List.getElem?_eq_getElem (show 3 < ys.length by rw [hyl]; decide)] at f0 f1 f2 f3
        obtain ⟨x0, e0, _, w0⟩ := DataW.trod_int Try.underlying5 f0
        obtain ⟨x1, e1, _, w1⟩ := DataW.trod_int Try.underlying2 f1
        obtain ⟨s, p, e2, hat2, hwt⟩ := pts_cell f2
        obtain ⟨x3, e3, _, w3⟩ := DataW.trod_int Try.underlying3 f3
        have hcs' : cs' = [.int .u8 x0, .int .i64 x1, sl s, .int .i64 x3] := four_of hcl e0 e1 e2 e3
        refine ⟨⟨x0, x1, s, x3, p⟩, fun _ => ⟨fun j u hu => ?_, ⟨wf_u8 w0, wf_i64 w3, wf_i64 w1, hat2⟩, fun hw => hwt (fun n hn => hw n (weights_field (x := (D i, Pl i)) Try.underlying32 hy 2 rfl (List.getElem?_eq_getElem (show 2 < ys.length by rw [hyl]; decide)) hn))⟩⟩
        have hj : j < 4 := (List.getElem?_eq_some_iff.1 hu).1
        have := hat j hj
        rw [add_twice, hcs'] at this
        rw [this]; exact hu
      · exact ⟨⟨0, 0, (none, 0, 0), 0, []⟩, fun h => absurd h him⟩
    obtain ⟨f, hfc⟩ := Classical.axiomOfChoice hcell
    have hln : ((List.range len').map f).length = len' := by simp
    refine ⟨(List.range len').map f, ⟨⟨some a, m, by rw [hv, hln], by omega, hm, fun h => by simp at h, fun b hb j hj i u hu => ?_⟩, fun y hy => ?_⟩, fun hw => ⟨?_, fun y hy => ?_⟩⟩
    · obtain rfl : a = b := by simpa using hb
      rw [hln] at hj
      simp only [List.getElem_map, List.getElem_range] at hu
      exact (hfc j (by omega)).1 i u hu
    · obtain ⟨i, hir, rfl⟩ := List.mem_map.1 hy
      have hil : i < len' := by simpa using hir
      exact (hfc i (by omega)).2.1
    · rw [hln]
      have hd : d = .slice ((List.range len').map D) ((List.range (m - len')).map fun j => D (len' + j)) := (Prod.mk.inj hx).1
      have := hw (((List.range len').map D).length * Try.prog.bytesOf 32 + ((List.range (m - len')).map fun j => D (len' + j)).length * Try.prog.bytesOf 32) (by
        rw [hd]
        unfold DataW.weights
        rw [Try.underlying22]
        simp only [Nat.add_mul]
        exact List.mem_cons_self ..)
      rw [show Try.prog.bytesOf 32 = 48 by kernel_rfl] at this
      simp only [List.length_map, List.length_range] at this
      unfold reachBytes at this
      omega
    · obtain ⟨i, hir, rfl⟩ := List.mem_map.1 hy
      have hil : i < len' := by simpa using hir
      refine (hfc i (by omega)).2.2 (fun k hk => hw k ?_)
      have hd : d = .slice ((List.range len').map D) ((List.range (m - len')).map fun j => D (len' + j)) := (Prod.mk.inj hx).1
      rw [hd]
      unfold DataW.weights
      rw [Try.underlying22]
      refine List.mem_cons_of_mem _ (List.mem_append_left _ ?_)
      exact weights_in (List.mem_map.2 ⟨i, hir, rfl⟩) hk
end
end Go.Proofs.Yticjfhagpmlieaa
