/- An item, a stream that came in by value, opened. -/
import Derived.Test.YtbmkbpehkpdcmaaLift
import Derived.Test.YtbmkbpehkpdcmaaCells
import Derived.Test.YtbmkbpehkpdcmaaEventF
import Derived.Test.YtbmkbpehkpdcmaaRef4P
import Derived.Deep.Slices
import Derived.ChangeSame
namespace Go.Proofs.Ytbmkbpehkpdcmaa
open Go.ChangeShapes Go.WideShapes Go.ChangeAt Go.RowKit
open Ev (V3 OkV)
set_option linter.unusedVariables false
set_option linter.unusedSimpArgs false
set_option maxRecDepth 100000

abbrev rowF4 (x : ByteArray × Int) : List Value := [.string x.1, .int .i64 x.2]
theorem vals_of_at {w : World} {v : Value} {l : List V3} (h : At w 3 rowV v l) : ValsAt w v l := by
  obtain ⟨A, cap, rfl, h1, h2, _⟩ := h.shape
  refine ⟨A, cap, rfl, h1, h2, fun h0 => ?_⟩
  obtain ⟨a, rfl, hc⟩ := h.cells rfl h0
  exact ⟨a, rfl, fun j hj => hc.row3 j hj rfl⟩
theorem fields_of_at {w : World} {v : Value} {l : List (ByteArray × Int)} (h : At w 2 rowF4 v l) : FieldsAt w v l := by
  obtain ⟨A, cap, rfl, h1, h2, _⟩ := h.shape
  refine ⟨A, cap, rfl, h1, h2, fun h0 => ?_⟩
  obtain ⟨a, rfl, hc⟩ := h.cells rfl h0
  exact ⟨a, rfl, fun j hj => hc.row2 j hj rfl⟩
section
variable {H : Type} {enc : TypeId × Value → H}
theorem three_of {cs : List Value} {x0 x1 x2 : Value} (hl : cs.length = 3) (h0 : (cs.drop 0).take 1 = [x0]) (h1 : (cs.drop 1).take 1 = [x1]) (h2 : (cs.drop 2).take 1 = [x2]) : cs = [x0, x1, x2] := by
  match cs, hl with
  | [a, b, c], _ => simp at h0 h1 h2; simp [h0, h1, h2]
theorem two_of {cs : List Value} {x0 x1 : Value} (hl : cs.length = 2) (h0 : (cs.drop 0).take 1 = [x0]) (h1 : (cs.drop 1).take 1 = [x1]) : cs = [x0, x1] := by
  match cs, hl with
  | [a, b], _ => simp at h0 h1; simp [h0, h1]
theorem item_of {cs : List Value} {x0 x1 x2 : Value} (hl : cs.length = 3) (h0 : (cs.drop 0).take 1 = [x0]) (h1 : (((cs.drop 1).take 2).drop 0).take 1 = [x1]) (h2 : (((cs.drop 1).take 2).drop 1).take 1 = [x2]) : cs = [x0, x1, x2] := by
  match cs, hl with
  | [a, b, c], _ => simp at h0 h1 h2; simp [h0, h1, h2]
/-- What lies in one cell as a slice of values. -/
theorem vals_cell {W : World} {fuel : Nat} {cs : List Value} {x : DataW H × List MemPlace} (h : DataW.trod enc Try.prog W 0 (fun _ => true) true fuel 22 cs = some x) :
    ∃ (s : SV) (L : List V3), cs = [sl s] ∧ At W 3 rowV (sl s) L ∧ RawV L ∧ ((∀ n ∈ x.1.weights Try.prog 22, n ≤ reachBytes) → L.length * 32 ≤ 140737488351232) := by
  have hC : Try.prog.cellsOf 35 = 3 := by kernel_rfl
  rcases Go.Deep.open_slice Try.underlying22 h with ⟨rfl, _⟩ | ⟨a, len', cap', m, n, D, Pl, rfl, hb, hl, hm, hmm, hx, hi⟩
  · exact ⟨(none, 0, 0), [], rfl, At.nil _ _ _, (fun y hy => by cases hy), (fun _ => by simp)⟩
  · simp only [if_true] at hmm
    subst hmm
    rw [hC] at hi
    have hcell : ∀ i, ∃ x : V3, i < m → (∀ j u, (rowV x)[j]? = some u → W.cell? (a.add (i * 3 + j)) = some u) ∧ x.2.2.size ≤ maxLen ∧ -9223372036854775808 ≤ x.2.1 ∧ x.2.1 ≤ 9223372036854775807 := by
      intro i
      by_cases him : i < m
      · obtain ⟨cs', hc, ht'⟩ := hi i him
        obtain ⟨ys, n', hn', hy, hlen, hyl, hf⟩ := DataW.trod_struct Try.underlying35 ht'
        obtain ⟨_, hcl, hat⟩ := World.cells?_some hc
        have f0 := hf 0 _ rfl
        have f1 := hf 1 _ rfl
        have f2 := hf 2 _ rfl
        simp only [List.getElem?_eq_getElem (show 0 < ys.length by rw [hyl]; decide), List.getElem?_eq_getElem (show 1 < ys.length by rw [hyl]; decide), List.getElem?_eq_getElem (show 2 < ys.length by rw [hyl]; decide)] at f0 f1 f2
        obtain ⟨kk, e0, _⟩ := DataW.trod_int Try.underlying3 f0
        obtain ⟨nn, e1, _, wn⟩ := DataW.trod_int Try.underlying2 f1
        obtain ⟨s, e2, _, hs⟩ := DataW.trod_string Try.underlying9 f2
        have hcs' : cs' = [.int .i64 kk, .int .i64 nn, .string s] := three_of hcl e0 e1 e2
        have b := wf_i64 wn
        refine ⟨(kk, nn, s), fun _ => ⟨fun j u hu => ?_, hs, b.1, b.2⟩⟩
        have hj : j < 3 := (List.getElem?_eq_some_iff.1 hu).1
        have := hat j hj
        rw [add_twice, hcs'] at this
        rw [this]; exact hu
      · exact ⟨(0, 0, ⟨#[]⟩), fun h => absurd h him⟩
    obtain ⟨f, hfc⟩ := Classical.axiomOfChoice hcell
    have hln : ((List.range len').map f).length = len' := by simp
    refine ⟨(some a, len', m), (List.range len').map f, rfl, ⟨some a, m, by rw [hln], by omega, hm, fun h => by simp at h, fun b hb j hj i u hu => ?_⟩, fun y hy => ?_, fun hw => ?_⟩
    · obtain rfl : a = b := by simpa using hb
      rw [hln] at hj
      simp only [List.getElem_map, List.getElem_range] at hu
      exact (hfc j (by omega)).1 i u hu
    · obtain ⟨i, hir, rfl⟩ := List.mem_map.1 hy
      have hil : i < len' := by simpa using hir
      exact (hfc i (by omega)).2
    · rw [hln]
      have := hw (((List.range len').map D).length * Try.prog.bytesOf 35 + ((List.range (m - len')).map fun j => D (len' + j)).length * Try.prog.bytesOf 35) (by
        rw [hx]
        simp only
        unfold DataW.weights
        rw [Try.underlying22]
        simp only [Nat.add_mul]
        exact List.mem_cons_self ..)
      rw [show Try.prog.bytesOf 35 = 32 by kernel_rfl] at this
      simp only [List.length_map, List.length_range] at this
      unfold reachBytes at this
      omega
/-- What lies in one cell as a slice of fields. -/
theorem fields_cell {W : World} {fuel : Nat} {cs : List Value} {x : DataW H × List MemPlace} (h : DataW.trod enc Try.prog W 0 (fun _ => true) true fuel 28 cs = some x) :
    ∃ (s : SV) (L : List (ByteArray × Int)), cs = [sl s] ∧ At W 2 rowF4 (sl s) L ∧ ((∀ n ∈ x.1.weights Try.prog 28, n ≤ reachBytes) → L.length * 24 ≤ 140737488351232) := by
  have hC : Try.prog.cellsOf 37 = 2 := by kernel_rfl
  rcases Go.Deep.open_slice Try.underlying28 h with ⟨rfl, _⟩ | ⟨a, len', cap', m, n, D, Pl, rfl, hb, hl, hm, hmm, hx, hi⟩
  · exact ⟨(none, 0, 0), [], rfl, At.nil _ _ _, (fun _ => by simp)⟩
  · simp only [if_true] at hmm
    subst hmm
    rw [hC] at hi
    have hcell : ∀ i, ∃ x : ByteArray × Int, i < m → (∀ j u, (rowF4 x)[j]? = some u → W.cell? (a.add (i * 2 + j)) = some u) := by
      intro i
      by_cases him : i < m
      · obtain ⟨cs', hc, ht'⟩ := hi i him
        obtain ⟨ys, n', hn', hy, hlen, hyl, hf⟩ := DataW.trod_struct Try.underlying37 ht'
        obtain ⟨_, hcl, hat⟩ := World.cells?_some hc
        have f0 := hf 0 _ rfl
        have f1 := hf 1 _ rfl
        simp only [List.getElem?_eq_getElem (show 0 < ys.length by rw [hyl]; decide), List.getElem?_eq_getElem (show 1 < ys.length by rw [hyl]; decide)] at f0 f1
        obtain ⟨s, e0, _, hs⟩ := DataW.trod_string Try.underlying9 f0
        obtain ⟨kk, e1, _⟩ := DataW.trod_int Try.underlying3 f1
        have hcs' : cs' = [.string s, .int .i64 kk] := two_of hcl e0 e1
        refine ⟨(s, kk), fun _ => fun j u hu => ?_⟩
        have hj : j < 2 := (List.getElem?_eq_some_iff.1 hu).1
        have := hat j hj
        rw [add_twice, hcs'] at this
        rw [this]; exact hu
      · exact ⟨(⟨#[]⟩, 0), fun h => absurd h him⟩
    obtain ⟨f, hfc⟩ := Classical.axiomOfChoice hcell
    have hln : ((List.range len').map f).length = len' := by simp
    refine ⟨(some a, len', m), (List.range len').map f, rfl, ⟨some a, m, by rw [hln], by omega, hm, fun h => by simp at h, fun b hb j hj i u hu => ?_⟩, fun hw => ?_⟩
    · obtain rfl : a = b := by simpa using hb
      rw [hln] at hj
      simp only [List.getElem_map, List.getElem_range] at hu
      exact hfc j (by omega) i u hu
    · rw [hln]
      have := hw (((List.range len').map D).length * Try.prog.bytesOf 37 + ((List.range (m - len')).map fun j => D (len' + j)).length * Try.prog.bytesOf 37) (by
        rw [hx]
        simp only
        unfold DataW.weights
        rw [Try.underlying28]
        simp only [Nat.add_mul]
        exact List.mem_cons_self ..)
      rw [show Try.prog.bytesOf 37 = 24 by kernel_rfl] at this
      simp only [List.length_map, List.length_range] at this
      unfold reachBytes at this
      omega
theorem weights_each5 {P : Program} {t : TypeId} {d : DataW H} {n : Nat} : ∀ {ts : List TypeId} {l : List (DataW H)} (j : Nat), ts[j]? = some t → l[j]? = some d → n ∈ d.weights P t → n ∈ DataW.weightsEach P ts l
  | [], _, j, h, _, _ => by simp at h
  | _ :: _, [], j, _, h, _ => by simp at h
  | u :: ts, x :: l, 0, h, h', hn => by
    simp only [List.getElem?_cons_zero, Option.some.injEq] at h h'
    subst h; subst h'
    simp only [DataW.weightsEach, List.mem_append]
    exact Or.inl hn
  | u :: ts, x :: l, j + 1, h, h', hn => by
    simp only [List.getElem?_cons_succ] at h h'
    simp only [DataW.weightsEach, List.mem_append]
    exact Or.inr (weights_each5 j h h' hn)
theorem weights_field {P : Program} {t : TypeId} {fs : Array Field} (ht : P.underlying t = some (.struct fs)) {d : DataW H} {ys : List (DataW H × List MemPlace)} (hx : d = .agg (ys.map (·.1))) (j : Nat) {f : Field} (hf : fs.toList[j]? = some f) {y : DataW H × List MemPlace} (hy : ys[j]? = some y) {n : Nat} (hn : n ∈ y.1.weights P f.type) : n ∈ d.weights P t := by
  rw [hx]
  unfold DataW.weights
  rw [ht]
  exact weights_each5 j (by simp [hf]) (by simp [hy]) hn
theorem open_item {W : World} {r : Reach} {b0 : Nat} {v : Value} {d : DataW H} {ps : List MemPlace} (hval : Value.okWide Try.prog W r b0 26 v) (h : DataW.Trod enc Try.prog W 0 (fun _ => true) true 26 v d ps) :
    ∃ (m : Bool) (t : Int) (s : SV) (L : List V3), v = item m t (sl s) ∧ ValsAt W (sl s) L ∧ RawV L ∧ (-9223372036854775808 ≤ t ∧ t ≤ 9223372036854775807) ∧ ((∀ x ∈ d.weights Try.prog 26, x ≤ reachBytes) → L.length * 32 ≤ 140737488351232) := by
  obtain ⟨cs, rfl, hsz⟩ := okWide_struct Try.underlying26 hval
  obtain ⟨fuel, hf0⟩ := h
  obtain ⟨ys, n', hn', hy, hlen, hyl, hf⟩ := DataW.trod_struct Try.underlying26 hf0
  have f0 := hf 0 _ rfl
  have f1 := hf 1 _ rfl
  simp only [List.getElem?_eq_getElem (show 0 < ys.length by rw [hyl]; decide), List.getElem?_eq_getElem (show 1 < ys.length by rw [hyl]; decide)] at f0 f1
  obtain ⟨us, n3, _, hu3, _, uyl, hk⟩ := DataW.trod_struct Try.underlying24 f1
  have k0 := hk 0 _ rfl
  have k1 := hk 1 _ rfl
  simp only [List.getElem?_eq_getElem (show 0 < us.length by rw [uyl]; decide), List.getElem?_eq_getElem (show 1 < us.length by rw [uyl]; decide)] at k0 k1
  obtain ⟨m, e0, _⟩ := DataW.trod_bool Try.underlying4 f0
  obtain ⟨tm, e1, _, wt⟩ := DataW.trod_int Try.underlying2 k0
  obtain ⟨s, L, e2, hat, hraw, hw⟩ := vals_cell k1
  have hC : Try.prog.cellsOf 26 = 3 := by kernel_rfl
  have hcl : cs.toList.length = 3 := by rw [Array.length_toList, hsz, hC]
  have hcs : cs.toList = [.bool m, .int .i64 tm, sl s] := item_of hcl e0 e1 e2
  have hcs' : cs = #[.bool m, .int .i64 tm, sl s] := Array.toList_inj.1 hcs
  refine ⟨m, tm, s, L, by rw [hcs'], vals_of_at hat, hraw, wf_i64 wt, fun hx => hw (fun n hn => hx n ?_)⟩
  refine weights_field Try.underlying26 (by first | exact (Prod.mk.inj hy).1 | simpa using hy) 1 rfl (List.getElem?_eq_getElem (show 1 < ys.length by rw [hyl]; decide)) ?_
  refine weights_field Try.underlying24 (by first | exact (Prod.mk.inj hu3).1 | simpa using hu3) 1 rfl (List.getElem?_eq_getElem (show 1 < us.length by rw [uyl]; decide)) hn
theorem open_stream {W : World} {r : Reach} {b0 : Nat} {v : Value} {d : DataW H} {ps : List MemPlace} (hval : Value.okWide Try.prog W r b0 30 v) (h : DataW.Trod enc Try.prog W 0 (fun _ => true) true 30 v d ps) :
    ∃ (n : ByteArray) (s : SV) (L : List (ByteArray × Int)), v = strm n (sl s) ∧ FieldsAt W (sl s) L ∧ ((∀ x ∈ d.weights Try.prog 30, x ≤ reachBytes) → L.length * 24 ≤ 140737488351232) := by
  obtain ⟨cs, rfl, hsz⟩ := okWide_struct Try.underlying30 hval
  obtain ⟨fuel, hf0⟩ := h
  obtain ⟨ys, n', hn', hy, hlen, hyl, hf⟩ := DataW.trod_struct Try.underlying30 hf0
  have f0 := hf 0 _ rfl
  have f1 := hf 1 _ rfl
  simp only [List.getElem?_eq_getElem (show 0 < ys.length by rw [hyl]; decide), List.getElem?_eq_getElem (show 1 < ys.length by rw [hyl]; decide)] at f0 f1
  obtain ⟨nm, e0, _⟩ := DataW.trod_string Try.underlying9 f0
  obtain ⟨s, L, e1, hat, hw⟩ := fields_cell f1
  have hC : Try.prog.cellsOf 30 = 2 := by kernel_rfl
  have hcl : cs.toList.length = 2 := by rw [Array.length_toList, hsz, hC]
  have hcs : cs.toList = [.string nm, sl s] := two_of hcl e0 e1
  have hcs' : cs = #[.string nm, sl s] := Array.toList_inj.1 hcs
  refine ⟨nm, s, L, by rw [hcs'], fields_of_at hat, fun hx => hw (fun n hn => hx n ?_)⟩
  refine weights_field Try.underlying30 (by first | exact (Prod.mk.inj hy).1 | simpa using hy) 1 rfl (List.getElem?_eq_getElem (show 1 < ys.length by rw [hyl]; decide)) hn
end
end Go.Proofs.Ytbmkbpehkpdcmaa
