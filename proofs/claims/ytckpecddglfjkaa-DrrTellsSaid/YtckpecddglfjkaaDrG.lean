/- Turns by deficits: slices.Delete, slices.Insert. -/
import Derived.Test.YtckpecddglfjkaaDrF
import Derived.Test.YtckpecddglfjkaaRowK
import Derived.Maps.AppendAt
namespace Go.Proofs.Ytckpecddglfjkaa
open Go.ChangeShapes Go.WideShapes Go.ChangeAt Go.RowKit
set_option linter.unusedVariables false
set_option linter.unusedSimpArgs false

theorem splice_take_le {α : Type} (L : List α) (off : Nat) (cs : List α) (t : Nat) (h : t ≤ off) (h2 : off ≤ L.length) : (splice L off cs).take t = L.take t := by
  unfold splice
  rw [List.take_append_of_le_length (by rw [List.length_take]; omega), List.take_take, Nat.min_eq_left h]
theorem splice_take_all {α : Type} (L : List α) (off : Nat) (cs : List α) (h2 : off ≤ L.length) : (splice L off cs).take (off + cs.length) = L.take off ++ cs := by
  unfold splice
  rw [← List.append_assoc, List.take_append_of_le_length (by rw [List.length_append, List.length_take]; omega), List.take_of_length_le (by rw [List.length_append, List.length_take]; omega)]
theorem flat_take {α : Type} {f : α → List Value} {k : Nat} (hf : ∀ x, (f x).length = k) (l : List α) (i : Nat) (h : i ≤ l.length) : (l.flatMap f).take (i * k) = (l.take i).flatMap f := by
  conv => lhs; rw [← List.take_append_drop i l]
  rw [List.flatMap_append, List.take_append_of_le_length (by rw [flat_len hf, List.length_take, Nat.min_eq_left h]; exact Nat.le_refl _), List.take_of_length_le (by rw [flat_len hf, List.length_take, Nat.min_eq_left h]; exact Nat.le_refl _)]
theorem flat_drop {α : Type} {f : α → List Value} {k : Nat} (hf : ∀ x, (f x).length = k) (l : List α) (i : Nat) (h : i ≤ l.length) : (l.flatMap f).drop (i * k) = (l.drop i).flatMap f := by
  conv => lhs; rw [← List.take_append_drop i l]
  rw [List.flatMap_append, List.drop_append_of_le_length (by rw [flat_len hf, List.length_take, Nat.min_eq_left h]; exact Nat.le_refl _), List.drop_of_length_le (by rw [flat_len hf, List.length_take, Nat.min_eq_left h]; exact Nat.le_refl _), List.nil_append]
/-- The cells of a row from element i on. -/
theorem row_from {α : Type} {f : α → List Value} {k : Nat} (hf : ∀ x, (f x).length = k) {w : World} {g : Nat} {e : TypeId} {cur : List Value} {n : Nat} {l : List α} (hg : Blk w g e cur.toArray) (ht : cur.take (n * k) = l.flatMap f) (hn : n = l.length) (i : Nat) (hi : i ≤ n) :
    ∀ j u, ((l.drop i).flatMap f)[j]? = some u → w.cell? ((⟨g, i * k, none⟩ : Addr).add j) = some u := by
  intro j u hu
  subst hn
  rw [addr_pl, hg.cell, List.getElem?_toArray]
  rw [← flat_drop hf l i hi, List.getElem?_drop, ← ht, List.getElem?_take] at hu
  split at hu
  · exact hu
  · cases hu
theorem del_list {α : Type} {f : α → List Value} {k : Nat} (hf : ∀ x, (f x).length = k) (cur : List Value) (l : List α) (i cap : Nat) (Z : List Value) (hi : i < l.length) (hc : cur.length = cap * k) (hcap : l.length ≤ cap) (ht : cur.take (l.length * k) = l.flatMap f) (hZ : Z.length = k) :
    (splice (splice cur (i * k) ((l.drop (i + 1)).flatMap f)) ((l.length - 1) * k) Z).length = cap * k ∧ (splice (splice cur (i * k) ((l.drop (i + 1)).flatMap f)) ((l.length - 1) * k) Z).take ((l.length - 1) * k) = (l.eraseIdx i).flatMap f := by
  have hd : ((l.drop (i + 1)).flatMap f).length = (l.length - 1 - i) * k := by rw [flat_len hf, List.length_drop]; congr 1; omega
  have e1 : i * k + (l.length - 1 - i) * k = (l.length - 1) * k := by rw [← Nat.add_mul]; congr 1; omega
  have e2 : (l.length - 1) * k + k = l.length * k := by rw [← Nat.succ_mul]; congr 1; omega
  have e3 : l.length * k ≤ cap * k := Nat.mul_le_mul_right _ hcap
  have hl1 : (splice cur (i * k) ((l.drop (i + 1)).flatMap f)).length = cap * k := by rw [length_splice _ _ _ (by omega), hc]
  refine ⟨by rw [length_splice _ _ _ (by omega), hl1], ?_⟩
  rw [splice_take_le _ _ _ _ (Nat.le_refl _) (by omega), ← e1, ← hd, splice_take_all _ _ _ (by omega), List.eraseIdx_eq_take_drop_succ, List.flatMap_append]
  congr 1
  rw [← flat_take hf l i (by omega), ← ht, List.take_take, Nat.min_eq_left (Nat.mul_le_mul_right _ (by omega))]
def DelP (b : Nat) (g cap n : Nat) (l : List Fl) (w : World) (e : Ending) (w' : World) : Prop :=
  e = .returned (.slice (some ⟨g, 0, none⟩) n cap) ∧ Own w' b 68 4 rowF (.slice (some ⟨g, 0, none⟩) n cap) l ∧ w.grownBy w' (some g)
set_option maxHeartbeats 1000000 in
theorem Delete_any (b g cap : Nat) (l : List Fl) (i : Nat) (w : World) (h : Own w b 68 4 rowF (.slice (some ⟨g, 0, none⟩) l.length cap) l) (hi : i < l.length) :
    Calls Try.prog 26 #[.slice (some ⟨g, 0, none⟩) l.length cap, .int .i64 (i : Int), .int .i64 ((i : Int) + 1)] w (DelP b g cap (l.length - 1) (l.eraseIdx i) w) := by
  obtain ⟨i0, hi0, hz0, hz1, hz2⟩ := info_parts (P := Try.prog) (e := 68) (z := .agg #[.int .i64 0, .int .i64 0, .int .i64 0, .int .i64 0]) (size := 4) (bytes := 32) (by kernel_rfl)
  obtain ⟨cur, hB, hlen, ht, _, hb, hc, hm⟩ := own_row h
  have hm2 : cap ≤ 9223372036854775807 := by unfold maxLen at hm; omega
  have hnews := row_from (f := rowF) (k := 4) (fun _ => rfl) hB ht rfl (i + 1) (by omega)
  have hnl : ((l.drop (i + 1)).flatMap rowF).length = (l.length - (i + 1)) * 4 := by rw [flat_len (f := rowF) (k := 4) (fun _ => rfl), List.length_drop]
  have hn1 : ∀ u ∈ (l.drop (i + 1)).flatMap rowF, u.oneCell' = true := by
    intro u hu
    obtain ⟨y, _, hy⟩ := List.mem_flatMap.1 hu
    simp only [rowF, List.mem_cons, List.not_mem_nil, or_false] at hy
    rcases hy with rfl | rfl | rfl | rfl <;> rfl
  have hdl := fun Z hZ => del_list (f := rowF) (k := 4) (fun _ => rfl) cur l i cap Z hi hlen hc ht hZ
  generalize hN : (l.drop (i + 1)).flatMap rowF = news at *
  have hsrc : ∀ j u, news[j]? = some u → w.drew.cell? ((if cap = i + 1 then (⟨g, 0, none⟩ : Addr) else ⟨g, (i + 1) * 4, none⟩).add j) = some u := by
    intro j u hu
    by_cases hce : cap = i + 1
    · have : news.length = 0 := by rw [hnl]; omega
      have := (List.getElem?_eq_some_iff.1 hu).1
      omega
    · rw [if_neg hce]
      exact hnews j u hu
  have H := Lib.hid (And.intro hB (And.intro hsrc (And.intro hnl (And.intro hn1 (And.intro hdl (And.intro hlen (And.intro hb hm))))))); clear hB hnews hsrc hnl hn1 hdl hlen hb hm ht h hN
  have hne : ¬ (i : Int) = (i : Int) + 1 := by omega
  have hic : i ≤ cap := by omega
  have hi1 : i + 1 ≤ l.length := by omega
  have hi2 : (i : Int) + 1 ≤ (l.length : Int) := by omega
  have hi3 : (0 : Int) ≤ (i : Int) + 1 := by omega
  have hadr : (if cap = i + 1 then some (⟨g, 0, none⟩ : Addr) else some ⟨g, (i + 1) * 4, none⟩) = some (if cap = i + 1 then ⟨g, 0, none⟩ else ⟨g, (i + 1) * 4, none⟩) := by split <;> rfl
  go_enter Try.func26, Try.ntmps26
  go_wp2_with fail
  go_still_tail 6, (by kernel_rfl)
  have hml : l.length ≤ 9223372036854775807 := by omega
  have hq1 : i * 4 + news.length ≤ cur.length := by have := H.out.2.2.1; have := H.out.2.2.2.2.2.1; omega
  have eM : i + (l.length - (i + 1)) = l.length - 1 := by omega
  have eN : l.length - (l.length - 1) = 1 := by omega
  have HE := Lib.hid (And.intro eM eN); clear eM eN
  have hcl : ∀ w1 : World, Blk w1 g 68 (splice cur (i * 4) news).toArray → ∃ w2, (∀ ty, (Builtin.clear_ #[63] ty #[.slice (some ⟨g, (i + (l.length - (i + 1))) * 4, none⟩) (l.length - (i + (l.length - (i + 1)))) (cap - (i + (l.length - (i + 1))))]).run Try.prog w1 = .ok (.tuple #[]) w2) ∧
      Own w2 b 68 4 rowF (.slice (some ⟨g, 0, none⟩) (l.length - 1) cap) (l.eraseIdx i) ∧ w1.grownBy w2 (some g) := by
    intro w1 hB1
    have hz : (Builtin.zeroCells (Value.agg #[.int .i64 0, .int .i64 0, .int .i64 0, .int .i64 0]).cells 1).toList.length = 4 := by rw [Array.length_toList, size_zeroCells]; rfl
    obtain ⟨q1, q2⟩ := H.out.2.2.2.2.1 _ hz
    have hl1 : (splice cur (i * 4) news).length = cap * 4 := by rw [length_splice _ _ _ hq1]; exact H.out.2.2.2.2.2.1
    have hr := fun ty => run_clearK (P := Try.prog) w1 63 68 ty (.agg #[.int .i64 0, .int .i64 0, .int .i64 0, .int .i64 0]) 4 Try.underlying63 (by kernel_rfl) rfl (by simp [Value.cells, Value.oneCell']) (by decide) g ((l.length - 1) * 4) 1 (cap - (l.length - 1)) _ 68 hB1 (by decide) (by rw [hl1]; omega)
    refine ⟨_, fun ty => by rw [HE.out.1, HE.out.2]; exact hr ty, ?_, (hB1.setRow _).2⟩
    exact own_of (f := rowF) (k := 4) (fun _ => rfl) (hB1.setRow _).1 q1 q2 (by rw [List.length_eraseIdx, if_pos (by omega)]) H.out.2.2.2.2.2.2.1 (by omega) H.out.2.2.2.2.2.2.2
  have HC := Lib.hid hcl; clear hcl
  go_wp2_with (refine wpList_append_roomK rfl (.tmp 22) (.tmp 25) 63 rfl 68 i0 4 Try.underlying63 hi0 hz1 g i cap rfl _ (l.length - (i + 1)) (cap - (i + 1)) rfl cur (blk_drew H.out.1) news H.out.2.2.1 H.out.2.1 H.out.2.2.2.1 (by omega) hq1 ?_; intro w1 hB1 hg1; obtain ⟨w2, hr2, hO2, hg2⟩ := HC.out w1 hB1; have Z := Lib.hid (And.intro hO2 (And.intro hg1 hg2)); clear hB1 hg1 hO2 hg2)
  all_goals
    go_ret
    unfold DelP
    have hgg : w.grownBy w2 (some g) := World.grownBy.trans ⟨Z.out.2.1.os, Z.out.2.1.tape, Z.out.2.1.output, Z.out.2.1.size, Z.out.2.1.block⟩ Z.out.2.2
    refine ⟨by rw [HE.out.1]; rfl, ?_, hgg⟩
    first
      | exact Z.out.1
      | (have hh : cap = i + 1 := by assumption
         rw [← hh]; exact Z.out.1)
end Go.Proofs.Ytckpecddglfjkaa
