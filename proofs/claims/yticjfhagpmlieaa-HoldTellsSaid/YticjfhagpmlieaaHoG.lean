/- Waits that are held: slices.Delete, slices.Insert. -/
import Derived.Test.YticjfhagpmlieaaHoD
import Derived.Test.YticjfhagpmlieaaRowK
import Derived.Maps.AppendAt
import Derived.StillTailTactics
namespace Go.Proofs.Yticjfhagpmlieaa
open Go.ChangeShapes Go.WideShapes Go.ChangeAt Go.RowKit
set_option linter.unusedVariables false
set_option linter.unusedSimpArgs false

theorem splice_take_le {α : Type} (L : List α) (off : Nat) (cs : List α) (t : Nat) (h : t ≤ off) (h2 : off ≤ L.length) : (splice L off cs).take t = L.take t := by
  unfold splice
  rw [List.take_append_of_le_length (by rw [List.length_take]; omega), List.take_take, Nat.min_eq_left h]
theorem splice_take_all {α : Type} (L : List α) (off : Nat) (cs : List α) (h2 : off ≤ L.length) : (splice L off cs).take (off + cs.length) = L.take off ++ cs := by
  unfold splice
  rw [← List.append_assoc, List.take_append_of_le_length (by rw [List.length_append, List.length_take]; omega), List.take_of_length_le (by rw [List.length_append, List.length_take]; omega)]
theorem flat_take {α : Type} {f : α → List Value} {k : Nat} (hf : ∀ x, (f x).length = k) (l : List α) (i : Nat) (h : i ≤ l.length) : (l.flatMap f).take (i * k) = (l.take i).flatMap f := by
  conv => lhs; rw [← List.take_append_drop i l]
  rw [List.flatMap_append, List.take_append_of_le_length (by rw [flat_len hf, List.length_take, Nat.min_eq_left h]; exact Nat.le_refl _), List.take_of_length_le (by rw [flat_len hf, List.length_take, Nat.min_eq_left h]; exact Nat.le_refl _)]
theorem flat_drop {α : Type} {f : α → List Value} {k : Nat} (hf : ∀ x, (f x).length = k) (l : List α) (i : Nat) (h : i ≤ l.length) : (l.flatMap f).drop (i * k) = (l.drop i).flatMap f := by
  conv => lhs; rw [← List.take_append_drop i l]
  rw [List.flatMap_append, List.drop_append_of_le_length (by rw [flat_len hf, List.length_take, Nat.min_eq_left h]; exact Nat.le_refl _), List.drop_of_length_le (by rw [flat_len hf, List.length_take, Nat.min_eq_left h]; exact Nat.le_refl _), List.nil_append]
/-- The cells of a row from element i on. -/
theorem row_from {α : Type} {f : α → List Value} {k : Nat} (hf : ∀ x, (f x).length = k) {w : World} {g : Nat} {e : TypeId} {cur : List Value} {n : Nat} {l : List α} (hg : Blk w g e cur.toArray) (ht : cur.take (n * k) = l.flatMap f) (hn : n = l.length) (i : Nat) (hi : i ≤ n) :
    ∀ j u, ((l.drop i).flatMap f)[j]? = some u → w.cell? ((⟨g, i * k, none⟩ : Addr).add j) = some u := by
  intro j u hu
  subst hn
  rw [addr_pl, hg.cell, List.getElem?_toArray]
  rw [← flat_drop hf l i hi, List.getElem?_drop, ← ht, List.getElem?_take] at hu
  split at hu
  · exact hu
  · cases hu
theorem del_list {α : Type} {f : α → List Value} {k : Nat} (hf : ∀ x, (f x).length = k) (cur : List Value) (l : List α) (i j cap : Nat) (Z : List Value) (hij : i ≤ j) (hj : j ≤ l.length) (hc : cur.length = cap * k) (hcap : l.length ≤ cap) (ht : cur.take (l.length * k) = l.flatMap f) (hZ : Z.length = (j - i) * k) :
    (splice (splice cur (i * k) ((l.drop j).flatMap f)) ((l.length - (j - i)) * k) Z).length = cap * k ∧ (splice (splice cur (i * k) ((l.drop j).flatMap f)) ((l.length - (j - i)) * k) Z).take ((l.length - (j - i)) * k) = (l.take i ++ l.drop j).flatMap f := by
  have hd : ((l.drop j).flatMap f).length = (l.length - j) * k := by rw [flat_len hf, List.length_drop]
  have e1 : i * k + (l.length - j) * k = (l.length - (j - i)) * k := by rw [← Nat.add_mul]; congr 1; omega
  have e2 : (l.length - (j - i)) * k + (j - i) * k = l.length * k := by rw [← Nat.add_mul]; congr 1; omega
  have e3 : l.length * k ≤ cap * k := Nat.mul_le_mul_right _ hcap
  have hl1 : (splice cur (i * k) ((l.drop j).flatMap f)).length = cap * k := by rw [length_splice _ _ _ (by omega), hc]
  refine ⟨by rw [length_splice _ _ _ (by omega), hl1], ?_⟩
  rw [splice_take_le _ _ _ _ (Nat.le_refl _) (by omega), ← e1, ← hd, splice_take_all _ _ _ (by omega), List.flatMap_append]
  congr 1
  rw [← flat_take hf l i (by omega), ← ht, List.take_take, Nat.min_eq_left (Nat.mul_le_mul_right _ (by omega))]
def DelP (b : Nat) (g cap n : Nat) (l : List Wy) (w : World) (e : Ending) (w' : World) : Prop :=
  e = .returned (.slice (some ⟨g, 0, none⟩) n cap) ∧ Own w' b 35 3 rowW (.slice (some ⟨g, 0, none⟩) n cap) l ∧ w.grownBy w' (some g)
theorem one_rowW (f : Wy) : ∀ u ∈ rowW f, u.oneCell' = true := by simp [Value.oneCell']
theorem one_flat (l : List Wy) : ∀ u ∈ l.flatMap rowW, u.oneCell' = true := by
  intro u hu
  obtain ⟨y, _, hy⟩ := List.mem_flatMap.1 hu
  exact one_rowW y u hy
set_option maxHeartbeats 1000000 in
theorem Delete_any (b g cap : Nat) (l : List Wy) (i j : Nat) (w : World) (h : Own w b 35 3 rowW (.slice (some ⟨g, 0, none⟩) l.length cap) l) (hij : i < j) (hj : j ≤ l.length) :
    Calls Try.prog 34 #[.slice (some ⟨g, 0, none⟩) l.length cap, .int .i64 (i : Int), .int .i64 (j : Int)] w (DelP b g cap (l.length - (j - i)) (l.take i ++ l.drop j) w) := by
  obtain ⟨i0, hi0, hz0, hz1, hz2⟩ := info_parts (P := Try.prog) (e := 35) (z := .agg #[.int .i64 0, .slice none 0 0, .int .i64 0]) (size := 3) (bytes := 40) (by kernel_rfl)
  obtain ⟨cur, hB, hlen, ht, _, hb, hc, hm⟩ := own_row h
  have hm2 : cap ≤ 9223372036854775807 := by unfold maxLen at hm; omega
  have hnews := row_from (f := rowW) (k := 3) (fun _ => rfl) hB ht rfl j hj
  have hnl : ((l.drop j).flatMap rowW).length = (l.length - j) * 3 := by rw [flat_len (f := rowW) (k := 3) (fun _ => rfl), List.length_drop]
  have hn1 : ∀ u ∈ (l.drop j).flatMap rowW, u.oneCell' = true := one_flat _
  have hdl := fun Z hZ => del_list (f := rowW) (k := 3) (fun _ => rfl) cur l i j cap Z (Nat.le_of_lt hij) hj hlen hc ht hZ
  obtain ⟨news, hN⟩ : ∃ news, news = (l.drop j).flatMap rowW := ⟨_, rfl⟩
  rw [← hN] at hnews hnl hn1 hdl
  have hsrc : ∀ q u, news[q]? = some u → w.drew.cell? ((if cap = j then (⟨g, 0, none⟩ : Addr) else ⟨g, j * 3, none⟩).add q) = some u := by
    intro q u hu
    by_cases hce : cap = j
    · have : news.length = 0 := by rw [hnl]; omega
      have := (List.getElem?_eq_some_iff.1 hu).1
      omega
    · rw [if_neg hce]
      exact hnews q u hu
  have hTL : (l.take i ++ l.drop j).length = l.length - (j - i) := by rw [List.length_append, List.length_take, List.length_drop]; omega
  have H := Lib.hid (And.intro hB (And.intro hsrc (And.intro hnl (And.intro hn1 (And.intro hdl (And.intro hlen (And.intro hb (And.intro hm hTL)))))))); clear hB hnews hsrc hnl hn1 hdl hlen hb hm ht h hN hTL
  have hne : ¬ (i : Int) = (j : Int) := by omega
  have hne2 : ¬ i = j := by omega
  have hic : i ≤ cap := by omega
  have hi2 : (j : Int) ≤ (l.length : Int) := by omega
  have hi3 : (i : Int) ≤ (j : Int) := by omega
  have hi4 : i ≤ j := by omega
  have hadr : (if cap = j then some (⟨g, 0, none⟩ : Addr) else some ⟨g, j * 3, none⟩) = some (if cap = j then ⟨g, 0, none⟩ else ⟨g, j * 3, none⟩) := by split <;> rfl
  go_enter Try.func34, Try.ntmps34
  go_wp2_with fail
  go_still_tail 6, (by kernel_rfl)
  have hml : l.length ≤ 9223372036854775807 := by omega
  have hq1 : i * 3 + news.length ≤ cur.length := by have := H.out.2.2.1; have := H.out.2.2.2.2.2.1; omega
  have eM : i + (l.length - j) = l.length - (j - i) := by omega
  have eN : l.length - (l.length - (j - i)) = j - i := by omega
  have HE := Lib.hid (And.intro eM eN); clear eM eN
  have hcl : ∀ w1 : World, Blk w1 g 35 (splice cur (i * 3) news).toArray → ∃ w2, (∀ ty, (Builtin.clear_ #[41] ty #[.slice (some ⟨g, (i + (l.length - j)) * 3, none⟩) (l.length - (i + (l.length - j))) (cap - (i + (l.length - j)))]).run Try.prog w1 = .ok (.tuple #[]) w2) ∧
      Own w2 b 35 3 rowW (.slice (some ⟨g, 0, none⟩) (l.length - (j - i)) cap) (l.take i ++ l.drop j) ∧ w1.grownBy w2 (some g) := by
    intro w1 hB1
    have hz : (Builtin.zeroCells (Value.agg #[.int .i64 0, .slice none 0 0, .int .i64 0]).cells (j - i)).toList.length = (j - i) * 3 := by rw [Array.length_toList, size_zeroCells]; rfl
    obtain ⟨q1, q2⟩ := H.out.2.2.2.2.1 _ hz
    have hl1 : (splice cur (i * 3) news).length = cap * 3 := by rw [length_splice _ _ _ hq1]; exact H.out.2.2.2.2.2.1
    have hr := fun ty => run_clearK (P := Try.prog) w1 41 35 ty (.agg #[.int .i64 0, .slice none 0 0, .int .i64 0]) 3 Try.underlying41 (by kernel_rfl) rfl (by simp [Value.cells, Value.oneCell']) (by decide) g ((l.length - (j - i)) * 3) (j - i) (cap - (l.length - (j - i))) _ 35 hB1 (by omega) (by rw [hl1]; omega)
    refine ⟨_, fun ty => by rw [HE.out.1, HE.out.2]; exact hr ty, ?_, (hB1.setRow _).2⟩
    exact own_of (f := rowW) (k := 3) (fun _ => rfl) (hB1.setRow _).1 q1 q2 H.out.2.2.2.2.2.2.2.2.symm H.out.2.2.2.2.2.2.1 (by omega) H.out.2.2.2.2.2.2.2.1
  have HC := Lib.hid hcl; clear hcl
  go_wp2_with (refine wpList_append_roomK rfl (.tmp 22) (.tmp 25) 41 rfl 35 i0 3 Try.underlying41 hi0 hz1 g i cap rfl _ (l.length - j) (cap - j) rfl cur (blk_drew H.out.1) news H.out.2.2.1 H.out.2.1 H.out.2.2.2.1 (by omega) hq1 ?_; intro w1 hB1 hg1; obtain ⟨w2, hr2, hO2, hg2⟩ := HC.out w1 hB1; have Z := Lib.hid (And.intro hO2 (And.intro hg1 hg2)); clear hB1 hg1 hO2 hg2)
  all_goals
    go_ret
    unfold DelP
    have hgg : w.grownBy w2 (some g) := World.grownBy.trans ⟨Z.out.2.1.os, Z.out.2.1.tape, Z.out.2.1.output, Z.out.2.1.size, Z.out.2.1.block⟩ Z.out.2.2
    refine ⟨by rw [HE.out.1]; rfl, ?_, hgg⟩
    first
      | exact Z.out.1
      | (have hh : cap = j := by assumption
         have hz := Z.out.1
         rw [hh] at hz
         exact hz)
theorem Delete_none (v : Value) (n cap : Nat) (A : Option Addr) (i : Nat) (w : World) (hi : i ≤ n) (hv : v = .slice A n cap) (hn : n ≤ cap) (hm : cap ≤ maxLen) :
    Calls Try.prog 34 #[v, .int .i64 (i : Int), .int .i64 (i : Int)] w fun e w' => e = .returned v ∧ Below w.heap.size w w' := by
  subst hv
  have hm2 : cap ≤ 9223372036854775807 := by unfold maxLen at hm; omega
  have hi2 : (i : Int) ≤ (n : Int) := by omega
  have hml : n ≤ 9223372036854775807 := by omega
  go_enter Try.func34, Try.ntmps34
  go_wp2
  all_goals go_ret
  all_goals exact ⟨rfl, Below.refl _ _⟩
end Go.Proofs.Yticjfhagpmlieaa
