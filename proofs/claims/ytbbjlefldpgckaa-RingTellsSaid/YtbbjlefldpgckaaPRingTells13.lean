/- Texts of the proof of RingTells, part 13. -/
import Derived.Test.YtbbjlefldpgckaaPRingTells12
import Derived.Deep.CutBlock
import Derived.StillTailTactics
import Derived.Maps.AppendAt
namespace Go.Proofs.Ytbbjlefldpgckaa
open Go.ChangeShapes Go.WideShapes Go.ChangeAt Go.RowKit Go.Maps
open Ev (V3 rightV OkV)
set_option linter.unusedVariables false
set_option linter.unusedSimpArgs false
set_option maxRecDepth 20000

def CopyP (mk : Bool) (t : Int) (l : List V3) (w : World) (e : Ending) (w' : World) : Prop := ∃ v', (e = .returned (item mk t v') ∧ NewAt w.heap.size w' v' l) ∧ Below w.heap.size w w'
theorem copyOf_any (mk : Bool) (t : Int) (v : Value) (l : List V3) (w : World) (hl : l.length ≤ 6) (h : At w 3 row3 v l) : Calls Try.prog 44 #[item mk t v] w (CopyP mk t l w) := by
  have bA : Below w.heap.size w ((w.alloc (.cells #[.bool mk, .int .i64 t, v] 37)).alloc (.cells #[.bool false, .int .i64 0, .slice none 0 0] 37)) := bt (ba _ _) (ba _ _)
  have cC := Clone_any v l _ hl (h.later bA)
  have B0 := (Blk.new w 37 #[.bool mk, .int .i64 t, v]).alloc (.cells #[.bool false, .int .i64 0, .slice none 0 0] 37)
  have B1 := Blk.new (w.alloc (.cells #[.bool mk, .int .i64 t, v] 37)) 37 #[.bool false, .int .i64 0, .slice none 0 0]
  obtain ⟨A, c, rfl, h1, h2, h3⟩ := h.shape
  rw [World.size_alloc] at B1
  have H := Lib.hid (And.intro cC (And.intro bA (And.intro B0 B1))); clear cC bA B0 B1 h
  go_enter Try.func44, Try.ntmps44
  go_wp2_with (go_at_call 54; ((with_reducible refine (H.out.1).mono ?_); rintro e w1 ⟨v', ⟨rfl, hN⟩, b1⟩; obtain ⟨c0, c1, c2⟩ := (H.out.2.2.1.later b1).three; have l0 := (H.out.2.2.1.later b1).lt; have f0 := (H.out.2.2.1.later b1).frozen; obtain ⟨d0, d1, d2⟩ := (H.out.2.2.2.later b1).three; have l1 := (H.out.2.2.2.later b1).lt; have f1 := (H.out.2.2.2.later b1).frozen; obtain ⟨A', n', hv'⟩ := hN.shape; subst hv'; have K := Lib.hid (And.intro hN b1); clear hN b1))
  have hN := K.out.1
  have hb := K.out.2
  have bb := bt H.out.2.1 hb
  have hsz : ((w.alloc (.cells #[.bool mk, .int .i64 t, .slice A l.length c] 37)).alloc (.cells #[.bool false, .int .i64 0, .slice none 0 0] 37)).heap.size = w.heap.size + 1 + 1 := by simp
  have Z1 := ((H.out.2.2.2.later hb).far (p := ⟨w.heap.size, 2, none⟩) (by simp) (.slice A' l.length n')).put3 (.bool mk) (.int .i64 t) (.slice A' l.length n')
  obtain ⟨z0, z1, z2⟩ := Z1.three
  refine bodyPost_ret (v := item mk t (.slice A' l.length n')) (by simp only [results, Try.results44]; simp [go_sem, z0, z1, z2]) rfl ?_
  refine ⟨_, ⟨rfl, ?_⟩, below_put3 (bb.setCell (p := ⟨w.heap.size, 2, none⟩) (Nat.le_refl _) _) (Nat.le_succ _) _ _ _⟩
  exact ((hN.far (p := ⟨w.heap.size, 2, none⟩) (by rw [hsz]; simp; omega) _).put3 (g := w.heap.size + 1) (by rw [hsz]; omega) _ _ _).weak (by rw [hsz]; omega)
theorem behind_any (mk : Bool) (t : Int) (v : Value) (w : World) (ht : 0 ≤ t ∧ t ≤ 2305843009213693952) : Calls Try.prog 45 #[item mk t v] w fun e w' => e = .returned (.int .i64 (behindI mk t)) ∧ Below w.heap.size w w' := by
  have hw1 : IntKind.i64.wrap (t + 1) = t + 1 := IntWalk.i64_in _ (by omega)
  cases mk
  all_goals
    go_enter Try.func45, Try.ntmps45
    go_wp2
    go_ret
    exact ⟨rfl, ba _ _⟩
theorem splice_take_le {α : Type} (L : List α) (off : Nat) (cs : List α) (t : Nat) (h : t ≤ off) (h2 : off ≤ L.length) : (splice L off cs).take t = L.take t := by
  unfold splice
  rw [List.take_append_of_le_length (by rw [List.length_take]; omega), List.take_take, Nat.min_eq_left h]
theorem splice_take_all {α : Type} (L : List α) (off : Nat) (cs : List α) (h2 : off ≤ L.length) : (splice L off cs).take (off + cs.length) = L.take off ++ cs := by
  unfold splice
  rw [← List.append_assoc, List.take_append_of_le_length (by rw [List.length_append, List.length_take]; omega), List.take_of_length_le (by rw [List.length_append, List.length_take]; omega)]
theorem flat_take {α : Type} {f : α → List Value} {k : Nat} (hf : ∀ x, (f x).length = k) (l : List α) (i : Nat) (h : i ≤ l.length) : (l.flatMap f).take (i * k) = (l.take i).flatMap f := by
  conv => lhs; rw [← List.take_append_drop i l]
  rw [List.flatMap_append, List.take_append_of_le_length (by rw [flat_len hf, List.length_take, Nat.min_eq_left h]; exact Nat.le_refl _), List.take_of_length_le (by rw [flat_len hf, List.length_take, Nat.min_eq_left h]; exact Nat.le_refl _)]
theorem flat_drop {α : Type} {f : α → List Value} {k : Nat} (hf : ∀ x, (f x).length = k) (l : List α) (i : Nat) (h : i ≤ l.length) : (l.flatMap f).drop (i * k) = (l.drop i).flatMap f := by
  conv => lhs; rw [← List.take_append_drop i l]
  rw [List.flatMap_append, List.drop_append_of_le_length (by rw [flat_len hf, List.length_take, Nat.min_eq_left h]; exact Nat.le_refl _), List.drop_of_length_le (by rw [flat_len hf, List.length_take, Nat.min_eq_left h]; exact Nat.le_refl _), List.nil_append]
/-- The cells of a row from element i on. -/
theorem row_from {α : Type} {f : α → List Value} {k : Nat} (hf : ∀ x, (f x).length = k) {w : World} {g : Nat} {e : TypeId} {cur : List Value} {n : Nat} {l : List α} (hg : Blk w g e cur.toArray) (ht : cur.take (n * k) = l.flatMap f) (hn : n = l.length) (i : Nat) (hi : i ≤ n) :
    ∀ j u, ((l.drop i).flatMap f)[j]? = some u → w.cell? ((⟨g, i * k, none⟩ : Addr).add j) = some u := by
  intro j u hu
  subst hn
  rw [addr_pl, hg.cell, List.getElem?_toArray]
  rw [← flat_drop hf l i hi, List.getElem?_drop, ← ht, List.getElem?_take] at hu
  split at hu
  · exact hu
  · cases hu
theorem drop_list {α : Type} {f : α → List Value} {k : Nat} (hf : ∀ x, (f x).length = k) (cur : List Value) (l : List α) (q cap : Nat) (Z : List Value) (hq : q ≤ l.length) (hc : cur.length = cap * k) (hcap : l.length ≤ cap) (hZ : Z.length = q * k) :
    (splice (splice cur 0 ((l.drop q).flatMap f)) ((l.length - q) * k) Z).length = cap * k ∧ (splice (splice cur 0 ((l.drop q).flatMap f)) ((l.length - q) * k) Z).take ((l.length - q) * k) = (l.drop q).flatMap f := by
  have hd : ((l.drop q).flatMap f).length = (l.length - q) * k := by rw [flat_len hf, List.length_drop]
  have e2 : (l.length - q) * k + q * k = l.length * k := by rw [← Nat.add_mul]; congr 1; omega
  have e3 : l.length * k ≤ cap * k := Nat.mul_le_mul_right _ hcap
  have hl1 : (splice cur 0 ((l.drop q).flatMap f)).length = cap * k := by rw [length_splice _ _ _ (by omega), hc]
  refine ⟨by rw [length_splice _ _ _ (by omega), hl1], ?_⟩
  rw [splice_take_le _ _ _ _ (Nat.le_refl _) (by omega), ← hd]
  have := splice_take_all cur 0 ((l.drop q).flatMap f) (by omega)
  rw [Nat.zero_add] at this
  rw [this]; simp
def DelP (b : Nat) (v : Value) (l : List Raw) (w : World) (e : Ending) (w' : World) : Prop :=
  ∃ v', (e = .returned v' ∧ Own w' b 37 3 rowI v' l ∧ v'.ownBlock = v.ownBlock) ∧ w.grownBy w' v.ownBlock
theorem Delete_0 (b : Nat) (v : Value) (l : List Raw) (w : World) (h : Own w b 37 3 rowI v l) :
    Calls Try.prog 55 #[v, .int .i64 0, .int .i64 0] w (DelP b v l w) := by
  obtain ⟨A, c, rfl, _, h1, h2⟩ := h.shape
  have hm2 : c ≤ 9223372036854775807 := by unfold maxLen at h2; omega
  have H := Lib.hid h; clear h
  go_enter Try.func55, Try.ntmps55
  go_wp2
  go_ret
  exact ⟨_, ⟨rfl, H.out, rfl⟩, World.grownBy.refl w _⟩
set_option maxHeartbeats 1000000 in
theorem Delete_k (b g cap : Nat) (l : List Raw) (q : Nat) (w : World) (h : Own w b 37 3 rowI (.slice (some ⟨g, 0, none⟩) l.length cap) l) (hq0 : 1 ≤ q) (hq : q ≤ l.length) :
    Calls Try.prog 55 #[.slice (some ⟨g, 0, none⟩) l.length cap, .int .i64 0, .int .i64 (q : Int)] w (DelP b (.slice (some ⟨g, 0, none⟩) l.length cap) (l.drop q) w) := by
  obtain ⟨i0, hi0, hz0, hz1, hz2⟩ := info_parts (P := Try.prog) (e := 37) (z := .agg #[.bool false, .int .i64 0, .slice none 0 0]) (size := 3) (bytes := 40) (by kernel_rfl)
  obtain ⟨cur, hB, hlen, ht, _, hb, hc, hm⟩ := own_row h
  have hm2 : cap ≤ 9223372036854775807 := by unfold maxLen at hm; omega
  have hnews := row_from (f := rowI) (k := 3) (fun _ => rfl) hB ht rfl q hq
  have hnl : ((l.drop q).flatMap rowI).length = (l.length - q) * 3 := by rw [flat_len (f := rowI) (k := 3) (fun _ => rfl), List.length_drop]
  have hn1 : ∀ u ∈ (l.drop q).flatMap rowI, u.oneCell' = true := by
    intro u hu
    obtain ⟨y, _, hy⟩ := List.mem_flatMap.1 hu
    simp only [rowI, List.mem_cons, List.not_mem_nil, or_false] at hy
    rcases hy with rfl | rfl | rfl <;> rfl
  have hdl := fun Z hZ => drop_list (f := rowI) (k := 3) (fun _ => rfl) cur l q cap Z hq hlen hc hZ
  generalize hN : (l.drop q).flatMap rowI = news at *
  have hsrc : ∀ j u, news[j]? = some u → w.drew.cell? ((if cap = q then (⟨g, 0, none⟩ : Addr) else ⟨g, q * 3, none⟩).add j) = some u := by
    intro j u hu
    by_cases hce : cap = q
    · have : news.length = 0 := by rw [hnl]; omega
      have := (List.getElem?_eq_some_iff.1 hu).1
      omega
    · rw [if_neg hce]
      exact hnews j u hu
  have H := Lib.hid (And.intro hB (And.intro hsrc (And.intro hnl (And.intro hn1 (And.intro hdl (And.intro hlen (And.intro hb (And.intro hm hN)))))))); clear hB hnews hsrc hnl hn1 hdl hlen hb hm ht h hN
  have hne : ¬ (0 : Int) = (q : Int) := by omega
  have hne' : ¬ (q : Int) = 0 := by omega
  have hne'' : ¬ q = 0 := by omega
  have hqc : q ≤ cap := by omega
  have hi2 : (q : Int) ≤ (l.length : Int) := by omega
  have hi3 : (0 : Int) ≤ (q : Int) := by omega
  have hadr : (if cap = q then some (⟨g, 0, none⟩ : Addr) else some ⟨g, q * 3, none⟩) = some (if cap = q then ⟨g, 0, none⟩ else ⟨g, q * 3, none⟩) := by split <;> rfl
  have hml : l.length ≤ 9223372036854775807 := by omega
  have hcp : ¬ cap = l.length - q := by omega
  go_enter Try.func55, Try.ntmps55
  go_wp2_with fail
  go_still_tail 6, (by kernel_rfl)
  have hq1 : 0 * 3 + news.length ≤ cur.length := by have := H.out.2.2.1; have := H.out.2.2.2.2.2.1; omega
  have eN : l.length - (l.length - q) = q := by omega
  have HE := Lib.hid eN; clear eN
  have hcl : ∀ w1 : World, Blk w1 g 37 (splice cur 0 news).toArray → ∃ w2, (∀ ty, (Builtin.clear_ #[61] ty #[.slice (some ⟨g, (l.length - q) * 3, none⟩) (l.length - (l.length - q)) (cap - (l.length - q))]).run Try.prog w1 = .ok (.tuple #[]) w2) ∧
      Own w2 b 37 3 rowI (.slice (some ⟨g, 0, none⟩) (l.length - q) cap) (l.drop q) ∧ w1.grownBy w2 (some g) := by
    intro w1 hB1
    have hz : (Builtin.zeroCells (Value.agg #[.bool false, .int .i64 0, .slice none 0 0]).cells q).toList.length = q * 3 := by rw [Array.length_toList, size_zeroCells]; rfl
    obtain ⟨q1, q2⟩ := H.out.2.2.2.2.1 _ hz
    have hl1 : (splice cur 0 news).length = cap * 3 := by rw [length_splice _ _ _ (by omega)]; exact H.out.2.2.2.2.2.1
    have hr := fun ty => run_clearK (P := Try.prog) w1 61 37 ty (.agg #[.bool false, .int .i64 0, .slice none 0 0]) 3 Try.underlying61 (by kernel_rfl) rfl (by simp [Value.cells, Value.oneCell']) (by decide) g ((l.length - q) * 3) q (cap - (l.length - q)) _ 37 hB1 (by omega) (by rw [hl1]; omega)
    refine ⟨_, fun ty => by rw [HE.out]; exact hr ty, ?_, (hB1.setRow _).2⟩
    exact own_of (f := rowI) (k := 3) (fun _ => rfl) (hB1.setRow _).1 q1 (by rw [H.out.2.2.2.2.2.2.2.2]; exact q2) (by rw [List.length_drop]) H.out.2.2.2.2.2.2.1 (by omega) H.out.2.2.2.2.2.2.2.1
  have HC := Lib.hid hcl; clear hcl
  go_wp2_with (refine wpList_append_roomK rfl (.tmp 22) (.tmp 25) 61 rfl 37 i0 3 Try.underlying61 hi0 hz1 g 0 cap rfl _ (l.length - q) (cap - q) rfl cur (blk_drew H.out.1) news H.out.2.2.1 H.out.2.1 H.out.2.2.2.1 (by omega) hq1 ?_; intro w1 hB1 hg1; obtain ⟨w2, hr2, hO2, hg2⟩ := HC.out w1 (by simpa using hB1); have Z := Lib.hid (And.intro hO2 (And.intro hg1 hg2)); clear hB1 hg1 hO2 hg2)
  all_goals
    go_ret
    have hgg : w.grownBy w2 (some g) := World.grownBy.trans ⟨Z.out.2.1.os, Z.out.2.1.tape, Z.out.2.1.output, Z.out.2.1.size, Z.out.2.1.block⟩ Z.out.2.2
    first
      | exact ⟨_, ⟨rfl, Z.out.1, rfl⟩, hgg⟩
      | (have hh : cap = q := by assumption
         subst hh
         exact ⟨_, ⟨rfl, Z.out.1, rfl⟩, hgg⟩)
theorem Delete_any (b : Nat) (v : Value) (l : List Raw) (q : Nat) (w : World) (h : Own w b 37 3 rowI v l) (hq : q ≤ l.length) :
    Calls Try.prog 55 #[v, .int .i64 0, .int .i64 (q : Int)] w (DelP b v (l.drop q) w) := by
  rcases Nat.eq_zero_or_pos q with rfl | h0
  · exact Delete_0 b v l w h
  · obtain ⟨A, c, rfl, _⟩ := h.shape
    obtain ⟨g, rfl, _⟩ := h.cells (f := rowI) (k := 3) (fun _ => rfl) rfl (by omega)
    exact Delete_k b g c l q w h h0 hq
end Go.Proofs.Ytbbjlefldpgckaa
