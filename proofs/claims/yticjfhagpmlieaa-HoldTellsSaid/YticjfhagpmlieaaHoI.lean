/- Waits that are held: slices.Insert where there is no room. -/
import Derived.Test.YticjfhagpmlieaaHoH
import Derived.Test.YticjfhagpmlieaaCells3
namespace Go.Proofs.Yticjfhagpmlieaa
open Go.ChangeShapes Go.WideShapes Go.ChangeAt Go.RowKit
set_option linter.unusedVariables false
set_option linter.unusedSimpArgs false

theorem below_some {B g : Nat} {a w w' : World} (h : Below B a w) (hg : w.grownBy w' (some g)) (hB : B ≤ w.heap.size) (hr : B ≤ g) : Below B a w' :=
  h.grown hg hB (fun k hk => by obtain rfl : g = k := by simpa using hk
                                exact hr)
theorem grow_zeros (b g cap : Nat) (l : List Wy) (i : Nat) (w : World) (h : Own w b 35 3 rowW (.slice (some ⟨g, 0, none⟩) l.length cap) l) (hi : i < l.length) (hl : l.length ≤ 1000) (hroom : cap < l.length + 1) :
    ∃ (C : Nat) (w1 : World) (cur : List Value), (∀ ty, (Builtin.append_ #[41, 3] ty #[.slice (some ⟨g, 0, none⟩) i cap, .int .i64 ((l.length : Int) + 1 - (i : Int))]).run Try.prog w = .ok (.slice (some ⟨w.heap.size, 0, none⟩) (l.length + 1) C) w1) ∧
      Blk w1 w.heap.size 35 cur.toArray ∧ cur.length = C * 3 ∧ cur.take (i * 3) = (l.take i).flatMap rowW ∧ l.length + 1 ≤ C ∧ C ≤ maxLen ∧ Below w.heap.size w w1 := by
  obtain ⟨i0, hi0, hz0, hz1, hz2⟩ := info_parts (P := Try.prog) (e := 35) (z := .agg #[.int .i64 0, .slice none 0 0, .int .i64 0]) (size := 3) (bytes := 40) (by kernel_rfl)
  obtain ⟨cur, hB, hlen, ht, _, hb, hc, hm⟩ := own_row h
  have hce : cap = l.length := by omega
  obtain ⟨k, hk⟩ : ∃ k, k = l.length + 1 - i := ⟨_, rfl⟩
  have hki : (l.length : Int) + 1 - (i : Int) = (k : Int) := by omega
  have hik : i + k = l.length + 1 := by omega
  have ho : ((l.take i).flatMap rowW).length = i * 3 := by rw [flat_len (f := rowW) (k := 3) (fun _ => rfl), List.length_take, Nat.min_eq_left (by omega)]
  have htk : cur.take (i * 3) = (l.take i).flatMap rowW := by
    rw [← flat_take (f := rowW) (k := 3) (fun _ => rfl) l i (by omega), ← ht, List.take_take, Nat.min_eq_left (Nat.mul_le_mul_right _ (by omega))]
  have hold : (Builtin.firstCells i0.size i (.slice (some ⟨g, 0, none⟩) i cap)).run Try.prog w.drew = .ok ((l.take i).flatMap rowW).toArray w.drew := by
    have := run_loadCells_list (P := Try.prog) w.drew ⟨g, 0, none⟩ ((l.take i).flatMap rowW) (fun j u hu => by
      rw [addr_pl, Nat.zero_add, (blk_drew hB).cell, List.getElem?_toArray]
      rw [← htk, List.getElem?_take] at hu
      split at hu
      · exact hu
      · cases hu)
    rw [ho] at this
    unfold Builtin.firstCells
    rw [hz1]; exact this
  have hcn := cap_next l.length
  have hr := fun ty => Lib.run_append_grow_zeros (P := Try.prog) w 41 3 ty 35 i0 (.agg #[.int .i64 0, .slice none 0 0, .int .i64 0]) .i64 .i64 Try.underlying41 Try.underlying3 hi0 hz0 (some ⟨g, 0, none⟩) i cap ((l.take i).flatMap rowW) hold k (by omega) (by omega) (by omega) (by omega) (by rw [hz2]; omega) (by rw [hz2, hik, hce]; omega)
  rw [hik] at hr
  refine ⟨_, _, ((l.take i).flatMap rowW) ++ (Builtin.zeroCells (Value.agg #[.int .i64 0, .slice none 0 0, .int .i64 0]).cells k).toList ++ (Builtin.zeroCells (Value.agg #[.int .i64 0, .slice none 0 0, .int .i64 0]).cells (grownCap w (l.length + 1) cap 35 - (l.length + 1))).toList, fun ty => by rw [hki]; exact hr ty, ?_, ?_, ?_, ?_, ?_, ?_⟩
  · have := Blk.new w.drew 35 (((l.take i).flatMap rowW).toArray ++ Builtin.zeroCells (Value.agg #[.int .i64 0, .slice none 0 0, .int .i64 0]).cells k ++ Builtin.zeroCells (Value.agg #[.int .i64 0, .slice none 0 0, .int .i64 0]).cells (grownCap w (l.length + 1) cap 35 - (l.length + 1)))
    have e : ∀ (A : List Value) (B C : Array Value), (A ++ B.toList ++ C.toList).toArray = A.toArray ++ B ++ C := fun A B C => by simp
    rw [e]
    exact this
  · have hge := grownCap_ge w (l.length + 1) cap 35
    simp only [List.length_append, Array.length_toList, size_zeroCells, ho]
    show i * 3 + k * 3 + (grownCap w (l.length + 1) cap 35 - (l.length + 1)) * 3 = _
    rw [← Nat.add_mul, ← Nat.add_mul]
    congr 1; omega
  · rw [List.append_assoc, List.take_append_of_le_length (by omega), List.take_of_length_le (by omega)]
  · exact grownCap_ge w (l.length + 1) cap 35
  · exact grownCap_le_maxLen w (l.length + 1) cap 35 (by unfold maxLen; omega)
  · exact (below_drew (Below.refl _ w)).trans (ba w.drew _)
set_option maxRecDepth 20000 in
set_option maxHeartbeats 1000000 in
theorem Insert_grow (b g x cap : Nat) (l : List Wy) (y : Wy) (i : Nat) (w : World) (h : Own w b 35 3 rowW (.slice (some ⟨g, 0, none⟩) l.length cap) l) (hi : i < l.length) (hx : Blk w x 35 (rowW y).toArray) (hxg : x ≠ g) (hl : l.length ≤ 1000) (hroom : cap < l.length + 1) :
    Calls Try.prog 31 #[.slice (some ⟨g, 0, none⟩) l.length cap, .int .i64 (i : Int), .slice (some ⟨x, 0, none⟩) 1 1] w (InsP b g (l.take i ++ y :: l.drop i) w) := by
  obtain ⟨i0, hi0, hz0, hz1, hz2⟩ := info_parts (P := Try.prog) (e := 35) (z := .agg #[.int .i64 0, .slice none 0 0, .int .i64 0]) (size := 3) (bytes := 40) (by kernel_rfl)
  obtain ⟨C, w1, cur, hap, hB1, hcl, htk, hC1, hC2, hb1⟩ := grow_zeros b g cap l i w h hi hl hroom
  obtain ⟨cur0, hB0, hlen, ht, _, hb, hc, hm⟩ := own_row h
  have hce : cap = l.length := by omega
  subst hce
  have hml : l.length ≤ 9223372036854775807 := by omega
  have hgx : g < w.heap.size := hB0.lt
  have q1 : ¬ (i : Int) = (l.length : Int) := by omega
  have q2 : ¬ i = l.length := by omega
  have q3 : ¬ C = i := by omega
  have q4 : ¬ C = i + 1 := by omega
  have q5 : i ≤ l.length + 1 := by omega
  have q7 : ¬ l.length = i := by omega
  have q8 : i ≤ l.length := by omega
  have q9 : (l.length : Int) < (l.length : Int) + 1 := by omega
  have hbb1 : (0 : Int) ≤ (i : Int) + 1 := by omega
  have htn : ((i : Int) + 1).toNat = i + 1 := by omega
  have hb3 : (i : Int) ≤ (l.length : Int) + 1 := by omega
  have hb5 : (i : Int) + 1 ≤ (l.length : Int) + 1 := by omega
  have hb6 : (i : Int) ≤ (l.length : Int) := by omega
  obtain ⟨cs, hcs⟩ : ∃ cs, cs = (l.drop i).flatMap rowW := ⟨_, rfl⟩
  have z1 : cs.length = Nat.min (l.length - i) (l.length - i) * 3 := by
    rw [hcs, flat_len (f := rowW) (k := 3) (fun _ => rfl), List.length_drop]
    congr 1
    simp only [Nat.min_def]; split <;> omega
  have z2 : ∀ j v, cs[j]? = some v → w.cell? ((⟨g, i * 3, none⟩ : Addr).add j) = some v := by rw [hcs]; exact row_from (f := rowW) (k := 3) (fun _ => rfl) hB0 ht rfl i q8
  have z3 : cs.length = (l.length - i) * 3 := by rw [hcs, flat_len (f := rowW) (k := 3) (fun _ => rfl), List.length_drop]
  have z4 : ∀ v ∈ cs, v.oneCell' = true := by rw [hcs]; exact one_flat _
  have z6 := ins_list (f := rowW) (k := 3) (fun _ => rfl) cur l y i C hi hcl hC1 htk
  rw [← hcs] at z6
  have z7 : i * 3 + (rowW y).length ≤ cur.length := by show i * 3 + 3 ≤ cur.length; omega
  have z8 : (i + 1) * 3 + cs.length ≤ (splice cur (i * 3) (rowW y)).length := by rw [length_splice _ _ _ z7]; omega
  have hmin : (rowW y).length = Nat.min 1 (l.length + 1 - i) * 3 := by
    show 3 = _
    have : Nat.min 1 (l.length + 1 - i) = 1 := by simp only [Nat.min_def]; split <;> omega
    rw [this]
  have hx1 : ∀ j v, (rowW y)[j]? = some v → w1.cell? ((⟨x, 0, none⟩ : Addr).add j) = some v := fun j v hj => by rw [addr_pl, Nat.zero_add, (hx.later hb1).cell]; simpa using hj
  have hsz : g ≠ w.heap.size := by omega
  have hcB := hC2
  unfold maxLen at hcB
  have hcc : C ≤ 9223372036854775807 := by omega
  have hbsz : b ≤ w.heap.size := by omega
  have hw1 : IntKind.i64.wrap ((i : Int) + 1) = (i : Int) + 1 := IntWalk.i64_in _ (by omega)
  have hw2 : IntKind.i64.wrap ((l.length : Int) + 1 - (i : Int)) = (l.length : Int) + 1 - (i : Int) := IntWalk.i64_in _ (by omega)
  have H := Lib.hid (And.intro hB1 (And.intro hb1 (And.intro z1 (And.intro z2 (And.intro z3 (And.intro z4 (And.intro z6 (And.intro z7 (And.intro z8 (And.intro hmin (And.intro hx1 (And.intro hC2 (And.intro hsz hbsz)))))))))))))
  clear hB1 hb1 z1 z2 z3 z4 z6 z7 z8 hmin hx1 hcl htk hcs hlen ht hb hm hx h hB0 hC2 hsz hgx hbsz hcB
  go_enter Try.func31, Try.ntmps31
  go_wp2_with (first
    | (at_builtin; refine Lib.wpList_append_run _ rfl (.tmp 34) (.tmp 39) 41 3 rfl _ _ rfl rfl _ _ (hap _) ?_; clear hap)
    | (refine wpList_copyK rfl (.tmp 43) (.tmp 44) 41 41 rfl 35 i0 3 Try.underlying41 hi0 hz1 w.heap.size (i * 3) (l.length + 1 - i) (C - i) ⟨x, 0, none⟩ 1 1 rfl rfl _ 35 H.out.1 (rowW y) H.out.2.2.2.2.2.2.2.2.2.1 H.out.2.2.2.2.2.2.2.2.2.2.1 H.out.2.2.2.2.2.2.2.1 (one_rowW y) ?_; intro w2 hB2 hg2; have Z := Lib.hid (And.intro hB2 hg2); clear hB2 hg2))
  go_still_tail 8, (by kernel_rfl)
  have bw2 : Below w.heap.size w w2 := below_some H.out.2.1 Z.out.2 H.out.2.1.size (Nat.le_refl _)
  have hs2 : ∀ j v, cs[j]? = some v → w2.drew.cell? ((⟨g, i * 3, none⟩ : Addr).add j) = some v := fun j v hj => by
    have h0 := H.out.2.2.2.1 j v hj
    have := bw2.cell (World.block_lt_of_cell? w _ h0)
    exact this.trans h0
  have Y := Lib.hid (And.intro hs2 bw2); clear hs2 bw2
  go_wp2_with (refine wpList_copyK rfl (.tmp 50) (.tmp 53) 41 41 rfl 35 i0 3 Try.underlying41 hi0 hz1 w.heap.size ((i + 1) * 3) (l.length - i) (C - (i + 1)) ⟨g, i * 3, none⟩ (l.length - i) (l.length - i) rfl rfl _ 35 (blk_drew Z.out.1) cs H.out.2.2.1 Y.out.1 H.out.2.2.2.2.2.2.2.2.1 H.out.2.2.2.2.2.1 ?_; intro w3 hB3 hg3; have Z3 := Lib.hid (And.intro hB3 hg3); clear hB3 hg3)
  go_ret
  unfold InsP
  have bw3 : Below w.heap.size w w3 := below_some (below_drew Y.out.2) Z3.out.2 Y.out.2.size (Nat.le_refl _)
  exact ⟨_, ⟨rfl, own_of (f := rowW) (k := 3) (fun _ => rfl) Z3.out.1 H.out.2.2.2.2.2.2.1.2.2.1 H.out.2.2.2.2.2.2.1.2.2.2 (by rw [List.length_append, List.length_cons, List.length_take, List.length_drop]; omega) H.out.2.2.2.2.2.2.2.2.2.2.2.2.2 hC1 H.out.2.2.2.2.2.2.2.2.2.2.2.1, fun x hx => Or.inr (Nat.le_of_eq (by simpa [Value.ownBlock] using hx))⟩, ⟨bw3.os, bw3.tape, bw3.output, bw3.size, fun k hk _ => bw3.block k hk⟩⟩
theorem Insert_any (b g x cap : Nat) (l : List Wy) (y : Wy) (i : Nat) (w : World) (h : Own w b 35 3 rowW (.slice (some ⟨g, 0, none⟩) l.length cap) l) (hi : i < l.length) (hx : Blk w x 35 (rowW y).toArray) (hxg : x ≠ g) (hl : l.length ≤ 1000) :
    Calls Try.prog 31 #[.slice (some ⟨g, 0, none⟩) l.length cap, .int .i64 (i : Int), .slice (some ⟨x, 0, none⟩) 1 1] w (InsP b g (l.take i ++ y :: l.drop i) w) := by
  by_cases hr : l.length + 1 ≤ cap
  · exact Insert_room b g x cap l y i w h hi hx hxg hl hr
  · exact Insert_grow b g x cap l y i w h hi hx hxg hl (by omega)
end Go.Proofs.Yticjfhagpmlieaa
