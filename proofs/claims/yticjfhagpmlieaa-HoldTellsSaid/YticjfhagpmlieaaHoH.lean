/- Waits that are held: slices.Insert. -/
import Derived.Test.YticjfhagpmlieaaHoG
namespace Go.Proofs.Yticjfhagpmlieaa
open Go.ChangeShapes Go.WideShapes Go.ChangeAt Go.RowKit
set_option linter.unusedVariables false
set_option linter.unusedSimpArgs false

theorem ins_list {α : Type} {f : α → List Value} {k : Nat} (hf : ∀ x, (f x).length = k) (cur : List Value) (l : List α) (x : α) (i cap : Nat) (hi : i < l.length) (hc : cur.length = cap * k) (hcap : l.length + 1 ≤ cap) (ht : cur.take (i * k) = (l.take i).flatMap f) :
    (splice (splice cur ((i + 1) * k) ((l.drop i).flatMap f)) (i * k) (f x)).length = cap * k ∧ (splice (splice cur ((i + 1) * k) ((l.drop i).flatMap f)) (i * k) (f x)).take ((l.length + 1) * k) = (l.take i ++ x :: l.drop i).flatMap f ∧
    (splice (splice cur (i * k) (f x)) ((i + 1) * k) ((l.drop i).flatMap f)).length = cap * k ∧ (splice (splice cur (i * k) (f x)) ((i + 1) * k) ((l.drop i).flatMap f)).take ((l.length + 1) * k) = (l.take i ++ x :: l.drop i).flatMap f := by
  have hd : ((l.drop i).flatMap f).length = (l.length - i) * k := by rw [flat_len hf, List.length_drop]
  have e1 : (i + 1) * k = i * k + k := Nat.succ_mul i k
  have e2 : (i + 1) * k + (l.length - i) * k = (l.length + 1) * k := by rw [← Nat.add_mul]; congr 1; omega
  have e3 : (l.length + 1) * k ≤ cap * k := Nat.mul_le_mul_right _ hcap
  have hx := hf x
  have l1 : (splice cur ((i + 1) * k) ((l.drop i).flatMap f)).length = cap * k := by rw [length_splice _ _ _ (by omega), hc]
  have l2 : (splice cur (i * k) (f x)).length = cap * k := by rw [length_splice _ _ _ (by omega), hc]
  have hT : (l.take i ++ x :: l.drop i).flatMap f = (l.take i).flatMap f ++ (f x ++ (l.drop i).flatMap f) := by rw [List.flatMap_append, List.flatMap_cons]
  refine ⟨by rw [length_splice _ _ _ (by omega), l1], ?_, by rw [length_splice _ _ _ (by omega), l2], ?_⟩
  · rw [hT]
    unfold splice
    rw [hx]
    have t1 : (cur.take ((i + 1) * k) ++ ((l.drop i).flatMap f ++ cur.drop ((i + 1) * k + ((l.drop i).flatMap f).length))).take (i * k) = (l.take i).flatMap f := by
      rw [List.take_append_of_le_length (by rw [List.length_take]; omega), List.take_take, Nat.min_eq_left (by omega), ht]
    have t2 : (cur.take ((i + 1) * k) ++ ((l.drop i).flatMap f ++ cur.drop ((i + 1) * k + ((l.drop i).flatMap f).length))).drop (i * k + k) = (l.drop i).flatMap f ++ cur.drop ((i + 1) * k + ((l.drop i).flatMap f).length) := by
      rw [← e1]
      rw [List.drop_append_of_le_length (by rw [List.length_take]; omega), List.drop_of_length_le (by rw [List.length_take]; omega), List.nil_append]
    rw [t1, t2, ← List.append_assoc, ← List.append_assoc, List.take_append_of_le_length, List.take_of_length_le, List.append_assoc]
    all_goals
      simp only [List.length_append, hd, hx, flat_len hf, List.length_take]
      rw [Nat.min_eq_left (by omega)]
      omega
  · rw [hT, ← e2, ← hd, splice_take_all _ _ _ (by omega)]
    have : (splice cur (i * k) (f x)).take ((i + 1) * k) = (l.take i).flatMap f ++ f x := by
      have h9 := splice_take_all cur (i * k) (f x) (by omega)
      rw [hx] at h9
      rw [e1, h9, ht]
    rw [this, List.append_assoc]
def InsP (b : Nat) (g : Nat) (l : List Wy) (w : World) (e : Ending) (w' : World) : Prop := ∃ v', (e = .returned v' ∧ Own w' b 35 3 rowW v' l ∧ ∀ x, v'.ownBlock = some x → x = g ∨ w.heap.size ≤ x) ∧ w.grownBy w' (some g)
set_option maxRecDepth 20000 in
set_option maxHeartbeats 1000000 in
theorem Insert_room (b g x cap : Nat) (l : List Wy) (y : Wy) (i : Nat) (w : World) (h : Own w b 35 3 rowW (.slice (some ⟨g, 0, none⟩) l.length cap) l) (hi : i < l.length) (hx : Blk w x 35 (rowW y).toArray) (hxg : x ≠ g) (hl : l.length ≤ 1000) (hroom : l.length + 1 ≤ cap) :
    Calls Try.prog 31 #[.slice (some ⟨g, 0, none⟩) l.length cap, .int .i64 (i : Int), .slice (some ⟨x, 0, none⟩) 1 1] w (InsP b g (l.take i ++ y :: l.drop i) w) := by
  obtain ⟨i0, hi0, hz0, hz1, hz2⟩ := info_parts (P := Try.prog) (e := 35) (z := .agg #[.int .i64 0, .slice none 0 0, .int .i64 0]) (size := 3) (bytes := 40) (by kernel_rfl)
  obtain ⟨cur, hB, hlen, ht, _, hb, hc, hm⟩ := own_row h
  have hm2 : cap ≤ 9223372036854775807 := by unfold maxLen at hm; omega
  have hml : l.length ≤ 9223372036854775807 := by omega
  have hov : ∀ lb cb, (callFunc 40 #[.slice (some ⟨x, 0, none⟩) 1 1, .slice (some ⟨g, (i + 1) * 3, none⟩) lb cb]).run Try.prog w = .ok (.value (.bool false)) w := fun lb cb => by
    rw [run_callFunc_extern Try.func40 (by kernel_rfl) (by kernel_rfl) (by kernel_rfl) (e := Extern.SlicesOverlaps.overlaps #[41, 41] #[4]) (by kernel_rfl),
      Lib.run_overlaps_apart (P := Try.prog) w 41 4 35 Try.underlying41 3 (fun w => by kernel_rfl) ⟨x, 0, none⟩ ⟨g, (i + 1) * 3, none⟩ 1 1 lb cb hxg 35 35 3 (cap * 3) (by unfold World.shape?; rw [hx]; rfl) (by unfold World.shape?; rw [hB]; simp [hlen]) (by omega) (hx.frozen 0) (hx.frozen 3)]
    rfl
  have q1 : ¬ (i : Int) = (l.length : Int) := by omega
  have q2 : ¬ i = l.length := by omega
  have q3 : l.length + 1 ≤ cap := hroom
  have q4 : i + 1 ≤ l.length + 1 := by omega
  have q5 : i ≤ l.length + 1 := by omega
  have q6 : ¬ cap = i + 1 := by omega
  have q7 : ¬ cap = i := by omega
  have q8 : i ≤ l.length := by omega
  have q9 : ¬ (cap : Int) < (l.length : Int) + 1 := by omega
  have hb1 : (0 : Int) ≤ (i : Int) + 1 := by omega
  have htn : ((i : Int) + 1).toNat = i + 1 := by omega
  have hb3 : (i : Int) ≤ (l.length : Int) + 1 := by omega
  have hb5 : (i : Int) + 1 ≤ (l.length : Int) + 1 := by omega
  have hb6 : (i : Int) ≤ (l.length : Int) := by omega
  have hw1 : IntKind.i64.wrap ((i : Int) + 1) = (i : Int) + 1 := IntWalk.i64_in _ (by omega)
  have H := Lib.hid (And.intro hB (And.intro hlen (And.intro ht (And.intro hb (And.intro hm hx))))); clear hB hlen ht hb hm hx h
  go_enter Try.func31, Try.ntmps31
  go_wp2_with (simp only [hov])
  go_still_tail 8, (by kernel_rfl)
  obtain ⟨cs, hcs⟩ : ∃ cs, cs = (l.drop i).flatMap rowW := ⟨_, rfl⟩
  have z1 : cs.length = Nat.min (l.length + 1 - i) (l.length - i) * 3 := by
    rw [hcs, flat_len (f := rowW) (k := 3) (fun _ => rfl), List.length_drop]
    congr 1
    simp only [Nat.min_def]; split <;> omega
  have z2 : ∀ j v, cs[j]? = some v → w.drew.cell? ((⟨g, i * 3, none⟩ : Addr).add j) = some v := by rw [hcs]; exact row_from (f := rowW) (k := 3) (fun _ => rfl) H.out.1 H.out.2.2.1 rfl i q8
  have z3 : cs.length = (l.length - i) * 3 := by rw [hcs, flat_len (f := rowW) (k := 3) (fun _ => rfl), List.length_drop]
  have z4 : ∀ v ∈ cs, v.oneCell' = true := by rw [hcs]; exact one_flat _
  have z5 : cur.take (i * 3) = (l.take i).flatMap rowW := by
    have := H.out.2.2.1
    rw [← flat_take (f := rowW) (k := 3) (fun _ => rfl) l i q8, ← this, List.take_take, Nat.min_eq_left (Nat.mul_le_mul_right _ q8)]
  have z6 := ins_list (f := rowW) (k := 3) (fun _ => rfl) cur l y i cap hi H.out.2.1 q3 z5
  rw [← hcs] at z6
  have hcl := H.out.2.1
  have z7 : (i + 1) * 3 + cs.length ≤ cur.length := by omega
  have z8 : i * 3 + (rowW y).length ≤ (splice cur ((i + 1) * 3) cs).length := by rw [length_splice _ _ _ z7]; show i * 3 + 3 ≤ cur.length; omega
  have M := Lib.hid (And.intro z1 (And.intro z2 (And.intro z3 (And.intro z4 (And.intro z6 (And.intro z7 z8)))))); clear z1 z2 z3 z4 z5 z6 z7 z8 hcs hcl
  have hmin : (rowW y).length = Nat.min 1 (l.length + 1 - i) * 3 := by
    show 3 = _
    have : Nat.min 1 (l.length + 1 - i) = 1 := by simp only [Nat.min_def]; split <;> omega
    rw [this]
  have Y := Lib.hid hmin; clear hmin
  go_wp2_with (first
    | (refine wpList_copyK rfl (.tmp 73) (.tmp 76) 41 41 rfl 35 i0 3 Try.underlying41 hi0 hz1 g ((i + 1) * 3) (l.length - i) (cap - (i + 1)) ⟨g, i * 3, none⟩ (l.length + 1 - i) (cap - i) rfl rfl cur 35 (blk_drew H.out.1) cs M.out.1 M.out.2.1 M.out.2.2.2.2.2.1 M.out.2.2.2.1 ?_; intro w1 hB1 hg1; have hx1 : Blk w1 x 35 (rowW y).toArray := (blk_drew H.out.2.2.2.2.2).grown hg1 (by simpa using hxg); have hx2 : ∀ j v, (rowW y)[j]? = some v → w1.cell? ((⟨x, 0, none⟩ : Addr).add j) = some v := (fun j v hj => by rw [addr_pl, Nat.zero_add, hx1.cell]; simpa using hj); have Z := Lib.hid (And.intro hB1 (And.intro hg1 hx2)); clear hB1 hg1 hx1 hx2)
    | (refine wpList_copyK rfl (.tmp 80) (.tmp 81) 41 41 rfl 35 i0 3 Try.underlying41 hi0 hz1 g (i * 3) (l.length + 1 - i) (cap - i) ⟨x, 0, none⟩ 1 1 rfl rfl _ 35 Z.out.1 (rowW y) Y.out Z.out.2.2 M.out.2.2.2.2.2.2 (one_rowW y) ?_; intro w2 hB2 hg2; have Z2 := Lib.hid (And.intro hB2 hg2); clear hB2 hg2))
  go_ret
  unfold InsP
  have hgg : w.grownBy w2 (some g) := World.grownBy.trans ⟨Z.out.2.1.os, Z.out.2.1.tape, Z.out.2.1.output, Z.out.2.1.size, Z.out.2.1.block⟩ Z2.out.2
  exact ⟨_, ⟨rfl, own_of (f := rowW) (k := 3) (fun _ => rfl) Z2.out.1 M.out.2.2.2.2.1.1 M.out.2.2.2.2.1.2.1 (by rw [List.length_append, List.length_cons, List.length_take, List.length_drop]; omega) H.out.2.2.2.1 q3 H.out.2.2.2.2.1, fun x hx => Or.inl (by simpa [Value.ownBlock] using hx.symm)⟩, hgg⟩
end Go.Proofs.Yticjfhagpmlieaa
