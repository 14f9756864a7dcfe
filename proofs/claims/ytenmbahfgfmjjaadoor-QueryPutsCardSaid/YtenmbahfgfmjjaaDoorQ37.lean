/- Texts that several proofs stand on, part 37. -/
import Derived.Test.YtenmbahfgfmjjaaDoorQ27
import Derived.Test.YtenmbahfgfmjjaaDoorQ36
namespace Go.Proofs.YtenmbahfgfmjjaaDoor
open Go.ChangeShapes Go.WideShapes Go.ChangeAt Go.RowKit Go.Maps
set_option linter.unusedVariables false
set_option linter.unusedSimpArgs false

open Classical in
noncomputable def eqB {α : Type} (a b : α) : Bool := decide (a = b)
theorem eqB_iff {α : Type} {a b : α} : eqB a b = true ↔ a = b := by unfold eqB; simp
theorem eqB_true {α : Type} {a b : α} (h : a = b) : eqB a b = true := eqB_iff.2 h
theorem eqB_false {α : Type} {a b : α} (h : ¬ a = b) : eqB a b = false := by
  cases hb : eqB a b with
  | false => rfl
  | true => exact absurd (eqB_iff.1 hb) h
theorem map_ne {α β : Type} {f : α → β} {r s : List α} {i : Nat} (hi : i < r.length) (hs : i < s.length) (h : ¬ f (r[i]'hi) = f (s[i]'hs)) : ¬ r.map f = s.map f := fun e => by
  have h1 : (r.map f)[i]'(by simpa using hi) = (s.map f)[i]'(by simpa using hs) := by simp only [e]
  rw [List.getElem_map, List.getElem_map] at h1
  exact h h1
theorem map_eq {α β : Type} {f : α → β} {r s : List α} (hl : r.length = s.length) (h : ∀ j (hj : j < r.length) (hs : j < s.length), f (r[j]'hj) = f (s[j]'hs)) : r.map f = s.map f := by
  apply List.ext_getElem (by simpa using hl)
  intro i h1 h2
  rw [List.getElem_map, List.getElem_map]
  exact h i (by simpa using h1) (by simpa using h2)
theorem sl_isSl (s : SV) : isSl (sl s) := ⟨_, _, _, rfl⟩
set_option maxRecDepth 20000 in
set_option maxHeartbeats 4000000 in
theorem equalE (v v' : Value) (r s : List (Tr × Value)) (w : World) (h : At w 8 exF v r) (h' : At w 8 exF v' s) (hn : r.length ≤ 1000000) (hn' : s.length ≤ 1000000) (hK : ∀ x ∈ r, isSl x.2) (hK2 : ∀ x ∈ s, isSl x.2)
    (hF : ∀ x ∈ r, ∀ y ∈ s, ∀ W, Below w.heap.size w W → Calls Tryd.prog 53 #[exV x, exV y] W fun e w' => e = .returned (.bool (eqB x.1 y.1)) ∧ Below W.heap.size W w') :
    Calls Tryd.prog 52 #[v, v', .func (.func 53) #[] #[]] w fun e w' => e = .returned (.bool (eqB (r.map (·.1)) (s.map (·.1)))) ∧ Below w.heap.size w w' := by
  obtain ⟨A, c, rfl, a1, a2, _⟩ := h.shape
  obtain ⟨B, d, rfl, b1, b2, _⟩ := h'.shape
  obtain ⟨n, hnl⟩ : ∃ n, n = r.length := ⟨_, rfl⟩
  obtain ⟨m, hml⟩ : ∃ m, m = s.length := ⟨_, rfl⟩
  rw [← hnl] at h hn ⊢
  rw [← hml] at h' hn' ⊢
  have H := Lib.hid (And.intro h (And.intro h' (And.intro hnl (And.intro hml (And.intro hF (And.intro hK hK2)))))); clear h h' hnl hml hF a1 b1 hK hK2
  go_enter Tryd.func52, Tryd.ntmps52
  by_cases hnm : n = m
  · subst hnm
    go_wp2_with fail
    go_loopw [17] (fun iv wr => ∃ i : Nat, i ≤ n ∧ iv = .int .i64 (i : Int) ∧ (∀ j (hj : j < r.length) (hs : j < s.length), j < i → (r[j]'hj).1 = (s[j]'hs).1) ∧ Below w.heap.size w wr) (fun iv _ => n - (intOf iv).toNat)
    case atStart => exact ⟨0, Nat.zero_le _, rfl, fun j hj hs h => by omega, Below.refl _ _⟩
    case round =>
    rename World => wr
    obtain ⟨i, hi, rfl, hno, hb⟩ := hrel
    by_cases hlt : i < n
    · have hir : i < r.length := by have := H.out.2.2.1; omega
      have his : i < s.length := by have := H.out.2.2.2.1; omega
      obtain ⟨a, rfl, hca⟩ := (H.out.1.later hb).cells rfl (by have := H.out.2.2.1; omega)
      obtain ⟨b, rfl, hcb⟩ := (H.out.2.1.later hb).cells rfl (by have := H.out.2.2.2.1; omega)
      obtain ⟨e0, e1, e2, e3, e4, e5, e6, e7⟩ := hca.row8 i hir rfl
      have hfB := fun W (hW : Below wr.heap.size wr W) => (hcb.later hW).row8 i his rfl
      have hC := H.out.2.2.2.2.1 _ (List.getElem_mem hir) _ (List.getElem_mem his)
      have hsl := H.out.2.2.2.2.2.1 _ (List.getElem_mem hir)
      have hslY := H.out.2.2.2.2.2.2 _ (List.getElem_mem his)
      have hne : ¬ (r[i]'hir).1 = (s[i]'his).1 → ¬ r.map (·.1) = s.map (·.1) := fun h => map_ne hir his h
      have hst : (r[i]'hir).1 = (s[i]'his).1 → ∀ j (hj : j < r.length) (hs : j < s.length), j < i + 1 → (r[j]'hj).1 = (s[j]'hs).1 := fun h j hj hs h2 => by
        rcases (by omega : j < i ∨ j = i) with h3 | rfl
        · exact hno j hj hs h3
        · exact h
      generalize r[i]'hir = x at *
      generalize s[i]'his = y at *
      obtain ⟨eqb, heqb⟩ : ∃ eqb, eqb = eqB x.1 y.1 := ⟨_, rfl⟩
      have heq1 : eqb = true → x.1 = y.1 := fun h => eqB_iff.1 (by rw [← heqb]; exact h)
      have heq2 : eqb = false → ¬ x.1 = y.1 := fun h => fun e => by rw [eqB_true e] at heqb; rw [heqb] at h; cases h
      rw [← heqb] at hC
      obtain ⟨t, K⟩ := x
      obtain ⟨A8, n8, c8, rfl⟩ := hsl
      obtain ⟨k1, op, vk, vn, vs, va, vf, B8, m8, d8, hval, hnode⟩ := Tr.val_ev' t A8 n8 c8
      obtain ⟨tY, KY⟩ := y
      obtain ⟨A8Y, n8Y, c8Y, rfl⟩ := hslY
      obtain ⟨k1Y, opY, vkY, vnY, vsY, vaY, vfY, B8Y, m8Y, d8Y, hvalY, hnodeY⟩ := Tr.val_ev' tY A8Y n8Y c8Y
      simp only [exF, hnode] at e0 e1 e2 e3 e4 e5 e6 e7
      obtain ⟨f0, f1, f2, f3, f4, f5, f6, f7⟩ := hfB _ (ba wr (.cells #[.int .i64 k1, .string op, .int .i64 vk, .int .i64 vn, .string vs, .string va, .string vf, .slice B8 m8 d8] 42))
      simp only [exF, hnodeY] at f0 f1 f2 f3 f4 f5 f6 f7
      clear hfB
      simp only [exV, hval, hvalY] at hC
      have bA := bt (ba wr (.cells #[.int .i64 k1, .string op, .int .i64 vk, .int .i64 vn, .string vs, .string va, .string vf, .slice B8 m8 d8] 42)) (ba (wr.alloc (.cells #[.int .i64 k1, .string op, .int .i64 vk, .int .i64 vn, .string vs, .string va, .string vf, .slice B8 m8 d8] 42)) (.cells #[.int .i64 k1Y, .string opY, .int .i64 vkY, .int .i64 vnY, .string vsY, .string vaY, .string vfY, .slice B8Y m8Y d8Y] 42))
      have U := Lib.hid (And.intro (hC _ (bt hb bA)) (And.intro (fun h => hne (heq2 h)) (And.intro (fun h => hst (heq1 h)) (bt hb bA)))); clear hC hne hst hno hb hca hcb bA heqb heq1 heq2
      go_wp2_with fail
      try go_at_call 53
      refine U.out.1.mono ?_
      rintro e w5 ⟨rfl, b5⟩
      have V := Lib.hid (bt U.out.2.2.2 b5); clear b5
      cases eqb with
      | true =>
        go_wp2_with fail
        go_roundw
        case rel => exact ⟨i + 1, by omega, by go_num, U.out.2.2.1 (by first | rfl | trivial), V.out⟩
        case measure => simp [intOf]; omega
      | false =>
        have HY := Lib.hid (eqB_false (U.out.2.1 (by first | rfl | trivial)))
        go_wp2_with fail
        go_ret
        refine ⟨?_, V.out⟩
        rw [HY.out]; rfl
    · obtain rfl : i = n := by omega
      have hall : eqB (r.map (·.1)) (s.map (·.1)) = true := eqB_true (map_eq (by rw [← H.out.2.2.1, ← H.out.2.2.2.1]) (fun j hj hs => hno j hj hs (by rw [H.out.2.2.1]; exact hj)))
      have U := Lib.hid (And.intro hall hb); clear hall hno hb
      go_wp2_with fail
      go_ret
      refine ⟨?_, U.out.2⟩
      rw [U.out.1]; rfl
  · have hnmI : ¬ (n : Int) = (m : Int) := by omega
    have hnmb : ((n : Int) == (m : Int)) = false := by simpa using hnmI
    have hnmd : decide (n = m) = false := decide_eq_false hnm
    have hno : eqB (r.map (·.1)) (s.map (·.1)) = false := eqB_false (fun e => hnm (by
      have := congrArg List.length e
      rw [List.length_map, List.length_map] at this
      rw [H.out.2.2.1, H.out.2.2.2.1]; exact this))
    have U := Lib.hid hno; clear hno
    go_wp2_with fail
    go_ret
    refine ⟨?_, Below.refl _ _⟩
    rw [U.out]; rfl
set_option maxRecDepth 20000 in
set_option maxHeartbeats 4000000 in
theorem equalO (v v' : Value) (r s : List (Ox)) (w : World) (h : At w 9 otF v r) (h' : At w 9 otF v' s) (hn : r.length ≤ 1000000) (hn' : s.length ≤ 1000000) (hK : ∀ x ∈ r, isSl x.2) (hK2 : ∀ x ∈ s, isSl x.2)
    (hF : ∀ x ∈ r, ∀ y ∈ s, ∀ W, Below w.heap.size w W → Calls Tryd.prog 30 #[otV x, otV y] W fun e w' => e = .returned (.bool (eqB x.1 y.1)) ∧ Below W.heap.size W w') :
    Calls Tryd.prog 29 #[v, v', .func (.func 30) #[] #[]] w fun e w' => e = .returned (.bool (eqB (r.map (·.1)) (s.map (·.1)))) ∧ Below w.heap.size w w' := by
  obtain ⟨A, c, rfl, a1, a2, _⟩ := h.shape
  obtain ⟨B, d, rfl, b1, b2, _⟩ := h'.shape
  obtain ⟨n, hnl⟩ : ∃ n, n = r.length := ⟨_, rfl⟩
  obtain ⟨m, hml⟩ : ∃ m, m = s.length := ⟨_, rfl⟩
  rw [← hnl] at h hn ⊢
  rw [← hml] at h' hn' ⊢
  have H := Lib.hid (And.intro h (And.intro h' (And.intro hnl (And.intro hml (And.intro hF (And.intro hK hK2)))))); clear h h' hnl hml hF a1 b1 hK hK2
  go_enter Tryd.func29, Tryd.ntmps29
  by_cases hnm : n = m
  · subst hnm
    go_wp2_with fail
    go_loopw [17] (fun iv wr => ∃ i : Nat, i ≤ n ∧ iv = .int .i64 (i : Int) ∧ (∀ j (hj : j < r.length) (hs : j < s.length), j < i → (r[j]'hj).1 = (s[j]'hs).1) ∧ Below w.heap.size w wr) (fun iv _ => n - (intOf iv).toNat)
    case atStart => exact ⟨0, Nat.zero_le _, rfl, fun j hj hs h => by omega, Below.refl _ _⟩
    case round =>
    rename World => wr
    obtain ⟨i, hi, rfl, hno, hb⟩ := hrel
    by_cases hlt : i < n
    · have hir : i < r.length := by have := H.out.2.2.1; omega
      have his : i < s.length := by have := H.out.2.2.2.1; omega
      obtain ⟨a, rfl, hca⟩ := (H.out.1.later hb).cells rfl (by have := H.out.2.2.1; omega)
      obtain ⟨b, rfl, hcb⟩ := (H.out.2.1.later hb).cells rfl (by have := H.out.2.2.2.1; omega)
      obtain ⟨e0, e1, e2, e3, e4, e5, e6, e7, e8⟩ := hca.row9 i hir rfl
      have hfB := fun W (hW : Below wr.heap.size wr W) => (hcb.later hW).row9 i his rfl
      have hC := H.out.2.2.2.2.1 _ (List.getElem_mem hir) _ (List.getElem_mem his)
      have hsl := H.out.2.2.2.2.2.1 _ (List.getElem_mem hir)
      have hslY := H.out.2.2.2.2.2.2 _ (List.getElem_mem his)
      have hne : ¬ (r[i]'hir).1 = (s[i]'his).1 → ¬ r.map (·.1) = s.map (·.1) := fun h => map_ne hir his h
      have hst : (r[i]'hir).1 = (s[i]'his).1 → ∀ j (hj : j < r.length) (hs : j < s.length), j < i + 1 → (r[j]'hj).1 = (s[j]'hs).1 := fun h j hj hs h2 => by
        rcases (by omega : j < i ∨ j = i) with h3 | rfl
        · exact hno j hj hs h3
        · exact h
      generalize r[i]'hir = x at *
      generalize s[i]'his = y at *
      obtain ⟨eqb, heqb⟩ : ∃ eqb, eqb = eqB x.1 y.1 := ⟨_, rfl⟩
      have heq1 : eqb = true → x.1 = y.1 := fun h => eqB_iff.1 (by rw [← heqb]; exact h)
      have heq2 : eqb = false → ¬ x.1 = y.1 := fun h => fun e => by rw [eqB_true e] at heqb; rw [heqb] at h; cases h
      rw [← heqb] at hC
      obtain ⟨⟨fl, t⟩, K⟩ := x
      obtain ⟨A8, n8, c8, rfl⟩ := hsl
      obtain ⟨k1, op, vk, vn, vs, va, vf, B8, m8, d8, hval, hnode⟩ := Tr.val_ev' t A8 n8 c8
      obtain ⟨⟨flY, tY⟩, KY⟩ := y
      obtain ⟨A8Y, n8Y, c8Y, rfl⟩ := hslY
      obtain ⟨k1Y, opY, vkY, vnY, vsY, vaY, vfY, B8Y, m8Y, d8Y, hvalY, hnodeY⟩ := Tr.val_ev' tY A8Y n8Y c8Y
      simp only [otF, exF, hnode] at e0 e1 e2 e3 e4 e5 e6 e7 e8
      obtain ⟨f0, f1, f2, f3, f4, f5, f6, f7, f8⟩ := hfB _ (ba wr (.cells #[.string fl, .int .i64 k1, .string op, .int .i64 vk, .int .i64 vn, .string vs, .string va, .string vf, .slice B8 m8 d8] 45))
      simp only [otF, exF, hnodeY] at f0 f1 f2 f3 f4 f5 f6 f7 f8
      clear hfB
      simp only [otV, hnode, hnodeY] at hC
      have bA := bt (ba wr (.cells #[.string fl, .int .i64 k1, .string op, .int .i64 vk, .int .i64 vn, .string vs, .string va, .string vf, .slice B8 m8 d8] 45)) (ba (wr.alloc (.cells #[.string fl, .int .i64 k1, .string op, .int .i64 vk, .int .i64 vn, .string vs, .string va, .string vf, .slice B8 m8 d8] 45)) (.cells #[.string flY, .int .i64 k1Y, .string opY, .int .i64 vkY, .int .i64 vnY, .string vsY, .string vaY, .string vfY, .slice B8Y m8Y d8Y] 45))
      have U := Lib.hid (And.intro (hC _ (bt hb bA)) (And.intro (fun h => hne (heq2 h)) (And.intro (fun h => hst (heq1 h)) (bt hb bA)))); clear hC hne hst hno hb hca hcb bA heqb heq1 heq2
      go_wp2_with fail
      try go_at_call 30
      refine U.out.1.mono ?_
      rintro e w5 ⟨rfl, b5⟩
      have V := Lib.hid (bt U.out.2.2.2 b5); clear b5
      cases eqb with
      | true =>
        go_wp2_with fail
        go_roundw
        case rel => exact ⟨i + 1, by omega, by go_num, U.out.2.2.1 (by first | rfl | trivial), V.out⟩
        case measure => simp [intOf]; omega
      | false =>
        have HY := Lib.hid (eqB_false (U.out.2.1 (by first | rfl | trivial)))
        go_wp2_with fail
        go_ret
        refine ⟨?_, V.out⟩
        rw [HY.out]; rfl
    · obtain rfl : i = n := by omega
      have hall : eqB (r.map (·.1)) (s.map (·.1)) = true := eqB_true (map_eq (by rw [← H.out.2.2.1, ← H.out.2.2.2.1]) (fun j hj hs => hno j hj hs (by rw [H.out.2.2.1]; exact hj)))
      have U := Lib.hid (And.intro hall hb); clear hall hno hb
      go_wp2_with fail
      go_ret
      refine ⟨?_, U.out.2⟩
      rw [U.out.1]; rfl
  · have hnmI : ¬ (n : Int) = (m : Int) := by omega
    have hnmb : ((n : Int) == (m : Int)) = false := by simpa using hnmI
    have hnmd : decide (n = m) = false := decide_eq_false hnm
    have hno : eqB (r.map (·.1)) (s.map (·.1)) = false := eqB_false (fun e => hnm (by
      have := congrArg List.length e
      rw [List.length_map, List.length_map] at this
      rw [H.out.2.2.1, H.out.2.2.2.1]; exact this))
    have U := Lib.hid hno; clear hno
    go_wp2_with fail
    go_ret
    refine ⟨?_, Below.refl _ _⟩
    rw [U.out]; rfl
set_option maxRecDepth 20000 in
set_option maxHeartbeats 4000000 in
theorem equalP (v v' : Value) (r s : List (Px)) (w : World) (h : At w 5 ptF v r) (h' : At w 5 ptF v' s) (hn : r.length ≤ 1000000) (hn' : s.length ≤ 1000000)
    (hF : ∀ x ∈ r, ∀ y ∈ s, ∀ W, Below w.heap.size w W → Calls Tryd.prog 28 #[ptV x, ptV y] W fun e w' => e = .returned (.bool (eqB x.1 y.1)) ∧ Below W.heap.size W w') :
    Calls Tryd.prog 27 #[v, v', .func (.func 28) #[] #[]] w fun e w' => e = .returned (.bool (eqB (r.map (·.1)) (s.map (·.1)))) ∧ Below w.heap.size w w' := by
  obtain ⟨A, c, rfl, a1, a2, _⟩ := h.shape
  obtain ⟨B, d, rfl, b1, b2, _⟩ := h'.shape
  obtain ⟨n, hnl⟩ : ∃ n, n = r.length := ⟨_, rfl⟩
  obtain ⟨m, hml⟩ : ∃ m, m = s.length := ⟨_, rfl⟩
  rw [← hnl] at h hn ⊢
  rw [← hml] at h' hn' ⊢
  have H := Lib.hid (And.intro h (And.intro h' (And.intro hnl (And.intro hml hF)))); clear h h' hnl hml hF a1 b1
  go_enter Tryd.func27, Tryd.ntmps27
  by_cases hnm : n = m
  · subst hnm
    go_wp2_with fail
    go_loopw [17] (fun iv wr => ∃ i : Nat, i ≤ n ∧ iv = .int .i64 (i : Int) ∧ (∀ j (hj : j < r.length) (hs : j < s.length), j < i → (r[j]'hj).1 = (s[j]'hs).1) ∧ Below w.heap.size w wr) (fun iv _ => n - (intOf iv).toNat)
    case atStart => exact ⟨0, Nat.zero_le _, rfl, fun j hj hs h => by omega, Below.refl _ _⟩
    case round =>
    rename World => wr
    obtain ⟨i, hi, rfl, hno, hb⟩ := hrel
    by_cases hlt : i < n
    · have hir : i < r.length := by have := H.out.2.2.1; omega
      have his : i < s.length := by have := H.out.2.2.2.1; omega
      obtain ⟨a, rfl, hca⟩ := (H.out.1.later hb).cells rfl (by have := H.out.2.2.1; omega)
      obtain ⟨b, rfl, hcb⟩ := (H.out.2.1.later hb).cells rfl (by have := H.out.2.2.2.1; omega)
      obtain ⟨e0, e1, e2, e3, e4⟩ := hca.row5 i hir rfl
      have hfB := fun W (hW : Below wr.heap.size wr W) => (hcb.later hW).row5 i his rfl
      have hC := H.out.2.2.2.2 _ (List.getElem_mem hir) _ (List.getElem_mem his)
      
      
      have hne : ¬ (r[i]'hir).1 = (s[i]'his).1 → ¬ r.map (·.1) = s.map (·.1) := fun h => map_ne hir his h
      have hst : (r[i]'hir).1 = (s[i]'his).1 → ∀ j (hj : j < r.length) (hs : j < s.length), j < i + 1 → (r[j]'hj).1 = (s[j]'hs).1 := fun h j hj hs h2 => by
        rcases (by omega : j < i ∨ j = i) with h3 | rfl
        · exact hno j hj hs h3
        · exact h
      generalize r[i]'hir = x at *
      generalize s[i]'his = y at *
      obtain ⟨eqb, heqb⟩ : ∃ eqb, eqb = eqB x.1 y.1 := ⟨_, rfl⟩
      have heq1 : eqb = true → x.1 = y.1 := fun h => eqB_iff.1 (by rw [← heqb]; exact h)
      have heq2 : eqb = false → ¬ x.1 = y.1 := fun h => fun e => by rw [eqB_true e] at heqb; rw [heqb] at h; cases h
      rw [← heqb] at hC
      obtain ⟨⟨nt, pl, ss, v, pd⟩, ⟨sA, sn, sc⟩, ⟨dA, dn, dc⟩⟩ := x
      obtain ⟨⟨ntY, plY, ssY, vY, pdY⟩, ⟨sAY, snY, scY⟩, ⟨dAY, dnY, dcY⟩⟩ := y
      simp only at e0 e1 e2 e3 e4
      change wr.cell? ⟨(a.add (i * 5)).block, (a.add (i * 5)).off + 2, none⟩ = some (.slice sA sn sc) at e2
      change wr.cell? ⟨(a.add (i * 5)).block, (a.add (i * 5)).off + 4, none⟩ = some (.slice dA dn dc) at e4
      obtain ⟨f0, f1, f2, f3, f4⟩ := hfB _ (ba wr (.cells #[.bool nt, .bool pl, .slice sA sn sc, .string v, .slice dA dn dc] 37))
      simp only at f0 f1 f2 f3 f4
      change (wr.alloc (.cells #[.bool nt, .bool pl, .slice sA sn sc, .string v, .slice dA dn dc] 37)).cell? ⟨(b.add (i * 5)).block, (b.add (i * 5)).off + 2, none⟩ = some (.slice sAY snY scY) at f2
      change (wr.alloc (.cells #[.bool nt, .bool pl, .slice sA sn sc, .string v, .slice dA dn dc] 37)).cell? ⟨(b.add (i * 5)).block, (b.add (i * 5)).off + 4, none⟩ = some (.slice dAY dnY dcY) at f4
      clear hfB
      
      have bA := bt (ba wr (.cells #[.bool nt, .bool pl, .slice sA sn sc, .string v, .slice dA dn dc] 37)) (ba (wr.alloc (.cells #[.bool nt, .bool pl, .slice sA sn sc, .string v, .slice dA dn dc] 37)) (.cells #[.bool ntY, .bool plY, .slice sAY snY scY, .string vY, .slice dAY dnY dcY] 37))
      have U := Lib.hid (And.intro (hC _ (bt hb bA)) (And.intro (fun h => hne (heq2 h)) (And.intro (fun h => hst (heq1 h)) (bt hb bA)))); clear hC hne hst hno hb hca hcb bA heqb heq1 heq2
      go_wp2_with fail
      try go_at_call 28
      refine U.out.1.mono ?_
      rintro e w5 ⟨rfl, b5⟩
      have V := Lib.hid (bt U.out.2.2.2 b5); clear b5
      cases eqb with
      | true =>
        go_wp2_with fail
        go_roundw
        case rel => exact ⟨i + 1, by omega, by go_num, U.out.2.2.1 (by first | rfl | trivial), V.out⟩
        case measure => simp [intOf]; omega
      | false =>
        have HY := Lib.hid (eqB_false (U.out.2.1 (by first | rfl | trivial)))
        go_wp2_with fail
        go_ret
        refine ⟨?_, V.out⟩
        rw [HY.out]; rfl
    · obtain rfl : i = n := by omega
      have hall : eqB (r.map (·.1)) (s.map (·.1)) = true := eqB_true (map_eq (by rw [← H.out.2.2.1, ← H.out.2.2.2.1]) (fun j hj hs => hno j hj hs (by rw [H.out.2.2.1]; exact hj)))
      have U := Lib.hid (And.intro hall hb); clear hall hno hb
      go_wp2_with fail
      go_ret
      refine ⟨?_, U.out.2⟩
      rw [U.out.1]; rfl
  · have hnmI : ¬ (n : Int) = (m : Int) := by omega
    have hnmb : ((n : Int) == (m : Int)) = false := by simpa using hnmI
    have hnmd : decide (n = m) = false := decide_eq_false hnm
    have hno : eqB (r.map (·.1)) (s.map (·.1)) = false := eqB_false (fun e => hnm (by
      have := congrArg List.length e
      rw [List.length_map, List.length_map] at this
      rw [H.out.2.2.1, H.out.2.2.2.1]; exact this))
    have U := Lib.hid hno; clear hno
    go_wp2_with fail
    go_ret
    refine ⟨?_, Below.refl _ _⟩
    rw [U.out]; rfl
set_option maxHeartbeats 2000000 in
theorem equalS (v v' : Value) (r s : List ByteArray) (w : World) (h : At w 1 scV v r) (h' : At w 1 scV v' s) (hn : r.length ≤ 1000000) (hn' : s.length ≤ 1000000) :
    Calls Tryd.prog 51 #[v, v'] w fun e w' => e = .returned (.bool (eqB r s)) ∧ Below w.heap.size w w' := by
  obtain ⟨A, c, rfl, a1, a2, _⟩ := h.shape
  obtain ⟨B, d, rfl, b1, b2, _⟩ := h'.shape
  obtain ⟨n, hnl⟩ : ∃ n, n = r.length := ⟨_, rfl⟩
  obtain ⟨m, hml⟩ : ∃ m, m = s.length := ⟨_, rfl⟩
  rw [← hnl] at h hn ⊢
  rw [← hml] at h' hn' ⊢
  have H := Lib.hid (And.intro h (And.intro h' (And.intro hnl hml))); clear h h' hnl hml a1 b1
  go_enter Tryd.func51, Tryd.ntmps51
  by_cases hnm : n = m
  · subst hnm
    go_wp2_with fail
    go_loopw [13] (fun iv wr => ∃ i : Nat, i ≤ n ∧ iv = .int .i64 (i : Int) ∧ (∀ j (hj : j < r.length) (hs : j < s.length), j < i → r[j]'hj = s[j]'hs) ∧ Below w.heap.size w wr) (fun iv _ => n - (intOf iv).toNat)
    case atStart => exact ⟨0, Nat.zero_le _, rfl, fun j hj hs h => by omega, Below.refl _ _⟩
    case round =>
    rename World => wr
    obtain ⟨i, hi, rfl, hno, hb⟩ := hrel
    by_cases hlt : i < n
    · have hir : i < r.length := by have := H.out.2.2.1; omega
      have his : i < s.length := by have := H.out.2.2.2; omega
      have hltI : (i : Int) < (n : Int) := by omega
      obtain ⟨a, rfl, hca⟩ := (H.out.1.later hb).cells rfl (by have := H.out.2.2.1; omega)
      obtain ⟨b, rfl, hcb⟩ := (H.out.2.1.later hb).cells rfl (by have := H.out.2.2.2; omega)
      have e0 := hca.row1 i hir rfl
      have f0 := hcb.row1 i his rfl
      rw [Nat.mul_one] at e0 f0
      have hne : ¬ r[i]'hir = s[i]'his → ¬ r = s := fun h e => h (by simp only [e])
      have hst : r[i]'hir = s[i]'his → ∀ j (hj : j < r.length) (hs : j < s.length), j < i + 1 → r[j]'hj = s[j]'hs := fun h j hj hs h2 => by
        rcases (by omega : j < i ∨ j = i) with h3 | rfl
        · exact hno j hj hs h3
        · exact h
      generalize r[i]'hir = x at *
      generalize s[i]'his = y at *
      by_cases hxy : x = y
      · have U := Lib.hid (And.intro (hst hxy) hb); clear hne hst hno hb hca hcb
        subst hxy
        go_wp2_with fail
        go_quiet (fail)
        go_wp2
        go_roundw
        case rel => exact ⟨i + 1, by omega, by go_num, U.out.1, below_drewN U.out.2 _⟩
        case measure => simp [intOf]; omega
      · have hxl : ¬ x.toList = y.toList := fun h => hxy (toList_inj h)
        have hxb : (x.toList == y.toList) = false := by simpa using hxl
        have U := Lib.hid (And.intro (eqB_false (hne hxy)) hb); clear hne hst hno hb hca hcb hxy
        go_wp2_with fail
        go_quiet (fail)
        go_wp2
        go_ret
        refine ⟨?_, below_drewN U.out.2 _⟩
        rw [U.out.1]; rfl
    · obtain rfl : i = n := by omega
      have hall : eqB r s = true := eqB_true (List.ext_getElem (by rw [← H.out.2.2.1, ← H.out.2.2.2]) (fun j hj hs => hno j hj hs (by rw [H.out.2.2.1]; exact hj)))
      have U := Lib.hid (And.intro hall hb); clear hall hno hb
      go_wp2_with fail
      go_ret
      refine ⟨?_, U.out.2⟩
      rw [U.out.1]; rfl
  · have hnmI : ¬ (n : Int) = (m : Int) := by omega
    have hnmb : ((n : Int) == (m : Int)) = false := by simpa using hnmI
    have hnmd : decide (n = m) = false := decide_eq_false hnm
    have hno : eqB r s = false := eqB_false (fun e => hnm (by rw [H.out.2.2.1, H.out.2.2.2, e]))
    have U := Lib.hid hno; clear hno
    go_wp2_with fail
    go_ret
    refine ⟨?_, Below.refl _ _⟩
    rw [U.out]; rfl

theorem pt_eq {a b : Pt} : a = b ↔ a.nt = b.nt ∧ a.pl = b.pl ∧ a.v = b.v ∧ a.ss = b.ss ∧ a.pd = b.pd := by
  cases a; cases b; simp only [Pt.mk.injEq]
  constructor
  · rintro ⟨h1, h2, h3, h4, h5⟩; exact ⟨h1, h2, h4, h3, h5⟩
  · rintro ⟨h1, h2, h3, h4, h5⟩; exact ⟨h1, h2, h4, h3, h5⟩
theorem exSame {v v' : Value} {l l' : List Tr} {w : World} (h : ExsAt w v l) (h' : ExsAt w v' l') (hn : l.length ≤ 1000000) (hn' : l'.length ≤ 1000000) :
    Calls Tryd.prog 52 #[v, v', .func (.func 53) #[] #[]] w fun e w' => e = .returned (.bool (eqB l l')) ∧ Below w.heap.size w w' := by
  obtain ⟨r, h1, h2, h3⟩ := h
  obtain ⟨s, g1, g2, g3⟩ := h'
  have hr : r.length = l.length := by rw [← h2, List.length_map]
  have hs : s.length = l'.length := by rw [← g2, List.length_map]
  have := equalE v v' r s w h1 g1 (by omega) (by omega) (exs_sl h3) (exs_sl g3) (fun x hx y hy W hW => (Same_tr w x.1 y.1 x.2 y.2 (h3 x hx) (g3 y hy) W hW).mono (fun e w' ⟨he, hb⟩ => ⟨by
    rw [he]
    congr 2
    rw [Bool.eq_iff_iff, sameT_iff, eqB_iff], hb⟩))
  rw [h2, g2] at this
  exact this
set_option maxRecDepth 20000 in
set_option maxHeartbeats 4000000 in
theorem PtSame_any (x y : Px) (w : World) (h : PxAt w x) (h' : PxAt w y) (a1 : x.1.ss.length ≤ 1000000) (a2 : x.1.pd.length ≤ 1000000) (a3 : y.1.ss.length ≤ 1000000) (a4 : y.1.pd.length ≤ 1000000) :
    Calls Tryd.prog 28 #[ptV x, ptV y] w fun e w' => e = .returned (.bool (eqB x.1 y.1)) ∧ Below w.heap.size w w' := by
  have cS := fun W (hW : Below w.heap.size w W) => equalS _ _ _ _ W (h.1.later hW) (h'.1.later hW) a1 a3
  have cP := fun W (hW : Below w.heap.size w W) => exSame (h.2.1.later hW) (h'.2.1.later hW) a2 a4
  have hpe := pt_eq (a := x.1) (b := y.1)
  obtain ⟨⟨nt, pl, ss, v, pd⟩, ⟨sA, sn, sc⟩, ⟨dA, dn, dc⟩⟩ := x
  obtain ⟨⟨ntY, plY, ssY, vY, pdY⟩, ⟨sAY, snY, scY⟩, ⟨dAY, dnY, dcY⟩⟩ := y
  simp only at cS cP hpe
  have b0 := bt (ba w (.cells #[.bool nt, .bool pl, .slice sA sn sc, .string v, .slice dA dn dc] 37)) (ba (w.alloc (.cells #[.bool nt, .bool pl, .slice sA sn sc, .string v, .slice dA dn dc] 37)) (.cells #[.bool ntY, .bool plY, .slice sAY snY scY, .string vY, .slice dAY dnY dcY] 37))
  have hB1 := (Blk.new w 37 #[.bool nt, .bool pl, .slice sA sn sc, .string v, .slice dA dn dc]).later (ba (w.alloc (.cells #[.bool nt, .bool pl, .slice sA sn sc, .string v, .slice dA dn dc] 37)) (.cells #[.bool ntY, .bool plY, .slice sAY snY scY, .string vY, .slice dAY dnY dcY] 37))
  have hB2 := Blk.new (w.alloc (.cells #[.bool nt, .bool pl, .slice sA sn sc, .string v, .slice dA dn dc] 37)) 37 #[.bool ntY, .bool plY, .slice sAY snY scY, .string vY, .slice dAY dnY dcY]
  rw [World.size_alloc] at hB2
  have H := Lib.hid (And.intro cS (And.intro cP (And.intro hpe (And.intro b0 (And.intro hB1 hB2))))); clear cS cP hpe b0 hB1 hB2 h h' a1 a2 a3 a4
  go_enter Tryd.func28, Tryd.ntmps28
  by_cases h1 : nt = ntY
  · subst h1
    by_cases h2 : pl = plY
    · subst h2
      by_cases h3 : v = vY
      · subst h3
        have hbb1 : (nt == nt) = true := by simp
        have hbb2 : (pl == pl) = true := by simp
        have hbb3 : (v.toList == v.toList) = true := by simp
        go_wp2_with fail
        refine (H.out.1 _ H.out.2.2.2.1).mono ?_
        rintro e w5 ⟨rfl, b5⟩
        have p5 := (H.out.2.2.2.2.1.later b5).cell
        have q5 := (H.out.2.2.2.2.2.later b5).cell
        have B5 := Lib.hid (bt H.out.2.2.2.1 b5); clear b5
        by_cases h4 : ss = ssY
        · subst h4
          rw [show eqB ss ss = true from eqB_true rfl]
          go_wp2_with fail
          clear p5 q5
          refine (H.out.2.1 _ B5.out).mono ?_
          rintro e w6 ⟨rfl, b6⟩
          have B6 := Lib.hid (bt B5.out b6); clear b6
          have HE := Lib.hid (show eqB (⟨nt, pl, ss, v, pd⟩ : Pt) ⟨nt, pl, ss, v, pdY⟩ = eqB pd pdY by
            rw [Bool.eq_iff_iff, eqB_iff, eqB_iff, H.out.2.2.1]; simp)
          go_wp2_with fail
          go_ret
          refine ⟨?_, B6.out⟩
          rw [HE.out]; rfl
        · rw [show eqB ss ssY = false from eqB_false h4]
          have HE := Lib.hid (show eqB (⟨nt, pl, ss, v, pd⟩ : Pt) ⟨nt, pl, ssY, v, pdY⟩ = false from eqB_false (fun e => h4 (H.out.2.2.1.1 e).2.2.2.1))
          clear h4
          go_wp2_with fail
          go_ret
          refine ⟨?_, B5.out⟩
          rw [HE.out]; rfl
      · have hxl : ¬ v.toList = vY.toList := fun h => h3 (toList_inj h)
        have hxb : (v.toList == vY.toList) = false := by simpa using hxl
        have hbb1 : (nt == nt) = true := by simp
        have hbb2 : (pl == pl) = true := by simp
        have HE := Lib.hid (show eqB (⟨nt, pl, ss, v, pd⟩ : Pt) ⟨nt, pl, ssY, vY, pdY⟩ = false from eqB_false (fun e => h3 (H.out.2.2.1.1 e).2.2.1))
        clear h3
        go_wp2_with fail
        go_ret
        refine ⟨?_, H.out.2.2.2.1⟩
        rw [HE.out]; rfl
    · have hbb1 : (nt == nt) = true := by simp
      have hbb2 : (pl == plY) = false := by simpa using h2
      have HE := Lib.hid (show eqB (⟨nt, pl, ss, v, pd⟩ : Pt) ⟨nt, plY, ssY, vY, pdY⟩ = false from eqB_false (fun e => h2 (H.out.2.2.1.1 e).2.1))
      go_wp2_with fail
      go_ret
      refine ⟨?_, H.out.2.2.2.1⟩
      rw [HE.out]; rfl
  · have hbb1 : (nt == ntY) = false := by simpa using h1
    have HE := Lib.hid (show eqB (⟨nt, pl, ss, v, pd⟩ : Pt) ⟨ntY, plY, ssY, vY, pdY⟩ = false from eqB_false (fun e => h1 (H.out.2.2.1.1 e).1))
    go_wp2_with fail
    go_ret
    refine ⟨?_, H.out.2.2.2.1⟩
    rw [HE.out]; rfl
set_option maxRecDepth 20000 in
set_option maxHeartbeats 4000000 in
theorem OtSame_any (x y : Ox) (w : World) (h : TrAt w x.1.e x.2) (h' : TrAt w y.1.e y.2) :
    Calls Tryd.prog 30 #[otV x, otV y] w fun e w' => e = .returned (.bool (eqB x.1 y.1)) ∧ Below w.heap.size w w' := by
  obtain ⟨⟨fl, t⟩, K⟩ := x
  obtain ⟨⟨flY, tY⟩, KY⟩ := y
  obtain ⟨A8, n8, c8, rfl⟩ := h.sl
  obtain ⟨A8Y, n8Y, c8Y, rfl⟩ := h'.sl
  obtain ⟨k1, op, vk, vn, vs, va, vf, B8, m8, d8, hval, hnode⟩ := Tr.val_ev' t A8 n8 c8
  obtain ⟨k1Y, opY, vkY, vnY, vsY, vaY, vfY, B8Y, m8Y, d8Y, hvalY, hnodeY⟩ := Tr.val_ev' tY A8Y n8Y c8Y
  have cS := Same_tr w t tY _ _ h h'
  simp only [hval, hvalY] at cS
  simp only [otV, hnode, hnodeY]
  have b0 := bt (ba w (.cells #[.string fl, .int .i64 k1, .string op, .int .i64 vk, .int .i64 vn, .string vs, .string va, .string vf, .slice B8 m8 d8] 45)) (ba (w.alloc (.cells #[.string fl, .int .i64 k1, .string op, .int .i64 vk, .int .i64 vn, .string vs, .string va, .string vf, .slice B8 m8 d8] 45)) (.cells #[.string flY, .int .i64 k1Y, .string opY, .int .i64 vkY, .int .i64 vnY, .string vsY, .string vaY, .string vfY, .slice B8Y m8Y d8Y] 45))
  have H := Lib.hid (And.intro cS b0); clear cS b0
  go_enter Tryd.func30, Tryd.ntmps30
  by_cases h1 : fl = flY
  · subst h1
    have hbb3 : (fl.toList == fl.toList) = true := by simp
    go_wp2_with fail
    refine (H.out.1 _ H.out.2).mono ?_
    rintro e w5 ⟨rfl, b5⟩
    have B5 := Lib.hid (bt H.out.2 b5); clear b5
    have HE := Lib.hid (show eqB (⟨fl, t⟩ : Ot) ⟨fl, tY⟩ = sameT t tY by
      rw [Bool.eq_iff_iff, sameT_iff, eqB_iff]; simp)
    go_wp2_with fail
    go_ret
    refine ⟨?_, B5.out⟩
    rw [HE.out]; rfl
  · have hxl : ¬ fl.toList = flY.toList := fun h => h1 (toList_inj h)
    have hxb : (fl.toList == flY.toList) = false := by simpa using hxl
    have HE := Lib.hid (show eqB (⟨fl, t⟩ : Ot) ⟨flY, tY⟩ = false from eqB_false (fun e => h1 (by simp at e; exact e.1)))
    clear h1
    go_wp2_with fail
    go_ret
    refine ⟨?_, H.out.2⟩
    rw [HE.out]; rfl
end Go.Proofs.YtenmbahfgfmjjaaDoor
