/- Layer 9: functions over rows of Parts, of expressions, of Outputs. -/
import Derived.Test.YtkmboffbohndjaaQyG
import Derived.Test.YtkmboffbohndjaaTreeR
namespace Go.Proofs.Ytkmboffbohndjaa
open Go.ChangeShapes Go.WideShapes Go.ChangeAt Go.RowKit Go.Maps
set_option linter.unusedVariables false
set_option linter.unusedSimpArgs false

abbrev ptV (x : Px) : Value := .agg #[.bool x.1.nt, .bool x.1.pl, sl x.2.1, .string x.1.v, sl x.2.2]
abbrev exV (x : Tr × Value) : Value := x.1.val x.2
abbrev otV (x : Ox) : Value := .agg #[.string x.1.f, .int .i64 (x.1.e.node x.2).1, .string (x.1.e.node x.2).2.1, .int .i64 (x.1.e.node x.2).2.2.1, .int .i64 (x.1.e.node x.2).2.2.2.1, .string (x.1.e.node x.2).2.2.2.2.1, .string (x.1.e.node x.2).2.2.2.2.2.1, .string (x.1.e.node x.2).2.2.2.2.2.2.1, (x.1.e.node x.2).2.2.2.2.2.2.2]
def isSl (v : Value) : Prop := ∃ A n c, v = .slice A n c
theorem Tr.val_ev' (t : Tr) (A : Option Addr) (n c : Nat) :
    ∃ k op vk vn vs va f A' n' c', t.val (.slice A n c) = ev k op vk vn vs va f (.slice A' n' c') ∧ t.node (.slice A n c) = (k, op, vk, vn, vs, va, f, .slice A' n' c') := by
  cases t <;> exact ⟨_, _, _, _, _, _, _, _, _, _, rfl, rfl⟩
theorem CellsOf.row8 {α : Type} {w : World} {k : Nat} {f : α → List Value} {l : List α} {a : Addr} (h : CellsOf w k f a l) (j : Nat) (hj : j < l.length) {x0 x1 x2 x3 x4 x5 x6 x7 : Value} (hx : f (l[j]'hj) = [x0, x1, x2, x3, x4, x5, x6, x7]) : w.cell? (a.add (j * k)) = some x0 ∧ w.cell? ⟨(a.add (j * k)).block, (a.add (j * k)).off + 1, none⟩ = some x1 ∧ w.cell? ⟨(a.add (j * k)).block, (a.add (j * k)).off + 2, none⟩ = some x2 ∧ w.cell? ⟨(a.add (j * k)).block, (a.add (j * k)).off + 3, none⟩ = some x3 ∧ w.cell? ⟨(a.add (j * k)).block, (a.add (j * k)).off + 4, none⟩ = some x4 ∧ w.cell? ⟨(a.add (j * k)).block, (a.add (j * k)).off + 5, none⟩ = some x5 ∧ w.cell? ⟨(a.add (j * k)).block, (a.add (j * k)).off + 6, none⟩ = some x6 ∧ w.cell? ⟨(a.add (j * k)).block, (a.add (j * k)).off + 7, none⟩ = some x7 :=
  ⟨h j hj 0 x0 (by rw [hx]; rfl), by rw [addr_in _ _ _ (by omega)]; exact h j hj 1 x1 (by rw [hx]; rfl), by rw [addr_in _ _ _ (by omega)]; exact h j hj 2 x2 (by rw [hx]; rfl), by rw [addr_in _ _ _ (by omega)]; exact h j hj 3 x3 (by rw [hx]; rfl), by rw [addr_in _ _ _ (by omega)]; exact h j hj 4 x4 (by rw [hx]; rfl), by rw [addr_in _ _ _ (by omega)]; exact h j hj 5 x5 (by rw [hx]; rfl), by rw [addr_in _ _ _ (by omega)]; exact h j hj 6 x6 (by rw [hx]; rfl), by rw [addr_in _ _ _ (by omega)]; exact h j hj 7 x7 (by rw [hx]; rfl)⟩
theorem CellsOf.row9 {α : Type} {w : World} {k : Nat} {f : α → List Value} {l : List α} {a : Addr} (h : CellsOf w k f a l) (j : Nat) (hj : j < l.length) {x0 x1 x2 x3 x4 x5 x6 x7 x8 : Value} (hx : f (l[j]'hj) = [x0, x1, x2, x3, x4, x5, x6, x7, x8]) : w.cell? (a.add (j * k)) = some x0 ∧ w.cell? ⟨(a.add (j * k)).block, (a.add (j * k)).off + 1, none⟩ = some x1 ∧ w.cell? ⟨(a.add (j * k)).block, (a.add (j * k)).off + 2, none⟩ = some x2 ∧ w.cell? ⟨(a.add (j * k)).block, (a.add (j * k)).off + 3, none⟩ = some x3 ∧ w.cell? ⟨(a.add (j * k)).block, (a.add (j * k)).off + 4, none⟩ = some x4 ∧ w.cell? ⟨(a.add (j * k)).block, (a.add (j * k)).off + 5, none⟩ = some x5 ∧ w.cell? ⟨(a.add (j * k)).block, (a.add (j * k)).off + 6, none⟩ = some x6 ∧ w.cell? ⟨(a.add (j * k)).block, (a.add (j * k)).off + 7, none⟩ = some x7 ∧ w.cell? ⟨(a.add (j * k)).block, (a.add (j * k)).off + 8, none⟩ = some x8 :=
  ⟨h j hj 0 x0 (by rw [hx]; rfl), by rw [addr_in _ _ _ (by omega)]; exact h j hj 1 x1 (by rw [hx]; rfl), by rw [addr_in _ _ _ (by omega)]; exact h j hj 2 x2 (by rw [hx]; rfl), by rw [addr_in _ _ _ (by omega)]; exact h j hj 3 x3 (by rw [hx]; rfl), by rw [addr_in _ _ _ (by omega)]; exact h j hj 4 x4 (by rw [hx]; rfl), by rw [addr_in _ _ _ (by omega)]; exact h j hj 5 x5 (by rw [hx]; rfl), by rw [addr_in _ _ _ (by omega)]; exact h j hj 6 x6 (by rw [hx]; rfl), by rw [addr_in _ _ _ (by omega)]; exact h j hj 7 x7 (by rw [hx]; rfl), by rw [addr_in _ _ _ (by omega)]; exact h j hj 8 x8 (by rw [hx]; rfl)⟩
set_option maxRecDepth 20000 in
set_option maxHeartbeats 2000000 in
theorem indexP_not (v : Value) (r : List (Px)) (p : Px → Bool) (w : World) (h : At w 5 ptF v r) (hn : r.length ≤ 1000000)
    (hF : ∀ x ∈ r, ∀ W, Below w.heap.size w W → Calls Try.prog 52 #[ptV x] W fun e w' => e = .returned (.bool (p x)) ∧ Below W.heap.size W w') :
    Calls Try.prog 64 #[v, .func (.func 52) #[] #[]] w fun e w' => (∃ k : Int, e = .returned (.int .i64 k) ∧ (0 ≤ k ↔ r.any p = true)) ∧ Below w.heap.size w w' := by
  obtain ⟨A, c, rfl, a1, a2, _⟩ := h.shape
  obtain ⟨n, hnl⟩ : ∃ n, n = r.length := ⟨_, rfl⟩
  rw [← hnl] at h hn ⊢
  have H := Lib.hid (And.intro h (And.intro hnl hF)); clear h hnl hF a1
  go_enter Try.func64, Try.ntmps64
  go_wp2_with fail
  go_loopw [8] (fun iv wr => ∃ i : Nat, i ≤ n ∧ iv = .int .i64 (i : Int) ∧ (∀ j (hj : j < r.length), j < i → p (r[j]'hj) = false) ∧ Below w.heap.size w wr) (fun iv _ => n - (intOf iv).toNat)
  case atStart => exact ⟨0, Nat.zero_le _, rfl, fun j hj h => by omega, Below.refl _ _⟩
  case round =>
    rename World => wr
    obtain ⟨i, hi, rfl, hno, hb⟩ := hrel
    by_cases hlt : i < n
    · have hir : i < r.length := by have := H.out.2.1; omega
      obtain ⟨a, rfl, hca⟩ := (H.out.1.later hb).cells rfl (by have := H.out.2.1; omega)
      obtain ⟨e0, e1, e2, e3, e4⟩ := hca.row5 i hir rfl
      have hC := H.out.2.2 _ (List.getElem_mem hir) wr hb
      
      have hmem := List.getElem_mem hir
      have hst : p (r[i]'hir) = false → ∀ j (hj : j < r.length), j < i + 1 → p (r[j]'hj) = false := fun h j hj h2 => by
        rcases (by omega : j < i ∨ j = i) with h3 | rfl
        · exact hno j hj h3
        · exact h
      have hyes : p (r[i]'hir) = true → r.any p = true := fun h => List.any_eq_true.2 ⟨_, hmem, h⟩
      generalize r[i]'hir = x at *
      obtain ⟨⟨nt, pl, ss, v, pd⟩, ⟨sA, sn, sc⟩, ⟨dA, dn, dc⟩⟩ := x
      simp only at e0 e1 e2 e3 e4
      change wr.cell? ⟨(a.add (i * 5)).block, (a.add (i * 5)).off + 2, none⟩ = some (.slice sA sn sc) at e2
      change wr.cell? ⟨(a.add (i * 5)).block, (a.add (i * 5)).off + 4, none⟩ = some (.slice dA dn dc) at e4
      generalize hpx : p (⟨nt, pl, ss, v, pd⟩, (sA, sn, sc), (dA, dn, dc)) = px at *
      have U := Lib.hid (And.intro hC (And.intro hst (And.intro hyes hb))); clear hC hst hyes hno hb hca hmem hpx
      go_wp2_with fail
      try go_at_call 52
      refine U.out.1.mono ?_
      rintro e w5 ⟨rfl, b5⟩
      have V := Lib.hid (bt U.out.2.2.2 b5); clear b5
      cases px with
      | true =>
        have HY := Lib.hid (U.out.2.2.1 (by first | rfl | trivial))
        go_wp2_with fail
        go_ret
        exact ⟨⟨_, rfl, fun _ => HY.out, fun _ => by omega⟩, V.out⟩
      | false =>
        go_wp2_with fail
        go_roundw
        case rel => exact ⟨i + 1, by omega, by go_num, U.out.2.1 (by first | rfl | trivial), V.out⟩
        case measure => simp [intOf]; omega
    · obtain rfl : i = n := by omega
      have hany : r.any p = false := by
        rw [List.any_eq_false]
        intro x hx
        obtain ⟨j, hj, rfl⟩ := List.getElem_of_mem hx
        rw [hno j hj (by have := H.out.2.1; omega)]
        decide
      have U := Lib.hid (And.intro hany hb); clear hany hno hb
      go_wp2_with fail
      go_ret
      exact ⟨⟨-1, rfl, by rw [U.out.1]; simp⟩, U.out.2⟩
set_option maxHeartbeats 1000000 in
theorem containsP_not (v : Value) (r : List (Px)) (p : Px → Bool) (w : World) (h : At w 5 ptF v r) (hn : r.length ≤ 1000000)
    (hF : ∀ x ∈ r, ∀ W, Below w.heap.size w W → Calls Try.prog 52 #[ptV x] W fun e w' => e = .returned (.bool (p x)) ∧ Below W.heap.size W w') :
    Calls Try.prog 51 #[v, .func (.func 52) #[] #[]] w fun e w' => e = .returned (.bool (r.any p)) ∧ Below w.heap.size w w' := by
  have cI := indexP_not v r p w h hn hF
  obtain ⟨A, c, rfl, a1, a2, _⟩ := h.shape
  obtain ⟨n, hnl⟩ : ∃ n, n = r.length := ⟨_, rfl⟩
  rw [← hnl] at cI ⊢
  have H := Lib.hid cI; clear cI h hF hnl a1
  go_enter Try.func51, Try.ntmps51
  go_wp2_with fail
  refine H.out.mono ?_
  rintro e w5 ⟨⟨k, rfl, hk⟩, b5⟩
  have e1 : decide (0 ≤ k) = r.any p := by rw [Bool.eq_iff_iff, decide_eq_true_iff]; exact hk
  have U := Lib.hid (And.intro e1 b5); clear e1 b5 hk
  go_wp2_with fail
  go_ret
  refine ⟨?_, U.out.2⟩
  rw [← U.out.1]
  rfl
set_option maxRecDepth 20000 in
set_option maxHeartbeats 2000000 in
theorem indexP_ev (pp : Nat) (v : Value) (r : List (Px)) (p : Px → Bool) (w : World) (h : At w 5 ptF v r) (hn : r.length ≤ 1000000)
    (hF : ∀ x ∈ r, ∀ W, Below w.heap.size w W → Calls Try.prog 65 #[ptV x, .pointer (some ⟨pp, 0, none⟩)] W fun e w' => e = .returned (.bool (p x)) ∧ Below W.heap.size W w') :
    Calls Try.prog 64 #[v, .func (.func 65) #[] #[.pointer (some ⟨pp, 0, none⟩)]] w fun e w' => (∃ k : Int, e = .returned (.int .i64 k) ∧ (0 ≤ k ↔ r.any p = true)) ∧ Below w.heap.size w w' := by
  obtain ⟨A, c, rfl, a1, a2, _⟩ := h.shape
  obtain ⟨n, hnl⟩ : ∃ n, n = r.length := ⟨_, rfl⟩
  rw [← hnl] at h hn ⊢
  have H := Lib.hid (And.intro h (And.intro hnl hF)); clear h hnl hF a1
  go_enter Try.func64, Try.ntmps64
  go_wp2_with fail
  go_loopw [8] (fun iv wr => ∃ i : Nat, i ≤ n ∧ iv = .int .i64 (i : Int) ∧ (∀ j (hj : j < r.length), j < i → p (r[j]'hj) = false) ∧ Below w.heap.size w wr) (fun iv _ => n - (intOf iv).toNat)
  case atStart => exact ⟨0, Nat.zero_le _, rfl, fun j hj h => by omega, Below.refl _ _⟩
  case round =>
    rename World => wr
    obtain ⟨i, hi, rfl, hno, hb⟩ := hrel
    by_cases hlt : i < n
    · have hir : i < r.length := by have := H.out.2.1; omega
      obtain ⟨a, rfl, hca⟩ := (H.out.1.later hb).cells rfl (by have := H.out.2.1; omega)
      obtain ⟨e0, e1, e2, e3, e4⟩ := hca.row5 i hir rfl
      have hC := H.out.2.2 _ (List.getElem_mem hir) wr hb
      
      have hmem := List.getElem_mem hir
      have hst : p (r[i]'hir) = false → ∀ j (hj : j < r.length), j < i + 1 → p (r[j]'hj) = false := fun h j hj h2 => by
        rcases (by omega : j < i ∨ j = i) with h3 | rfl
        · exact hno j hj h3
        · exact h
      have hyes : p (r[i]'hir) = true → r.any p = true := fun h => List.any_eq_true.2 ⟨_, hmem, h⟩
      generalize r[i]'hir = x at *
      obtain ⟨⟨nt, pl, ss, v, pd⟩, ⟨sA, sn, sc⟩, ⟨dA, dn, dc⟩⟩ := x
      simp only at e0 e1 e2 e3 e4
      change wr.cell? ⟨(a.add (i * 5)).block, (a.add (i * 5)).off + 2, none⟩ = some (.slice sA sn sc) at e2
      change wr.cell? ⟨(a.add (i * 5)).block, (a.add (i * 5)).off + 4, none⟩ = some (.slice dA dn dc) at e4
      generalize hpx : p (⟨nt, pl, ss, v, pd⟩, (sA, sn, sc), (dA, dn, dc)) = px at *
      have U := Lib.hid (And.intro hC (And.intro hst (And.intro hyes hb))); clear hC hst hyes hno hb hca hmem hpx
      go_wp2_with fail
      try go_at_call 65
      refine U.out.1.mono ?_
      rintro e w5 ⟨rfl, b5⟩
      have V := Lib.hid (bt U.out.2.2.2 b5); clear b5
      cases px with
      | true =>
        have HY := Lib.hid (U.out.2.2.1 (by first | rfl | trivial))
        go_wp2_with fail
        go_ret
        exact ⟨⟨_, rfl, fun _ => HY.out, fun _ => by omega⟩, V.out⟩
      | false =>
        go_wp2_with fail
        go_roundw
        case rel => exact ⟨i + 1, by omega, by go_num, U.out.2.1 (by first | rfl | trivial), V.out⟩
        case measure => simp [intOf]; omega
    · obtain rfl : i = n := by omega
      have hany : r.any p = false := by
        rw [List.any_eq_false]
        intro x hx
        obtain ⟨j, hj, rfl⟩ := List.getElem_of_mem hx
        rw [hno j hj (by have := H.out.2.1; omega)]
        decide
      have U := Lib.hid (And.intro hany hb); clear hany hno hb
      go_wp2_with fail
      go_ret
      exact ⟨⟨-1, rfl, by rw [U.out.1]; simp⟩, U.out.2⟩
set_option maxHeartbeats 1000000 in
theorem containsP_ev (pp : Nat) (v : Value) (r : List (Px)) (p : Px → Bool) (w : World) (h : At w 5 ptF v r) (hn : r.length ≤ 1000000)
    (hF : ∀ x ∈ r, ∀ W, Below w.heap.size w W → Calls Try.prog 65 #[ptV x, .pointer (some ⟨pp, 0, none⟩)] W fun e w' => e = .returned (.bool (p x)) ∧ Below W.heap.size W w') :
    Calls Try.prog 51 #[v, .func (.func 65) #[] #[.pointer (some ⟨pp, 0, none⟩)]] w fun e w' => e = .returned (.bool (r.any p)) ∧ Below w.heap.size w w' := by
  have cI := indexP_ev pp v r p w h hn hF
  obtain ⟨A, c, rfl, a1, a2, _⟩ := h.shape
  obtain ⟨n, hnl⟩ : ∃ n, n = r.length := ⟨_, rfl⟩
  rw [← hnl] at cI ⊢
  have H := Lib.hid cI; clear cI h hF hnl a1
  go_enter Try.func51, Try.ntmps51
  go_wp2_with fail
  refine H.out.mono ?_
  rintro e w5 ⟨⟨k, rfl, hk⟩, b5⟩
  have e1 : decide (0 ≤ k) = r.any p := by rw [Bool.eq_iff_iff, decide_eq_true_iff]; exact hk
  have U := Lib.hid (And.intro e1 b5); clear e1 b5 hk
  go_wp2_with fail
  go_ret
  refine ⟨?_, U.out.2⟩
  rw [← U.out.1]
  rfl
set_option maxRecDepth 20000 in
set_option maxHeartbeats 2000000 in
theorem everycP (pp : Nat) (x : Px) (b : Bool) (W : World) (hp : W.cell? ⟨pp, 0, none⟩ = some (.func (.func 54) #[] #[]))
    (hI : ∀ W', Below W.heap.size W W' → Calls Try.prog 54 #[ptV x] W' fun e w' => e = .returned (.bool b) ∧ Below W'.heap.size W' w') :
    Calls Try.prog 65 #[ptV x, .pointer (some ⟨pp, 0, none⟩)] W fun e w' => e = .returned (.bool (!b)) ∧ Below W.heap.size W w' := by
  obtain ⟨⟨nt, pl, ss, v, pd⟩, ⟨sA, sn, sc⟩, ⟨dA, dn, dc⟩⟩ := x
  have b0 := ba W (.cells #[.bool nt, .bool pl, .slice sA sn sc, .string v, .slice dA dn dc] 59)
  have hp0 := (b0.cell (World.block_lt_of_cell? W _ hp)).trans hp
  have hC := hI _ b0
  have H := Lib.hid (And.intro hC b0); clear hC b0 hI
  go_enter Try.func65, Try.ntmps65
  go_wp2_with fail
  refine H.out.1.mono ?_
  rintro e w5 ⟨rfl, b5⟩
  have V := Lib.hid (bt H.out.2 b5); clear b5
  go_wp2_with fail
  go_ret
  exact ⟨rfl, V.out⟩
set_option maxHeartbeats 1000000 in
theorem everyP (v : Value) (r : List (Px)) (p : Px → Bool) (w : World) (h : At w 5 ptF v r) (hn : r.length ≤ 1000000)
    (hI : ∀ x ∈ r, ∀ W, Below w.heap.size w W → Calls Try.prog 54 #[ptV x] W fun e w' => e = .returned (.bool (p x)) ∧ Below W.heap.size W w') :
    Calls Try.prog 53 #[v, .func (.func 54) #[] #[]] w fun e w' => e = .returned (.bool (r.all p)) ∧ Below w.heap.size w w' := by
  obtain ⟨w1, hw1⟩ : ∃ w1, w1 = w.alloc (.cells #[.func (.func 54) #[] #[]] 105) := ⟨_, rfl⟩
  have b1 : Below w.heap.size w w1 := by rw [hw1]; exact ba _ _
  have hB : Blk w1 w.heap.size 105 #[.func (.func 54) #[] #[]] := by rw [hw1]; exact Blk.new _ _ _
  have cC := containsP_ev w.heap.size v r (fun x => !(p x)) w1 (h.later b1) hn (fun x hx W hW => everycP w.heap.size x (p x) W ((hB.later hW).cell 0) (fun W' hW' => hI x hx W' (bt b1 (bt hW hW'))))
  obtain ⟨A, c, rfl, a1, a2, _⟩ := h.shape
  obtain ⟨n, hnl⟩ : ∃ n, n = r.length := ⟨_, rfl⟩
  rw [← hnl] at cC ⊢
  have H := Lib.hid (And.intro cC b1); clear cC h hI hnl a1 b1 hB
  go_enter Try.func53, Try.ntmps53
  go_wp2_with fail
  rw [← hw1]
  refine H.out.1.mono ?_
  rintro e w5 ⟨rfl, b5⟩
  have e1 : (!(r.any fun x => !(p x))) = r.all p := by
    rw [Bool.eq_iff_iff]; simp
  have V := Lib.hid (And.intro e1 (bt H.out.2 b5)); clear e1 b5
  go_wp2_with fail
  go_ret
  exact ⟨by rw [← V.out.1]; rfl, V.out.2⟩
set_option maxRecDepth 20000 in
set_option maxHeartbeats 2000000 in
theorem indexE_ev (pp : Nat) (v : Value) (r : List (Tr × Value)) (p : Tr × Value → Bool) (w : World) (h : At w 8 exF v r) (hn : r.length ≤ 1000000) (hK : ∀ x ∈ r, isSl x.2)
    (hF : ∀ x ∈ r, ∀ W, Below w.heap.size w W → Calls Try.prog 73 #[exV x, .pointer (some ⟨pp, 0, none⟩)] W fun e w' => e = .returned (.bool (p x)) ∧ Below W.heap.size W w') :
    Calls Try.prog 76 #[v, .func (.func 73) #[] #[.pointer (some ⟨pp, 0, none⟩)]] w fun e w' => (∃ k : Int, e = .returned (.int .i64 k) ∧ (0 ≤ k ↔ r.any p = true)) ∧ Below w.heap.size w w' := by
  obtain ⟨A, c, rfl, a1, a2, _⟩ := h.shape
  obtain ⟨n, hnl⟩ : ∃ n, n = r.length := ⟨_, rfl⟩
  rw [← hnl] at h hn ⊢
  have H := Lib.hid (And.intro h (And.intro hnl (And.intro hF hK))); clear h hnl hF a1 hK
  go_enter Try.func76, Try.ntmps76
  go_wp2_with fail
  go_loopw [8] (fun iv wr => ∃ i : Nat, i ≤ n ∧ iv = .int .i64 (i : Int) ∧ (∀ j (hj : j < r.length), j < i → p (r[j]'hj) = false) ∧ Below w.heap.size w wr) (fun iv _ => n - (intOf iv).toNat)
  case atStart => exact ⟨0, Nat.zero_le _, rfl, fun j hj h => by omega, Below.refl _ _⟩
  case round =>
    rename World => wr
    obtain ⟨i, hi, rfl, hno, hb⟩ := hrel
    by_cases hlt : i < n
    · have hir : i < r.length := by have := H.out.2.1; omega
      obtain ⟨a, rfl, hca⟩ := (H.out.1.later hb).cells rfl (by have := H.out.2.1; omega)
      obtain ⟨e0, e1, e2, e3, e4, e5, e6, e7⟩ := hca.row8 i hir rfl
      have hC := H.out.2.2.1 _ (List.getElem_mem hir) wr hb
      have hsl := H.out.2.2.2 _ (List.getElem_mem hir)
      have hmem := List.getElem_mem hir
      have hst : p (r[i]'hir) = false → ∀ j (hj : j < r.length), j < i + 1 → p (r[j]'hj) = false := fun h j hj h2 => by
        rcases (by omega : j < i ∨ j = i) with h3 | rfl
        · exact hno j hj h3
        · exact h
      have hyes : p (r[i]'hir) = true → r.any p = true := fun h => List.any_eq_true.2 ⟨_, hmem, h⟩
      generalize r[i]'hir = x at *
      obtain ⟨t, K⟩ := x
      obtain ⟨A8, n8, c8, rfl⟩ := hsl
      obtain ⟨k1, op, vk, vn, vs, va, vf, B8, m8, d8, hval, hnode⟩ := Tr.val_ev' t A8 n8 c8
      simp only [exF, hnode] at e0 e1 e2 e3 e4 e5 e6 e7
      simp only [exV, hval] at hC
      generalize hpx : p (t, .slice A8 n8 c8) = px at *
      have U := Lib.hid (And.intro hC (And.intro hst (And.intro hyes hb))); clear hC hst hyes hno hb hca hmem hpx
      go_wp2_with fail
      try go_at_call 73
      refine U.out.1.mono ?_
      rintro e w5 ⟨rfl, b5⟩
      have V := Lib.hid (bt U.out.2.2.2 b5); clear b5
      cases px with
      | true =>
        have HY := Lib.hid (U.out.2.2.1 (by first | rfl | trivial))
        go_wp2_with fail
        go_ret
        exact ⟨⟨_, rfl, fun _ => HY.out, fun _ => by omega⟩, V.out⟩
      | false =>
        go_wp2_with fail
        go_roundw
        case rel => exact ⟨i + 1, by omega, by go_num, U.out.2.1 (by first | rfl | trivial), V.out⟩
        case measure => simp [intOf]; omega
    · obtain rfl : i = n := by omega
      have hany : r.any p = false := by
        rw [List.any_eq_false]
        intro x hx
        obtain ⟨j, hj, rfl⟩ := List.getElem_of_mem hx
        rw [hno j hj (by have := H.out.2.1; omega)]
        decide
      have U := Lib.hid (And.intro hany hb); clear hany hno hb
      go_wp2_with fail
      go_ret
      exact ⟨⟨-1, rfl, by rw [U.out.1]; simp⟩, U.out.2⟩
set_option maxHeartbeats 1000000 in
theorem containsE_ev (pp : Nat) (v : Value) (r : List (Tr × Value)) (p : Tr × Value → Bool) (w : World) (h : At w 8 exF v r) (hn : r.length ≤ 1000000) (hK : ∀ x ∈ r, isSl x.2)
    (hF : ∀ x ∈ r, ∀ W, Below w.heap.size w W → Calls Try.prog 73 #[exV x, .pointer (some ⟨pp, 0, none⟩)] W fun e w' => e = .returned (.bool (p x)) ∧ Below W.heap.size W w') :
    Calls Try.prog 72 #[v, .func (.func 73) #[] #[.pointer (some ⟨pp, 0, none⟩)]] w fun e w' => e = .returned (.bool (r.any p)) ∧ Below w.heap.size w w' := by
  have cI := indexE_ev pp v r p w h hn hK hF
  obtain ⟨A, c, rfl, a1, a2, _⟩ := h.shape
  obtain ⟨n, hnl⟩ : ∃ n, n = r.length := ⟨_, rfl⟩
  rw [← hnl] at cI ⊢
  have H := Lib.hid cI; clear cI h hF hnl a1
  go_enter Try.func72, Try.ntmps72
  go_wp2_with fail
  refine H.out.mono ?_
  rintro e w5 ⟨⟨k, rfl, hk⟩, b5⟩
  have e1 : decide (0 ≤ k) = r.any p := by rw [Bool.eq_iff_iff, decide_eq_true_iff]; exact hk
  have U := Lib.hid (And.intro e1 b5); clear e1 b5 hk
  go_wp2_with fail
  go_ret
  refine ⟨?_, U.out.2⟩
  rw [← U.out.1]
  rfl
set_option maxRecDepth 20000 in
set_option maxHeartbeats 2000000 in
theorem everycE (pp : Nat) (x : Tr × Value) (b : Bool) (W : World) (hsl : isSl x.2) (hp : W.cell? ⟨pp, 0, none⟩ = some (.func (.func 20) #[] #[]))
    (hI : ∀ W', Below W.heap.size W W' → Calls Try.prog 20 #[exV x] W' fun e w' => e = .returned (.bool b) ∧ Below W'.heap.size W' w') :
    Calls Try.prog 73 #[exV x, .pointer (some ⟨pp, 0, none⟩)] W fun e w' => e = .returned (.bool (!b)) ∧ Below W.heap.size W w' := by
  obtain ⟨t, K⟩ := x
  obtain ⟨A8, n8, c8, rfl⟩ := hsl
  obtain ⟨k1, op, vk, vn, vs, va, vf, B8, m8, d8, hval, hnode⟩ := Tr.val_ev' t A8 n8 c8
  simp only [exV, hval] at hI ⊢
  have b0 := ba W (.cells #[.int .i64 k1, .string op, .int .i64 vk, .int .i64 vn, .string vs, .string va, .string vf, .slice B8 m8 d8] 38)
  have hp0 := (b0.cell (World.block_lt_of_cell? W _ hp)).trans hp
  have hC := hI _ b0
  have H := Lib.hid (And.intro hC b0); clear hC b0 hI
  go_enter Try.func73, Try.ntmps73
  go_wp2_with fail
  refine H.out.1.mono ?_
  rintro e w5 ⟨rfl, b5⟩
  have V := Lib.hid (bt H.out.2 b5); clear b5
  go_wp2_with fail
  go_ret
  exact ⟨rfl, V.out⟩
set_option maxHeartbeats 1000000 in
theorem everyE (v : Value) (r : List (Tr × Value)) (p : Tr × Value → Bool) (w : World) (h : At w 8 exF v r) (hn : r.length ≤ 1000000) (hK : ∀ x ∈ r, isSl x.2)
    (hI : ∀ x ∈ r, ∀ W, Below w.heap.size w W → Calls Try.prog 20 #[exV x] W fun e w' => e = .returned (.bool (p x)) ∧ Below W.heap.size W w') :
    Calls Try.prog 66 #[v, .func (.func 20) #[] #[]] w fun e w' => e = .returned (.bool (r.all p)) ∧ Below w.heap.size w w' := by
  obtain ⟨w1, hw1⟩ : ∃ w1, w1 = w.alloc (.cells #[.func (.func 20) #[] #[]] 69) := ⟨_, rfl⟩
  have b1 : Below w.heap.size w w1 := by rw [hw1]; exact ba _ _
  have hB : Blk w1 w.heap.size 69 #[.func (.func 20) #[] #[]] := by rw [hw1]; exact Blk.new _ _ _
  have cC := containsE_ev w.heap.size v r (fun x => !(p x)) w1 (h.later b1) hn hK (fun x hx W hW => everycE w.heap.size x (p x) W (hK x hx) ((hB.later hW).cell 0) (fun W' hW' => hI x hx W' (bt b1 (bt hW hW'))))
  obtain ⟨A, c, rfl, a1, a2, _⟩ := h.shape
  obtain ⟨n, hnl⟩ : ∃ n, n = r.length := ⟨_, rfl⟩
  rw [← hnl] at cC ⊢
  have H := Lib.hid (And.intro cC b1); clear cC h hI hnl a1 b1 hB
  go_enter Try.func66, Try.ntmps66
  go_wp2_with fail
  rw [← hw1]
  refine H.out.1.mono ?_
  rintro e w5 ⟨rfl, b5⟩
  have e1 : (!(r.any fun x => !(p x))) = r.all p := by
    rw [Bool.eq_iff_iff]; simp
  have V := Lib.hid (And.intro e1 (bt H.out.2 b5)); clear e1 b5
  go_wp2_with fail
  go_ret
  exact ⟨by rw [← V.out.1]; rfl, V.out.2⟩
set_option maxRecDepth 20000 in
set_option maxHeartbeats 2000000 in
theorem indexO_ev (pp : Nat) (v : Value) (r : List (Ox)) (p : Ox → Bool) (w : World) (h : At w 9 otF v r) (hn : r.length ≤ 1000000) (hK : ∀ x ∈ r, isSl x.2)
    (hF : ∀ x ∈ r, ∀ W, Below w.heap.size w W → Calls Try.prog 70 #[otV x, .pointer (some ⟨pp, 0, none⟩)] W fun e w' => e = .returned (.bool (p x)) ∧ Below W.heap.size W w') :
    Calls Try.prog 74 #[v, .func (.func 70) #[] #[.pointer (some ⟨pp, 0, none⟩)]] w fun e w' => (∃ k : Int, e = .returned (.int .i64 k) ∧ (0 ≤ k ↔ r.any p = true)) ∧ Below w.heap.size w w' := by
  obtain ⟨A, c, rfl, a1, a2, _⟩ := h.shape
  obtain ⟨n, hnl⟩ : ∃ n, n = r.length := ⟨_, rfl⟩
  rw [← hnl] at h hn ⊢
  have H := Lib.hid (And.intro h (And.intro hnl (And.intro hF hK))); clear h hnl hF a1 hK
  go_enter Try.func74, Try.ntmps74
  go_wp2_with fail
  go_loopw [8] (fun iv wr => ∃ i : Nat, i ≤ n ∧ iv = .int .i64 (i : Int) ∧ (∀ j (hj : j < r.length), j < i → p (r[j]'hj) = false) ∧ Below w.heap.size w wr) (fun iv _ => n - (intOf iv).toNat)
  case atStart => exact ⟨0, Nat.zero_le _, rfl, fun j hj h => by omega, Below.refl _ _⟩
  case round =>
    rename World => wr
    obtain ⟨i, hi, rfl, hno, hb⟩ := hrel
    by_cases hlt : i < n
    · have hir : i < r.length := by have := H.out.2.1; omega
      obtain ⟨a, rfl, hca⟩ := (H.out.1.later hb).cells rfl (by have := H.out.2.1; omega)
      obtain ⟨e0, e1, e2, e3, e4, e5, e6, e7, e8⟩ := hca.row9 i hir rfl
      have hC := H.out.2.2.1 _ (List.getElem_mem hir) wr hb
      have hsl := H.out.2.2.2 _ (List.getElem_mem hir)
      have hmem := List.getElem_mem hir
      have hst : p (r[i]'hir) = false → ∀ j (hj : j < r.length), j < i + 1 → p (r[j]'hj) = false := fun h j hj h2 => by
        rcases (by omega : j < i ∨ j = i) with h3 | rfl
        · exact hno j hj h3
        · exact h
      have hyes : p (r[i]'hir) = true → r.any p = true := fun h => List.any_eq_true.2 ⟨_, hmem, h⟩
      generalize r[i]'hir = x at *
      obtain ⟨⟨fl, t⟩, K⟩ := x
      obtain ⟨A8, n8, c8, rfl⟩ := hsl
      obtain ⟨k1, op, vk, vn, vs, va, vf, B8, m8, d8, hval, hnode⟩ := Tr.val_ev' t A8 n8 c8
      simp only [otF, exF, hnode] at e0 e1 e2 e3 e4 e5 e6 e7 e8
      simp only [otV, hnode] at hC
      generalize hpx : p (⟨fl, t⟩, .slice A8 n8 c8) = px at *
      have U := Lib.hid (And.intro hC (And.intro hst (And.intro hyes hb))); clear hC hst hyes hno hb hca hmem hpx
      go_wp2_with fail
      try go_at_call 70
      refine U.out.1.mono ?_
      rintro e w5 ⟨rfl, b5⟩
      have V := Lib.hid (bt U.out.2.2.2 b5); clear b5
      cases px with
      | true =>
        have HY := Lib.hid (U.out.2.2.1 (by first | rfl | trivial))
        go_wp2_with fail
        go_ret
        exact ⟨⟨_, rfl, fun _ => HY.out, fun _ => by omega⟩, V.out⟩
      | false =>
        go_wp2_with fail
        go_roundw
        case rel => exact ⟨i + 1, by omega, by go_num, U.out.2.1 (by first | rfl | trivial), V.out⟩
        case measure => simp [intOf]; omega
    · obtain rfl : i = n := by omega
      have hany : r.any p = false := by
        rw [List.any_eq_false]
        intro x hx
        obtain ⟨j, hj, rfl⟩ := List.getElem_of_mem hx
        rw [hno j hj (by have := H.out.2.1; omega)]
        decide
      have U := Lib.hid (And.intro hany hb); clear hany hno hb
      go_wp2_with fail
      go_ret
      exact ⟨⟨-1, rfl, by rw [U.out.1]; simp⟩, U.out.2⟩
set_option maxHeartbeats 1000000 in
theorem containsO_ev (pp : Nat) (v : Value) (r : List (Ox)) (p : Ox → Bool) (w : World) (h : At w 9 otF v r) (hn : r.length ≤ 1000000) (hK : ∀ x ∈ r, isSl x.2)
    (hF : ∀ x ∈ r, ∀ W, Below w.heap.size w W → Calls Try.prog 70 #[otV x, .pointer (some ⟨pp, 0, none⟩)] W fun e w' => e = .returned (.bool (p x)) ∧ Below W.heap.size W w') :
    Calls Try.prog 69 #[v, .func (.func 70) #[] #[.pointer (some ⟨pp, 0, none⟩)]] w fun e w' => e = .returned (.bool (r.any p)) ∧ Below w.heap.size w w' := by
  have cI := indexO_ev pp v r p w h hn hK hF
  obtain ⟨A, c, rfl, a1, a2, _⟩ := h.shape
  obtain ⟨n, hnl⟩ : ∃ n, n = r.length := ⟨_, rfl⟩
  rw [← hnl] at cI ⊢
  have H := Lib.hid cI; clear cI h hF hnl a1
  go_enter Try.func69, Try.ntmps69
  go_wp2_with fail
  refine H.out.mono ?_
  rintro e w5 ⟨⟨k, rfl, hk⟩, b5⟩
  have e1 : decide (0 ≤ k) = r.any p := by rw [Bool.eq_iff_iff, decide_eq_true_iff]; exact hk
  have U := Lib.hid (And.intro e1 b5); clear e1 b5 hk
  go_wp2_with fail
  go_ret
  refine ⟨?_, U.out.2⟩
  rw [← U.out.1]
  rfl
set_option maxRecDepth 20000 in
set_option maxHeartbeats 2000000 in
theorem everycO (pp : Nat) (x : Ox) (b : Bool) (W : World) (hsl : isSl x.2) (hp : W.cell? ⟨pp, 0, none⟩ = some (.func (.func 58) #[] #[]))
    (hI : ∀ W', Below W.heap.size W W' → Calls Try.prog 58 #[otV x] W' fun e w' => e = .returned (.bool b) ∧ Below W'.heap.size W' w') :
    Calls Try.prog 70 #[otV x, .pointer (some ⟨pp, 0, none⟩)] W fun e w' => e = .returned (.bool (!b)) ∧ Below W.heap.size W w' := by
  obtain ⟨⟨fl, t⟩, K⟩ := x
  obtain ⟨A8, n8, c8, rfl⟩ := hsl
  obtain ⟨k1, op, vk, vn, vs, va, vf, B8, m8, d8, hval, hnode⟩ := Tr.val_ev' t A8 n8 c8
  simp only [otV, hnode] at hI ⊢
  have b0 := ba W (.cells #[.string fl, .int .i64 k1, .string op, .int .i64 vk, .int .i64 vn, .string vs, .string va, .string vf, .slice B8 m8 d8] 62)
  have hp0 := (b0.cell (World.block_lt_of_cell? W _ hp)).trans hp
  have hC := hI _ b0
  have H := Lib.hid (And.intro hC b0); clear hC b0 hI
  go_enter Try.func70, Try.ntmps70
  go_wp2_with fail
  refine H.out.1.mono ?_
  rintro e w5 ⟨rfl, b5⟩
  have V := Lib.hid (bt H.out.2 b5); clear b5
  go_wp2_with fail
  go_ret
  exact ⟨rfl, V.out⟩
set_option maxHeartbeats 1000000 in
theorem everyO (v : Value) (r : List (Ox)) (p : Ox → Bool) (w : World) (h : At w 9 otF v r) (hn : r.length ≤ 1000000) (hK : ∀ x ∈ r, isSl x.2)
    (hI : ∀ x ∈ r, ∀ W, Below w.heap.size w W → Calls Try.prog 58 #[otV x] W fun e w' => e = .returned (.bool (p x)) ∧ Below W.heap.size W w') :
    Calls Try.prog 57 #[v, .func (.func 58) #[] #[]] w fun e w' => e = .returned (.bool (r.all p)) ∧ Below w.heap.size w w' := by
  obtain ⟨w1, hw1⟩ : ∃ w1, w1 = w.alloc (.cells #[.func (.func 58) #[] #[]] 109) := ⟨_, rfl⟩
  have b1 : Below w.heap.size w w1 := by rw [hw1]; exact ba _ _
  have hB : Blk w1 w.heap.size 109 #[.func (.func 58) #[] #[]] := by rw [hw1]; exact Blk.new _ _ _
  have cC := containsO_ev w.heap.size v r (fun x => !(p x)) w1 (h.later b1) hn hK (fun x hx W hW => everycO w.heap.size x (p x) W (hK x hx) ((hB.later hW).cell 0) (fun W' hW' => hI x hx W' (bt b1 (bt hW hW'))))
  obtain ⟨A, c, rfl, a1, a2, _⟩ := h.shape
  obtain ⟨n, hnl⟩ : ∃ n, n = r.length := ⟨_, rfl⟩
  rw [← hnl] at cC ⊢
  have H := Lib.hid (And.intro cC b1); clear cC h hI hnl a1 b1 hB
  go_enter Try.func57, Try.ntmps57
  go_wp2_with fail
  rw [← hw1]
  refine H.out.1.mono ?_
  rintro e w5 ⟨rfl, b5⟩
  have e1 : (!(r.any fun x => !(p x))) = r.all p := by
    rw [Bool.eq_iff_iff]; simp
  have V := Lib.hid (And.intro e1 (bt H.out.2 b5)); clear e1 b5
  go_wp2_with fail
  go_ret
  exact ⟨by rw [← V.out.1]; rfl, V.out.2⟩
end Go.Proofs.Ytkmboffbohndjaa
