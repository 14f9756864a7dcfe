/- Layer 11: the kind of an expression. -/
import Derived.Test.YtkmboffbohndjaaCkC
import Derived.Test.YtkmboffbohndjaaTreeR
namespace Go.Proofs.Ytkmboffbohndjaa
open Go.ChangeShapes Go.WideShapes Go.ChangeAt Go.RowKit Go.Maps
set_option linter.unusedVariables false
set_option linter.unusedSimpArgs false

abbrev tup (a b : Int) : Value := .tuple #[.int .i64 a, .int .i64 b]
set_option maxRecDepth 20000 in
theorem of_lit (b : Nat) (k n : Int) (s : ByteArray) (w : World) :
    Calls Try.prog 22 #[.map (some b), ev 0 e0 k n s e0 e0 nilk] w fun e w' => e = .returned (tup k 0) ∧ Below w.heap.size w w' := by
  go_enter Try.func22, Try.ntmps22
  go_wp2_with fail
  exact bodyPost_ret (v := .tuple #[.int .i64 k, .int .i64 0]) (by simp [results, Try.results22, go_sem]) rfl ⟨rfl, ba _ _⟩
set_option maxRecDepth 20000 in
theorem of_ref (b N : Nat) (c : ByteArray → ByteArray → Bool → Option Int) (v f : ByteArray) (w : World) (h : KnAt w b N c) (hv : v.size ≤ maxLen) (hf : f.size ≤ maxLen) :
    Calls Try.prog 22 #[.map (some b), ev 1 e0 0 0 e0 v f nilk] w fun e w' => e = .returned (tup (told (c v f true)).1 (told (c v f true)).2) ∧ Below w.heap.size w w' := by
  have bA := ba w (.cells #[.int .i64 1, .string e0, .int .i64 0, .int .i64 0, .string e0, .string v, .string f, nilk] 38)
  have cA := atK_any b N c v f true _ (h.later bA) hv hf
  have H := Lib.hid (And.intro bA cA); clear bA cA h
  go_enter Try.func22, Try.ntmps22
  go_wp2_with (go_at_call 33; ((with_reducible refine (H.out.2).mono ?_); rintro e w1 ⟨rfl, hb⟩))
  exact bodyPost_ret (v := .tuple #[.int .i64 (told (c v f true)).1, .int .i64 (told (c v f true)).2]) (by simp [results, Try.results22, go_sem]) rfl ⟨rfl, bt H.out.1 hb⟩
set_option maxRecDepth 20000 in
theorem of_cnt (b N : Nat) (c : ByteArray → ByteArray → Bool → Option Int) (v : ByteArray) (w : World) (h : KnAt w b N c) (hv : v.size ≤ maxLen) :
    Calls Try.prog 22 #[.map (some b), ev 2 e0 0 0 e0 v e0 nilk] w fun e w' => e = .returned (tup (told (c v e0 false)).1 (told (c v e0 false)).2) ∧ Below w.heap.size w w' := by
  have bA := ba w (.cells #[.int .i64 2, .string e0, .int .i64 0, .int .i64 0, .string e0, .string v, .string e0, nilk] 38)
  have cA := atK_any b N c v e0 false _ (h.later bA) hv (by decide)
  have H := Lib.hid (And.intro bA cA); clear bA cA h
  go_enter Try.func22, Try.ntmps22
  go_wp2_with (go_at_call 33; ((with_reducible refine (H.out.2).mono ?_); rintro e w1 ⟨rfl, hb⟩))
  exact bodyPost_ret (v := .tuple #[.int .i64 (told (c v e0 false)).1, .int .i64 (told (c v e0 false)).2]) (by simp [results, Try.results22, go_sem]) rfl ⟨rfl, bt H.out.1 hb⟩
set_option maxRecDepth 20000 in
theorem of_un (b : Nat) (op : ByteArray) (a : Addr) (c : Nat) (K1 E1 : Int) (w : World) {k' : Int} {op' : ByteArray} {vk' vn' : Int} {vs' va' f' : ByteArray} {A' : Option Addr} {n' c' : Nat} (hr : Row8 w a k' op' vk' vn' vs' va' f' (.slice A' n' c'))
    (hx : ∀ W, Below w.heap.size w W → Calls Try.prog 22 #[.map (some b), ev k' op' vk' vn' vs' va' f' (.slice A' n' c')] W fun e w' => e = .returned (tup K1 E1) ∧ Below W.heap.size W w') :
    Calls Try.prog 22 #[.map (some b), ev 3 op 0 0 e0 e0 e0 (.slice (some a) 1 c)] w fun e w' => e = .returned (tup (if E1 ≠ 0 then (0, E1) else unaryK op K1).1 (if E1 ≠ 0 then (0, E1) else unaryK op K1).2) ∧ Below w.heap.size w w' := by
  obtain ⟨R, hR⟩ : ∃ R, R = (if E1 ≠ 0 then (0, E1) else unaryK op K1) := ⟨_, rfl⟩
  rw [← hR]
  have HR := Lib.hid hR; clear hR
  have bA := ba w (.cells #[.int .i64 3, .string op, .int .i64 0, .int .i64 0, .string e0, .string e0, .string e0, .slice (some a) 1 c] 38)
  have hB := Blk.new w 38 #[.int .i64 3, .string op, .int .i64 0, .int .i64 0, .string e0, .string e0, .string e0, .slice (some a) 1 c]
  obtain ⟨c0, c1, c2, c3, c4, c5, c6, c7⟩ := hr.later bA
  have cX := hx _ bA
  have H := Lib.hid (And.intro bA (And.intro cX hB)); clear bA cX hx hr hB
  go_enter Try.func22, Try.ntmps22
  go_wp2_with fail
  try go_at_call 22
  refine (H.out.2.1).mono ?_
  clear c0 c1 c2 c3 c4 c5 c6 c7
  rintro e w1 ⟨rfl, hb⟩
  have y := (H.out.2.2.later hb).cell
  have B := Lib.hid (bt H.out.1 hb); clear hb
  by_cases h0 : E1 = 0
  · subst h0
    have cU := unaryK_any op K1
    obtain ⟨⟨u1, u2⟩, hu⟩ : ∃ u, u = unaryK op K1 := ⟨_, rfl⟩
    rw [← hu] at cU
    have HS := Lib.hid (show R = (u1, u2) by rw [HR.out, if_neg (by simp), hu])
    have C := Lib.hid cU; clear cU hu
    go_wp2_with (go_at_call 34; ((with_reducible refine (C.out _).mono ?_); rintro e w2 ⟨rfl, rfl⟩))
    exact bodyPost_ret (v := .tuple #[.int .i64 u1, .int .i64 u2]) (by simp [results, Try.results22, go_sem]) rfl ⟨by rw [HS.out], B.out⟩
  · have h0' : (E1 == 0) = false := by simpa using h0
    have HS := Lib.hid (show R = (0, E1) by rw [HR.out, if_pos h0])
    go_wp2_with fail
    exact bodyPost_ret (v := .tuple #[.int .i64 0, .int .i64 E1]) (by simp [results, Try.results22, go_sem]) rfl ⟨by rw [HS.out], B.out⟩
set_option maxRecDepth 20000 in
theorem of_bin (b : Nat) (op : ByteArray) (a : Addr) (c : Nat) (K1 E1 K2 E2 : Int) (w : World) {k' : Int} {op' : ByteArray} {vk' vn' : Int} {vs' va' f' : ByteArray} {A' : Option Addr} {n' c' : Nat} (hr : Row8 w a k' op' vk' vn' vs' va' f' (.slice A' n' c'))
    {k2 : Int} {op2 : ByteArray} {vk2 vn2 : Int} {vs2 va2 f2 : ByteArray} {A2 : Option Addr} {n2 c2 : Nat} (hq : Row8 w (a.add 8) k2 op2 vk2 vn2 vs2 va2 f2 (.slice A2 n2 c2))
    (hx : ∀ W, Below w.heap.size w W → Calls Try.prog 22 #[.map (some b), ev k' op' vk' vn' vs' va' f' (.slice A' n' c')] W fun e w' => e = .returned (tup K1 E1) ∧ Below W.heap.size W w')
    (hy : ∀ W, Below w.heap.size w W → Calls Try.prog 22 #[.map (some b), ev k2 op2 vk2 vn2 vs2 va2 f2 (.slice A2 n2 c2)] W fun e w' => e = .returned (tup K2 E2) ∧ Below W.heap.size W w') :
    Calls Try.prog 22 #[.map (some b), ev 4 op 0 0 e0 e0 e0 (.slice (some a) 2 c)] w fun e w' => e = .returned (tup (if E1 ≠ 0 then (0, E1) else if E2 ≠ 0 then (0, E2) else binaryK op K1 K2).1 (if E1 ≠ 0 then (0, E1) else if E2 ≠ 0 then (0, E2) else binaryK op K1 K2).2) ∧ Below w.heap.size w w' := by
  obtain ⟨R, hR⟩ : ∃ R, R = (if E1 ≠ 0 then (0, E1) else if E2 ≠ 0 then (0, E2) else binaryK op K1 K2) := ⟨_, rfl⟩
  rw [← hR]
  have HR := Lib.hid hR; clear hR
  have bA := ba w (.cells #[.int .i64 4, .string op, .int .i64 0, .int .i64 0, .string e0, .string e0, .string e0, .slice (some a) 2 c] 38)
  have hB := Blk.new w 38 #[.int .i64 4, .string op, .int .i64 0, .int .i64 0, .string e0, .string e0, .string e0, .slice (some a) 2 c]
  obtain ⟨c0, c1, c2', c3, c4, c5, c6, c7⟩ := hr.later bA
  have cX := hx _ bA
  have H := Lib.hid (And.intro bA (And.intro cX (And.intro hB (And.intro hq hy)))); clear bA cX hx hr hB hq hy
  go_enter Try.func22, Try.ntmps22
  go_wp2_with fail
  try go_at_call 22
  refine (H.out.2.1).mono ?_
  clear c0 c1 c2' c3 c4 c5 c6 c7
  rintro e w1 ⟨rfl, hb⟩
  have y := (H.out.2.2.1.later hb).cell
  have hB1 := H.out.2.2.1.later hb
  have B := Lib.hid (And.intro (bt H.out.1 hb) hB1); clear hb hB1
  by_cases h0 : E1 = 0
  · subst h0
    obtain ⟨d0, d1, d2, d3, d4, d5, d6, d7⟩ := H.out.2.2.2.1.later B.out.1
    have g0 : w1.cell? ⟨a.block, a.off + 8, none⟩ = _ := d0
    have g1 : w1.cell? ⟨a.block, a.off + 8 + 1, none⟩ = _ := d1
    have g2 : w1.cell? ⟨a.block, a.off + 8 + 2, none⟩ = _ := d2
    have g3 : w1.cell? ⟨a.block, a.off + 8 + 3, none⟩ = _ := d3
    have g4 : w1.cell? ⟨a.block, a.off + 8 + 4, none⟩ = _ := d4
    have g5 : w1.cell? ⟨a.block, a.off + 8 + 5, none⟩ = _ := d5
    have g6 : w1.cell? ⟨a.block, a.off + 8 + 6, none⟩ = _ := d6
    have g7 : w1.cell? ⟨a.block, a.off + 8 + 7, none⟩ = _ := d7
    have cY := H.out.2.2.2.2 _ B.out.1
    have Y := Lib.hid cY; clear cY
    go_wp2_with fail
    try go_at_call 22
    refine Y.out.mono ?_
    clear d0 d1 d2 d3 d4 d5 d6 d7 g0 g1 g2 g3 g4 g5 g6 g7 y
    rintro e w2 ⟨rfl, hb⟩
    have y := (B.out.2.later hb).cell
    have B2 := Lib.hid (bt B.out.1 hb); clear hb
    by_cases h1 : E2 = 0
    · subst h1
      have cU := binaryK_any op K1 K2
      obtain ⟨⟨u1, u2⟩, hu⟩ : ∃ u, u = binaryK op K1 K2 := ⟨_, rfl⟩
      rw [← hu] at cU
      have HS := Lib.hid (show R = (u1, u2) by rw [HR.out, if_neg (by simp), if_neg (by simp), hu])
      have C := Lib.hid cU; clear cU hu
      go_wp2_with (go_at_call 35; ((with_reducible refine (C.out _).mono ?_); rintro e w3 ⟨rfl, rfl⟩))
      exact bodyPost_ret (v := .tuple #[.int .i64 u1, .int .i64 u2]) (by simp [results, Try.results22, go_sem]) rfl ⟨by rw [HS.out], B2.out⟩
    · have h1' : (E2 == 0) = false := by simpa using h1
      have HS := Lib.hid (show R = (0, E2) by rw [HR.out, if_neg (by simp), if_pos h1])
      go_wp2_with fail
      exact bodyPost_ret (v := .tuple #[.int .i64 0, .int .i64 E2]) (by simp [results, Try.results22, go_sem]) rfl ⟨by rw [HS.out], B2.out⟩
  · have h0' : (E1 == 0) = false := by simpa using h0
    have HS := Lib.hid (show R = (0, E1) by rw [HR.out, if_pos h0])
    go_wp2_with fail
    exact bodyPost_ret (v := .tuple #[.int .i64 0, .int .i64 E1]) (by simp [results, Try.results22, go_sem]) rfl ⟨by rw [HS.out], B.out.1⟩
theorem name_le {s : ByteArray} (h : nameB s = true) : s.size ≤ maxLen := nameB_size h
theorem of_tr (b N : Nat) (l : List SF) (t : Tr) : ∀ (v : Value) (w : World), TrAt w t v → t.ok = true → KnAt w b N (spotK l) →
    Calls Try.prog 22 #[.map (some b), t.val v] w fun e w' => e = .returned (tup (kindT l t).1 (kindT l t).2) ∧ Below w.heap.size w w' := by
  induction t with
  | lit k n s =>
    rintro v w rfl ho hk
    exact of_lit b k n s w
  | ref v f =>
    rintro v' w rfl ho hk
    unfold Tr.ok at ho
    simp only [Bool.and_eq_true] at ho
    exact of_ref b N _ v f w hk (name_le ho.1) (name_le ho.2)
  | cnt v =>
    rintro v' w rfl ho hk
    unfold Tr.ok at ho
    exact of_cnt b N _ v w hk (name_le ho)
  | un op x ih =>
    rintro v w ⟨a, c, rfl, h1, h2, kx, hx, hr⟩ ho hk
    unfold Tr.ok at ho
    simp only [Bool.and_eq_true] at ho
    obtain ⟨A', n', c', rfl⟩ := hx.sl
    have hv := (fun W hb => ih _ W (hx.later hb) ho.2 (hk.later hb))
    cases x <;> exact of_un b op a c _ _ w hr hv
  | bin op x y ihx ihy =>
    rintro v w ⟨a, c, rfl, h1, h2, ⟨kx, hx, hr⟩, ky, hy, hs⟩ ho hk
    unfold Tr.ok at ho
    simp only [Bool.and_eq_true, decide_eq_true_eq] at ho
    obtain ⟨A', n', c', rfl⟩ := hx.sl
    obtain ⟨A2, n2, c2, rfl⟩ := hy.sl
    have hv := (fun W hb => ihx _ W (hx.later hb) ho.1.2 (hk.later hb))
    have hu := (fun W hb => ihy _ W (hy.later hb) ho.2 (hk.later hb))
    cases x <;> cases y <;> exact of_bin b op a c _ _ _ _ w hr hs hv hu
end Go.Proofs.Ytkmboffbohndjaa
