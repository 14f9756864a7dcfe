/- Contracts of package expr: what is right alone. -/
import Derived.Test.YtkmboffbohndjaaTree
namespace Go.Proofs.Ytkmboffbohndjaa
open Go.ChangeShapes Go.WideShapes Go.ChangeAt Go.RowKit
set_option linter.unusedVariables false
set_option linter.unusedSimpArgs false

theorem rightLit_yes (k n : Int) (s : ByteArray) (w : World) (h : (Tr.lit k n s).ok = true) :
    Calls Try.prog 45 #[vv k n s] w fun e w' => e = .returned (.bool true) ∧ Below w.heap.size w w' := by
  unfold Tr.ok at h
  simp only [Bool.and_eq_true, Bool.not_eq_true'] at h
  obtain ⟨⟨h1, h2⟩, h3⟩ := h
  have hs := right_size h1
  have cR := fun W => Right_any k n s W (by unfold maxLen; omega)
  rw [h1] at cR
  have cC := fun W => Try.strings_Contains_one s 39 W
  rw [h3] at cC
  have C := Lib.hid (And.intro cR cC); clear cR cC h1 h3
  by_cases hk : k = 1
  · subst hk
    have hn : decide (n < 0) = false := by simpa using h2
    have hn2 : ¬ n < 0 := by simpa using h2
    clear h2
    go_enter Try.func45, Try.ntmps45
    go_wp2_with (first
      | (go_at_call 62; ((with_reducible refine (C.out.1 _).mono ?_); rintro e w1 ⟨rfl, hb⟩; have hc := (bcell hb).1; have B := Lib.hid hb; clear hb))
      | (go_at_call 63; ((with_reducible refine (C.out.2 _).mono ?_); rintro e w1 ⟨rfl, rfl⟩)))
    go_ret
    exact ⟨rfl, bt (ba _ _) B.out⟩
  · have hk1 : decide (k = 1) = false := decide_eq_false hk
    clear h2
    go_enter Try.func45, Try.ntmps45
    go_wp2_with (first
      | (go_at_call 62; ((with_reducible refine (C.out.1 _).mono ?_); rintro e w1 ⟨rfl, hb⟩; have hc := (bcell hb).1; have B := Lib.hid hb; clear hb))
      | (go_at_call 63; ((with_reducible refine (C.out.2 _).mono ?_); rintro e w1 ⟨rfl, rfl⟩)))
    go_ret
    exact ⟨rfl, bt (ba _ _) B.out⟩
theorem alone_ref (v f : ByteArray) (w : World) (h : (Tr.ref v f).ok = true) :
    Calls Try.prog 32 #[ev 1 e0 0 0 e0 v f nilk] w fun e w' => e = .returned (.bool true) ∧ Below w.heap.size w w' := by
  unfold Tr.ok at h
  simp only [Bool.and_eq_true] at h
  have cV := fun W => IsName_any v W (nameB_size h.1)
  have cF := fun W => IsName_any f W (nameB_size h.2)
  rw [h.1] at cV
  rw [h.2] at cF
  have C := Lib.hid (And.intro cV cF); clear cV cF h
  go_enter Try.func32, Try.ntmps32
  go_wp2_with (go_at_call 37; first
      | ((with_reducible refine (C.out.1 _).mono ?_); rintro e w1 ⟨rfl, rfl⟩)
      | ((with_reducible refine (C.out.2 _).mono ?_); rintro e w1 ⟨rfl, rfl⟩))
  go_ret
  exact ⟨rfl, bt (ba _ _) (ba _ _)⟩
theorem alone_cnt (v : ByteArray) (w : World) (h : (Tr.cnt v).ok = true) :
    Calls Try.prog 32 #[ev 2 e0 0 0 e0 v e0 nilk] w fun e w' => e = .returned (.bool true) ∧ Below w.heap.size w w' := by
  unfold Tr.ok at h
  have cV := fun W => IsName_any v W (nameB_size h)
  rw [h] at cV
  have C := Lib.hid cV; clear cV h
  go_enter Try.func32, Try.ntmps32
  go_wp2_with (go_at_call 37; ((with_reducible refine (C.out _).mono ?_); rintro e w1 ⟨rfl, rfl⟩))
  go_ret
  exact ⟨rfl, bt (ba _ _) (ba _ _)⟩
theorem alone_un (op : ByteArray) (a : Addr) (c : Nat) (w : World) (h : unB op = true) :
    Calls Try.prog 32 #[ev 3 op 0 0 e0 e0 e0 (.slice (some a) 1 c)] w fun e w' => e = .returned (.bool true) ∧ Below w.heap.size w w' := by
  unfold unB at h
  simp only [Bool.or_eq_true, beq_iff_eq] at h
  rcases h with h | h
  all_goals
    go_enter Try.func32, Try.ntmps32
    go_wp2
    go_ret
    exact ⟨rfl, bt (ba _ _) (ba _ _)⟩
theorem alone_bin (op : ByteArray) (a : Addr) (c : Nat) (w : World) (h : 0 < lvl op) :
    Calls Try.prog 32 #[ev 4 op 0 0 e0 e0 e0 (.slice (some a) 2 c)] w fun e w' => e = .returned (.bool true) ∧ Below w.heap.size w w' := by
  have cL := fun W => Level_any op W
  generalize lvl op = x at *
  have C := Lib.hid cL; clear cL
  go_enter Try.func32, Try.ntmps32
  go_wp2_with (go_at_call 11; ((with_reducible refine (C.out _).mono ?_); rintro e w1 ⟨rfl, rfl⟩))
  go_ret
  exact ⟨rfl, bt (ba _ _) (ba _ _)⟩
theorem alone_lit (k n : Int) (s : ByteArray) (w : World) (h : (Tr.lit k n s).ok = true) :
    Calls Try.prog 32 #[ev 0 e0 k n s e0 e0 nilk] w fun e w' => e = .returned (.bool true) ∧ Below w.heap.size w w' := by
  have cL := fun W => rightLit_yes k n s W h
  have C := Lib.hid cL; clear cL h
  go_enter Try.func32, Try.ntmps32
  go_wp2_with (go_at_call 45; ((with_reducible refine (C.out _).mono ?_); rintro e w1 ⟨rfl, hb⟩; have hc := (bcell hb).1; have hf := (bcell hb).2; have B := Lib.hid hb; clear hb))
  go_ret
  exact ⟨rfl, (((bt (bt (ba _ _) (ba _ _)) B.out).setCell (Nat.le_succ _) _).setCell (Nat.le_succ _) _).setCell (Nat.le_succ _) _⟩
/-- All of a node's, and all below it, is right. -/
theorem every_gen (k : Int) (op : ByteArray) (vk vn : Int) (vs va f : ByteArray) (A : Option Addr) (n c : Nat) (w : World) (hn : n ≤ 2)
    (hA : ∀ W, Calls Try.prog 32 #[ev k op vk vn vs va f (.slice A n c)] W fun e w' => e = .returned (.bool true) ∧ Below W.heap.size W w')
    (hK : ∀ i, i < n → ∃ a, A = some a ∧ ∃ k' op' vk' vn' vs' va' f' A' n' c', Row8 w (a.add (i * 8)) k' op' vk' vn' vs' va' f' (.slice A' n' c') ∧
      ∀ W, Below w.heap.size w W → Calls Try.prog 31 #[ev k' op' vk' vn' vs' va' f' (.slice A' n' c'), .func (.func 32) #[] #[]] W fun e w' => e = .returned (.bool true) ∧ Below W.heap.size W w') :
    Calls Try.prog 31 #[ev k op vk vn vs va f (.slice A n c), .func (.func 32) #[] #[]] w fun e w' => e = .returned (.bool true) ∧ Below w.heap.size w w' := by
  have H := Lib.hid (And.intro hA hK); clear hA hK
  go_enter Try.func31, Try.ntmps31
  go_wp2_with (go_at_call 32; ((with_reducible refine (H.out.1 _).mono ?_); rintro e w1 ⟨rfl, hb⟩; have hc := (bcell hb).1; have B := Lib.hid hb; clear hb))
  go_loopw [14] (fun i wr => ∃ j : Nat, j ≤ n ∧ i = .int .i64 j ∧ Below w.heap.size w wr) (fun i _ => n - (intOf i).toNat)
  case atStart => exact ⟨0, Nat.zero_le _, rfl, bt (ba _ _) B.out⟩
  case round =>
    obtain ⟨j, hj, rfl, hb⟩ := hrel
    by_cases hlt : j < n
    · obtain ⟨a, rfl, k', op', vk', vn', vs', va', f', A', n', c', hr, cE⟩ := H.out.2 j hlt
      obtain ⟨c0, c1, c2, c3, c4, c5, c6, c7⟩ := hr.later hb
      have bA := bt hb (ba wr (.cells #[.int .i64 k', .string op', .int .i64 vk', .int .i64 vn', .string vs', .string va', .string f', .slice A' n' c'] 38))
      have cE2 := cE _ bA
      have E := Lib.hid (And.intro cE2 bA); clear cE cE2 bA hb hr
      go_wp2_with (go_at_call 31; ((with_reducible refine (E.out.1).mono ?_); rintro e w2 ⟨rfl, hb2⟩))
      go_roundw
      case rel => exact ⟨j + 1, by omega, by go_num, bt E.out.2 hb2⟩
      case measure => simp [intOf]; omega
    · have HE := Lib.hid hb; clear hb
      go_wp2_with fail
      go_ret
      exact ⟨rfl, HE.out⟩
theorem TrAt.sl {w : World} {t : Tr} {v : Value} (h : TrAt w t v) : ∃ A n c, v = .slice A n c := by
  cases t with
  | lit k n s => exact ⟨_, _, _, h⟩
  | ref v f => exact ⟨_, _, _, h⟩
  | cnt v => exact ⟨_, _, _, h⟩
  | un op x => obtain ⟨a, c, h0, _⟩ := h; exact ⟨_, _, _, h0⟩
  | bin op x y => obtain ⟨a, c, h0, _⟩ := h; exact ⟨_, _, _, h0⟩
theorem every_tr (t : Tr) : ∀ (v : Value) (w : World), TrAt w t v → t.ok = true →
    Calls Try.prog 31 #[t.val v, .func (.func 32) #[] #[]] w fun e w' => e = .returned (.bool true) ∧ Below w.heap.size w w' := by
  induction t with
  | lit k n s =>
    rintro v w rfl ho
    exact every_gen 0 e0 k n s e0 e0 none 0 0 w (by omega) (fun W => alone_lit k n s W ho) (fun i hi => absurd hi (by omega))
  | ref v f =>
    rintro v w rfl ho
    exact every_gen 1 e0 0 0 e0 _ f none 0 0 w (by omega) (fun W => alone_ref _ f W ho) (fun i hi => absurd hi (by omega))
  | cnt v =>
    rintro v w rfl ho
    exact every_gen 2 e0 0 0 e0 _ e0 none 0 0 w (by omega) (fun W => alone_cnt _ W ho) (fun i hi => absurd hi (by omega))
  | un op x ih =>
    rintro v w ⟨a, c, rfl, h1, h2, kx, hx, hr⟩ ho
    unfold Tr.ok at ho
    simp only [Bool.and_eq_true] at ho
    refine every_gen 3 op 0 0 e0 e0 e0 (some a) 1 c w (by omega) (fun W => alone_un op a c W ho.1) (fun i hi => ⟨a, rfl, ?_⟩)
    obtain rfl : i = 0 := by omega
    obtain ⟨A', n', c', rfl⟩ := hx.sl
    have hv := (fun W hb => ih _ W (hx.later hb) ho.2)
    cases x <;> exact ⟨_, _, _, _, _, _, _, _, _, _, hr, hv⟩
  | bin op x y ihx ihy =>
    rintro v w ⟨a, c, rfl, h1, h2, ⟨kx, hx, hr⟩, ky, hy, hs⟩ ho
    unfold Tr.ok at ho
    simp only [Bool.and_eq_true, decide_eq_true_eq] at ho
    refine every_gen 4 op 0 0 e0 e0 e0 (some a) 2 c w (by omega) (fun W => alone_bin op a c W ho.1.1) (fun i hi => ⟨a, rfl, ?_⟩)
    rcases (by omega : i = 0 ∨ i = 1) with rfl | rfl
    · obtain ⟨A', n', c', rfl⟩ := hx.sl
      have hv := (fun W hb => ihx _ W (hx.later hb) ho.1.2)
      cases x <;> exact ⟨_, _, _, _, _, _, _, _, _, _, hr, hv⟩
    · obtain ⟨A', n', c', rfl⟩ := hy.sl
      have hv := (fun W hb => ihy _ W (hy.later hb) ho.2)
      cases y <;> exact ⟨_, _, _, _, _, _, _, _, _, _, hs, hv⟩
/-- Right: all the right trees. -/
theorem Right_gen (k : Int) (op : ByteArray) (vk vn : Int) (vs va f : ByteArray) (A : Option Addr) (n c : Nat) (w : World)
    (hE : ∀ W, Below w.heap.size w W → Calls Try.prog 31 #[ev k op vk vn vs va f (.slice A n c), .func (.func 32) #[] #[]] W fun e w' => e = .returned (.bool true) ∧ Below W.heap.size W w') :
    Calls Try.prog 20 #[ev k op vk vn vs va f (.slice A n c)] w fun e w' => e = .returned (.bool true) ∧ Below w.heap.size w w' := by
  have cE := hE _ (ba w (.cells #[.int .i64 k, .string op, .int .i64 vk, .int .i64 vn, .string vs, .string va, .string f, .slice A n c] 38))
  have E := Lib.hid cE; clear cE hE
  go_enter Try.func20, Try.ntmps20
  go_wp2_with (go_at_call 31; ((with_reducible refine (E.out).mono ?_); rintro e w2 ⟨rfl, hb2⟩))
  go_ret
  exact ⟨rfl, bt (ba _ _) hb2⟩
theorem Right_tr (t : Tr) (v : Value) (w : World) (h : TrAt w t v) (ho : t.ok = true) :
    Calls Try.prog 20 #[t.val v] w fun e w' => e = .returned (.bool true) ∧ Below w.heap.size w w' := by
  obtain ⟨A, n, c, rfl⟩ := h.sl
  have hE := fun W hb => every_tr t _ W (h.later hb) ho
  cases t <;> exact Right_gen _ _ _ _ _ _ _ _ _ _ w hE
end Go.Proofs.Ytkmboffbohndjaa
