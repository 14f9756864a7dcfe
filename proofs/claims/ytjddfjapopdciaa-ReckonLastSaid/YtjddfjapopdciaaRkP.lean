/- Contracts of package reckon: Holds; and of the statements' small helpers: lit, truth, two. -/
import Derived.Test.YtjddfjapopdciaaRkN
import Derived.Lib.QuietBelow
namespace Go.Proofs.Ytjddfjapopdciaa
open Go.ChangeShapes Go.WideShapes Go.ChangeAt Go.RowKit
open Rk (inR)
set_option linter.unusedVariables false
set_option linter.unusedSimpArgs false

theorem lit_any (n : Int) (w : World) : Calls Try.prog 33 #[.int .i64 n] w fun e w' => e = .returned (ev 0 e0 1 n e0 e0 e0 nilk) ∧ Below w.heap.size w w' := by
  go_enter Try.func33, Try.ntmps33
  go_wp2
  exact bodyPost_ret (v := ev 0 e0 1 n e0 e0 e0 nilk) (by simp [results, Try.results33, go_sem]) rfl ⟨rfl, ba _ _⟩
theorem ltruth_any (b : Bool) (w : World) : Calls Try.prog 34 #[.bool b] w fun e w' => e = .returned (ev 0 e0 2 (if b then 1 else 0) e0 e0 e0 nilk) ∧ Below w.heap.size w w' := by
  cases b
  all_goals
    go_enter Try.func34, Try.ntmps34
    go_wp2
    exact bodyPost_ret (v := ev 0 e0 2 _ e0 e0 e0 nilk) (by simp [results, Try.results34, go_sem]) rfl ⟨rfl, bt (ba _ _) (ba _ _)⟩
theorem two_ev (op : ByteArray) (k1 : Int) (o1 : ByteArray) (a1 b1 : Int) (s1 v1 f1 : ByteArray) (A1 : Option Addr) (n1 c1 : Nat) (k2 : Int) (o2 : ByteArray) (a2 b2 : Int) (s2 v2 f2 : ByteArray) (A2 : Option Addr) (n2 c2 : Nat) (w : World) :
    Calls Try.prog 32 #[.string op, ev k1 o1 a1 b1 s1 v1 f1 (.slice A1 n1 c1), ev k2 o2 a2 b2 s2 v2 f2 (.slice A2 n2 c2)] w fun e w' => e = .returned (ev 4 op 0 0 e0 e0 e0 (.slice (some ⟨w.heap.size + 1 + 1 + 1, 0, none⟩) 2 2)) ∧ Below w.heap.size w w' ∧
      Blk w' (w.heap.size + 1 + 1 + 1) 26 #[.int .i64 k1, .string o1, .int .i64 a1, .int .i64 b1, .string s1, .string v1, .string f1, .slice A1 n1 c1, .int .i64 k2, .string o2, .int .i64 a2, .int .i64 b2, .string s2, .string v2, .string f2, .slice A2 n2 c2] := by
  go_enter Try.func32, Try.ntmps32
  go_wp2
  refine bodyPost_ret (v := ev 4 op 0 0 e0 e0 e0 (.slice (some ⟨w.heap.size + 1 + 1 + 1, 0, none⟩) 2 2)) (by simp [results, Try.results32, go_sem]) rfl ⟨rfl, bt (bt (bt (ba _ _) (ba _ _)) (ba _ _)) (ba _ _), ?_⟩
  have := Blk.new (((w.alloc (.cells #[.int .i64 k1, .string o1, .int .i64 a1, .int .i64 b1, .string s1, .string v1, .string f1, .slice A1 n1 c1] 26)).alloc (.cells #[.int .i64 k2, .string o2, .int .i64 a2, .int .i64 b2, .string s2, .string v2, .string f2, .slice A2 n2 c2] 26)).alloc (.cells #[.int .i64 4, .string op, .int .i64 0, .int .i64 0, .string ⟨#[]⟩, .string ⟨#[]⟩, .string ⟨#[]⟩, .slice (some ⟨w.heap.size + 1 + 1 + 1, 0, none⟩) 2 2] 26)) 26 #[.int .i64 k1, .string o1, .int .i64 a1, .int .i64 b1, .string s1, .string v1, .string f1, .slice A1 n1 c1, .int .i64 k2, .string o2, .int .i64 a2, .int .i64 b2, .string s2, .string v2, .string f2, .slice A2 n2 c2]
  simpa using this
/-- What is told is a tree. -/
def IsTr (t : Tr) (e : Ending) (w : World) : Prop := ∃ K, e = .returned (t.val K) ∧ TrAt w t K
theorem IsTr.lit (k n : Int) (s : ByteArray) (w : World) : IsTr (.lit k n s) (.returned (ev 0 e0 k n s e0 e0 nilk)) w := ⟨_, rfl, rfl⟩
theorem row_lo {w : World} {g : Nat} {t : TypeId} {k1 : Int} {o1 : ByteArray} {a1 b1 : Int} {s1 v1 f1 : ByteArray} {K1 c0 c1 c2 c3 c4 c5 c6 c7 : Value} (h : Blk w g t #[.int .i64 k1, .string o1, .int .i64 a1, .int .i64 b1, .string s1, .string v1, .string f1, K1, c0, c1, c2, c3, c4, c5, c6, c7]) :
    Row8 w ⟨g, 0, none⟩ k1 o1 a1 b1 s1 v1 f1 K1 := ⟨h.cell 0, h.cell 1, h.cell 2, h.cell 3, h.cell 4, h.cell 5, h.cell 6, h.cell 7⟩
theorem row_hi {w : World} {g : Nat} {t : TypeId} {k1 : Int} {o1 : ByteArray} {a1 b1 : Int} {s1 v1 f1 : ByteArray} {K1 c0 c1 c2 c3 c4 c5 c6 c7 : Value} (h : Blk w g t #[c0, c1, c2, c3, c4, c5, c6, c7, .int .i64 k1, .string o1, .int .i64 a1, .int .i64 b1, .string s1, .string v1, .string f1, K1]) :
    Row8 w ((⟨g, 0, none⟩ : Addr).add 8) k1 o1 a1 b1 s1 v1 f1 K1 := ⟨h.cell 8, h.cell 9, h.cell 10, h.cell 11, h.cell 12, h.cell 13, h.cell 14, h.cell 15⟩
theorem two_tr (op : ByteArray) (x y : Tr) (kx ky : Value) (w : World) (hx : TrAt w x kx) (hy : TrAt w y ky) :
    Calls Try.prog 32 #[.string op, x.val kx, y.val ky] w fun e w' => IsTr (.bin op x y) e w' ∧ Below w.heap.size w w' := by
  obtain ⟨A, n, c, rfl⟩ := hx.sl
  obtain ⟨B, m, d, rfl⟩ := hy.sl
  obtain ⟨k1, o1, a1, b1, s1, v1, f1, A1, n1, c1, e1, e2⟩ := Tr.val_ev x A n c w hx
  obtain ⟨k2, o2, a2, b2, s2, v2, f2, A2, n2, c2, g1, g2⟩ := Tr.val_ev y B m d w hy
  rw [e1, g1]
  refine (two_ev op k1 o1 a1 b1 s1 v1 f1 A1 n1 c1 k2 o2 a2 b2 s2 v2 f2 A2 n2 c2 w).mono ?_
  rintro e w' ⟨rfl, hb, hB⟩
  refine ⟨⟨_, rfl, _, 2, rfl, by decide, by decide, ⟨_, hx.later hb, ?_⟩, _, hy.later hb, ?_⟩, hb⟩
  · rw [e2]; exact row_lo hB
  · rw [g2]; exact row_hi hB
theorem regrown_bel {w wq : World} (h : ∃ p : Regrown, wq = Go.Sort.grow (redrawn w p.d) p.os) : Below w.heap.size w wq := by
  obtain ⟨p, rfl⟩ := h; exact below_regrown _ _ _
/-- Holds, by what Reckon tells. -/
def isYes (r : Option V3) : Bool := decide (r = some (tv true))
theorem Holds_none (k : Int) (op : ByteArray) (vk vn : Int) (vs va f : ByteArray) (B : Option Addr) (n' c' : Nat) (A : Option Addr) (m c : Nat) (w : World)
    (hR : ∀ W, Below w.heap.size w W → Calls Try.prog 14 #[ev k op vk vn vs va f (.slice B n' c'), .slice A m c] W fun e w' => e = toldV none ∧ Below W.heap.size W w') :
    Calls Try.prog 18 #[ev k op vk vn vs va f (.slice B n' c'), .slice A m c] w fun e w' => e = .returned (.bool false) ∧ Below w.heap.size w w' := by
  have C := Lib.hid hR; clear hR
  have hb0 : Below w.heap.size w (w.alloc (.cells #[.int .i64 k, .string op, .int .i64 vk, .int .i64 vn, .string vs, .string va, .string f, .slice B n' c'] 26)) := ba _ _
  have HB := Lib.hid hb0; clear hb0
  go_enter Try.func18, Try.ntmps18
  go_wp2_with (go_at_call 14; ((with_reducible refine (C.out _ HB.out).mono ?_); rintro e w1 ⟨he, hb⟩; rw [show toldV none = .returned (.tuple #[v3 (0, 0, mt), .bool false]) from rfl] at he; subst he; have HC := Lib.hid hb; clear hb))
  refine wp_region_quiet_below (by kernel_rfl) (by kernel_rfl) ?_
  repeat (go_big_quiet_step (fail))
  refine wpQuiet_nil ?_
  intro wq hw'
  have bq := regrown_bel hw'
  clear hw'
  go_wp2
  go_ret
  exact ⟨rfl, bt (bt (bt HB.out HC.out) (ba _ _)) bq⟩
theorem Holds_some (k : Int) (op : ByteArray) (vk vn : Int) (vs va f : ByteArray) (B : Option Addr) (n' c' : Nat) (A : Option Addr) (m c : Nat) (v : V3) (w : World)
    (hR : ∀ W, Below w.heap.size w W → Calls Try.prog 14 #[ev k op vk vn vs va f (.slice B n' c'), .slice A m c] W fun e w' => e = toldV (some v) ∧ Below W.heap.size W w') :
    Calls Try.prog 18 #[ev k op vk vn vs va f (.slice B n' c'), .slice A m c] w fun e w' => e = .returned (.bool (isYes (some v))) ∧ Below w.heap.size w w' := by
  have C := Lib.hid hR; clear hR
  obtain ⟨x1, x2, x3⟩ := v
  have hb0 : Below w.heap.size w (w.alloc (.cells #[.int .i64 k, .string op, .int .i64 vk, .int .i64 vn, .string vs, .string va, .string f, .slice B n' c'] 26)) := ba _ _
  have HB := Lib.hid hb0; clear hb0
  by_cases a2 : x1 = 2 ∧ x2 = 1 ∧ x3.toList = []
  · obtain ⟨rfl, rfl, a3⟩ := a2
    obtain rfl : x3 = mt := toList_inj (a3.trans (by kernel_rfl))
    rw [show isYes (some (2, 1, mt)) = true from decide_eq_true rfl]
    go_enter Try.func18, Try.ntmps18
    go_wp2_with (go_at_call 14; ((with_reducible refine (C.out _ HB.out).mono ?_); rintro e w1 ⟨he, hb⟩; rw [show toldV (some (2, 1, mt)) = .returned (.tuple #[v3 (2, 1, mt), .bool true]) from rfl] at he; subst he; have HC := Lib.hid hb; clear hb))
    have y2 := fun d os => cell_regrown (w := w1.alloc (.cells #[.int .i64 2, .int .i64 1, .string mt] 23)) (a := ⟨w1.heap.size, 0, none⟩) (v := .int .i64 2) ((Blk.new w1 _ _).cell 0) d os
    have y3 := fun d os => cell_regrown (w := w1.alloc (.cells #[.int .i64 2, .int .i64 1, .string mt] 23)) (a := ⟨w1.heap.size, 1, none⟩) (v := .int .i64 1) ((Blk.new w1 _ _).cell 1) d os
    have y4 := fun d os => cell_regrown (w := w1.alloc (.cells #[.int .i64 2, .int .i64 1, .string mt] 23)) (a := ⟨w1.heap.size, 2, none⟩) (v := .string mt) ((Blk.new w1 _ _).cell 2) d os
    refine wp_region_quiet_below (by kernel_rfl) (by kernel_rfl) ?_
    repeat (go_big_quiet_step ((go_at_call 45; with_reducible exact Calls.regrown_of (truth_any _ _))))
    refine wpQuiet_nil ?_
    intro wq hw'
    have bq := regrown_bel hw'
    clear hw'
    go_wp2
    go_ret
    exact ⟨rfl, bt (bt (bt HB.out HC.out) (ba _ _)) bq⟩
  · rw [show isYes (some (x1, x2, x3)) = false from decide_eq_false (by intro b2; refine a2 ?_; have b2 := Option.some.inj b2; rw [Prod.mk.injEq, Prod.mk.injEq] at b2; obtain ⟨b3, b4, rfl⟩ := b2; exact ⟨b3, b4, by kernel_rfl⟩)]
    rcases (by by_cases q1 : x1 = 2 <;> by_cases q2 : x2 = 1 <;> by_cases q3 : x3.toList = [] <;> simp_all : ¬ x1 = 2 ∨ ¬ x2 = 1 ∨ ¬ x3.toList = []) with h5 | h5 | h5
    all_goals
      clear a2
      go_enter Try.func18, Try.ntmps18
      go_wp2_with (go_at_call 14; ((with_reducible refine (C.out _ HB.out).mono ?_); rintro e w1 ⟨he, hb⟩; rw [show toldV (some (x1, x2, x3)) = .returned (.tuple #[v3 (x1, x2, x3), .bool true]) from rfl] at he; subst he; have HC := Lib.hid hb; clear hb))
      have y2 := fun d os => cell_regrown (w := w1.alloc (.cells #[.int .i64 x1, .int .i64 x2, .string x3] 23)) (a := ⟨w1.heap.size, 0, none⟩) (v := .int .i64 x1) ((Blk.new w1 _ _).cell 0) d os
      have y3 := fun d os => cell_regrown (w := w1.alloc (.cells #[.int .i64 x1, .int .i64 x2, .string x3] 23)) (a := ⟨w1.heap.size, 1, none⟩) (v := .int .i64 x2) ((Blk.new w1 _ _).cell 1) d os
      have y4 := fun d os => cell_regrown (w := w1.alloc (.cells #[.int .i64 x1, .int .i64 x2, .string x3] 23)) (a := ⟨w1.heap.size, 2, none⟩) (v := .string x3) ((Blk.new w1 _ _).cell 2) d os
      refine wp_region_quiet_below (by kernel_rfl) (by kernel_rfl) ?_
      repeat (go_big_quiet_step ((go_at_call 45; with_reducible exact Calls.regrown_of (truth_any _ _))))
      refine wpQuiet_nil ?_
      intro wq hw'
      have bq := regrown_bel hw'
      clear hw'
      go_wp2
      go_ret
      exact ⟨rfl, bt (bt (bt HB.out HC.out) (ba _ _)) bq⟩
theorem Holds_tr (t : Tr) (v lv : Value) (l : List Bd) (w : World) (h : TrAt w t v) (ho : t.ok = true) (hs : t.small) (hl : BdsAt w lv l) (hk : okBds l) :
    Calls Try.prog 18 #[t.val v, lv] w fun e w' => e = .returned (.bool (isYes (evalT l t))) ∧ Below w.heap.size w w' := by
  have hK := fun W (hW : Below w.heap.size w W) => Reckon_tr t v lv l W (h.later hW) ho hs (hl.later hW) hk
  obtain ⟨A0, n, c, rfl⟩ := h.sl
  obtain ⟨A, m, cl, rfl⟩ := hl.sl
  obtain ⟨k', op', vk', vn', vs', va', f', A', n', c', e1, e2⟩ := Tr.val_ev t A0 n c w h
  rw [e1] at hK ⊢
  cases he : evalT l t with
  | none => rw [he] at hK; exact Holds_none _ _ _ _ _ _ _ _ _ _ _ _ _ w hK
  | some v => rw [he] at hK; exact Holds_some _ _ _ _ _ _ _ _ _ _ _ _ _ v w hK
end Go.Proofs.Ytjddfjapopdciaa
