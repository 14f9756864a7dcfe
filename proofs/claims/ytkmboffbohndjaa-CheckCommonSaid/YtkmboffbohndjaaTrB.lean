/- Trees that a statement makes: lit, two. -/
import Derived.Test.YtkmboffbohndjaaTreeR
namespace Go.Proofs.Ytkmboffbohndjaa
open Go.ChangeShapes Go.WideShapes Go.ChangeAt Go.RowKit
set_option linter.unusedVariables false
set_option linter.unusedSimpArgs false

theorem Tr.val_ev (t : Tr) (A : Option Addr) (n c : Nat) (w : World) (h : TrAt w t (.slice A n c)) :
    ∃ k op vk vn vs va f A' n' c', t.val (.slice A n c) = ev k op vk vn vs va f (.slice A' n' c') ∧ t.node (.slice A n c) = (k, op, vk, vn, vs, va, f, .slice A' n' c') := by
  cases t <;> exact ⟨_, _, _, _, _, _, _, _, _, _, rfl, rfl⟩
theorem lit_any (n : Int) (w : World) : Calls Try.prog 19 #[.int .i64 n] w fun e w' => e = .returned (ev 0 e0 1 n e0 e0 e0 nilk) ∧ Below w.heap.size w w' := by
  go_enter Try.func19, Try.ntmps19
  go_wp2
  exact bodyPost_ret (v := ev 0 e0 1 n e0 e0 e0 nilk) (by simp [results, Try.results19, go_sem]) rfl ⟨rfl, ba _ _⟩
theorem two_ev (op : ByteArray) (k1 : Int) (o1 : ByteArray) (a1 b1 : Int) (s1 v1 f1 : ByteArray) (A1 : Option Addr) (n1 c1 : Nat) (k2 : Int) (o2 : ByteArray) (a2 b2 : Int) (s2 v2 f2 : ByteArray) (A2 : Option Addr) (n2 c2 : Nat) (w : World) :
    Calls Try.prog 9 #[.string op, ev k1 o1 a1 b1 s1 v1 f1 (.slice A1 n1 c1), ev k2 o2 a2 b2 s2 v2 f2 (.slice A2 n2 c2)] w fun e w' => e = .returned (ev 4 op 0 0 e0 e0 e0 (.slice (some ⟨w.heap.size + 1 + 1 + 1, 0, none⟩) 2 2)) ∧ Below w.heap.size w w' ∧
      Blk w' (w.heap.size + 1 + 1 + 1) 38 #[.int .i64 k1, .string o1, .int .i64 a1, .int .i64 b1, .string s1, .string v1, .string f1, .slice A1 n1 c1, .int .i64 k2, .string o2, .int .i64 a2, .int .i64 b2, .string s2, .string v2, .string f2, .slice A2 n2 c2] := by
  go_enter Try.func9, Try.ntmps9
  go_wp2
  refine bodyPost_ret (v := ev 4 op 0 0 e0 e0 e0 (.slice (some ⟨w.heap.size + 1 + 1 + 1, 0, none⟩) 2 2)) (by simp [results, Try.results9, go_sem]) rfl ⟨rfl, bt (bt (bt (ba _ _) (ba _ _)) (ba _ _)) (ba _ _), ?_⟩
  have := Blk.new (((w.alloc (.cells #[.int .i64 k1, .string o1, .int .i64 a1, .int .i64 b1, .string s1, .string v1, .string f1, .slice A1 n1 c1] 38)).alloc (.cells #[.int .i64 k2, .string o2, .int .i64 a2, .int .i64 b2, .string s2, .string v2, .string f2, .slice A2 n2 c2] 38)).alloc (.cells #[.int .i64 4, .string op, .int .i64 0, .int .i64 0, .string ⟨#[]⟩, .string ⟨#[]⟩, .string ⟨#[]⟩, .slice (some ⟨w.heap.size + 1 + 1 + 1, 0, none⟩) 2 2] 38)) 38 #[.int .i64 k1, .string o1, .int .i64 a1, .int .i64 b1, .string s1, .string v1, .string f1, .slice A1 n1 c1, .int .i64 k2, .string o2, .int .i64 a2, .int .i64 b2, .string s2, .string v2, .string f2, .slice A2 n2 c2]
  simpa using this
def IsTr (t : Tr) (e : Ending) (w : World) : Prop := ∃ K, e = .returned (t.val K) ∧ TrAt w t K
theorem row_lo {w : World} {g : Nat} {t : TypeId} {k1 : Int} {o1 : ByteArray} {a1 b1 : Int} {s1 v1 f1 : ByteArray} {K1 c0 c1 c2 c3 c4 c5 c6 c7 : Value} (h : Blk w g t #[.int .i64 k1, .string o1, .int .i64 a1, .int .i64 b1, .string s1, .string v1, .string f1, K1, c0, c1, c2, c3, c4, c5, c6, c7]) :
    Row8 w ⟨g, 0, none⟩ k1 o1 a1 b1 s1 v1 f1 K1 := ⟨h.cell 0, h.cell 1, h.cell 2, h.cell 3, h.cell 4, h.cell 5, h.cell 6, h.cell 7⟩
theorem row_hi {w : World} {g : Nat} {t : TypeId} {k1 : Int} {o1 : ByteArray} {a1 b1 : Int} {s1 v1 f1 : ByteArray} {K1 c0 c1 c2 c3 c4 c5 c6 c7 : Value} (h : Blk w g t #[c0, c1, c2, c3, c4, c5, c6, c7, .int .i64 k1, .string o1, .int .i64 a1, .int .i64 b1, .string s1, .string v1, .string f1, K1]) :
    Row8 w ((⟨g, 0, none⟩ : Addr).add 8) k1 o1 a1 b1 s1 v1 f1 K1 := ⟨h.cell 8, h.cell 9, h.cell 10, h.cell 11, h.cell 12, h.cell 13, h.cell 14, h.cell 15⟩
theorem two_tr (op : ByteArray) (x y : Tr) (kx ky : Value) (w : World) (hx : TrAt w x kx) (hy : TrAt w y ky) :
    Calls Try.prog 9 #[.string op, x.val kx, y.val ky] w fun e w' => IsTr (.bin op x y) e w' ∧ Below w.heap.size w w' := by
  obtain ⟨A, n, c, rfl⟩ := hx.sl
  obtain ⟨B, m, d, rfl⟩ := hy.sl
  obtain ⟨k1, o1, a1, b1, s1, v1, f1, A1, n1, c1, e1, e2⟩ := Tr.val_ev x A n c w hx
  obtain ⟨k2, o2, a2, b2, s2, v2, f2, A2, n2, c2, g1, g2⟩ := Tr.val_ev y B m d w hy
  rw [e1, g1]
  refine (two_ev op k1 o1 a1 b1 s1 v1 f1 A1 n1 c1 k2 o2 a2 b2 s2 v2 f2 A2 n2 c2 w).mono ?_
  rintro e w' ⟨rfl, hb, hB⟩
  refine ⟨⟨_, rfl, _, 2, rfl, by decide, by decide, ⟨_, hx.later hb, ?_⟩, _, hy.later hb, ?_⟩, hb⟩
  · rw [e2]; exact row_lo hB
  · rw [g2]; exact row_hi hB
end Go.Proofs.Ytkmboffbohndjaa
