/- Contracts of package expr: Size at whatever tree. -/
import Derived.Test.YtfkcjlpocfjmdaaDoorSize
namespace Go.Proofs.YtfkcjlpocfjmdaaDoor
open Go.ChangeShapes Go.WideShapes Go.ChangeAt Go.RowKit
set_option linter.unusedVariables false
set_option linter.unusedSimpArgs false

theorem size_tr (w0 : World) (g : Nat) (hg : w0.heap.size ≤ g) : ∀ (t : Tr) (K : Value), TrAt w0 t K → ∀ (w : World) (i : Int), Below w0.heap.size w0 w → Blk w g 3 #[.int .i64 i] →
    Calls Tryd.prog 33 #[t.val K, (.func (.func 46) #[] #[.pointer (some ⟨g, 0, none⟩)])] w fun e w' => e = .returned (.bool true) ∧ KZ w0 g w (wrap64 (i + t.nodes)) w'
  | .lit k n s, K, h, w, i, hb, hB => by
    obtain rfl : K = nilk := h
    have := size_gen 0 e0 k n s e0 e0 none 0 0 w0 w g i (fun _ => 0) (by decide) hg hb hB rfl (fun j hj => absurd hj (by omega))
    simp only [Int.add_zero] at this
    exact this
  | .ref v f, K, h, w, i, hb, hB => by
    obtain rfl : K = nilk := h
    have := size_gen 1 e0 0 0 e0 v f none 0 0 w0 w g i (fun _ => 0) (by decide) hg hb hB rfl (fun j hj => absurd hj (by omega))
    simp only [Int.add_zero] at this
    exact this
  | .cnt v, K, h, w, i, hb, hB => by
    obtain rfl : K = nilk := h
    have := size_gen 2 e0 0 0 e0 v e0 none 0 0 w0 w g i (fun _ => 0) (by decide) hg hb hB rfl (fun j hj => absurd hj (by omega))
    simp only [Int.add_zero] at this
    exact this
  | .un op x, K, h, w, i, hb, hB => by
    obtain ⟨a, c, rfl, h1, h2, kx, hx, hr⟩ := h
    obtain ⟨A1, n1, c1, e1⟩ := node_sl hx
    have IH := size_tr w0 g hg x kx hx
    unfold Tr.val at IH
    rw [e1] at hr IH
    have := size_gen 3 op 0 0 e0 e0 e0 (some a) 1 c w0 w g i (fun j => (j : Int) * x.nodes) (by decide) hg hb hB (by simp) (fun j hj => by
      obtain rfl : j = 0 := by omega
      refine ⟨a, rfl, _, _, _, _, _, _, _, _, _, _, (by simpa [Addr.add] using hr), fun W i' hz => (IH W i' hz.1 hz.2.1).mono ?_⟩
      rintro e w' ⟨rfl, hz'⟩
      exact ⟨rfl, hz'.1, by have := hz'.2.1; simpa using this, grownBy_more hz.2.2 hz'.2.2 (Or.inl rfl)⟩)
    rw [show (i + 1 + ((1 : Nat) : Int) * (x.nodes : Int)) = i + ((Tr.un op x).nodes : Int) by rw [Tr.nodes]; omega] at this
    exact this
  | .bin op x y, K, h, w, i, hb, hB => by
    obtain ⟨a, c, rfl, h1, h2, ⟨kx, hx, hr⟩, ky, hy, hq⟩ := h
    obtain ⟨A1, n1, c1, e1⟩ := node_sl hx
    obtain ⟨A2, n2, c2, e2⟩ := node_sl hy
    have IH := size_tr w0 g hg x kx hx
    have IH2 := size_tr w0 g hg y ky hy
    unfold Tr.val at IH IH2
    rw [e1] at hr IH
    rw [e2] at hq IH2
    have := size_gen 4 op 0 0 e0 e0 e0 (some a) 2 c w0 w g i (fun j => if j = 0 then 0 else if j = 1 then (x.nodes : Int) else (x.nodes : Int) + y.nodes) (by decide) hg hb hB rfl (fun j hj => by
      rcases (by omega : j = 0 ∨ j = 1) with rfl | rfl
      · refine ⟨a, rfl, _, _, _, _, _, _, _, _, _, _, (by simpa [Addr.add] using hr), fun W i' hz => (IH W i' hz.1 hz.2.1).mono ?_⟩
        rintro e w' ⟨rfl, hz'⟩
        exact ⟨rfl, hz'.1, by have := hz'.2.1; simpa using this, grownBy_more hz.2.2 hz'.2.2 (Or.inl rfl)⟩
      · refine ⟨a, rfl, _, _, _, _, _, _, _, _, _, _, hq, fun W i' hz => (IH2 W i' hz.1 hz.2.1).mono ?_⟩
        rintro e w' ⟨rfl, hz'⟩
        exact ⟨rfl, hz'.1, by have := hz'.2.1; rw [show (i' + ((if (1 + 1 : Nat) = 0 then 0 else if (1 + 1 : Nat) = 1 then (x.nodes : Int) else (x.nodes : Int) + y.nodes) - (if (1 : Nat) = 0 then 0 else if (1 : Nat) = 1 then (x.nodes : Int) else (x.nodes : Int) + y.nodes))) = i' + (y.nodes : Int) by simp; omega]; exact this, grownBy_more hz.2.2 hz'.2.2 (Or.inl rfl)⟩)
    rw [show (i + 1 + (if (2 : Nat) = 0 then 0 else if (2 : Nat) = 1 then (x.nodes : Int) else (x.nodes : Int) + y.nodes)) = i + ((Tr.bin op x y).nodes : Int) by rw [Tr.nodes]; simp; omega] at this
    exact this
set_option maxHeartbeats 1000000 in
theorem Size_gen (k : Int) (op : ByteArray) (vk vn : Int) (vs va f : ByteArray) (A : Option Addr) (n c : Nat) (N : Int) (w : World)
    (hE : ∀ W g, Below w.heap.size w W → w.heap.size ≤ g → Blk W g 3 #[.int .i64 0] → Calls Tryd.prog 33 #[ev k op vk vn vs va f (.slice A n c), (.func (.func 46) #[] #[.pointer (some ⟨g, 0, none⟩)])] W fun e w' => e = .returned (.bool true) ∧ KZ w g W N w') :
    Calls Tryd.prog 24 #[ev k op vk vn vs va f (.slice A n c)] w fun e w' => e = .returned (.int .i64 N) ∧ Below w.heap.size w w' := by
  have b1 := ba w (.cells #[.int .i64 k, .string op, .int .i64 vk, .int .i64 vn, .string vs, .string va, .string f, .slice A n c] 26)
  have b2 := ba (w.alloc (.cells #[.int .i64 k, .string op, .int .i64 vk, .int .i64 vn, .string vs, .string va, .string f, .slice A n c] 26)) (.cells #[.int .i64 0] 3)
  have hB := Blk.new (w.alloc (.cells #[.int .i64 k, .string op, .int .i64 vk, .int .i64 vn, .string vs, .string va, .string f, .slice A n c] 26)) 3 #[.int .i64 0]
  rw [World.size_alloc] at hB
  have C := hE _ (w.heap.size + 1) (bt b1 b2) (by omega) hB
  have H := Lib.hid C; clear C hE b1 b2 hB
  go_enter Tryd.func24, Tryd.ntmps24
  go_wp2_with (go_at_call 33; ((with_reducible refine (H.out).mono ?_); rintro e w2 ⟨rfl, hz⟩; have p0 := hz.2.1.cell; have Z := Lib.hid hz.1; clear hz))
  go_ret
  exact ⟨rfl, Z.out⟩
/-- Size at whatever tree. -/
theorem Size_tr (t : Tr) (K : Value) (w : World) (h : TrAt w t K) :
    Calls Tryd.prog 24 #[t.val K] w fun e w' => e = .returned (.int .i64 (wrap64 (t.nodes : Int))) ∧ Below w.heap.size w w' := by
  have hE := fun W g (hW : Below w.heap.size w W) (hg : w.heap.size ≤ g) (hB : Blk W g 3 #[.int .i64 0]) => size_tr w g hg t K h W 0 hW hB
  obtain ⟨A, n, c, e1⟩ := node_sl h
  unfold Tr.val at hE ⊢
  rw [e1] at hE ⊢
  simp only [Int.zero_add] at hE
  exact Size_gen _ _ _ _ _ _ _ A n c _ w hE
end Go.Proofs.YtfkcjlpocfjmdaaDoor
