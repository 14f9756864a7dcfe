/- Contracts of package expr: Size. -/
import Derived.Test.YtfkcjlpocfjmdaaDoorLayX
namespace Go.Proofs.YtfkcjlpocfjmdaaDoor
open Go.ChangeShapes Go.WideShapes Go.ChangeAt Go.RowKit
set_option linter.unusedVariables false
set_option linter.unusedSimpArgs false

theorem gb_set1 {g : Nat} (w : World) (j : Nat) (v : Value) : w.grownBy (w.setCell ⟨g, j, none⟩ v) (some g) :=
  ⟨rfl, rfl, rfl, by simp, fun k _ hk => Below.heap_setCell w ⟨g, j, none⟩ v k (fun e => hk (by rw [e]))⟩
theorem gb_below1 {w w' : World} {r : Option Nat} (h : Below w.heap.size w w') : w.grownBy w' r := ⟨h.os, h.tape, h.output, h.size, fun k hk _ => h.block k hk⟩
theorem size1_any (k : Int) (op : ByteArray) (vk vn : Int) (vs va f : ByteArray) (A : Option Addr) (n c : Nat) (g : Nat) (i : Int) (w : World) (hB : Blk w g 3 #[.int .i64 i]) :
    Calls Tryd.prog 46 #[ev k op vk vn vs va f (.slice A n c), .pointer (some ⟨g, 0, none⟩)] w fun e w' => e = .returned (.bool true) ∧ Blk w' g 3 #[.int .i64 (wrap64 (i + 1))] ∧ w.grownBy w' (some g) := by
  have p0 := hB.cell 0
  have p1 := hB.frozen 0
  have p2 := hB.lt
  have H := Lib.hid hB; clear hB
  go_enter Tryd.func46, Tryd.ntmps46
  go_wp2_with fail
  go_ret
  refine ⟨rfl, ?_, ?_⟩
  · have := (H.out.set_ 0 (.int .i64 (wrap64 (i + 1)))).alloc (.cells #[.int .i64 k, .string op, .int .i64 vk, .int .i64 vn, .string vs, .string va, .string f, .slice A n c] 26)
    simpa using this
  · exact grownBy_more (r := some g) (gb_set1 _ 0 _) (gb_below1 (ba _ _)) (Or.inl rfl)
/-- What every keeps of the tree, and of the count. -/
def KZ (w0 : World) (g : Nat) (w : World) (i : Int) (W : World) : Prop := Below w0.heap.size w0 W ∧ Blk W g 3 #[.int .i64 i] ∧ w.grownBy W (some g)
theorem KZ.alloc {w0 w W : World} {g : Nat} {i : Int} (h : KZ w0 g w i W) (o : Obj) (hg : w0.heap.size ≤ W.heap.size) : KZ w0 g w i (W.alloc o) :=
  ⟨h.1.trans ((ba W o).mono hg), h.2.1.alloc o, grownBy_more h.2.2 (gb_below1 (ba W o)) (Or.inl rfl)⟩
theorem wrap_add (a : Int) (b : Int) : wrap64 (wrap64 a + b) = wrap64 (a + b) := by unfold wrap64; omega
set_option maxHeartbeats 2000000 in
theorem size_gen (k : Int) (op : ByteArray) (vk vn : Int) (vs va f : ByteArray) (A : Option Addr) (n c : Nat) (w0 w : World) (g : Nat) (i : Int) (S : Nat → Int) (hn : n ≤ 2) (hg : w0.heap.size ≤ g) (hb : Below w0.heap.size w0 w) (hB : Blk w g 3 #[.int .i64 i]) (hS : S 0 = 0)
    (hK : ∀ j, j < n → ∃ a, A = some a ∧ ∃ k' op' vk' vn' vs' va' f' A' n' c', Row8 w0 (a.add (j * 8)) k' op' vk' vn' vs' va' f' (.slice A' n' c') ∧
      ∀ W i', KZ w0 g w i' W → Calls Tryd.prog 33 #[ev k' op' vk' vn' vs' va' f' (.slice A' n' c'), (.func (.func 46) #[] #[.pointer (some ⟨g, 0, none⟩)])] W fun e w' => e = .returned (.bool true) ∧ KZ w0 g w (wrap64 (i' + (S (j + 1) - S j))) w') :
    Calls Tryd.prog 33 #[ev k op vk vn vs va f (.slice A n c), (.func (.func 46) #[] #[.pointer (some ⟨g, 0, none⟩)])] w fun e w' => e = .returned (.bool true) ∧ KZ w0 g w (wrap64 (i + 1 + S n)) w' := by
  have bb := ba w (.cells #[.int .i64 k, .string op, .int .i64 vk, .int .i64 vn, .string vs, .string va, .string f, .slice A n c] 26)
  have hX := Blk.new w 26 #[.int .i64 k, .string op, .int .i64 vk, .int .i64 vn, .string vs, .string va, .string f, .slice A n c]
  have H := Lib.hid (And.intro hK (And.intro bb (And.intro hX (And.intro hB hb)))); clear hK bb hX hB hb
  go_enter Tryd.func33, Tryd.ntmps33
  go_wp2_with fail
  go_at_call 46
  refine (size1_any _ _ _ _ _ _ _ _ _ _ g i _ (H.out.2.2.2.1.later H.out.2.1)).mono ?_
  rintro e w1 ⟨rfl, hB1, hg1⟩
  have hX1 := (H.out.2.2.1.grown hg1 (fun e => by have := Option.some.inj e; have := H.out.2.2.2.1.lt; omega)).cell
  have Z1 : KZ w0 g w (wrap64 (i + 1)) w1 := ⟨(H.out.2.2.2.2.trans (H.out.2.1.mono H.out.2.2.2.2.size)).trans (grownBy_below hg1 (Nat.le_trans H.out.2.2.2.2.size H.out.2.1.size) (fun q hq => by have := Option.some.inj hq; omega)), hB1, grownBy_more (gb_below1 H.out.2.1) hg1 (Or.inl rfl)⟩
  have Z := Lib.hid Z1; clear Z1 hB1 hg1
  go_wp2_with fail
  go_loopw [14] (fun x wr => ∃ j : Nat, j ≤ n ∧ x = .int .i64 j ∧ KZ w0 g w (wrap64 (i + 1 + S j)) wr) (fun x _ => n - (intOf x).toNat)
  case atStart => exact ⟨0, Nat.zero_le _, rfl, by rw [hS, Int.add_zero]; exact Z.out⟩
  case round =>
    obtain ⟨j, hj, rfl, hz⟩ := hrel
    by_cases hlt : j < n
    · obtain ⟨a, rfl, k', op', vk', vn', vs', va', f', A', n', c', hr, cE⟩ := H.out.1 j hlt
      obtain ⟨c0, c1, c2, c3, c4, c5, c6, c7⟩ := hr.later hz.1
      have hz2 := hz.alloc (.cells #[.int .i64 k', .string op', .int .i64 vk', .int .i64 vn', .string vs', .string va', .string f', .slice A' n' c'] 26) hz.1.size
      have cE2 := cE _ _ hz2
      rw [wrap_add, show i + 1 + S j + (S (j + 1) - S j) = i + 1 + S (j + 1) by omega] at cE2
      have E := Lib.hid cE2; clear cE cE2 hz2 hz hr
      go_wp2_with (go_at_call 33; ((with_reducible refine (E.out).mono ?_); rintro e w2 ⟨rfl, hb2⟩))
      go_roundw
      case rel => exact ⟨j + 1, by omega, by go_num, hb2⟩
      case measure => simp [intOf]; omega
    · obtain rfl : j = n := by omega
      have HE := Lib.hid hz; clear hz
      go_wp2_with fail
      go_ret
      exact ⟨rfl, HE.out⟩
end Go.Proofs.YtfkcjlpocfjmdaaDoor
namespace Go.Proofs.YtfkcjlpocfjmdaaDoor
open Go.ChangeShapes Go.WideShapes Go.ChangeAt Go.RowKit
set_option linter.unusedVariables false
set_option linter.unusedSimpArgs false

theorem size_tr (w0 : World) (g : Nat) (hg : w0.heap.size ≤ g) : ∀ (t : Tr) (K : Value), TrAt w0 t K → ∀ (w : World) (i : Int), Below w0.heap.size w0 w → Blk w g 3 #[.int .i64 i] →
    Calls Tryd.prog 33 #[t.val K, (.func (.func 46) #[] #[.pointer (some ⟨g, 0, none⟩)])] w fun e w' => e = .returned (.bool true) ∧ KZ w0 g w (wrap64 (i + t.nodes)) w'
  | .lit k n s, K, h, w, i, hb, hB => by
    obtain rfl : K = nilk := h
    have := size_gen 0 e0 k n s e0 e0 none 0 0 w0 w g i (fun _ => 0) (by decide) hg hb hB rfl (fun j hj => absurd hj (by omega))
    simp only [Int.add_zero] at this
    exact this
  | .ref v f, K, h, w, i, hb, hB => by
    obtain rfl : K = nilk := h
    have := size_gen 1 e0 0 0 e0 v f none 0 0 w0 w g i (fun _ => 0) (by decide) hg hb hB rfl (fun j hj => absurd hj (by omega))
    simp only [Int.add_zero] at this
    exact this
  | .cnt v, K, h, w, i, hb, hB => by
    obtain rfl : K = nilk := h
    have := size_gen 2 e0 0 0 e0 v e0 none 0 0 w0 w g i (fun _ => 0) (by decide) hg hb hB rfl (fun j hj => absurd hj (by omega))
    simp only [Int.add_zero] at this
    exact this
  | .un op x, K, h, w, i, hb, hB => by
    obtain ⟨a, c, rfl, h1, h2, kx, hx, hr⟩ := h
    obtain ⟨A1, n1, c1, e1⟩ := node_sl hx
    have IH := size_tr w0 g hg x kx hx
    unfold Tr.val at IH
    rw [e1] at hr IH
    have := size_gen 3 op 0 0 e0 e0 e0 (some a) 1 c w0 w g i (fun j => (j : Int) * x.nodes) (by decide) hg hb hB (by simp) (fun j hj => by
      obtain rfl : j = 0 := by omega
      refine ⟨a, rfl, _, _, _, _, _, _, _, _, _, _, (by simpa [Addr.add] using hr), fun W i' hz => (IH W i' hz.1 hz.2.1).mono ?_⟩
      rintro e w' ⟨rfl, hz'⟩
      exact ⟨rfl, hz'.1, by have := hz'.2.1; simpa using this, grownBy_more hz.2.2 hz'.2.2 (Or.inl rfl)⟩)
    rw [show (i + 1 + ((1 : Nat) : Int) * (x.nodes : Int)) = i + ((Tr.un op x).nodes : Int) by rw [Tr.nodes]; omega] at this
    exact this
  | .bin op x y, K, h, w, i, hb, hB => by
    obtain ⟨a, c, rfl, h1, h2, ⟨kx, hx, hr⟩, ky, hy, hq⟩ := h
    obtain ⟨A1, n1, c1, e1⟩ := node_sl hx
    obtain ⟨A2, n2, c2, e2⟩ := node_sl hy
    have IH := size_tr w0 g hg x kx hx
    have IH2 := size_tr w0 g hg y ky hy
    unfold Tr.val at IH IH2
    rw [e1] at hr IH
    rw [e2] at hq IH2
    have := size_gen 4 op 0 0 e0 e0 e0 (some a) 2 c w0 w g i (fun j => if j = 0 then 0 else if j = 1 then (x.nodes : Int) else (x.nodes : Int) + y.nodes) (by decide) hg hb hB rfl (fun j hj => by
      rcases (by omega : j = 0 ∨ j = 1) with rfl | rfl
      · refine ⟨a, rfl, _, _, _, _, _, _, _, _, _, _, (by simpa [Addr.add] using hr), fun W i' hz => (IH W i' hz.1 hz.2.1).mono ?_⟩
        rintro e w' ⟨rfl, hz'⟩
        exact ⟨rfl, hz'.1, by have := hz'.2.1; simpa using this, grownBy_more hz.2.2 hz'.2.2 (Or.inl rfl)⟩
      · refine ⟨a, rfl, _, _, _, _, _, _, _, _, _, _, hq, fun W i' hz => (IH2 W i' hz.1 hz.2.1).mono ?_⟩
        rintro e w' ⟨rfl, hz'⟩
        exact ⟨rfl, hz'.1, by have := hz'.2.1; rw [show (i' + ((if (1 + 1 : Nat) = 0 then 0 else if (1 + 1 : Nat) = 1 then (x.nodes : Int) else (x.nodes : Int) + y.nodes) - (if (1 : Nat) = 0 then 0 else if (1 : Nat) = 1 then (x.nodes : Int) else (x.nodes : Int) + y.nodes))) = i' + (y.nodes : Int) by simp; omega]; exact this, grownBy_more hz.2.2 hz'.2.2 (Or.inl rfl)⟩)
    rw [show (i + 1 + (if (2 : Nat) = 0 then 0 else if (2 : Nat) = 1 then (x.nodes : Int) else (x.nodes : Int) + y.nodes)) = i + ((Tr.bin op x y).nodes : Int) by rw [Tr.nodes]; simp; omega] at this
    exact this
set_option maxHeartbeats 1000000 in
theorem Size_gen (k : Int) (op : ByteArray) (vk vn : Int) (vs va f : ByteArray) (A : Option Addr) (n c : Nat) (N : Int) (w : World)
    (hE : ∀ W g, Below w.heap.size w W → w.heap.size ≤ g → Blk W g 3 #[.int .i64 0] → Calls Tryd.prog 33 #[ev k op vk vn vs va f (.slice A n c), (.func (.func 46) #[] #[.pointer (some ⟨g, 0, none⟩)])] W fun e w' => e = .returned (.bool true) ∧ KZ w g W N w') :
    Calls Tryd.prog 24 #[ev k op vk vn vs va f (.slice A n c)] w fun e w' => e = .returned (.int .i64 N) ∧ Below w.heap.size w w' := by
  have b1 := ba w (.cells #[.int .i64 k, .string op, .int .i64 vk, .int .i64 vn, .string vs, .string va, .string f, .slice A n c] 26)
  have b2 := ba (w.alloc (.cells #[.int .i64 k, .string op, .int .i64 vk, .int .i64 vn, .string vs, .string va, .string f, .slice A n c] 26)) (.cells #[.int .i64 0] 3)
  have hB := Blk.new (w.alloc (.cells #[.int .i64 k, .string op, .int .i64 vk, .int .i64 vn, .string vs, .string va, .string f, .slice A n c] 26)) 3 #[.int .i64 0]
  rw [World.size_alloc] at hB
  have C := hE _ (w.heap.size + 1) (bt b1 b2) (by omega) hB
  have H := Lib.hid C; clear C hE b1 b2 hB
  go_enter Tryd.func24, Tryd.ntmps24
  go_wp2_with (go_at_call 33; ((with_reducible refine (H.out).mono ?_); rintro e w2 ⟨rfl, hz⟩; have p0 := hz.2.1.cell; have Z := Lib.hid hz.1; clear hz))
  go_ret
  exact ⟨rfl, Z.out⟩
/-- Size at whatever tree. -/
theorem Size_tr (t : Tr) (K : Value) (w : World) (h : TrAt w t K) :
    Calls Tryd.prog 24 #[t.val K] w fun e w' => e = .returned (.int .i64 (wrap64 (t.nodes : Int))) ∧ Below w.heap.size w w' := by
  have hE := fun W g (hW : Below w.heap.size w W) (hg : w.heap.size ≤ g) (hB : Blk W g 3 #[.int .i64 0]) => size_tr w g hg t K h W 0 hW hB
  obtain ⟨A, n, c, e1⟩ := node_sl h
  unfold Tr.val at hE ⊢
  rw [e1] at hE ⊢
  simp only [Int.zero_add] at hE
  exact Size_gen _ _ _ _ _ _ _ A n c _ w hE
end Go.Proofs.YtfkcjlpocfjmdaaDoor
