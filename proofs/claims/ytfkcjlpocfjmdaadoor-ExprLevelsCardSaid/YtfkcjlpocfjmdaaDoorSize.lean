/- Contracts of package expr: Size. -/
import Derived.Test.YtfkcjlpocfjmdaaDoorLayX
namespace Go.Proofs.YtfkcjlpocfjmdaaDoor
open Go.ChangeShapes Go.WideShapes Go.ChangeAt Go.RowKit
set_option linter.unusedVariables false
set_option linter.unusedSimpArgs false

theorem gb_set1 {g : Nat} (w : World) (j : Nat) (v : Value) : w.grownBy (w.setCell ⟨g, j, none⟩ v) (some g) :=
  ⟨rfl, rfl, rfl, by simp, fun k _ hk => Below.heap_setCell w ⟨g, j, none⟩ v k (fun e => hk (by rw [e]))⟩
theorem gb_below1 {w w' : World} {r : Option Nat} (h : Below w.heap.size w w') : w.grownBy w' r := ⟨h.os, h.tape, h.output, h.size, fun k hk _ => h.block k hk⟩
theorem size1_any (k : Int) (op : ByteArray) (vk vn : Int) (vs va f : ByteArray) (A : Option Addr) (n c : Nat) (g : Nat) (i : Int) (w : World) (hB : Blk w g 3 #[.int .i64 i]) :
    Calls Tryd.prog 46 #[ev k op vk vn vs va f (.slice A n c), .pointer (some ⟨g, 0, none⟩)] w fun e w' => e = .returned (.bool true) ∧ Blk w' g 3 #[.int .i64 (wrap64 (i + 1))] ∧ w.grownBy w' (some g) := by
  have p0 := hB.cell 0
  have p1 := hB.frozen 0
  have p2 := hB.lt
  have H := Lib.hid hB; clear hB
  go_enter Tryd.func46, Tryd.ntmps46
  go_wp2_with fail
  go_ret
  refine ⟨rfl, ?_, ?_⟩
  · have := (H.out.set_ 0 (.int .i64 (wrap64 (i + 1)))).alloc (.cells #[.int .i64 k, .string op, .int .i64 vk, .int .i64 vn, .string vs, .string va, .string f, .slice A n c] 26)
    simpa using this
  · exact grownBy_more (r := some g) (gb_set1 _ 0 _) (gb_below1 (ba _ _)) (Or.inl rfl)
/-- What every keeps of the tree, and of the count. -/
def KZ (w0 : World) (g : Nat) (w : World) (i : Int) (W : World) : Prop := Below w0.heap.size w0 W ∧ Blk W g 3 #[.int .i64 i] ∧ w.grownBy W (some g)
theorem KZ.alloc {w0 w W : World} {g : Nat} {i : Int} (h : KZ w0 g w i W) (o : Obj) (hg : w0.heap.size ≤ W.heap.size) : KZ w0 g w i (W.alloc o) :=
  ⟨h.1.trans ((ba W o).mono hg), h.2.1.alloc o, grownBy_more h.2.2 (gb_below1 (ba W o)) (Or.inl rfl)⟩
theorem wrap_add (a : Int) (b : Int) : wrap64 (wrap64 a + b) = wrap64 (a + b) := by unfold wrap64; omega
set_option maxHeartbeats 2000000 in
theorem size_gen (k : Int) (op : ByteArray) (vk vn : Int) (vs va f : ByteArray) (A : Option Addr) (n c : Nat) (w0 w : World) (g : Nat) (i : Int) (S : Nat → Int) (hn : n ≤ 2) (hg : w0.heap.size ≤ g) (hb : Below w0.heap.size w0 w) (hB : Blk w g 3 #[.int .i64 i]) (hS : S 0 = 0)
    (hK : ∀ j, j < n → ∃ a, A = some a ∧ ∃ k' op' vk' vn' vs' va' f' A' n' c', Row8 w0 (a.add (j * 8)) k' op' vk' vn' vs' va' f' (.slice A' n' c') ∧
      ∀ W i', KZ w0 g w i' W → Calls Tryd.prog 33 #[ev k' op' vk' vn' vs' va' f' (.slice A' n' c'), (.func (.func 46) #[] #[.pointer (some ⟨g, 0, none⟩)])] W fun e w' => e = .returned (.bool true) ∧ KZ w0 g w (wrap64 (i' + (S (j + 1) - S j))) w') :
    Calls Tryd.prog 33 #[ev k op vk vn vs va f (.slice A n c), (.func (.func 46) #[] #[.pointer (some ⟨g, 0, none⟩)])] w fun e w' => e = .returned (.bool true) ∧ KZ w0 g w (wrap64 (i + 1 + S n)) w' := by
  have bb := ba w (.cells #[.int .i64 k, .string op, .int .i64 vk, .int .i64 vn, .string vs, .string va, .string f, .slice A n c] 26)
  have hX := Blk.new w 26 #[.int .i64 k, .string op, .int .i64 vk, .int .i64 vn, .string vs, .string va, .string f, .slice A n c]
  have H := Lib.hid (And.intro hK (And.intro bb (And.intro hX (And.intro hB hb)))); clear hK bb hX hB hb
  go_enter Tryd.func33, Tryd.ntmps33
  go_wp2_with fail
  go_at_call 46
  refine (size1_any _ _ _ _ _ _ _ _ _ _ g i _ (H.out.2.2.2.1.later H.out.2.1)).mono ?_
  rintro e w1 ⟨rfl, hB1, hg1⟩
  have hX1 := (H.out.2.2.1.grown hg1 (fun e => by have := Option.some.inj e; have := H.out.2.2.2.1.lt; omega)).cell
  have Z1 : KZ w0 g w (wrap64 (i + 1)) w1 := ⟨(H.out.2.2.2.2.trans (H.out.2.1.mono H.out.2.2.2.2.size)).trans (grownBy_below hg1 (Nat.le_trans H.out.2.2.2.2.size H.out.2.1.size) (fun q hq => by have := Option.some.inj hq; omega)), hB1, grownBy_more (gb_below1 H.out.2.1) hg1 (Or.inl rfl)⟩
  have Z := Lib.hid Z1; clear Z1 hB1 hg1
  go_wp2_with fail
  go_loopw [14] (fun x wr => ∃ j : Nat, j ≤ n ∧ x = .int .i64 j ∧ KZ w0 g w (wrap64 (i + 1 + S j)) wr) (fun x _ => n - (intOf x).toNat)
  case atStart => exact ⟨0, Nat.zero_le _, rfl, by rw [hS, Int.add_zero]; exact Z.out⟩
  case round =>
    obtain ⟨j, hj, rfl, hz⟩ := hrel
    by_cases hlt : j < n
    · obtain ⟨a, rfl, k', op', vk', vn', vs', va', f', A', n', c', hr, cE⟩ := H.out.1 j hlt
      obtain ⟨c0, c1, c2, c3, c4, c5, c6, c7⟩ := hr.later hz.1
      have hz2 := hz.alloc (.cells #[.int .i64 k', .string op', .int .i64 vk', .int .i64 vn', .string vs', .string va', .string f', .slice A' n' c'] 26) hz.1.size
      have cE2 := cE _ _ hz2
      rw [wrap_add, show i + 1 + S j + (S (j + 1) - S j) = i + 1 + S (j + 1) by omega] at cE2
      have E := Lib.hid cE2; clear cE cE2 hz2 hz hr
      go_wp2_with (go_at_call 33; ((with_reducible refine (E.out).mono ?_); rintro e w2 ⟨rfl, hb2⟩))
      go_roundw
      case rel => exact ⟨j + 1, by omega, by go_num, hb2⟩
      case measure => simp [intOf]; omega
    · obtain rfl : j = n := by omega
      have HE := Lib.hid hz; clear hz
      go_wp2_with fail
      go_ret
      exact ⟨rfl, HE.out⟩
end Go.Proofs.YtfkcjlpocfjmdaaDoor
