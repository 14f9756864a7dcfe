/- Contracts of package expr: Right of what is not right. -/
import Derived.Test.YtfkcjlpocfjmdaaDoorAlone
namespace Go.Proofs.YtfkcjlpocfjmdaaDoor
open Go.ChangeShapes Go.WideShapes Go.ChangeAt Go.RowKit
set_option linter.unusedVariables false
set_option linter.unusedSimpArgs false

/-- Where the root is not right. -/
theorem every_no (k : Int) (op : ByteArray) (vk vn : Int) (vs va f : ByteArray) (A : Option Addr) (n c : Nat) (w : World)
    (hA : ∀ W, Calls Tryd.prog 34 #[ev k op vk vn vs va f (.slice A n c)] W fun e w' => e = .returned (.bool false) ∧ Below W.heap.size W w') :
    Calls Tryd.prog 33 #[ev k op vk vn vs va f (.slice A n c), .func (.func 34) #[] #[]] w fun e w' => e = .returned (.bool false) ∧ Below w.heap.size w w' := by
  have H := Lib.hid hA; clear hA
  go_enter Tryd.func33, Tryd.ntmps33
  go_wp2_with (go_at_call 34; ((with_reducible refine (H.out _).mono ?_); rintro e w1 ⟨rfl, hb⟩; have B := Lib.hid hb; clear hb))
  go_ret
  exact ⟨rfl, bt (ba _ _) B.out⟩
theorem Right_res (b : Bool) (k : Int) (op : ByteArray) (vk vn : Int) (vs va f : ByteArray) (A : Option Addr) (n c : Nat) (w : World)
    (hE : ∀ W, Below w.heap.size w W → Calls Tryd.prog 33 #[ev k op vk vn vs va f (.slice A n c), .func (.func 34) #[] #[]] W fun e w' => e = .returned (.bool b) ∧ Below W.heap.size W w') :
    Calls Tryd.prog 12 #[ev k op vk vn vs va f (.slice A n c)] w fun e w' => e = .returned (.bool b) ∧ Below w.heap.size w w' := by
  have cE := hE _ (ba w (.cells #[.int .i64 k, .string op, .int .i64 vk, .int .i64 vn, .string vs, .string va, .string f, .slice A n c] 26))
  have E := Lib.hid cE; clear cE hE
  go_enter Tryd.func12, Tryd.ntmps12
  go_wp2_with (go_at_call 33; ((with_reducible refine (E.out).mono ?_); rintro e w2 ⟨rfl, hb2⟩))
  go_ret
  exact ⟨rfl, bt (ba _ _) hb2⟩
/-- Right of a node that is not right alone. -/
theorem Right_no (k : Int) (op : ByteArray) (vk vn : Int) (vs va f : ByteArray) (A : Option Addr) (n c : Nat) (w : World) (hvs : vs.size ≤ maxLen) (hva : va.size ≤ maxLen) (hf : f.size ≤ maxLen) (hn : n ≤ 9223372036854775807) (h : aloneB k op vk vn vs va f n = false) :
    Calls Tryd.prog 12 #[ev k op vk vn vs va f (.slice A n c)] w fun e w' => e = .returned (.bool false) ∧ Below w.heap.size w w' :=
  Right_res false _ _ _ _ _ _ _ _ _ _ w (fun W _ => every_no _ _ _ _ _ _ _ _ _ _ W (fun W => by have := alone_any k op vk vn vs va f A n c W hvs hva hf hn; rw [h] at this; exact this))
/-- A leaf: Right is just what rightAlone is. -/
theorem Right_leaf (k : Int) (op : ByteArray) (vk vn : Int) (vs va f : ByteArray) (w : World) (hvs : vs.size ≤ maxLen) (hva : va.size ≤ maxLen) (hf : f.size ≤ maxLen) :
    Calls Tryd.prog 12 #[ev k op vk vn vs va f nilk] w fun e w' => e = .returned (.bool (aloneB k op vk vn vs va f 0)) ∧ Below w.heap.size w w' := by
  cases h : aloneB k op vk vn vs va f 0
  · exact Right_no k op vk vn vs va f none 0 0 w hvs hva hf (by decide) h
  · exact Right_res true _ _ _ _ _ _ _ _ _ _ w (fun W _ => every_gen k op vk vn vs va f none 0 0 W (by decide) (fun W => by have := alone_any k op vk vn vs va f none 0 0 W hvs hva hf (by decide); rw [h] at this; exact this) (fun i hi => absurd hi (by omega)))
/-- An operation of two whose first operand is right, and whose second isn't. -/
theorem every_second (op : ByteArray) (a : Addr) (c : Nat) (k1 : Int) (o1 : ByteArray) (a1 b1 : Int) (s1 v1 f1 : ByteArray) (A1 : Option Addr) (n1 c1 : Nat) (k2 : Int) (o2 : ByteArray) (a2 b2 : Int) (s2 v2 f2 : ByteArray) (A2 : Option Addr) (n2 c2 : Nat) (w : World) (ho : 0 < lvl op) (hc : 2 ≤ c)
    (hr : Row8 w a k1 o1 a1 b1 s1 v1 f1 (.slice A1 n1 c1)) (hq : Row8 w (a.add 8) k2 o2 a2 b2 s2 v2 f2 (.slice A2 n2 c2))
    (h1 : ∀ W, Below w.heap.size w W → Calls Tryd.prog 33 #[ev k1 o1 a1 b1 s1 v1 f1 (.slice A1 n1 c1), .func (.func 34) #[] #[]] W fun e w' => e = .returned (.bool true) ∧ Below W.heap.size W w')
    (h2 : ∀ W, Below w.heap.size w W → Calls Tryd.prog 33 #[ev k2 o2 a2 b2 s2 v2 f2 (.slice A2 n2 c2), .func (.func 34) #[] #[]] W fun e w' => e = .returned (.bool false) ∧ Below W.heap.size W w') :
    Calls Tryd.prog 33 #[ev 4 op 0 0 e0 e0 e0 (.slice (some a) 2 c), .func (.func 34) #[] #[]] w fun e w' => e = .returned (.bool false) ∧ Below w.heap.size w w' := by
  have H := Lib.hid (And.intro (fun W => alone_bin op a c W ho) (And.intro (And.intro hr hq) (And.intro h1 h2))); clear hr hq h1 h2
  go_enter Tryd.func33, Tryd.ntmps33
  go_wp2_with (go_at_call 34; ((with_reducible refine (H.out.1 _).mono ?_); rintro e w1 ⟨rfl, hb⟩; have hc := (bcell hb).1; have B := Lib.hid hb; clear hb))
  go_loopw [14] (fun i wr => ∃ j : Nat, j ≤ 1 ∧ i = .int .i64 j ∧ Below w.heap.size w wr) (fun i _ => 2 - (intOf i).toNat)
  case atStart => exact ⟨0, Nat.zero_le _, rfl, bt (ba _ _) B.out⟩
  case round =>
    obtain ⟨j, hj, rfl, hb⟩ := hrel
    rcases (by omega : j = 0 ∨ j = 1) with rfl | rfl
    · obtain ⟨c0, c1', c2', c3, c4, c5, c6, c7⟩ := H.out.2.1.1.later hb
      have bA := bt hb (ba wr (.cells #[.int .i64 k1, .string o1, .int .i64 a1, .int .i64 b1, .string s1, .string v1, .string f1, .slice A1 n1 c1] 26))
      have E := Lib.hid (And.intro (H.out.2.2.1 _ bA) bA); clear bA hb
      go_wp2_with (go_at_call 33; ((with_reducible refine (E.out.1).mono ?_); rintro e w2 ⟨rfl, hb2⟩))
      go_roundw
      case rel => exact ⟨1, by omega, by go_num, bt E.out.2 hb2⟩
      case measure => simp [intOf]
    · obtain ⟨q0, q1, q2, q3, q4, q5, q6, q7⟩ := H.out.2.1.2.later hb
      have r0 : wr.cell? ⟨a.block, a.off + 8, none⟩ = some (.int .i64 k2) := q0
      have r1 : wr.cell? ⟨a.block, a.off + 8 + 1, none⟩ = some (.string o2) := q1
      have r2 : wr.cell? ⟨a.block, a.off + 8 + 2, none⟩ = some (.int .i64 a2) := q2
      have r3 : wr.cell? ⟨a.block, a.off + 8 + 3, none⟩ = some (.int .i64 b2) := q3
      have r4 : wr.cell? ⟨a.block, a.off + 8 + 4, none⟩ = some (.string s2) := q4
      have r5 : wr.cell? ⟨a.block, a.off + 8 + 5, none⟩ = some (.string v2) := q5
      have r6 : wr.cell? ⟨a.block, a.off + 8 + 6, none⟩ = some (.string f2) := q6
      have r7 : wr.cell? ⟨a.block, a.off + 8 + 7, none⟩ = some (.slice A2 n2 c2) := q7
      clear q0 q1 q2 q3 q4 q5 q6 q7
      have bA := bt hb (ba wr (.cells #[.int .i64 k2, .string o2, .int .i64 a2, .int .i64 b2, .string s2, .string v2, .string f2, .slice A2 n2 c2] 26))
      have E := Lib.hid (And.intro (H.out.2.2.2 _ bA) bA); clear bA hb
      go_wp2_with (go_at_call 33; ((with_reducible refine (E.out.1).mono ?_); rintro e w2 ⟨rfl, hb2⟩))
      go_ret
      exact ⟨rfl, bt E.out.2 hb2⟩
end Go.Proofs.YtfkcjlpocfjmdaaDoor
