/- Contracts of package expr: lay at references and counts. -/
import Derived.Test.YtenmbahfgfmjjaaDoorLayA
namespace Go.Proofs.YtenmbahfgfmjjaaDoor
open Go.ChangeShapes Go.WideShapes Go.ChangeAt Go.RowKit
open Rk (inR)
set_option linter.unusedVariables false
set_option linter.unusedSimpArgs false

set_option maxHeartbeats 1000000 in
theorem lay_ref (x f : ByteArray) (w : World) (v : Value) (B : Nat) (l : List UInt8) (hO : OwnB w B v l) (hb : B ≤ w.heap.size) (hl : l.length + (x.size + (f.size + 1)) ≤ 1000000000) :
    Calls Tryd.prog 66 #[v, ev 1 e0 0 0 e0 x f nilk] w fun e w' => LayT w v B (l ++ putT (.ref x f)) e w' := by
  obtain ⟨i0, hi, hz0, hz1, hz2⟩ := info_parts Tryd.infoU8
  obtain ⟨A, m, c, rfl⟩ := own_shape hO
  have bb := ba w (.cells #[.int .i64 1, .string e0, .int .i64 0, .int .i64 0, .string e0, .string x, .string f, .slice none 0 0] 42)
  have h1 : x.size + 1 ≤ 9223372036854775807 := by omega
  have h2 : x.size + 1 + f.size ≤ 9223372036854775807 := by omega
  have h3 : (x ++ ⟨#[46]⟩ ++ f : ByteArray).size = x.size + 1 + f.size := by rw [ByteArray.size_append, ByteArray.size_append]; rfl
  have H := Lib.hid (And.intro hO (And.intro hb (And.intro bb h3))); clear hO hb bb h3
  go_enter Tryd.func66, Tryd.ntmps66
  go_wp2_with (at_builtin; refine wpList_append_string_at _ rfl (.tmp 19) (.tmp 25) 22 9 rfl B 5 i0 Tryd.underlying22 Tryd.underlying9 hi hz0 hz1 hz2 (.slice A m c) l.length _ rfl (Own.later H.out.1 H.out.2.2.1) (x ++ ⟨#[46]⟩ ++ f) rfl (by rw [H.out.2.2.2]; unfold maxLen; omega) (by rw [H.out.2.2.2]; omega) (Nat.le_trans H.out.2.1 H.out.2.2.1.size) ?_; intro v' w2 hO2 hg2 ho2; obtain ⟨A2, n2, c2, rfl⟩ := own_shape hO2; have Z := Lib.hid (And.intro hO2 (And.intro hg2 ho2)); clear hO2 hg2 ho2)
  go_ret
  have := lay_end (v := .slice A m c) H.out.2.2.1 Z.out.1 Z.out.2.1 Z.out.2.2
  rw [show (x ++ ⟨#[46]⟩ ++ f : ByteArray).data.toList = x.toList ++ (46 :: f.toList) by simp [Lib.toList_data]] at this
  exact this
set_option maxHeartbeats 1000000 in
theorem lay_cnt (x : ByteArray) (w : World) (v : Value) (B : Nat) (l : List UInt8) (hO : OwnB w B v l) (hb : B ≤ w.heap.size) (hl : l.length + (x.size + 1) ≤ 1000000000) :
    Calls Tryd.prog 66 #[v, ev 2 e0 0 0 e0 x e0 nilk] w fun e w' => LayT w v B (l ++ putT (.cnt x)) e w' := by
  obtain ⟨i0, hi, hz0, hz1, hz2⟩ := info_parts Tryd.infoU8
  obtain ⟨A, m, c, rfl⟩ := own_shape hO
  have bb := ba w (.cells #[.int .i64 2, .string e0, .int .i64 0, .int .i64 0, .string e0, .string x, .string e0, .slice none 0 0] 42)
  have h1 : 1 + x.size ≤ 9223372036854775807 := by omega
  have h3 : (⟨#[35]⟩ ++ x : ByteArray).size = 1 + x.size := by rw [ByteArray.size_append]; rfl
  have H := Lib.hid (And.intro hO (And.intro hb (And.intro bb h3))); clear hO hb bb h3
  go_enter Tryd.func66, Tryd.ntmps66
  go_wp2_with (at_builtin; refine wpList_append_string_at _ rfl (.tmp 29) (.tmp 32) 22 9 rfl B 5 i0 Tryd.underlying22 Tryd.underlying9 hi hz0 hz1 hz2 (.slice A m c) l.length _ rfl (Own.later H.out.1 H.out.2.2.1) (⟨#[35]⟩ ++ x) rfl (by rw [H.out.2.2.2]; unfold maxLen; omega) (by rw [H.out.2.2.2]; omega) (Nat.le_trans H.out.2.1 H.out.2.2.1.size) ?_; intro v' w2 hO2 hg2 ho2; obtain ⟨A2, n2, c2, rfl⟩ := own_shape hO2; have Z := Lib.hid (And.intro hO2 (And.intro hg2 ho2)); clear hO2 hg2 ho2)
  go_ret
  have := lay_end (v := .slice A m c) H.out.2.2.1 Z.out.1 Z.out.2.1 Z.out.2.2
  rw [show (⟨#[35]⟩ ++ x : ByteArray).data.toList = 35 :: x.toList by simp [Lib.toList_data]] at this
  exact this
end Go.Proofs.YtenmbahfgfmjjaaDoor
