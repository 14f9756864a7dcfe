/- What the general feed stands on, in a seat of stage 9 or later. -/
import Derived.Test.YtenmbahfgfmjjaaDoorLayX
namespace Go.Proofs.YtenmbahfgfmjjaaDoor
open Go.ChangeShapes Go.WideShapes Go.ChangeAt Go.RowKit
set_option linter.unusedVariables false
set_option linter.unusedSimpArgs false
abbrev mt : ByteArray := ⟨#[]⟩
abbrev V3 := Int × Int × ByteArray
theorem Tr.val_ev (t : Tr) (A : Option Addr) (n c : Nat) (w : World) (h : TrAt w t (.slice A n c)) :
    ∃ k op vk vn vs va f A' n' c', t.val (.slice A n c) = ev k op vk vn vs va f (.slice A' n' c') ∧ t.node (.slice A n c) = (k, op, vk, vn, vs, va, f, .slice A' n' c') := by
  cases t <;> exact ⟨_, _, _, _, _, _, _, _, _, _, rfl, rfl⟩
theorem lit_any (n : Int) (w : World) : Calls Tryd.prog 14 #[.int .i64 n] w fun e w' => e = .returned (ev 0 e0 1 n e0 e0 e0 nilk) ∧ Below w.heap.size w w' := by
  go_enter Tryd.func14, Tryd.ntmps14
  go_wp2
  exact bodyPost_ret (v := ev 0 e0 1 n e0 e0 e0 nilk) (by simp [results, Tryd.results14, go_sem]) rfl ⟨rfl, ba _ _⟩
def IsTr (t : Tr) (e : Ending) (w : World) : Prop := ∃ K, e = .returned (t.val K) ∧ TrAt w t K
theorem row_lo {w : World} {g : Nat} {t : TypeId} {k1 : Int} {o1 : ByteArray} {a1 b1 : Int} {s1 v1 f1 : ByteArray} {K1 c0 c1 c2 c3 c4 c5 c6 c7 : Value} (h : Blk w g t #[.int .i64 k1, .string o1, .int .i64 a1, .int .i64 b1, .string s1, .string v1, .string f1, K1, c0, c1, c2, c3, c4, c5, c6, c7]) :
    Row8 w ⟨g, 0, none⟩ k1 o1 a1 b1 s1 v1 f1 K1 := ⟨h.cell 0, h.cell 1, h.cell 2, h.cell 3, h.cell 4, h.cell 5, h.cell 6, h.cell 7⟩
theorem row_hi {w : World} {g : Nat} {t : TypeId} {k1 : Int} {o1 : ByteArray} {a1 b1 : Int} {s1 v1 f1 : ByteArray} {K1 c0 c1 c2 c3 c4 c5 c6 c7 : Value} (h : Blk w g t #[c0, c1, c2, c3, c4, c5, c6, c7, .int .i64 k1, .string o1, .int .i64 a1, .int .i64 b1, .string s1, .string v1, .string f1, K1]) :
    Row8 w ((⟨g, 0, none⟩ : Addr).add 8) k1 o1 a1 b1 s1 v1 f1 K1 := ⟨h.cell 8, h.cell 9, h.cell 10, h.cell 11, h.cell 12, h.cell 13, h.cell 14, h.cell 15⟩
end Go.Proofs.YtenmbahfgfmjjaaDoor
