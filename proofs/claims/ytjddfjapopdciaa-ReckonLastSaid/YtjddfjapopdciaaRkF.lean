/- Contracts of package reckon: bound, last. -/
import Derived.Test.YtjddfjapopdciaaRkE
namespace Go.Proofs.Ytjddfjapopdciaa
open Go.ChangeShapes Go.WideShapes Go.ChangeAt Go.RowKit
open Rk (inR)
set_option linter.unusedVariables false
set_option linter.unusedSimpArgs false

/-- A call's own row, behind d others. -/
def KT (t : TypeId) (w W : World) (d : Nat) (cs : Array Value) : Prop := Below w.heap.size w W ∧ Blk W (w.heap.size + d) t cs
theorem KT.go {t : TypeId} {w W w1 : World} {d : Nat} {cs : Array Value} (h : KT t w W d cs) (hb : Below W.heap.size W w1) : KT t w w1 d cs := ⟨bt h.1 hb, h.2.later hb⟩
theorem KT.drw {t : TypeId} {w W : World} {d : Nat} {cs : Array Value} (h : KT t w W d cs) : KT t w W.drew d cs := ⟨h.1.drew, h.2⟩
theorem KT.facts {t : TypeId} {w W : World} {d : Nat} {cs : Array Value} (h : KT t w W d cs) : (∀ j, W.cell? ⟨w.heap.size + d, j, none⟩ = cs[j]?) ∧ (∀ j, W.frozen? ⟨w.heap.size + d, j, none⟩ = false) :=
  ⟨fun j => h.2.cell j, fun j => h.2.frozen j⟩
theorem KT.put {t : TypeId} {w W : World} {d : Nat} {cs : Array Value} (h : KT t w W d cs) (x' y' z' : Value) : Below w.heap.size w (((W.setCell ⟨w.heap.size + d, 0, none⟩ x').setCell ⟨w.heap.size + d, 1, none⟩ y').setCell ⟨w.heap.size + d, 2, none⟩ z') :=
  ((h.1.setCell (Nat.le_add_right _ _) _).setCell (Nat.le_add_right _ _) _).setCell (Nat.le_add_right _ _) _
theorem KT.two (t u : TypeId) (w : World) (c1 c2 : Array Value) : KT t w ((w.alloc (.cells c1 u)).alloc (.cells c2 t)) 1 c2 :=
  ⟨bt (ba _ _) (ba _ _), by have := Blk.new (w.alloc (.cells c1 u)) t c2; simpa using this⟩
abbrev zb : Array Value := #[.string ⟨#[]⟩, .slice none 0 0, .slice none 0 0]

theorem bound_no (v : Value) (l : List Bv) (x : ByteArray) (w : World) (hv : At w 3 bc v l) (hi : idxB (fun y : Bv => isN x y.1) l = -1) :
    Calls Try.prog 50 #[v, .string x] w fun e w' => e = .panicked pMissing ∧ Below w.heap.size w w' := by
  have hmf : ∀ (fn : Fn) (first cap : Array Value) (w : World), (Instr.makeFunc fn first cap).run Try.prog w = .ok (.func fn first cap) w := fun _ _ _ _ => rfl
  have K := KT.two 59 9 w #[.string x] zb
  have cI := IndexB_any v l x w.heap.size _ (hv.later K.1) (by simp)
  rw [hi] at cI
  obtain ⟨A, c, rfl, _⟩ := hv.shape
  have H := Lib.hid (And.intro cI K); clear cI K hv hi
  go_enter Try.func50, Try.ntmps50
  go_wp2_with (first | (go_at_call 67; ((with_reducible refine (need_no _).mono ?_); rintro e w1 ⟨rfl, rfl⟩)) | (go_at_call 69; ((with_reducible refine (H.out.1).mono ?_); rintro e w1 ⟨rfl, hb⟩)))
  exact ⟨rfl, rfl, bt H.out.2.1 hb⟩
theorem bound_ok (v : Value) (l : List Bv) (x : ByteArray) (i : Nat) (hil : i < l.length) (w : World) (hv : At w 3 bc v l) (hi : idxB (fun y : Bv => isN x y.1) l = i) :
    Calls Try.prog 50 #[v, .string x] w fun e w' => e = .returned (.agg #[.string (l[i]'hil).1, sl (l[i]'hil).2.1, sl (l[i]'hil).2.2]) ∧ Below w.heap.size w w' := by
  have hmf : ∀ (fn : Fn) (first cap : Array Value) (w : World), (Instr.makeFunc fn first cap).run Try.prog w = .ok (.func fn first cap) w := fun _ _ _ _ => rfl
  have K := Lib.hid (KT.two 59 9 w #[.string x] zb)
  have cI := IndexB_any v l x w.heap.size _ (hv.later K.out.1) (by simp)
  rw [hi] at cI
  obtain ⟨A, c, rfl, hlc, hcm, hA⟩ := hv.shape
  obtain ⟨a, rfl, hc⟩ := hv.cells rfl (by omega)
  have hm : l.length ≤ 9223372036854775807 := by unfold maxLen at hcm; omega
  have hr := hc.row3 i hil rfl
  generalize (l[i]'hil).1 = s at *
  generalize (l[i]'hil).2.1 = F at *
  generalize (l[i]'hil).2.2 = E at *
  obtain ⟨F1, F2, F3⟩ := F
  obtain ⟨E1, E2, E3⟩ := E
  have H := Lib.hid (And.intro cI hr); clear cI hr hv hi hc
  go_enter Try.func50, Try.ntmps50
  go_wp2_with (first | (go_at_call 67; ((with_reducible refine (need_yes _).mono ?_); rintro e w1 ⟨rfl, rfl⟩)) | (go_at_call 69; ((with_reducible refine (H.out.1).mono ?_); rintro e w1 ⟨rfl, hb⟩; replace K := Lib.hid (K.out.go hb); clear hb; obtain ⟨p0, p1⟩ := K.out.facts; obtain ⟨c0, c1, c2⟩ := H.out.2.later K.out.1)))
  exact bodyPost_ret (v := .agg #[.string s, .slice F1 F2 F3, .slice E1 E2 E3]) (by simp [results, Try.results50, go_sem, p0]) rfl ⟨rfl, K.out.put _ _ _⟩
end Go.Proofs.Ytjddfjapopdciaa
