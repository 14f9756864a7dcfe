/- Rows of numbers. -/
import Derived.Test.YtbbjlefldpgckaaRgX
import Derived.Test.YtbbjlefldpgckaaRgY
import Derived.Test.YtbbjlefldpgckaaPiece
namespace Go.Proofs.Ytbbjlefldpgckaa
open Go.ChangeShapes Go.WideShapes Go.ChangeAt Go.RowKit Go.Maps
open Ev (V3 rightV OkV)
set_option linter.unusedVariables false
set_option linter.unusedSimpArgs false
set_option maxRecDepth 20000

abbrev i64r (x : Int) : List Value := [.int .i64 x]
theorem int_one : ∀ x : Int, ∀ u ∈ i64r x, u.oneCell' = true := fun x u hu => by
  rw [List.mem_singleton] at hu
  subst hu
  rfl
theorem undI : Try.prog.underlying 44 = some (.slice (Try.prog.elem 44)) := by kernel_rfl
theorem szI : ∀ W, (sizeOf (Try.prog.elem 44)).run Try.prog W = .ok 1 W := fun W => by kernel_rfl
theorem bytes_cell {w : World} {v : Value} {l : List UInt8} (h : BytesAt w v l) : ∃ (A : Option Addr) (n : Nat), v = .slice A l.length n ∧ l.length ≤ n ∧ n ≤ maxLen ∧ ∀ k (hk : k < l.length), ∃ a, A = some a ∧ w.cell? (a.add k) = some (.int .u8 ((l[k]'hk).toNat : Int)) := by
  rcases h with ⟨rfl, rfl⟩ | ⟨a, cap, rfl, h1, h2, h3⟩
  · exact ⟨none, 0, rfl, Nat.le_refl _, Nat.zero_le _, fun k hk => absurd hk (by simp)⟩
  · exact ⟨some a, cap, rfl, h1, h2, fun k hk => ⟨a, rfl, h3 k hk⟩⟩
theorem int_cell {w : World} {b : Nat} {A : Option Addr} {n c : Nat} {l : List Int} (h : Own w b 3 1 i64r (.slice A n c) l) (k : Nat) (hk : k < l.length) : ∃ g, A = some ⟨g, 0, none⟩ ∧ w.cell? ⟨g, k, none⟩ = some (.int .i64 (l[k]'hk)) := by
  obtain ⟨g, hA, _, _, _, hc⟩ := h.cells (f := i64r) (k := 1) (fun _ => rfl) rfl (Nat.lt_of_le_of_lt (Nat.zero_le _) hk)
  refine ⟨g, hA, ?_⟩
  have := hc k hk 0 _ rfl
  simpa using this
end Go.Proofs.Ytbbjlefldpgckaa
