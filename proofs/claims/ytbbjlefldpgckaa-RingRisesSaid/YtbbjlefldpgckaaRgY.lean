/- Rings: events of one number. -/
import Derived.Test.YtbbjlefldpgckaaRgM
namespace Go.Proofs.Ytbbjlefldpgckaa
open Go.ChangeShapes Go.WideShapes Go.ChangeAt Go.RowKit Go.Maps
open Ev (V3 rightV OkV)
set_option linter.unusedVariables false
theorem right_one (t n : Int) (h0 : 0 ≤ t) (h1 : t ≤ 2305843009213693952) : Ev.rightI false t [(1, n, ⟨#[]⟩)] = true := by
  simp [Ev.rightI, Ev.plain, Ev.rightV, Val.right, h0, h1]
  rfl
theorem one_size (n : Int) : ∀ x ∈ ([(1, n, ⟨#[]⟩)] : List V3), x.2.2.size ≤ maxLen := fun x hx => by
  rw [List.mem_singleton] at hx
  subst hx
  exact Nat.zero_le _
end Go.Proofs.Ytbbjlefldpgckaa
