/- Rings: Put, whatever is put. -/
import Derived.Test.YtbbjlefldpgckaaRgH
import Derived.Test.YtbbjlefldpgckaaRgI
namespace Go.Proofs.Ytbbjlefldpgckaa
open Go.ChangeShapes Go.WideShapes Go.ChangeAt Go.RowKit Go.Maps
open Ev (V3 rightV OkV)
set_option linter.unusedVariables false
set_option linter.unusedSimpArgs false

theorem Put_any (X : Nat → Prop) (B d : Nat) (s : Rg) (mk : Bool) (t : Int) (v : Value) (l : List V3) (w : World) (h : RX X w B d s) (hv : At w 3 row3 v l) (hs : ∀ x ∈ l, x.2.2.size ≤ maxLen) (hT : s.hist.length < 4000000000000000000) :
    Calls Try.prog 15 #[.pointer (some ⟨d, 0, none⟩), item mk t v] w (PutP X B d s mk t l w) := by
  rcases hr : Ev.rightI mk t l with _ | _
  · exact Put_no X B d s mk t v l w h (at_vals hv) hs hr
  · rcases hsh : s.shut with _ | _
    · by_cases hL : late s mk t
      · exact Put_late X B d s mk t v l w h (at_vals hv) hs hr hsh hL
      · obtain ⟨q, hq, hqr⟩ : ∃ q, IsLen s.hist.length s.rd q ∧ q ≤ s.room := by
          obtain ⟨_, _, L, h', _⟩ := h
          exact ⟨_, h'.len, h'.fits⟩
        rcases Nat.lt_or_ge q s.room with h1 | h1
        · exact Put_ok X B d s mk t v l w h hv hs hr hsh hL hq h1 hT
        · have e : q = s.room := Nat.le_antisymm hqr h1
          subst e
          exact Put_full X B d s mk t v l w h (at_vals hv) hs hr hsh hL hq
    · exact Put_shut X B d s mk t v l w h (at_vals hv) hs hr hsh
end Go.Proofs.Ytbbjlefldpgckaa
