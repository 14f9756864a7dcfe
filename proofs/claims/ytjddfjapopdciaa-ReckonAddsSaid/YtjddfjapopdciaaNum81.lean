/- Plain mathematics for the sums and products of package reckon. Nothing of the program. -/
import Derived.Test.YtjddfjapopdciaaNum80
namespace Go.Proofs.Ytjddfjapopdciaa.Rk
open Go.RowKit
set_option linter.unusedVariables false

theorem and_one {a b : Int} (ha : inR a) (hb : inR b) : bits .and .i64 (bits .and .i64 a b) 1 = (a % 2) * (b % 2) := by
  have e : bits .and .i64 (bits .and .i64 a b) 1 = IntKind.i64.wrap (((BitVec.ofInt 64 a &&& BitVec.ofInt 64 b) &&& BitVec.ofInt 64 1).toNat : Int) := by
    show IntKind.i64.wrap ((BitVec.ofInt 64 (IntKind.i64.wrap ((BitVec.ofInt 64 a &&& BitVec.ofInt 64 b).toNat : Int)) &&& BitVec.ofInt 64 1).toNat : Int) = _
    rw [ofInt_wrap]
  have h1 : ((BitVec.ofInt 64 a &&& BitVec.ofInt 64 b) &&& BitVec.ofInt 64 1).toNat = ((BitVec.ofInt 64 a).toNat % 2) &&& ((BitVec.ofInt 64 b).toNat % 2) := by
    rw [BitVec.toNat_and, BitVec.toNat_and, show (BitVec.ofInt 64 1).toNat = 1 from rfl, Nat.and_one_is_mod]
    exact Nat.and_mod_two_pow (n := 1)
  have ea : ((BitVec.ofInt 64 a).toNat % 2 : Nat) = (a % 2).toNat := by
    rw [BitVec.toNat_ofInt]; omega
  have eb : ((BitVec.ofInt 64 b).toNat % 2 : Nat) = (b % 2).toNat := by
    rw [BitVec.toNat_ofInt]; omega
  rw [e, h1, ea, eb]
  rcases (by omega : a % 2 = 0 ∨ a % 2 = 1) with h | h <;> rcases (by omega : b % 2 = 0 ∨ b % 2 = 1) with h' | h' <;> rw [h, h'] <;> decide
/-- Half of a sum, rounded down. -/
theorem half {a b : Int} (ha : inR a) (hb : inR b) : wrap64 (wrap64 (a / 2 + b / 2) + bits .and .i64 (bits .and .i64 a b) 1) = (a + b) / 2 := by
  rw [and_one ha hb]
  unfold inR at ha hb
  have h2 : (a % 2) * (b % 2) = if a % 2 = 1 ∧ b % 2 = 1 then 1 else 0 := by
    rcases (by omega : a % 2 = 0 ∨ a % 2 = 1) with h | h <;> rcases (by omega : b % 2 = 0 ∨ b % 2 = 1) with h' | h' <;> rw [h, h'] <;> decide
  rw [h2]
  have h1 : wrap64 (a / 2 + b / 2) = a / 2 + b / 2 := wrap_in (by unfold inR; omega)
  rw [h1, wrap_in]
  · split <;> omega
  · unfold inR; split <;> omega
end Go.Proofs.Ytjddfjapopdciaa.Rk
