/- Plain mathematics for package reckon: what wraps. Nothing of the program. -/
import Derived.Test.YtenmbahfgfmjjaaDoorMem
import Derived.Laws.Bits64b
import Derived.RowKit
namespace Go.Proofs.YtenmbahfgfmjjaaDoor.Rk
open Go.RowKit
set_option linter.unusedVariables false

def inR (n : Int) : Prop := -9223372036854775808 ≤ n ∧ n ≤ 9223372036854775807
instance (n : Int) : Decidable (inR n) := by unfold inR; infer_instance

theorem wrap_in {n : Int} (h : inR n) : wrap64 n = n := by
  unfold inR at h; unfold wrap64; omega
theorem wrap_mem (n : Int) : inR (wrap64 n) := by
  unfold inR wrap64; omega
theorem wrap_off (n : Int) : ∃ k : Int, wrap64 n = n + k * 18446744073709551616 := by
  unfold wrap64
  exact ⟨-((n + 9223372036854775808) / 18446744073709551616), by omega⟩
theorem msb_of {a : Int} (h : inR a) : (BitVec.ofInt 64 a).msb = decide (a < 0) := by
  unfold inR at h
  rw [BitVec.msb_eq_toInt, BitVec.toInt_ofInt]
  have : a.bmod (2 ^ 64) = a := by
    rw [Int.bmod]; split <;> omega
  rw [this]
theorem wrap_neg (x : BitVec 64) : (IntKind.i64.wrap (x.toNat : Int) < 0) ↔ x.msb = true := by
  have hx := x.isLt
  rw [BitVec.msb_eq_decide, IntKind.wrap_i64]
  simp only [decide_eq_true_eq]
  omega
theorem ofInt_wrap (x : BitVec 64) : BitVec.ofInt 64 (IntKind.i64.wrap (x.toNat : Int)) = x := by
  apply BitVec.eq_of_toNat_eq
  have hx := x.isLt
  rw [BitVec.toNat_ofInt, IntKind.wrap_i64]
  omega
theorem and_xor_neg {a b c d : Int} (ha : inR a) (hb : inR b) (hc : inR c) (hd : inR d) :
    (bits .and .i64 (bits .xor .i64 a b) (bits .xor .i64 c d) < 0) ↔ ((a < 0 ↔ ¬ b < 0) ∧ (c < 0 ↔ ¬ d < 0)) := by
  have e : bits .and .i64 (bits .xor .i64 a b) (bits .xor .i64 c d) = IntKind.i64.wrap (((BitVec.ofInt 64 a ^^^ BitVec.ofInt 64 b) &&& (BitVec.ofInt 64 c ^^^ BitVec.ofInt 64 d)).toNat : Int) := by
    show IntKind.i64.wrap ((BitVec.ofInt 64 (IntKind.i64.wrap ((BitVec.ofInt 64 a ^^^ BitVec.ofInt 64 b).toNat : Int)) &&& BitVec.ofInt 64 (IntKind.i64.wrap ((BitVec.ofInt 64 c ^^^ BitVec.ofInt 64 d).toNat : Int))).toNat : Int) = _
    rw [ofInt_wrap, ofInt_wrap]
  rw [e, wrap_neg, BitVec.msb_and, BitVec.msb_xor, BitVec.msb_xor, msb_of ha, msb_of hb, msb_of hc, msb_of hd]
  simp only [Bool.and_eq_true, bne_iff_ne, ne_eq, decide_eq_decide]
  omega
theorem add_sign {a b : Int} (ha : inR a) (hb : inR b) :
    (bits .and .i64 (bits .xor .i64 a (wrap64 (a + b))) (bits .xor .i64 b (wrap64 (a + b))) < 0) ↔ ¬ inR (a + b) := by
  rw [and_xor_neg ha (wrap_mem _) hb (wrap_mem _)]
  unfold inR wrap64 at *
  omega
theorem sub_sign {a b : Int} (ha : inR a) (hb : inR b) :
    (bits .and .i64 (bits .xor .i64 a b) (bits .xor .i64 a (wrap64 (a - b))) < 0) ↔ ¬ inR (a - b) := by
  rw [and_xor_neg ha hb ha (wrap_mem _)]
  unfold inR wrap64 at *
  omega
theorem mul_back {a b : Int} (hb : b ≠ 0) : (a * b).tdiv b = a := Int.mul_tdiv_cancel _ hb
/-- What wrapped is not divided back. -/
theorem mul_out {a b : Int} (ha : inR a) (hb : inR b) (hb0 : b ≠ 0) (ho : ¬ inR (a * b)) : (wrap64 (a * b)).tdiv b ≠ a := by
  intro h
  have h1 := Int.mul_tdiv_add_tmod (wrap64 (a * b)) b
  have h2 := Int.natAbs_tmod (wrap64 (a * b)) b
  have h3 : (wrap64 (a * b)).natAbs % b.natAbs < b.natAbs := Nat.mod_lt _ (by omega)
  obtain ⟨k, hk⟩ := wrap_off (a * b)
  have hm := wrap_mem (a * b)
  rw [h, Int.mul_comm] at h1
  rw [← h2] at h3
  unfold inR at *
  omega
theorem mul_quo {a b : Int} (ha : inR a) (hb : inR b) (hb0 : b ≠ 0) (hx : ¬ (a = -9223372036854775808 ∧ b = -1)) : inR ((wrap64 (a * b)).tdiv b) := by
  by_cases hb1 : b = -1
  · subst hb1
    have : wrap64 (a * -1) = -a := by rw [wrap_in]; · omega
                                      · unfold inR at *; omega
    rw [this, Int.tdiv_neg, Int.tdiv_one]
    unfold inR at *; omega
  · have hm := wrap_mem (a * b)
    have h1 : ((wrap64 (a * b)).tdiv b).natAbs ≤ (wrap64 (a * b)).natAbs := by
      rw [Int.natAbs_tdiv]; exact Nat.div_le_self _ _
    by_cases hb2 : b = 1
    · subst hb2; rw [Int.tdiv_one]; exact hm
    have h2 : ((wrap64 (a * b)).tdiv b).natAbs ≤ (wrap64 (a * b)).natAbs / 2 := by
      rw [Int.natAbs_tdiv]; exact Nat.div_le_div_left (by omega) (by omega)
    unfold inR at *; omega
end Go.Proofs.YtenmbahfgfmjjaaDoor.Rk
