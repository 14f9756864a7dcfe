/- More plain mathematics for stage 1. -/
import Derived.Test.YtbmkbpehkpdcmaaNum01
import Derived.RowKit
namespace Go.Proofs.Ytbmkbpehkpdcmaa.Num

theorem extract_toList (s : ByteArray) (a b : Nat) : (s.extract a b).data.toList = (s.data.toList.take b).drop a := by
  rw [ByteArray.data_extract, Array.toList_extract, List.extract_eq_take_drop, List.drop_take]
theorem torn_prefix (U : Nat) {D : List UInt8} {d : UInt8} (he : put U = D ++ [d]) (hU : U < 18446744073709551616) (q : Int) (h1 : q < (D.length : Int) + 1) :
    ((⟨(D ++ [d]).toArray⟩ : ByteArray).extract 0 q.toNat).size ≤ maxLen ∧ getAt ((⟨(D ++ [d]).toArray⟩ : ByteArray).extract 0 q.toNat).data.toList 0 = none := by
  have hl : (put U).length = D.length + 1 := by rw [he]; simp
  have h10 := put_ten hU
  refine ⟨?_, ?_⟩
  · rw [ByteArray.size_extract]
    show min q.toNat (D ++ [d]).length - 0 ≤ _
    unfold maxLen; omega
  · rw [extract_toList]
    show getAt (((D ++ [d]).take q.toNat).drop 0) ((0 : Nat) : Int) = none
    rw [List.drop_zero, ← he, getAt_nat, List.drop_zero, get_prefix hU (by omega)]
    rfl
theorem shape_len (U : Nat) {D : List UInt8} {d : UInt8} (he : put U = D ++ [d]) (hU : U < 18446744073709551616) : D.length ≤ 9 := by
  have := put_ten hU; rw [he] at this; simp at this; omega
theorem or_last (d : UInt8) (hd : d.toNat < 128) : ∃ E : UInt8, bits .or .u8 (d.toNat : Int) 128 = (E.toNat : Int) ∧ 128 ≤ E.toNat := by
  refine ⟨(d.toNat + 128).toUInt8, ?_, by simp; omega⟩
  rw [Lib.u8_or128_any _ (by omega) (by omega)]; simp; omega
theorem torn_nought (D : List UInt8) (E : UInt8) (hD : ∀ x ∈ D, 128 ≤ x.toNat) (hE : 128 ≤ E.toNat) (h9 : D.length ≤ 9) :
    ((⟨(D ++ [E]).toArray⟩ : ByteArray) ++ ⟨#[0]⟩).size ≤ maxLen ∧ getAt ((⟨(D ++ [E]).toArray⟩ : ByteArray) ++ ⟨#[0]⟩).data.toList 0 = none := by
  have e : ((⟨(D ++ [E]).toArray⟩ : ByteArray) ++ ⟨#[0]⟩).data.toList = (D ++ [E]) ++ [0] := by simp
  refine ⟨?_, ?_⟩
  · show (((⟨(D ++ [E]).toArray⟩ : ByteArray) ++ ⟨#[0]⟩).data).size ≤ _
    rw [← Array.length_toList, e]
    unfold maxLen; simp; omega
  · rw [e]
    show getAt _ ((0 : Nat) : Int) = none
    rw [getAt_nat, List.drop_zero]
    unfold get
    rw [getGo_nought (D ++ [E]) 0 0 (by intro x hx; rcases List.mem_append.1 hx with h | h; exact hD x h; simp at h; subst h; exact hE) (by simp)]
    rfl
theorem pow_le128' (i : Nat) (h : i ≤ 8) : 128 ^ i ≤ 72057594037927936 := by
  have := Nat.pow_le_pow_right (n := 128) (by decide) h
  exact Nat.le_trans this (by decide)
/-- What the document's answer adds, digit by digit. -/
theorem weigh (u c i W : Nat) (hW : W = 128 ^ i) (hu : u < 128 ^ i) (hb : W ≤ 72057594037927936) :
    ∃ X : Nat, u + c % 128 * 128 ^ i = u + X ∧ IntKind.u64.wrap ((c : Int) % 128 * (W : Int)) = (X : Int) ∧ u + X < 18446744073709551616 := by
  subst hW
  have h1 : c % 128 ≤ 127 := by omega
  have h2 := Nat.mul_le_mul h1 hb
  refine ⟨c % 128 * 128 ^ i, rfl, ?_, by omega⟩
  have : (c : Int) % 128 * ((128 ^ i : Nat) : Int) = ((c % 128 * 128 ^ i : Nat) : Int) := by push_cast; rfl
  rw [this, IntKind.wrap_u64]
  omega
end Go.Proofs.Ytbmkbpehkpdcmaa.Num
