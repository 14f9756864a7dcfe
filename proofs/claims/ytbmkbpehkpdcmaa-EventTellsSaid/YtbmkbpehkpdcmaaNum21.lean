/- Plain mathematics for stage 2: what is got. -/
import Derived.Test.YtbmkbpehkpdcmaaNum20
import Derived.Test.YtbmkbpehkpdcmaaConv
namespace Go.Proofs.Ytbmkbpehkpdcmaa.Val

/-- What stands in S from n on, behind a byte of kind: none, or number, text, and where what is behind begins. -/
def body (S : ByteArray) (c n : Nat) : Option ((Int × Int × ByteArray) × Nat) :=
  if c = 1 then (Num.getAt S.data.toList (n : Int)).map fun p => ((1, Num.zag (p.1 : Int), ⟨#[]⟩), p.2)
  else if c = 2 then (if (S.data.toList.getD n 255).toNat ≤ 1 then some ((2, ((S.data.toList.getD n 255).toNat : Int), ⟨#[]⟩), n + 1) else none)
  else if c = 3 then (match Num.getAt S.data.toList (n : Int) with
    | none => none
    | some p => if p.1 ≤ 64 ∧ p.2 + p.1 ≤ S.size then some ((3, 0, S.extract p.2 (p.2 + p.1)), p.2 + p.1) else none)
  else none
def getAt (S : ByteArray) (a : Int) : Option ((Int × Int × ByteArray) × Nat) :=
  if 0 ≤ a ∧ a < (S.size : Int) then body S (S.data.toList.getD a.toNat 0).toNat (a.toNat + 1) else none
theorem getAt_out {S : ByteArray} {a : Int} (h : a < 0 ∨ (S.size : Int) ≤ a) : getAt S a = none := by unfold getAt; rw [if_neg (by omega)]
theorem getD_in (S : ByteArray) (n : Nat) (h : n < S.size) (d : UInt8) : S.data.toList.getD n d = S[n]'h := by
  have h' : n < S.data.toList.length := by simpa using h
  rw [List.getD, List.getElem?_eq_getElem h']; rfl
theorem getD_out (S : ByteArray) (n : Nat) (h : S.size ≤ n) (d : UInt8) : S.data.toList.getD n d = d := by
  rw [List.getD, List.getElem?_eq_none (by simpa using h)]; rfl
theorem getAt_in {S : ByteArray} {n : Nat} (h : n < S.size) : getAt S (n : Int) = body S (S[n]'h).toNat (n + 1) := by
  unfold getAt; rw [if_pos (by omega), Int.toNat_natCast, getD_in S n h]
end Go.Proofs.Ytbmkbpehkpdcmaa.Val
