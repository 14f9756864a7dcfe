/- Plain mathematics for stage 1: numbers as few bytes. Nothing of the program. -/
import Derived.Test.YtbmkbpehkpdcmaaRows
import Derived.Lib.Zigzag
import Derived.Lib.VarintBits
import Derived.Laws.Bits64b
import Derived.RowKit
namespace Go.Proofs.Ytbmkbpehkpdcmaa.Num

def zig (n : Int) : Int := if 0 ≤ n then 2 * n else -2 * n - 1
def zag (u : Int) : Int := if u % 2 = 0 then u / 2 else -(u / 2) - 1

theorem zig_lo (n : Int) : 0 ≤ zig n := by unfold zig; split <;> omega
theorem zig_hi (n : Int) (h0 : -9223372036854775808 ≤ n) (h1 : n ≤ 9223372036854775807) : zig n ≤ 18446744073709551615 := by unfold zig; split <;> omega
theorem zag_lo (u : Int) (h0 : 0 ≤ u) (h1 : u ≤ 18446744073709551615) : -9223372036854775808 ≤ zag u := by unfold zag; split <;> omega
theorem zag_hi (u : Int) (h0 : 0 ≤ u) (h1 : u ≤ 18446744073709551615) : zag u ≤ 9223372036854775807 := by unfold zag; split <;> omega
theorem zag_zig (n : Int) : zag (zig n) = n := by unfold zig zag; split <;> split <;> omega
theorem zig_zag (u : Int) (h : 0 ≤ u) : zig (zag u) = u := by unfold zig zag; split <;> split <;> omega
theorem zig_inj {n m : Int} (h : zig n = zig m) : n = m := by rw [← zag_zig n, h, zag_zig]

theorem xor_i64_zero (a : Int) (h0 : 0 ≤ a) (h1 : a < 9223372036854775808) : bits .xor .i64 a 0 = a := by
  show IntKind.i64.wrap ((BitVec.ofInt 64 a ^^^ BitVec.ofInt 64 0).toNat : Int) = _
  obtain ⟨k, rfl⟩ := Int.eq_ofNat_of_zero_le h0
  have h2 : (BitVec.ofInt 64 (k : Int)).toNat = k := by
    rw [BitVec.ofInt_natCast, BitVec.toNat_ofNat]; exact Nat.mod_eq_of_lt (by omega)
  have h3 : (BitVec.ofInt 64 (0 : Int)).toNat = 0 := by decide
  rw [BitVec.toNat_xor, h2, h3, IntKind.wrap_i64, Nat.xor_zero]
  omega
theorem xor_i64_ones (a : Int) (h0 : 0 ≤ a) (h1 : a < 9223372036854775808) : bits .xor .i64 a (-1) = -a - 1 := by
  obtain ⟨k, rfl⟩ := Int.eq_ofNat_of_zero_le h0
  show IntKind.i64.wrap ((BitVec.ofInt 64 (k : Int) ^^^ BitVec.ofInt 64 (-1)).toNat : Int) = _
  have h1 : (BitVec.ofInt 64 (-1)).toNat = 2 ^ 64 - 1 := by decide
  have h2 : (BitVec.ofInt 64 (k : Int)).toNat = k := by
    rw [BitVec.ofInt_natCast, BitVec.toNat_ofNat]; exact Nat.mod_eq_of_lt (by omega)
  rw [BitVec.toNat_xor, h1, h2, Nat.xor_comm, Lib.xor_ones64 k (by omega), IntKind.wrap_i64]
  omega

/-- What Zig's text computes, from 0 on. -/
theorem zig_pos_eq (n : Int) (h0 : 0 ≤ n) (h1 : n ≤ 9223372036854775807) : bits .xor .u64 (n * 2) (n / 9223372036854775808) = zig n := by
  obtain ⟨k, rfl⟩ := Int.eq_ofNat_of_zero_le h0
  have e : (k : Int) / 9223372036854775808 = ((0 : Nat) : Int) := by omega
  have e2 : (k : Int) * 2 = ((k * 2 : Nat) : Int) := by omega
  rw [e, e2, bits_xor_u64_nat _ _ (by omega) (by omega), Nat.xor_zero]
  unfold zig; rw [if_pos h0]; omega
/-- What Zig's text computes, below 0. -/
theorem zig_neg_eq (n : Int) (h0 : -9223372036854775808 ≤ n) (h1 : n < 0) :
    bits .xor .u64 (IntKind.u64.wrap (IntKind.u64.wrap n * 2)) (IntKind.u64.wrap (n / 9223372036854775808)) = zig n := by
  have e1 : IntKind.u64.wrap (IntKind.u64.wrap n * 2) = (((2 * n + 18446744073709551616).toNat : Nat) : Int) := by
    rw [IntKind.wrap_u64, IntKind.wrap_u64]; omega
  have e2 : IntKind.u64.wrap (n / 9223372036854775808) = ((2 ^ 64 - 1 : Nat) : Int) := by
    rw [IntKind.wrap_u64]; omega
  rw [e1, e2, bits_xor_u64_nat _ _ (by omega) (by decide), Nat.xor_comm, Lib.xor_ones64 _ (by omega)]
  unfold zig; rw [if_neg (by omega)]; omega
/-- What Zag's text computes. -/
theorem zag_eq (u : Int) (h0 : 0 ≤ u) (h1 : u ≤ 18446744073709551615) :
    bits .xor .i64 (u / 2) (RowKit.wrap64 (-RowKit.wrap64 (bits .and .u64 u 1))) = zag u := by
  rw [Lib.u64_and1 u h0 (by omega)]
  unfold zag
  by_cases h : u % 2 = 0
  · rw [if_pos h, h, show RowKit.wrap64 (-RowKit.wrap64 0) = 0 by decide]
    exact xor_i64_zero _ (by omega) (by omega)
  · rw [if_neg h, show u % 2 = 1 by omega, show RowKit.wrap64 (-RowKit.wrap64 1) = -1 by decide]
    exact xor_i64_ones _ (by omega) (by omega)

/-! ### Put, Get -/
abbrev put (u : Nat) : List UInt8 := Lib.uvarint u
/-- From the i-th digit on: u is what the digits ahead come to. -/
def getGo : Nat → Nat → List UInt8 → Option (Nat × Nat)
  | _, _, [] => none
  | i, u, c :: l =>
    if 10 ≤ i then none else if i = 9 ∧ 1 < c.toNat then none else
    if c.toNat < 128 then (if c.toNat = 0 ∧ 0 < i then none else some (u + c.toNat % 128 * 128 ^ i, i + 1))
    else getGo (i + 1) (u + c.toNat % 128 * 128 ^ i) l
def get (l : List UInt8) : Option (Nat × Nat) := getGo 0 0 l

theorem put_pos (u : Nat) : 1 ≤ (put u).length := Lib.uvarint_pos u
theorem put_ten {u : Nat} (h : u < 18446744073709551616) : (put u).length ≤ 10 := Lib.uvarint_length64 h

theorem pow_succ128 (i : Nat) : 128 ^ (i + 1) = 128 ^ i * 128 := Nat.pow_succ 128 i

theorem getGo_put (rest : List UInt8) : ∀ (d m i u : Nat), i + d = 10 → m < 2 ^ (64 - 7 * i) → (0 < i → m ≠ 0) →
    getGo i u (put m ++ rest) = some (u + m * 128 ^ i, i + (put m).length) := by
  intro d
  induction d with
  | zero =>
    intro m i u hi hm hz
    obtain rfl : i = 10 := by omega
    have : m = 0 := by omega
    exact absurd this (hz (by omega))
  | succ d ih =>
    intro m i u hi hm hz
    unfold put
    by_cases hb : m < 128
    · rw [Lib.uvarint_small hb]
      have e : (m.toUInt8).toNat = m := by simp; omega
      simp only [List.cons_append, List.nil_append, getGo, e]
      rw [if_neg (by omega), if_neg, if_pos hb, if_neg, Nat.mod_eq_of_lt hb]
      · rfl
      · rintro ⟨rfl, h0⟩; exact hz h0 rfl
      · rintro ⟨rfl, h1⟩; omega
    · rw [Lib.uvarint_big (by omega)]
      have e : ((m % 128 + 128).toUInt8).toNat = m % 128 + 128 := by simp; omega
      have hi9 : i < 9 := by
        rcases Nat.lt_or_ge i 9 with h | h
        · exact h
        · obtain rfl : i = 9 := by omega
          omega
      simp only [List.cons_append, getGo, e]
      rw [if_neg (by omega), if_neg (by omega), if_neg (by omega)]
      have hm' : m / 128 < 2 ^ (64 - 7 * (i + 1)) := by
        have : (2 : Nat) ^ (64 - 7 * i) = 2 ^ (64 - 7 * (i + 1)) * 128 := by
          rw [show 64 - 7 * i = (64 - 7 * (i + 1)) + 7 by omega, Nat.pow_add]
        rw [Nat.div_lt_iff_lt_mul (by decide)]; omega
      have := ih (m / 128) (i + 1) (u + (m % 128 + 128) % 128 * 128 ^ i) (by omega) hm' (by omega)
      unfold put at this
      rw [this]
      refine congrArg some (Prod.ext ?_ ?_)
      · show u + (m % 128 + 128) % 128 * 128 ^ i + m / 128 * 128 ^ (i + 1) = u + m * 128 ^ i
        rw [pow_succ128, show (m % 128 + 128) % 128 = m % 128 by omega]
        conv => rhs; rw [← Nat.mod_add_div m 128, Nat.add_mul]
        rw [Nat.mul_comm (128 ^ i) 128, ← Nat.mul_assoc, Nat.mul_comm (m / 128) 128, Nat.add_assoc]
      · show i + 1 + (Lib.uvarint (m / 128)).length = i + (Lib.uvarint (m / 128)).length.succ
        omega

theorem get_put (u : Nat) (h : u < 18446744073709551616) (rest : List UInt8) : get (put u ++ rest) = some (u, (put u).length) := by
  have := getGo_put rest 10 u 0 0 (by omega) (by simpa using h) (by omega)
  simpa [get] using this

theorem getGo_some : ∀ (l : List UInt8) (i u v k : Nat), i ≤ 9 → getGo i u l = some (v, k) →
    ∃ m, v = u + m * 128 ^ i ∧ m < 2 ^ (64 - 7 * i) ∧ (0 < i → m ≠ 0) ∧ k = i + (put m).length ∧ k - i ≤ l.length ∧ l.take (k - i) = put m := by
  intro l
  induction l with
  | nil => intro i u v k _ h; simp [getGo] at h
  | cons c l ih =>
    intro i u v k hi h
    unfold getGo at h
    rw [if_neg (by omega)] at h
    by_cases h9 : i = 9 ∧ 1 < c.toNat
    · rw [if_pos h9] at h; exact absurd h (by simp)
    rw [if_neg h9] at h
    have hc := c.toNat_lt
    by_cases hb : c.toNat < 128
    · rw [if_pos hb] at h
      by_cases h0 : c.toNat = 0 ∧ 0 < i
      · rw [if_pos h0] at h; exact absurd h (by simp)
      rw [if_neg h0] at h
      obtain ⟨rfl, rfl⟩ := Prod.mk.inj (Option.some.inj h)
      refine ⟨c.toNat, by rw [Nat.mod_eq_of_lt hb], ?_, by omega, ?_, ?_, ?_⟩
      · rcases Nat.lt_or_ge i 9 with h | h
        · refine Nat.lt_of_lt_of_le hb ?_
          exact Nat.pow_le_pow_right (n := 2) (by decide) (by omega : 7 ≤ 64 - 7 * i)
        · obtain rfl : i = 9 := by omega
          simp; omega
      · unfold put; rw [Lib.uvarint_small hb]; rfl
      · simp
      · unfold put; rw [Lib.uvarint_small hb, show i + 1 - i = 1 by omega]; simp
    · rw [if_neg hb] at h
      have hi' : i + 1 ≤ 9 := by
        rcases Nat.lt_or_ge i 9 with h | h
        · omega
        · obtain rfl : i = 9 := by omega
          exact absurd ⟨rfl, by omega⟩ h9
      obtain ⟨m, hv, hm, hz, hk, hl, ht⟩ := ih _ _ _ _ hi' h
      have hz' := hz (by omega)
      have em : (c.toNat % 128 + 128 * m) / 128 = m := by omega
      have er : (c.toNat % 128 + 128 * m) % 128 = c.toNat % 128 := by omega
      have ep : put (c.toNat % 128 + 128 * m) = c :: put m := by
        unfold put
        rw [Lib.uvarint_big (by omega), em, er]
        congr 1
        rw [← UInt8.toNat_inj]; simp; omega
      refine ⟨c.toNat % 128 + 128 * m, ?_, ?_, by omega, ?_, ?_, ?_⟩
      · rw [hv, pow_succ128, Nat.add_mul, Nat.mul_comm 128 m, Nat.mul_assoc m 128, Nat.mul_comm 128, Nat.add_assoc]
      · have : (2 : Nat) ^ (64 - 7 * i) = 2 ^ (64 - 7 * (i + 1)) * 128 := by
          rw [show 64 - 7 * i = (64 - 7 * (i + 1)) + 7 by omega, Nat.pow_add]
        omega
      · rw [ep, hk]; simp; omega
      · simp; omega
      · rw [ep, show k - i = (k - (i + 1)) + 1 by omega, List.take_succ_cons, ht]

theorem get_some {l : List UInt8} {u k : Nat} (h : get l = some (u, k)) :
    u < 18446744073709551616 ∧ k = (put u).length ∧ 1 ≤ k ∧ k ≤ l.length ∧ l.take k = put u := by
  obtain ⟨m, hv, hm, _, hk, hl, ht⟩ := getGo_some l 0 0 u k (by omega) h
  simp at hv hm hk hl ht
  subst hv
  have := put_pos u
  exact ⟨by simpa using hm, hk, by omega, hl, ht⟩

theorem put_inj {u v : Nat} (hu : u < 18446744073709551616) (hv : v < 18446744073709551616) (h : put u = put v) : u = v := by
  have a := get_put u hu []
  rw [h, get_put v hv []] at a
  exact (Prod.mk.inj (Option.some.inj a)).1.symm

theorem zig_nat (n : Int) : ((zig n).toNat : Int) = zig n := Int.toNat_of_nonneg (zig_lo n)
theorem zig_natlt (n : Int) (h0 : -9223372036854775808 ≤ n) (h1 : n ≤ 9223372036854775807) : (zig n).toNat < 18446744073709551616 := by
  have := zig_lo n; have := zig_hi n h0 h1; omega

/-- D: what Put has laid; m: what is left. -/
structure PutRel (u m : Nat) (D : List UInt8) : Prop where
  eq : put u = D ++ put m
  lt : m < 2 ^ (64 - 7 * D.length)
  le : D.length ≤ 9
theorem PutRel.start {u : Nat} (h : u < 18446744073709551616) : PutRel u u [] := ⟨rfl, by simpa using h, by simp⟩
theorem PutRel.le8 {u m : Nat} {D : List UInt8} (h : PutRel u m D) (hm : 128 ≤ m) : D.length ≤ 8 := by
  have := h.le; have h2 := h.lt
  rcases Nat.lt_or_ge D.length 9 with h | h
  · omega
  · have : D.length = 9 := by omega
    rw [this] at h2; simp at h2; omega
theorem PutRel.lt64 {u m : Nat} {D : List UInt8} (h : PutRel u m D) : m < 18446744073709551616 := by
  have h2 := h.lt
  have : (2 : Nat) ^ (64 - 7 * D.length) ≤ 2 ^ 64 := Nat.pow_le_pow_right (by decide) (by omega)
  omega
theorem PutRel.step {u m : Nat} {D : List UInt8} (h : PutRel u m D) (hm : 128 ≤ m) : PutRel u (m / 128) (D ++ [(m % 128 + 128).toUInt8]) := by
  have h8 := h.le8 hm
  refine ⟨?_, ?_, by simp; omega⟩
  · rw [h.eq]; unfold put; rw [Lib.uvarint_big hm]; simp
  · have h2 := h.lt
    have : (2 : Nat) ^ (64 - 7 * D.length) = 2 ^ (64 - 7 * (D.length + 1)) * 128 := by
      rw [show 64 - 7 * D.length = (64 - 7 * (D.length + 1)) + 7 by omega, Nat.pow_add]
    rw [List.length_append, List.length_singleton, Nat.div_lt_iff_lt_mul (by decide)]; omega
theorem PutRel.last {u m : Nat} {D : List UInt8} (h : PutRel u m D) (hm : m < 128) : D ++ [m.toUInt8] = put u := by
  rw [h.eq]; unfold put; rw [Lib.uvarint_small hm]

/-- Of what Get tells at a place: the number, what is behind, is there one. -/
def getAt (l : List UInt8) (at_ : Int) : Option (Nat × Nat) :=
  if 0 ≤ at_ then (get (l.drop at_.toNat)).map fun p => (p.1, at_.toNat + p.2) else none
theorem getAt_past (l : List UInt8) (a : Int) (h : (l.length : Int) ≤ a) : getAt l a = none := by
  unfold getAt
  split
  · rw [List.drop_eq_nil_of_le (by omega)]; rfl
  · rfl
theorem getAt_neg (l : List UInt8) (a : Int) (h : a < 0) : getAt l a = none := by unfold getAt; rw [if_neg (by omega)]
theorem getAt_nat (l : List UInt8) (n : Nat) : getAt l (n : Int) = (get (l.drop n)).map fun p => (p.1, n + p.2) := by
  unfold getAt; rw [if_pos (by omega)]; simp

theorem pow_two7 (i : Nat) : (2 : Nat) ^ (7 * i) = 128 ^ i := by rw [Nat.pow_mul]
theorem or_join (u x i : Nat) (hu : u < 128 ^ i) : u ||| x * 128 ^ i = u + x * 128 ^ i := by
  rw [← pow_two7] at hu ⊢
  rw [Nat.or_comm, Nat.mul_comm, ← Nat.two_pow_add_eq_or_of_lt hu, Nat.add_comm]
/-- What 'u |= uint64(digit&127) << (7*uint(i))' computes. -/
theorem or_eq (u c i : Nat) (hi : i ≤ 8) (hc : c < 256) (hu : u < 128 ^ i) :
    bits .or .u64 (u : Int) (IntKind.u64.wrap (IntKind.u64.wrap (bits .and .u8 (c : Int) 127) * 2 ^ (7 * i))) = ((u + c % 128 * 128 ^ i : Nat) : Int) := by
  have hp : 128 ^ i ≤ 72057594037927936 := by
    have := Nat.pow_le_pow_right (n := 128) (by decide) hi
    exact Nat.le_trans this (by decide)
  have h1 : c % 128 ≤ 127 := by omega
  have h2 := Nat.mul_le_mul h1 hp
  have e1 : bits .and .u8 (c : Int) 127 = ((c % 128 : Nat) : Int) := by have h := u8_and127 (x := (c : Int)) (by omega) (by omega); rw [show bits BinOp.and IntKind.u8 (c : Int) 127 = (c : Int) % 128 from h]; omega
  have e2 : IntKind.u64.wrap ((c % 128 : Nat) : Int) = ((c % 128 : Nat) : Int) := by rw [IntKind.wrap_u64]; omega
  have e3 : ((c % 128 : Nat) : Int) * 2 ^ (7 * i) = ((c % 128 * 128 ^ i : Nat) : Int) := by rw [← pow_two7]; push_cast; rfl
  have e4 : IntKind.u64.wrap ((c % 128 * 128 ^ i : Nat) : Int) = ((c % 128 * 128 ^ i : Nat) : Int) := by rw [IntKind.wrap_u64]; omega
  rw [e1, e2, e3, e4, bits_or_u64_nat _ _ (by omega) (by omega), or_join _ _ _ hu]
theorem or_eq9 (u : Nat) (hu : u < 9223372036854775808) : bits .or .u64 (u : Int) 9223372036854775808 = ((u + 1 * 128 ^ 9 : Nat) : Int) := by
  have : (9223372036854775808 : Int) = ((1 * 128 ^ 9 : Nat) : Int) := by decide
  rw [this, bits_or_u64_nat _ _ (by omega) (by decide), or_join _ _ _ (by simpa using hu)]

/-- i digits from n on have come to u. -/
structure GetRel (l : List UInt8) (n i u : Nat) : Prop where
  le : i ≤ 9
  in_ : n + i ≤ l.length
  lt : u < 128 ^ i
  eq : get (l.drop n) = getGo i u (l.drop (n + i))
theorem GetRel.start {l : List UInt8} {n : Nat} (h : n ≤ l.length) : GetRel l n 0 0 := ⟨by omega, by omega, by simp, rfl⟩
theorem pow_le128 (i : Nat) (h : i ≤ 9) : 128 ^ i ≤ 9223372036854775808 := by
  have := Nat.pow_le_pow_right (n := 128) (by decide) h
  exact Nat.le_trans this (by decide)
theorem GetRel.lt64 {l : List UInt8} {n i u : Nat} (h : GetRel l n i u) : u < 9223372036854775808 := Nat.lt_of_lt_of_le h.lt (pow_le128 i h.le)
theorem GetRel.past {l : List UInt8} {n i u : Nat} (h : GetRel l n i u) (hl : l.length ≤ n + i) : getAt l (n : Int) = none := by
  rw [getAt_nat, h.eq, List.drop_eq_nil_of_le hl]; simp [getGo]
theorem GetRel.at_ {l : List UInt8} {n i u : Nat} (h : GetRel l n i u) (hl : n + i < l.length) :
    get (l.drop n) = if i = 9 ∧ 1 < l[n + i].toNat then none else
      if l[n + i].toNat < 128 then (if l[n + i].toNat = 0 ∧ 0 < i then none else some (u + l[n + i].toNat % 128 * 128 ^ i, i + 1))
      else getGo (i + 1) (u + l[n + i].toNat % 128 * 128 ^ i) (l.drop (n + i + 1)) := by
  rw [h.eq, List.drop_eq_getElem_cons hl]
  conv => lhs; unfold getGo
  rw [if_neg (by have := h.le; omega)]
theorem GetRel.big {l : List UInt8} {n i u : Nat} (h : GetRel l n i u) (hl : n + i < l.length) (h9 : i = 9) (hc : 1 < l[n + i].toNat) : getAt l (n : Int) = none := by
  rw [getAt_nat, h.at_ hl, if_pos ⟨h9, hc⟩]; rfl
theorem GetRel.zero {l : List UInt8} {n i u : Nat} (h : GetRel l n i u) (hl : n + i < l.length) (hc : l[n + i].toNat = 0) (hi : 0 < i) : getAt l (n : Int) = none := by
  rw [getAt_nat, h.at_ hl, if_neg (by omega), if_pos (by omega), if_pos ⟨hc, hi⟩]; rfl
theorem GetRel.ends {l : List UInt8} {n i u : Nat} (h : GetRel l n i u) (hl : n + i < l.length) (h9 : ¬ (i = 9 ∧ 1 < l[n + i].toNat)) (hc : l[n + i].toNat < 128) (hz : ¬ (l[n + i].toNat = 0 ∧ 0 < i)) :
    getAt l (n : Int) = some (u + l[n + i].toNat % 128 * 128 ^ i, n + i + 1) := by
  rw [getAt_nat, h.at_ hl, if_neg h9, if_pos hc, if_neg hz]; simp [Nat.add_assoc]
theorem digit_lt {i u c : Nat} (hu : u < 128 ^ i) : u + c % 128 * 128 ^ i < 128 ^ (i + 1) := by
  have h1 : c % 128 ≤ 127 := by omega
  have h2 := Nat.mul_le_mul_right (128 ^ i) h1
  rw [pow_succ128]; omega
theorem GetRel.next {l : List UInt8} {n i u : Nat} (h : GetRel l n i u) (hl : n + i < l.length) (hi : i ≤ 8) (hc : 128 ≤ l[n + i].toNat) :
    GetRel l n (i + 1) (u + l[n + i].toNat % 128 * 128 ^ i) :=
  ⟨by omega, by omega, digit_lt h.lt, by rw [h.at_ hl, if_neg (by omega), if_neg (by omega)]; rfl⟩
theorem getAt_some {l : List UInt8} {a : Int} {u k : Nat} (h : getAt l a = some (u, k)) :
    u < 18446744073709551616 ∧ 0 ≤ a ∧ k = a.toNat + (put u).length ∧ k ≤ l.length ∧ (l.drop a.toNat).take (put u).length = put u := by
  unfold getAt at h
  split at h
  · rename_i h0
    rcases hg : get (l.drop a.toNat) with _ | ⟨v, m⟩
    · rw [hg] at h; exact absurd h (by simp)
    · rw [hg] at h
      obtain ⟨rfl, rfl⟩ := Prod.mk.inj (Option.some.inj h)
      obtain ⟨h1, rfl, h3, h4, h5⟩ := get_some hg
      rw [List.length_drop] at h4
      exact ⟨h1, h0, rfl, by omega, h5⟩
  · exact absurd h (by simp)
theorem getAt_lt {l : List UInt8} {a : Int} {u k : Nat} (h : getAt l a = some (u, k)) : (u : Int) ≤ 18446744073709551615 := by
  have := (getAt_some h).1; omega
theorem getAt_put (p : List UInt8) (u : Nat) (h : u < 18446744073709551616) (q : List UInt8) (a : Int) (ha : a = (p.length : Int)) : getAt (p ++ (put u ++ q)) a = some (u, p.length + (put u).length) := by
  subst ha
  rw [getAt_nat, List.drop_left, get_put u h]; rfl

theorem put_one (u : Nat) : (put u).length = 1 ↔ u < 128 := by
  constructor
  · intro h
    rcases Nat.lt_or_ge u 128 with h1 | h1
    · exact h1
    · unfold put at h; rw [Lib.uvarint_big h1] at h
      have := Lib.uvarint_pos (u / 128)
      simp at h; rw [h] at this; simp at this
  · intro h; unfold put; rw [Lib.uvarint_small h]; rfl
theorem put_len_big {u : Nat} (h : 128 ≤ u) : (put u).length = 1 + (put (u / 128)).length := by
  unfold put; rw [Lib.uvarint_big h]; simp; omega
theorem put_mono : ∀ (n u v : Nat), v ≤ n → u ≤ v → (put u).length ≤ (put v).length := by
  intro n
  induction n with
  | zero => intro u v h1 h2; obtain rfl : u = v := by omega
            exact Nat.le_refl _
  | succ n ih =>
    intro u v h1 h2
    by_cases hu : 128 ≤ u
    · rw [put_len_big hu, put_len_big (by omega : 128 ≤ v)]
      have := ih (u / 128) (v / 128) (by omega) (by omega)
      omega
    · rw [(put_one u).2 (by omega)]; exact put_pos v

/-- m digits have been counted; k is what is left. -/
def ShortRel (U m k : Nat) : Prop := m + (if k = 0 then 0 else (put k).length) = (put U).length
theorem ShortRel.start (U : Nat) : ShortRel U 1 (U / 128) := by
  unfold ShortRel
  split
  · rw [(put_one U).2 (by omega)]
  · rw [put_len_big (by omega : 128 ≤ U)]
theorem ShortRel.le {U m k : Nat} (h : ShortRel U m k) (hU : U < 18446744073709551616) : m ≤ 10 := by
  have := put_ten hU; unfold ShortRel at h; omega
theorem ShortRel.next {U m k : Nat} (h : ShortRel U m k) (hk : 0 < k) : ShortRel U (m + 1) (k / 128) := by
  unfold ShortRel at h ⊢
  rw [if_neg (by omega)] at h
  have := ShortRel.start k
  unfold ShortRel at this
  omega
theorem ShortRel.done {U m : Nat} (h : ShortRel U m 0) : (put U).length = m := by
  unfold ShortRel at h; rw [if_pos rfl] at h; omega
theorem shr_bd (u : Int) (k : Nat) (h0 : 0 ≤ u) (h1 : u ≤ 18446744073709551615) : 0 ≤ u / 2 ^ k ∧ u / 2 ^ k ≤ 18446744073709551615 := by
  have hp : (0 : Int) < 2 ^ k := Int.pow_pos (by decide)
  exact ⟨Int.ediv_nonneg h0 (Int.le_of_lt hp), Int.le_trans (Int.ediv_le_self _ h0) h1⟩

theorem put_shape : ∀ (n u : Nat), u ≤ n → ∃ (D : List UInt8) (c : UInt8), put u = D ++ [c] ∧ (∀ x ∈ D, 128 ≤ x.toNat) ∧ c.toNat < 128 := by
  intro n
  induction n with
  | zero => intro u h; exact ⟨[], 0, by obtain rfl : u = 0 := by omega
                                        unfold put; rw [Lib.uvarint_small (by omega)]; rfl, by simp, by decide⟩
  | succ n ih =>
    intro u h
    by_cases hu : u < 128
    · exact ⟨[], u.toUInt8, by unfold put; rw [Lib.uvarint_small hu]; rfl, by simp, by simp; omega⟩
    · obtain ⟨D, c, e, h1, h2⟩ := ih (u / 128) (by omega)
      refine ⟨(u % 128 + 128).toUInt8 :: D, c, ?_, ?_, h2⟩
      · unfold put at e ⊢; rw [Lib.uvarint_big (by omega), e]; rfl
      · intro x hx
        rcases List.mem_cons.1 hx with rfl | hx
        · simp; omega
        · exact h1 x hx
/-- Digits that all go on, and a nought: no number. -/
theorem getGo_nought : ∀ (D : List UInt8) (i u : Nat), (∀ x ∈ D, 128 ≤ x.toNat) → 0 < i + D.length → getGo i u (D ++ [0]) = none := by
  intro D
  induction D with
  | nil =>
    intro i u _ h
    simp only [List.nil_append, getGo]
    simp at h
    split
    · rfl
    · split
      · rfl
      · rw [if_pos (by decide), if_pos ⟨by decide, h⟩]
  | cons c D ih =>
    intro i u hD _
    have hc := hD c (by simp)
    simp only [List.cons_append, getGo]
    split
    · rfl
    · split
      · rfl
      · rw [if_neg (by omega)]
        exact ih _ _ (fun x hx => hD x (by simp [hx])) (by omega)
/-- No beginning of what was put is a number. -/
theorem get_prefix {u k : Nat} (hu : u < 18446744073709551616) (hk : k < (put u).length) : get ((put u).take k) = none := by
  rcases h : get ((put u).take k) with _ | ⟨v, m⟩
  · rfl
  · obtain ⟨h1, h2, h3, h4, h5⟩ := get_some h
    rw [List.length_take] at h4
    rw [List.take_take, Nat.min_eq_left (by omega)] at h5
    have e : put u = put v ++ (put u).drop m := by rw [← h5, List.take_append_drop]
    have a := get_put u hu []
    rw [List.append_nil] at a
    rw [e, get_put v h1, ← h2] at a
    obtain ⟨_, h7⟩ := Prod.mk.inj (Option.some.inj a)
    rw [← e] at h7
    omega

end Go.Proofs.Ytbmkbpehkpdcmaa.Num
namespace Go.Proofs.Ytbmkbpehkpdcmaa
theorem ret_int {k : IntKind} {a b : Int} (h : a = b) : Ending.returned (.int k a) = .returned (.int k b) := by rw [h]
end Go.Proofs.Ytbmkbpehkpdcmaa
