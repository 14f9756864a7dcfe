/- Contracts of the document's own answer to chapter 2: digits, Show; and the laws' ref. -/
import Derived.Test.YtomldmdnoalbiaaDoorRefV
import Derived.Test.YtomldmdnoalbiaaDoorRef01
import Derived.Test.YtomldmdnoalbiaaDoorValueS
import Derived.Test.YtomldmdnoalbiaaDoorNum22
import Derived.Lib.ItoaLen
namespace Go.Proofs.YtomldmdnoalbiaaDoor
open Go.ChangeShapes Go.WideShapes Go.ChangeAt Go.RowKit
open Num (zig zag)
set_option linter.unusedVariables false
set_option linter.unusedSimpArgs false

/-- What digits' loop keeps: m is what is left of N, D are the digits so far. -/
def DigRel (N m : Nat) (D : List UInt8) : Prop := m ≤ N ∧ ((D = [] ∧ m = N) ∨ (D ≠ [] ∧ 0 < m ∧ Lib.decDigits N = Lib.decDigits m ++ D) ∨ (D ≠ [] ∧ m = 0 ∧ Lib.decDigits N = D))
theorem DigRel.start (N : Nat) : DigRel N N [] := ⟨Nat.le_refl _, Or.inl ⟨rfl, rfl⟩⟩
theorem DigRel.step {N m : Nat} {D : List UInt8} (h : DigRel N m D) (hm : D = [] ∨ 0 < m) : DigRel N (m / 10) (UInt8.ofNat (48 + m % 10) :: D) := by
  obtain ⟨hl, h⟩ := h
  have key : Lib.decDigits N = Lib.decDigits m ++ D := by
    rcases h with ⟨rfl, rfl⟩ | ⟨_, _, h⟩ | ⟨h1, h2, _⟩
    · simp
    · exact h
    · rcases hm with hm | hm
      · exact absurd hm h1
      · omega
  have hd := Nat.div_le_self m 10
  refine ⟨by omega, ?_⟩
  rcases Nat.lt_or_ge m 10 with hs | hs
  · refine Or.inr (Or.inr ⟨by simp, by omega, ?_⟩)
    rw [key, Lib.decDigits_one hs, Nat.mod_eq_of_lt hs]; rfl
  · refine Or.inr (Or.inl ⟨by simp, by omega, ?_⟩)
    rw [key]
    conv => lhs; rw [Lib.decDigits, dif_neg (by omega)]
    simp
theorem DigRel.done {N m : Nat} {D : List UInt8} (h : DigRel N m D) (hD : D ≠ []) (hm : m = 0) : D = Lib.decDigits N := by
  rcases h.2 with ⟨h1, _⟩ | ⟨_, h2, _⟩ | ⟨_, _, h3⟩
  · exact absurd h1 hD
  · omega
  · exact h3.symm
theorem DigRel.len {N m : Nat} {D : List UInt8} (h : DigRel N m D) (hN : N < 18446744073709551616) : D.length ≤ 20 := by
  have e := Lib.decDigits_length N
  have e2 := Lib.nDigits_le20 N hN
  rcases h.2 with ⟨rfl, _⟩ | ⟨_, _, h3⟩ | ⟨_, _, h3⟩
  · simp
  · rw [h3, List.length_append] at e; omega
  · rw [h3] at e; omega
def emp : Value → Nat
  | .string s => if s.size = 0 then 1 else 0
  | _ => 0
theorem emp_cons (x : UInt8) (S : ByteArray) : emp (.string (⟨#[x]⟩ ++ S)) = 0 := by
  show (if (⟨#[x]⟩ ++ S : ByteArray).size = 0 then 1 else 0) = 0
  rw [ByteArray.size_append, if_neg (by show ¬ (1 + S.size = 0); omega)]
theorem cons_list (x : UInt8) (S : ByteArray) : (⟨#[x]⟩ ++ S : ByteArray).data.toList = x :: S.data.toList := by simp
theorem ret_itoa {S : ByteArray} {l : List UInt8} (h : S.data.toList = l) : Ending.returned (.string S) = .returned (.string ⟨l.toArray⟩) := by rw [← h]

theorem emp_nil : emp (.string ⟨#[]⟩) = 1 := rfl

set_option maxRecDepth 20000 in
theorem digits_pos (n : Int) (w : World) (h0 : 0 ≤ n) (h1 : n ≤ 9223372036854775807) :
    Calls Tryd.prog 35 #[.int .i64 n] w fun e w' => e = .returned (.string ⟨(Lib.itoa n).toArray⟩) ∧ Below w.heap.size w w' := by
  have E := Lib.hid (show Lib.itoa n = Lib.decDigits n.natAbs by unfold Lib.itoa; rw [if_neg (by omega), show n.toNat = n.natAbs by omega])
  have hN : n.natAbs < 18446744073709551616 := by omega
  go_enter Tryd.func35, Tryd.ntmps35
  go_wp2
  go_loopw [3, 4] (fun uv sv wr => ∃ (m : Nat) (S : ByteArray), uv = .int .u64 m ∧ sv = .string S ∧ DigRel n.natAbs m S.data.toList ∧ Below w.heap.size w wr) (fun uv sv _ => (intOf uv).toNat + emp sv)
  case atStart => exact ⟨n.natAbs, ⟨#[]⟩, congrArg (Value.int .u64) (by omega), rfl, DigRel.start _, Below.refl _ _⟩
  case round =>
    rename_i wr _
    obtain ⟨m, S, rfl, rfl, HP, hb⟩ := hrel
    have h9 := HP.1
    have h20 : S.size ≤ 20 := HP.len hN
    obtain ⟨x, hx⟩ : ∃ x : UInt8, x = UInt8.ofNat (48 + m % 10) := ⟨_, rfl⟩
    have hcv := one_byte wr (48 + (m : Int) % 10) x (by rw [hx, UInt8.toNat_ofNat']; omega)
    rcases (by omega : S.size = 0 ∨ 1 ≤ S.size) with hz | hz
    · obtain rfl : S = ⟨#[]⟩ := by
        have := (size_nil S).1 hz
        exact toList_inj (by rw [this, (size_nil ⟨#[]⟩).1 rfl])
      have HS := HP.step (Or.inl rfl)
      rw [← hx] at HS
      clear HP hx
      go_wp2
      exact ⟨⟨m / 10, _, rfl, rfl, by rw [cons_list]; exact HS, hb.alloc hb.size _⟩, by rw [emp_cons, emp_nil]; simp [intOf]; omega⟩
    · have hne : ¬ S.toList = [] := fun h => by have := (size_nil S).2 h; omega
      have hneb : (S.toList == []) = false := by simpa using hne
      by_cases hm : 0 < m
      · have HS := HP.step (Or.inr hm)
        rw [← hx] at HS
        clear HP hx
        go_wp2
        exact ⟨⟨m / 10, _, rfl, rfl, by rw [cons_list]; exact HS, hb.alloc hb.size _⟩, by rw [emp_cons]; simp [intOf]; omega⟩
      · obtain rfl : m = 0 := by omega
        have HL := Lib.hid (HP.done (fun h => hne (by rw [Lib.toList_data]; exact h)) rfl)
        clear HP hx hcv
        go_wp2
        go_ret
        exact ⟨ret_itoa (by rw [E.out, ← HL.out]), hb⟩
set_option maxRecDepth 20000 in
theorem digits_neg (n : Int) (w : World) (h0 : -9223372036854775808 ≤ n) (h1 : n < 0) :
    Calls Tryd.prog 35 #[.int .i64 n] w fun e w' => e = .returned (.string ⟨(Lib.itoa n).toArray⟩) ∧ Below w.heap.size w w' := by
  have E := Lib.hid (show Lib.itoa n = 45 :: Lib.decDigits n.natAbs by unfold Lib.itoa; rw [if_pos (by omega)])
  have hN : n.natAbs < 18446744073709551616 := by omega
  go_enter Tryd.func35, Tryd.ntmps35
  go_wp2
  go_loopw [3, 4] (fun uv sv wr => ∃ (m : Nat) (S : ByteArray), uv = .int .u64 m ∧ sv = .string S ∧ DigRel n.natAbs m S.data.toList ∧ Below w.heap.size w wr) (fun uv sv _ => (intOf uv).toNat + emp sv)
  case atStart => exact ⟨n.natAbs, ⟨#[]⟩, congrArg (Value.int .u64) (by rw [IntKind.wrap_u64, IntKind.wrap_u64]; omega), rfl, DigRel.start _, Below.refl _ _⟩
  case round =>
    rename_i wr _
    obtain ⟨m, S, rfl, rfl, HP, hb⟩ := hrel
    have h9 := HP.1
    have h20 : S.size ≤ 20 := HP.len hN
    obtain ⟨x, hx⟩ : ∃ x : UInt8, x = UInt8.ofNat (48 + m % 10) := ⟨_, rfl⟩
    have hcv := one_byte wr (48 + (m : Int) % 10) x (by rw [hx, UInt8.toNat_ofNat']; omega)
    rcases (by omega : S.size = 0 ∨ 1 ≤ S.size) with hz | hz
    · obtain rfl : S = ⟨#[]⟩ := by
        have := (size_nil S).1 hz
        exact toList_inj (by rw [this, (size_nil ⟨#[]⟩).1 rfl])
      have HS := HP.step (Or.inl rfl)
      rw [← hx] at HS
      clear HP hx
      go_wp2
      exact ⟨⟨m / 10, _, rfl, rfl, by rw [cons_list]; exact HS, hb.alloc hb.size _⟩, by rw [emp_cons, emp_nil]; simp [intOf]; omega⟩
    · have hne : ¬ S.toList = [] := fun h => by have := (size_nil S).2 h; omega
      have hneb : (S.toList == []) = false := by simpa using hne
      by_cases hm : 0 < m
      · have HS := HP.step (Or.inr hm)
        rw [← hx] at HS
        clear HP hx
        go_wp2
        exact ⟨⟨m / 10, _, rfl, rfl, by rw [cons_list]; exact HS, hb.alloc hb.size _⟩, by rw [emp_cons]; simp [intOf]; omega⟩
      · obtain rfl : m = 0 := by omega
        have HL := Lib.hid (HP.done (fun h => hne (by rw [Lib.toList_data]; exact h)) rfl)
        clear HP hx hcv
        go_wp2
        go_ret
        exact ⟨ret_itoa (by rw [E.out, ← HL.out]; simp), hb⟩
theorem digits_any (n : Int) (w : World) (h0 : -9223372036854775808 ≤ n) (h1 : n ≤ 9223372036854775807) :
    Calls Tryd.prog 35 #[.int .i64 n] w fun e w' => e = .returned (.string ⟨(Lib.itoa n).toArray⟩) ∧ Below w.heap.size w w' := by
  by_cases h : 0 ≤ n
  · exact digits_pos n w h h1
  · exact digits_neg n w h0 (by omega)

theorem rShow_v (k n : Int) (s : ByteArray) (w : World) (hs : s.size ≤ maxLen) (n0 : -9223372036854775808 ≤ n) (n1 : n ≤ 9223372036854775807) :
    Calls Tryd.prog 21 #[vv k n s] w fun e w' => e = .returned (.string ⟨(Val.showL k n s).toArray⟩) ∧ Below w.heap.size w w' := by
  have cR := fun w => rRight_any k n s w hs
  unfold maxLen at hs
  have hb0 : Below w.heap.size w (w.alloc (.cells #[.int .i64 k, .int .i64 n, .string s] 29)) := (Below.refl _ _).alloc (Nat.le_refl _) _
  rcases hr : Val.right k n s with _ | _
  · have E := Lib.hid (Val.show_no hr)
    rw [hr] at cR
    have H := Lib.hid cR; clear cR hr
    go_enter Tryd.func21, Tryd.ntmps21
    go_wp2_with (go_at_call 18; ((with_reducible refine (H.out _).mono ?_); rintro e w1 ⟨rfl, b1⟩))
    go_ret
    exact ⟨by rw [E.out]; rfl, bt hb0 b1⟩
  · rcases Val.right_kind hr with rfl | rfl | rfl
    · have E := Lib.hid (Val.show_int hr)
      rw [hr] at cR
      have H := Lib.hid cR; clear cR hr
      go_enter Tryd.func21, Tryd.ntmps21
      go_wp2_with fail
      go_at_call 18
      ((with_reducible refine (H.out _).mono ?_); rintro e w1 ⟨rfl, b1⟩)
      obtain ⟨hc1, hf1⟩ := bcell b1
      go_wp2_with (go_at_call 35; ((with_reducible refine (digits_any _ _ n0 n1).mono ?_); rintro e w2 ⟨rfl, b2⟩))
      go_ret
      exact ⟨by rw [E.out]; rfl, bt hb0 (bt b1 b2)⟩
    · obtain ⟨_, hn⟩ := Val.right_bool hr
      have E := Lib.hid (Val.show_bool hr)
      rw [hr] at cR
      have H := Lib.hid cR; clear cR hr
      rcases hn with rfl | rfl
      all_goals
        go_enter Tryd.func21, Tryd.ntmps21
        go_wp2_with fail
        go_at_call 18
        ((with_reducible refine (H.out _).mono ?_); rintro e w1 ⟨rfl, b1⟩)
        obtain ⟨hc1, hf1⟩ := bcell b1
        go_wp2
        go_ret
        exact ⟨by rw [E.out]; rfl, bt hb0 b1⟩
    · obtain ⟨rfl, hn⟩ := Val.right_text hr
      have E := Lib.hid (Val.show_text hr)
      rw [hr] at cR
      have H := Lib.hid cR; clear cR hr
      go_enter Tryd.func21, Tryd.ntmps21
      go_wp2_with fail
      go_at_call 18
      ((with_reducible refine (H.out _).mono ?_); rintro e w1 ⟨rfl, b1⟩)
      obtain ⟨hc1, hf1⟩ := bcell b1
      go_wp2
      go_ret
      exact ⟨ret_bytes' (by rw [E.out]; simp), bt hb0 b1⟩

/-- 'ref' copies. -/
theorem ref_v (k n : Int) (s : ByteArray) (w : World) :
    Calls Tryd.prog 16 #[vv k n s] w fun e w' => e = .returned (vv k n s) ∧ Below w.heap.size w w' := by
  go_enter Tryd.func16, Tryd.ntmps16
  go_wp2
  exact bodyPost_ret (v := vv k n s) (by simp [results, Tryd.results16, go_sem]) rfl ⟨rfl, by first | exact ba _ _ | exact bt (ba _ _) (ba _ _)⟩
end Go.Proofs.YtomldmdnoalbiaaDoor
