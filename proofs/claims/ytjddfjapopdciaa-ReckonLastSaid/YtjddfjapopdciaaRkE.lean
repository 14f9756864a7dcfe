/- Contracts of package reckon: what names stand for. -/
import Derived.Test.YtjddfjapopdciaaRkD
import Derived.Test.YtjddfjapopdciaaCells
namespace Go.Proofs.Ytjddfjapopdciaa
open Go.ChangeShapes Go.WideShapes Go.ChangeAt Go.RowKit
open Rk (inR)
set_option linter.unusedVariables false
set_option linter.unusedSimpArgs false

/-- A value that may be reckoned with. -/
def good (v : V3) : Prop := right3 v = true ∧ inR v.2.1
theorem unB_or {op : ByteArray} (h : unB op = true) : op.toList = [45] ∨ op.toList = [33] := by
  unfold unB at h; simpa using h
theorem unary_any (op : ByteArray) (v : V3) (w : World) (ho : unB op = true) (hv : good v) :
    Calls Try.prog 52 #[.string op, v3 v] w fun e w' => Res (unaryM op v) e ∧ Below w.heap.size w w' := by
  obtain ⟨k, n, s⟩ := v
  rcases unB_or ho with h | h
  · exact unary_minus op k n s w h hv.2
  · exact unary_not op k n s w h hv.1
theorem good_tv (b : Bool) : good (tv b) := by
  cases b <;> exact ⟨by decide, by decide⟩
theorem good_num {n : Int} (h : inR n) : good (1, n, mt) := ⟨rfl, h⟩
theorem unary_good {op : ByteArray} {v x : V3} (h : unaryM op v = some x) : good x := by
  unfold unaryM at h
  split at h
  · split at h
    · obtain rfl := Option.some.inj h; exact good_tv _
    · exact absurd h (by simp)
  · split at h
    · rename_i hc; obtain rfl := Option.some.inj h; exact good_num hc.2
    · exact absurd h (by simp)
theorem whole_in {op : ByteArray} {a b x : Int} (ha : inR a) (h : wholeM op a b = some x) : inR x := by
  unfold wholeM at h
  split at h
  · split at h
    · rename_i hc; obtain rfl := Option.some.inj h; exact hc
    · exact absurd h (by simp)
  split at h
  · split at h
    · rename_i hc; obtain rfl := Option.some.inj h; exact hc
    · exact absurd h (by simp)
  split at h
  · split at h
    · rename_i hc; obtain rfl := Option.some.inj h; exact hc
    · exact absurd h (by simp)
  split at h
  · split at h
    · exact absurd h (by simp)
    · rename_i hc; obtain rfl := Option.some.inj h; exact tdiv_in ha (fun h => hc (Or.inl h)) (fun h => hc (Or.inr h))
  · split at h
    · exact absurd h (by simp)
    · obtain rfl := Option.some.inj h; exact tmod_in ha
theorem binary_good {op : ByteArray} {a b x : V3} (ha : good a) (hb : good b) (h : binaryM op a b = some x) : good x := by
  unfold binaryM at h
  split at h
  · exact absurd h (by simp)
  split at h
  · split at h
    · obtain rfl := Option.some.inj h; exact hb
    · exact absurd h (by simp)
  split at h
  · obtain rfl := Option.some.inj h; exact good_tv _
  split at h
  · obtain rfl := Option.some.inj h; exact good_tv _
  split at h
  · obtain rfl := Option.some.inj h; exact good_tv _
  split at h
  · split at h
    · rename_i hs
      obtain rfl := Option.some.inj h
      refine ⟨?_, show inR 0 by decide⟩
      show Val.right 3 0 (a.2.2 ++ b.2.2) = true
      unfold Val.right
      rw [if_neg (by decide), if_neg (by decide), if_pos rfl, ByteArray.size_append]
      simpa using hs
    · exact absurd h (by simp)
  split at h
  · exact absurd h (by simp)
  · cases hw : wholeM op a.2.1 b.2.1 with
    | none => rw [hw] at h; exact absurd h (by simp)
    | some y =>
      rw [hw] at h
      obtain rfl := Option.some.inj h
      exact good_num (whole_in ha.2 hw)
theorem binary_any (op : ByteArray) (a b : V3) (w : World) (ho : 0 < lvl op) (ha : good a) (hb : good b) :
    Calls Try.prog 53 #[.string op, v3 a, v3 b] w fun e w' => Res (binaryM op a b) e ∧ Below w.heap.size w w' := by
  obtain ⟨k, n, s⟩ := a
  obtain ⟨l, m, t⟩ := b
  by_cases hk : k = l
  · subst hk
    rcases op_or op with h | h | h | h | h | h | h | h | h | h | h | h | h | ⟨h0, h1, h2, h3, h4, h5, h6, h7, h8, h9, h10, h11, h12⟩
    · exact binary_logic op k n s m t w (Or.inl h)
    · exact binary_logic op k n s m t w (Or.inr h)
    · exact binary_eq op k n s m t w h
    · exact binary_ne op k n s m t w h
    · exact binary_cmp op k n s m t w (Or.inl h) ha.1 hb.1
    · exact binary_cmp op k n s m t w (Or.inr (Or.inl h)) ha.1 hb.1
    · exact binary_cmp op k n s m t w (Or.inr (Or.inr (Or.inl h))) ha.1 hb.1
    · exact binary_cmp op k n s m t w (Or.inr (Or.inr (Or.inr h))) ha.1 hb.1
    · by_cases h3 : k = 3
      · subst h3; exact binary_plus op n s m t w h (right_size ha.1) (right_size hb.1)
      · exact binary_arith op k n s m t w (Or.inl h) (fun _ => h3) ha.2 hb.2
    · exact binary_arith op k n s m t w (Or.inr (Or.inl h)) (fun e => absurd (h.symm.trans e) (by decide)) ha.2 hb.2
    · exact binary_arith op k n s m t w (Or.inr (Or.inr (Or.inl h))) (fun e => absurd (h.symm.trans e) (by decide)) ha.2 hb.2
    · exact binary_arith op k n s m t w (Or.inr (Or.inr (Or.inr (Or.inl h)))) (fun e => absurd (h.symm.trans e) (by decide)) ha.2 hb.2
    · exact binary_arith op k n s m t w (Or.inr (Or.inr (Or.inr (Or.inr h)))) (fun e => absurd (h.symm.trans e) (by decide)) ha.2 hb.2
    · exfalso
      unfold lvl at ho
      rw [if_neg h0, if_neg h1, if_neg h2, if_neg h3, if_neg h4, if_neg h5, if_neg h6, if_neg h7, if_neg h8, if_neg h9, if_neg h10, if_neg h11, if_neg h12] at ho
      exact absurd ho (by decide)
  · exact binary_kind op k n s l m t w hk

/-! ### What names stand for -/
abbrev Ev := Int × List V3
abbrev Bd := ByteArray × List ByteArray × List Ev
abbrev vc (v : V3) : List Value := [.int .i64 v.1, .int .i64 v.2.1, .string v.2.2]
abbrev sc (s : ByteArray) : List Value := [.string s]
abbrev ec (x : Int × SV) : List Value := [.int .i64 x.1, sl x.2]
abbrev bc (x : ByteArray × SV × SV) : List Value := [.string x.1, sl x.2.1, sl x.2.2]
/-- A slice of events that reads as l. -/
def EvsAt (w : World) (v : Value) (l : List Ev) : Prop :=
  ∃ L : List (Int × SV), L.length = l.length ∧ At w 2 ec v L ∧ ∀ i (h : i < L.length) (h' : i < l.length), (L[i]'h).1 = (l[i]'h').1 ∧ At w 3 vc (sl (L[i]'h).2) (l[i]'h').2
theorem EvsAt.later {w w' : World} {v : Value} {l : List Ev} (h : EvsAt w v l) (hb : Below w.heap.size w w') : EvsAt w' v l := by
  obtain ⟨L, h1, h2, h3⟩ := h
  exact ⟨L, h1, h2.later hb, fun i h h' => ⟨(h3 i h h').1, (h3 i h h').2.later hb⟩⟩
/-- What a bind's two slices read as. -/
def BdAt (w : World) (x : ByteArray × SV × SV) (b : Bd) : Prop := x.1 = b.1 ∧ At w 1 sc (sl x.2.1) b.2.1 ∧ EvsAt w (sl x.2.2) b.2.2
theorem BdAt.later {w w' : World} {x : ByteArray × SV × SV} {b : Bd} (h : BdAt w x b) (hb : Below w.heap.size w w') : BdAt w' x b := ⟨h.1, h.2.1.later hb, h.2.2.later hb⟩
/-- A slice of binds that reads as l. -/
def BdsAt (w : World) (v : Value) (l : List Bd) : Prop :=
  ∃ L : List (ByteArray × SV × SV), L.length = l.length ∧ At w 3 bc v L ∧ ∀ i (h : i < L.length) (h' : i < l.length), BdAt w (L[i]'h) (l[i]'h')
theorem BdsAt.later {w w' : World} {v : Value} {l : List Bd} (h : BdsAt w v l) (hb : Below w.heap.size w w') : BdsAt w' v l := by
  obtain ⟨L, h1, h2, h3⟩ := h
  exact ⟨L, h1, h2.later hb, fun i h h' => (h3 i h h').later hb⟩
theorem BdsAt.nil (w : World) : BdsAt w (.slice none 0 0) [] := ⟨[], rfl, At.nil w 3 bc, fun i h => absurd h (by simp)⟩
/-- All values that are bound are small, and of 64 bits. -/
def okBds (l : List Bd) : Prop := ∀ b ∈ l, b.2.2.length ≤ maxLen ∧ ∀ x ∈ b.2.2, ∀ v ∈ x.2, inR v.2.1 ∧ v.2.2.size ≤ maxLen

def isN (x : ByteArray) (s : ByteArray) : Bool := s.toList == x.toList
def idxB {α : Type} (p : α → Bool) (l : List α) : Int := if l.findIdx p < l.length then (l.findIdx p : Int) else -1
theorem idxB_found {α : Type} {p : α → Bool} {l : List α} {k : Nat} (hk : k < l.length) (h : p (l[k]'hk) = true) (h1 : ∀ j (hj : j < l.length), j < k → p (l[j]'hj) = false) : idxB p l = k := by
  have : l.findIdx p = k := (List.findIdx_eq hk).2 ⟨h, fun j hj => by simpa using h1 j (by omega) hj⟩
  unfold idxB; rw [this, if_pos hk]
theorem idxB_none {α : Type} {p : α → Bool} {l : List α} (h1 : ∀ j (hj : j < l.length), p (l[j]'hj) = false) : idxB p l = -1 := by
  have : l.findIdx p = l.length := by
    rw [List.findIdx_eq_length]
    intro x hx
    obtain ⟨j, hj, rfl⟩ := List.getElem_of_mem hx
    simpa using h1 j hj
  unfold idxB; rw [this, if_neg (by omega)]
abbrev Bv := ByteArray × SV × SV
theorem boundClo_any (s x : ByteArray) (F E : SV) (b : Nat) (w : World) (hc : w.cell? ⟨b, 0, none⟩ = some (.string x)) :
    Calls Try.prog 70 #[.agg #[.string s, sl F, sl E], .pointer (some ⟨b, 0, none⟩)] w fun e w' => e = .returned (.bool (isN x s)) ∧ Below w.heap.size w w' := by
  have hb := World.block_lt_of_cell? w _ hc
  have hc' : (w.alloc (.cells #[.string s, sl F, sl E] 59)).cell? ⟨b, 0, none⟩ = some (.string x) := by rw [(ba w _).cell hb]; exact hc
  go_enter Try.func70, Try.ntmps70
  go_wp2
  go_ret
  exact ⟨rfl, ba _ _⟩
theorem IndexB_any (v : Value) (l : List Bv) (x : ByteArray) (b : Nat) (w : World) (hv : At w 3 bc v l) (hc : w.cell? ⟨b, 0, none⟩ = some (.string x)) :
    Calls Try.prog 69 #[v, .func (.func 70) #[] #[.pointer (some ⟨b, 0, none⟩)]] w fun e w' => e = .returned (.int .i64 (idxB (fun y => isN x y.1) l)) ∧ Below w.heap.size w w' := by
  have hv0 := hv
  obtain ⟨A, cap, rfl, h1, h2, h3, h4⟩ := hv
  clear h4
  have hm : l.length ≤ 9223372036854775807 := by unfold maxLen at h2; omega
  have hbk := World.block_lt_of_cell? w _ hc
  have H := Lib.hid (And.intro hv0 hc); clear hv0 hc h3
  go_enter Try.func69, Try.ntmps69
  go_wp2
  go_loopw [8] (fun i wr => ∃ k : Nat, k ≤ l.length ∧ i = .int .i64 k ∧ (∀ j (hj : j < l.length), j < k → isN x (l[j]'hj).1 = false) ∧ Below w.heap.size w wr) (fun i _ => l.length - (intOf i).toNat)
  case atStart => exact ⟨0, Nat.zero_le _, rfl, fun j hj h => by omega, Below.refl _ _⟩
  case round =>
    obtain ⟨k, hk, rfl, hall, hb⟩ := hrel
    have HK := Lib.hid (And.intro hall hb); clear hall hb
    by_cases hlt : k < l.length
    · obtain ⟨a, rfl, hc⟩ := H.out.1.cells rfl (by omega)
      obtain ⟨c0, c1, c2⟩ := (hc.row3 k hlt rfl).later HK.out.2
      have cC : ∀ W : World, Below w.heap.size w W → _ := fun W hW => boundClo_any (l[k]'hlt).1 x (l[k]'hlt).2.1 (l[k]'hlt).2.2 b W (by rw [hW.cell hbk]; exact H.out.2)
      have h1' : isN x (l[k]'hlt).1 = true → idxB (fun y : Bv => isN x y.1) l = k := fun h => idxB_found (p := fun y : Bv => isN x y.1) hlt h HK.out.1
      have h0' : isN x (l[k]'hlt).1 = false → ∀ j (hj : j < l.length), j < k + 1 → isN x (l[j]'hj).1 = false := fun h j hj hlt' => by
        rcases Nat.lt_succ_iff_lt_or_eq.1 hlt' with h2 | rfl
        · exact HK.out.1 j hj h2
        · exact h
      generalize (l[k]'hlt).1 = s at *
      generalize (l[k]'hlt).2.1 = F at *
      generalize (l[k]'hlt).2.2 = E at *
      clear hc
      rcases hr : isN x s with _ | _
      · rw [hr] at cC
        have HC := Lib.hid (And.intro (cC _ HK.out.2) (h0' hr)); clear cC hr h0' h1'
        go_wp2_with (go_at_call 70; ((with_reducible refine (HC.out.1).mono ?_); rintro e w1 ⟨rfl, b1⟩))
        go_roundw
        case rel => exact ⟨k + 1, by omega, by go_num, HC.out.2, bt HK.out.2 b1⟩
        case measure => simp [intOf]; omega
      · rw [hr] at cC
        have HC := Lib.hid (And.intro (cC _ HK.out.2) (h1' hr)); clear cC hr h0' h1'
        go_wp2_with (go_at_call 70; ((with_reducible refine (HC.out.1).mono ?_); rintro e w1 ⟨rfl, b1⟩))
        go_ret
        exact ⟨by rw [HC.out.2]; rfl, bt HK.out.2 b1⟩
    · have hE : idxB (fun y : Bv => isN x y.1) l = -1 := idxB_none (p := fun y : Bv => isN x y.1) (fun j hj => HK.out.1 j hj (by omega))
      have HE := Lib.hid hE; clear hE
      go_wp2
      go_ret
      exact ⟨by rw [HE.out]; rfl, HK.out.2⟩
end Go.Proofs.Ytjddfjapopdciaa
