/- Contracts of package stream: what is found by its name. -/
import Derived.Test.YtkmboffbohndjaaStrmN
namespace Go.Proofs.Ytkmboffbohndjaa
open Go.ChangeShapes Go.WideShapes Go.ChangeAt Go.RowKit
set_option linter.unusedVariables false
set_option linter.unusedSimpArgs false

def Row2 (w : World) (a : Addr) (x y : Value) : Prop := w.cell? a = some x ∧ w.cell? ⟨a.block, a.off + 1, none⟩ = some y
theorem Row2.later {w w' : World} {a : Addr} {x y : Value} (h : Row2 w a x y) (hb : Below w.heap.size w w') : Row2 w' a x y := by
  obtain ⟨h0, h1⟩ := h
  exact ⟨by rw [hb.cell (World.block_lt_of_cell? w _ h0)]; exact h0, by rw [hb.cell (World.block_lt_of_cell? w _ h1)]; exact h1⟩
/-- A slice of structs of two cells that reads as l. -/
def RowsAt {α : Type} (row : α → Value × Value) (w : World) (v : Value) (l : List α) : Prop :=
  ∃ (A : Option Addr) (cap : Nat), v = .slice A l.length cap ∧ l.length ≤ cap ∧ cap ≤ maxLen ∧
    (0 < l.length → ∃ a, A = some a ∧ ∀ j (hj : j < l.length), Row2 w (a.add (j * 2)) (row (l[j]'hj)).1 (row (l[j]'hj)).2)
theorem RowsAt.later {α : Type} {row : α → Value × Value} {w w' : World} {v : Value} {l : List α} (h : RowsAt row w v l) (hb : Below w.heap.size w w') : RowsAt row w' v l := by
  obtain ⟨A, cap, rfl, h1, h2, h3⟩ := h
  refine ⟨A, cap, rfl, h1, h2, fun h0 => ?_⟩
  obtain ⟨a, rfl, h4⟩ := h3 h0
  exact ⟨a, rfl, fun j hj => (h4 j hj).later hb⟩
theorem RowsAt.nil {α : Type} (row : α → Value × Value) (w : World) : RowsAt row w (.slice none 0 0) [] := ⟨none, 0, rfl, Nat.le_refl _, Nat.zero_le _, fun h => absurd h (by simp)⟩
abbrev Fld := ByteArray × Int
abbrev rowF (x : Fld) : Value × Value := (.string x.1, .int .i64 x.2)
abbrev Stm := ByteArray × Value
abbrev rowS (x : Stm) : Value × Value := (.string x.1, x.2)

def isN (x : ByteArray) (s : ByteArray) : Bool := s.toList == x.toList
def idxB {α : Type} (p : α → Bool) (l : List α) : Int := if l.findIdx p < l.length then (l.findIdx p : Int) else -1
theorem idxB_found {α : Type} {p : α → Bool} {l : List α} {k : Nat} (hk : k < l.length) (h : p (l[k]'hk) = true) (h1 : ∀ j (hj : j < l.length), j < k → p (l[j]'hj) = false) : idxB p l = k := by
  have : l.findIdx p = k := (List.findIdx_eq hk).2 ⟨h, fun j hj => by simpa using h1 j (by omega) hj⟩
  unfold idxB; rw [this, if_pos hk]
theorem idxB_none {α : Type} {p : α → Bool} {l : List α} (h1 : ∀ j (hj : j < l.length), p (l[j]'hj) = false) : idxB p l = -1 := by
  have : l.findIdx p = l.length := by
    rw [List.findIdx_eq_length]
    intro x hx
    obtain ⟨j, hj, rfl⟩ := List.getElem_of_mem hx
    simpa using h1 j hj
  unfold idxB; rw [this, if_neg (by omega)]

theorem AtClo_any (s x : ByteArray) (k : Int) (b : Nat) (w : World) (hc : w.cell? ⟨b, 0, none⟩ = some (.string x)) :
    Calls Try.prog 24 #[.agg #[.string s, .int .i64 k], .pointer (some ⟨b, 0, none⟩)] w fun e w' => e = .returned (.bool (isN x s)) ∧ Below w.heap.size w w' := by
  have hb := World.block_lt_of_cell? w _ hc
  have hc' : (w.alloc (.cells #[.string s, .int .i64 k] 26)).cell? ⟨b, 0, none⟩ = some (.string x) := by rw [(ba w _).cell hb]; exact hc
  go_enter Try.func24, Try.ntmps24
  go_wp2
  go_ret
  exact ⟨rfl, ba _ _⟩
theorem FindClo_any (s x : ByteArray) (A : Option Addr) (n c b : Nat) (w : World) (hc : w.cell? ⟨b, 0, none⟩ = some (.string x)) :
    Calls Try.prog 41 #[.agg #[.string s, .slice A n c], .pointer (some ⟨b, 0, none⟩)] w fun e w' => e = .returned (.bool (isN x s)) ∧ Below w.heap.size w w' := by
  have hb := World.block_lt_of_cell? w _ hc
  have hc' : (w.alloc (.cells #[.string s, .slice A n c] 46)).cell? ⟨b, 0, none⟩ = some (.string x) := by rw [(ba w _).cell hb]; exact hc
  go_enter Try.func41, Try.ntmps41
  go_wp2
  go_ret
  exact ⟨rfl, ba _ _⟩

theorem IndexF_any (v : Value) (l : List Fld) (x : ByteArray) (b : Nat) (w : World) (hv : RowsAt rowF w v l) (hc : w.cell? ⟨b, 0, none⟩ = some (.string x)) :
    Calls Try.prog 23 #[v, .func (.func 24) #[] #[.pointer (some ⟨b, 0, none⟩)]] w fun e w' => e = .returned (.int .i64 (idxB (fun y => isN x y.1) l)) ∧ Below w.heap.size w w' := by
  obtain ⟨A, cap, rfl, h1, h2, h3⟩ := hv
  have hm : l.length ≤ 9223372036854775807 := by unfold maxLen at h2; omega
  have hbk := World.block_lt_of_cell? w _ hc
  have H := Lib.hid (And.intro h3 hc); clear h3 hc
  go_enter Try.func23, Try.ntmps23
  go_wp2
  go_loopw [8] (fun i wr => ∃ k : Nat, k ≤ l.length ∧ i = .int .i64 k ∧ (∀ j (hj : j < l.length), j < k → isN x (l[j]'hj).1 = false) ∧ Below w.heap.size w wr) (fun i _ => l.length - (intOf i).toNat)
  case atStart => exact ⟨0, Nat.zero_le _, rfl, fun j hj h => by omega, Below.refl _ _⟩
  case round =>
    obtain ⟨k, hk, rfl, hall, hb⟩ := hrel
    have HK := Lib.hid (And.intro hall hb); clear hall hb
    by_cases hlt : k < l.length
    · obtain ⟨a, rfl, hc⟩ := H.out.1 (by omega)
      obtain ⟨c0, c1⟩ := (hc k hlt).later HK.out.2
      have cC : ∀ W : World, Below w.heap.size w W → _ := fun W hW => AtClo_any (l[k]'hlt).1 x (l[k]'hlt).2 b W (by rw [hW.cell hbk]; exact H.out.2)
      have h1' : isN x (l[k]'hlt).1 = true → idxB (fun y : Fld => isN x y.1) l = k := fun h => idxB_found (p := fun y : Fld => isN x y.1) hlt h HK.out.1
      have h0' : isN x (l[k]'hlt).1 = false → ∀ j (hj : j < l.length), j < k + 1 → isN x (l[j]'hj).1 = false := fun h j hj hlt' => by
        rcases Nat.lt_succ_iff_lt_or_eq.1 hlt' with h2 | rfl
        · exact HK.out.1 j hj h2
        · exact h
      generalize (l[k]'hlt).1 = s at *
      generalize (l[k]'hlt).2 = y at *
      clear hc
      rcases hr : isN x s with _ | _
      · rw [hr] at cC
        have HC := Lib.hid (And.intro (cC _ HK.out.2) (h0' hr)); clear cC hr h0' h1'
        go_wp2_with (go_at_call 24; ((with_reducible refine (HC.out.1).mono ?_); rintro e w1 ⟨rfl, b1⟩))
        go_roundw
        case rel => exact ⟨k + 1, by omega, by go_num, HC.out.2, bt HK.out.2 b1⟩
        case measure => simp [intOf]; omega
      · rw [hr] at cC
        have HC := Lib.hid (And.intro (cC _ HK.out.2) (h1' hr)); clear cC hr h0' h1'
        go_wp2_with (go_at_call 24; ((with_reducible refine (HC.out.1).mono ?_); rintro e w1 ⟨rfl, b1⟩))
        go_ret
        exact ⟨by rw [HC.out.2]; rfl, bt HK.out.2 b1⟩
    · have hE : idxB (fun y : Fld => isN x y.1) l = -1 := idxB_none (p := fun y : Fld => isN x y.1) (fun j hj => HK.out.1 j hj (by omega))
      have HE := Lib.hid hE; clear hE
      go_wp2
      go_ret
      exact ⟨by rw [HE.out]; rfl, HK.out.2⟩
theorem IndexS_any (v : Value) (l : List Stm) (x : ByteArray) (b : Nat) (w : World) (hv : RowsAt rowS w v l) (hc : w.cell? ⟨b, 0, none⟩ = some (.string x)) (hsl : ∀ y ∈ l, ∃ A n c, y.2 = .slice A n c) :
    Calls Try.prog 40 #[v, .func (.func 41) #[] #[.pointer (some ⟨b, 0, none⟩)]] w fun e w' => e = .returned (.int .i64 (idxB (fun y => isN x y.1) l)) ∧ Below w.heap.size w w' := by
  obtain ⟨A, cap, rfl, h1, h2, h3⟩ := hv
  have hm : l.length ≤ 9223372036854775807 := by unfold maxLen at h2; omega
  have hbk := World.block_lt_of_cell? w _ hc
  have H := Lib.hid (And.intro h3 (And.intro hc hsl)); clear h3 hc hsl
  go_enter Try.func40, Try.ntmps40
  go_wp2
  go_loopw [8] (fun i wr => ∃ k : Nat, k ≤ l.length ∧ i = .int .i64 k ∧ (∀ j (hj : j < l.length), j < k → isN x (l[j]'hj).1 = false) ∧ Below w.heap.size w wr) (fun i _ => l.length - (intOf i).toNat)
  case atStart => exact ⟨0, Nat.zero_le _, rfl, fun j hj h => by omega, Below.refl _ _⟩
  case round =>
    obtain ⟨k, hk, rfl, hall, hb⟩ := hrel
    have HK := Lib.hid (And.intro hall hb); clear hall hb
    by_cases hlt : k < l.length
    · obtain ⟨a, rfl, hc⟩ := H.out.1 (by omega)
      obtain ⟨c0, c1⟩ := (hc k hlt).later HK.out.2
      obtain ⟨A', n', c', hy⟩ := H.out.2.2 _ (List.getElem_mem hlt)
      rw [show (rowS (l[k]'hlt)).2 = _ from hy] at c1
      have cC : ∀ W : World, Below w.heap.size w W → _ := fun W hW => FindClo_any (l[k]'hlt).1 x A' n' c' b W (by rw [hW.cell hbk]; exact H.out.2.1)
      clear hy
      have h1' : isN x (l[k]'hlt).1 = true → idxB (fun y : Stm => isN x y.1) l = k := fun h => idxB_found (p := fun y : Stm => isN x y.1) hlt h HK.out.1
      have h0' : isN x (l[k]'hlt).1 = false → ∀ j (hj : j < l.length), j < k + 1 → isN x (l[j]'hj).1 = false := fun h j hj hlt' => by
        rcases Nat.lt_succ_iff_lt_or_eq.1 hlt' with h2 | rfl
        · exact HK.out.1 j hj h2
        · exact h
      generalize (l[k]'hlt).1 = s at *
      clear hc
      rcases hr : isN x s with _ | _
      · rw [hr] at cC
        have HC := Lib.hid (And.intro (cC _ HK.out.2) (h0' hr)); clear cC hr h0' h1'
        go_wp2_with (go_at_call 41; ((with_reducible refine (HC.out.1).mono ?_); rintro e w1 ⟨rfl, b1⟩))
        go_roundw
        case rel => exact ⟨k + 1, by omega, by go_num, HC.out.2, bt HK.out.2 b1⟩
        case measure => simp [intOf]; omega
      · rw [hr] at cC
        have HC := Lib.hid (And.intro (cC _ HK.out.2) (h1' hr)); clear cC hr h0' h1'
        go_wp2_with (go_at_call 41; ((with_reducible refine (HC.out.1).mono ?_); rintro e w1 ⟨rfl, b1⟩))
        go_ret
        exact ⟨by rw [HC.out.2]; rfl, bt HK.out.2 b1⟩
    · have hE : idxB (fun y : Stm => isN x y.1) l = -1 := idxB_none (p := fun y : Stm => isN x y.1) (fun j hj => HK.out.1 j hj (by omega))
      have HE := Lib.hid hE; clear hE
      go_wp2
      go_ret
      exact ⟨by rw [HE.out]; rfl, HK.out.2⟩
theorem At_any (n s : ByteArray) (v : Value) (l : List Fld) (w : World) (hv : RowsAt rowF w v l) :
    Calls Try.prog 13 #[.agg #[.string n, v], .string s] w fun e w' => e = .returned (.int .i64 (idxB (fun y => isN s y.1) l)) ∧ Below w.heap.size w w' := by
  have hb1 := ba w (.cells #[.string n, v] 46)
  have hb2 := bt hb1 (ba _ (.cells #[.string s] 9))
  have hc : ((w.alloc (.cells #[.string n, v] 46)).alloc (.cells #[.string s] 9)).cell? ⟨w.heap.size + 1, 0, none⟩ = some (.string s) := by
    rw [show w.heap.size + 1 = (w.alloc (.cells #[.string n, v] 46)).heap.size by simp, World.cell?_alloc_new]; rfl
  have cI := IndexF_any v l s _ _ (hv.later hb2) hc
  obtain ⟨A, cap, rfl, h1, h2, h3⟩ := hv
  have H := Lib.hid (And.intro cI hb2); clear cI h3 hc hb2 hb1
  go_enter Try.func13, Try.ntmps13
  go_wp2_with (go_at_call 23; ((with_reducible refine (H.out.1).mono ?_); rintro e w1 ⟨rfl, b1⟩))
  go_ret
  exact ⟨rfl, bt H.out.2 b1⟩
theorem Find_any (s : ByteArray) (v : Value) (l : List Stm) (w : World) (hv : RowsAt rowS w v l) (hsl : ∀ y ∈ l, ∃ A n c, y.2 = .slice A n c) :
    Calls Try.prog 28 #[v, .string s] w fun e w' => e = .returned (.int .i64 (idxB (fun y => isN s y.1) l)) ∧ Below w.heap.size w w' := by
  have hb1 := ba w (.cells #[.string s] 9)
  have hc : (w.alloc (.cells #[.string s] 9)).cell? ⟨w.heap.size, 0, none⟩ = some (.string s) := by rw [World.cell?_alloc_new]; rfl
  have cI := IndexS_any v l s _ _ (hv.later hb1) hc hsl
  obtain ⟨A, cap, rfl, h1, h2, h3⟩ := hv
  have H := Lib.hid (And.intro cI hb1); clear cI h3 hc hb1
  go_enter Try.func28, Try.ntmps28
  go_wp2_with (go_at_call 40; ((with_reducible refine (H.out.1).mono ?_); rintro e w1 ⟨rfl, b1⟩))
  go_ret
  exact ⟨rfl, bt H.out.2 b1⟩
end Go.Proofs.Ytkmboffbohndjaa
