/- Rows of bytes that are the call's own (as in XMadeV). Nothing of one package. -/
import Derived.Test.YtbmkbpehkpdcmaaCells2
import Derived.Test.YtbmkbpehkpdcmaaKeep
namespace Go.Proofs.Ytbmkbpehkpdcmaa
open Go.ChangeShapes Go.WideShapes Go.ChangeAt Go.RowKit
set_option linter.unusedVariables false
set_option linter.unusedSimpArgs false

abbrev ub8 (b : UInt8) : List Value := [.int .u8 (b.toNat : Int)]
theorem bytes_slice {w : World} {v : Value} {l : List UInt8} (h : BytesAt w v l) : ∃ A c, v = .slice A l.length c := by
  rcases h with ⟨rfl, rfl⟩ | ⟨a, cap, rfl, _⟩ <;> exact ⟨_, _, rfl⟩
theorem flat_ub8 : ∀ (l : List UInt8) (j : Nat) (hj : j < l.length), (l.flatMap ub8)[j]? = some (.int .u8 ((l[j]'hj).toNat : Int))
  | [], j, hj => absurd hj (by simp)
  | x :: r, 0, _ => by simp
  | x :: r, j + 1, hj => by simpa using flat_ub8 r j (by simpa using hj)
theorem own_ub8 {w : World} {b : Nat} {e : TypeId} {v : Value} {l : List UInt8} (h : Own w b e 1 ub8 v l) : BytesAt w v l := by
  obtain ⟨A, c, rfl, h1, h2, h3⟩ := h.shape
  cases A with
  | none =>
    obtain ⟨h4, rfl⟩ := h1 rfl
    obtain rfl : l = [] := List.length_eq_zero_iff.1 h4
    exact Or.inl ⟨rfl, rfl⟩
  | some a =>
    refine Or.inr ⟨a, c, rfl, h2, h3, fun j hj => ?_⟩
    obtain ⟨g', hg, _, _, hfr, hc⟩ := h.cells (f := ub8) (l := l) (fun _ => rfl) rfl (Nat.lt_of_le_of_lt (Nat.zero_le _) hj)
    obtain rfl : a = ⟨g', 0, none⟩ := by simpa using hg
    have := hc j hj 0 (.int .u8 ((l[j]'hj).toNat : Int)) rfl
    rw [Nat.mul_one, Nat.add_zero] at this
    rw [addr_pl]; simpa using this
theorem bytes_at {w : World} {v : Value} {l : List UInt8} (h : BytesAt w v l) : At w 1 ub8 v l := by
  rcases h with ⟨rfl, rfl⟩ | ⟨a, cap, rfl, h1, h2, h3⟩
  · exact At.nil _ _ _
  · refine ⟨some a, cap, rfl, h1, h2, (fun h => by cases h), fun a' ha j hj i u hu => ?_⟩
    obtain rfl := Option.some.inj ha
    cases i with
    | zero => obtain rfl := Option.some.inj hu; rw [Nat.mul_one, Nat.add_zero]; exact h3 j hj
    | succ i => exact absurd hu (by simp)
theorem flat_set1 {α : Type} {f : α → List Value} (hf : ∀ x, (f x).length = 1) {u : Value} {x : α} (hx : f x = [u]) : ∀ (l : List α) (k : Nat), (l.flatMap f).set k u = (l.set k x).flatMap f
  | [], k => by simp
  | y :: r, 0 => by
    obtain ⟨z, hz⟩ : ∃ z, f y = [z] := List.length_eq_one_iff.1 (hf y)
    simp [hx, hz]
  | y :: r, k + 1 => by
    obtain ⟨z, hz⟩ : ∃ z, f y = [z] := List.length_eq_one_iff.1 (hf y)
    simp [hz, flat_set1 hf hx r k]
theorem own_put1 {α : Type} {f : α → List Value} (hf : ∀ x, (f x).length = 1) {w : World} {b : Nat} {e : TypeId} {g n c : Nat} {cs : List α} (h : Own w b e 1 f (.slice (some ⟨g, 0, none⟩) n c) cs) (k : Nat) {x : α} {u : Value} (hx : f x = [u]) :
    Own (w.setCell ⟨g, k, none⟩ u) b e 1 f (.slice (some ⟨g, 0, none⟩) n c) (cs.set k x) ∧ w.grownBy (w.setCell ⟨g, k, none⟩ u) (Value.slice (some ⟨g, 0, none⟩) n c).ownBlock := by
  obtain ⟨_, _, he, _, _, _⟩ := h.shape
  simp only [Value.slice.injEq] at he
  obtain ⟨_, rfl, rfl⟩ := he
  have := World.ownsRow.stored h k u
  refine ⟨?_, this.2⟩
  unfold Own
  rw [List.length_set, ← flat_set1 hf hx]
  exact this.1
theorem own_cell1 {α : Type} {f : α → List Value} (hf : ∀ x, (f x).length = 1) {w : World} {b : Nat} {e : TypeId} {g n c : Nat} {cs : List α} (h : Own w b e 1 f (.slice (some ⟨g, 0, none⟩) n c) cs) (k : Nat) (hk : k < cs.length) {u : Value} (hx : f (cs[k]'hk) = [u]) :
    w.cell? ⟨g, k, none⟩ = some u ∧ ∀ o, w.frozen? ⟨g, o, none⟩ = false := by
  obtain ⟨g', hg, _, _, hfr, hc⟩ := h.cells hf rfl (by omega)
  obtain rfl : g = g' := by simpa using hg
  have := hc k hk 0 u (by rw [hx]; rfl)
  rw [Nat.mul_one, Nat.add_zero] at this
  exact ⟨this, hfr⟩
theorem xor_u8 (a b : Int) : ∃ c : UInt8, bits .xor .u8 a b = (c.toNat : Int) := by
  have h : ∃ x : Int, bits .xor .u8 a b = IntKind.u8.wrap x := ⟨_, rfl⟩
  obtain ⟨x, h⟩ := h
  refine ⟨(x % 256).toNat.toUInt8, ?_⟩
  rw [h, IntKind.wrap_u8]
  simp; omega
end Go.Proofs.Ytbmkbpehkpdcmaa
