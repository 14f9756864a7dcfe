/- Slices of slices of bytes: as they read, and one that came in, opened. Nothing of one package. -/
import Derived.Test.YtckpecddglfjkaaLift
import Derived.Test.YtckpecddglfjkaaCells
import Derived.Deep.Slices
import Derived.ChangeSame
namespace Go.Proofs.Ytckpecddglfjkaa
open Go.ChangeShapes Go.WideShapes Go.ChangeAt Go.RowKit
set_option linter.unusedVariables false
set_option linter.unusedSimpArgs false
abbrev rowB (b : UInt8) : List Value := [.int .u8 (b.toNat : Int)]
/-- Slices, each of which reads as a list. -/
def Ats {α : Type} (w : World) (k : Nat) (f : α → List Value) (vs : List SV) (ll : List (List α)) : Prop :=
  vs.length = ll.length ∧ ∀ j (hj : j < vs.length) (hj' : j < ll.length), At w k f (sl (vs[j]'hj)) (ll[j]'hj')
theorem Ats.later {α : Type} {w w' : World} {k : Nat} {f : α → List Value} {vs : List SV} {ll : List (List α)} (h : Ats w k f vs ll) (hb : Below w.heap.size w w') : Ats w' k f vs ll := ⟨h.1, fun j hj hj' => (h.2 j hj hj').later hb⟩
theorem at_bytes {w : World} {v : Value} {l : List UInt8} (h : At w 1 rowB v l) : BytesAt w v l := by
  obtain ⟨A, cap, rfl, h1, h2, h3, h4⟩ := h
  cases A with
  | none =>
    have hc := h3 rfl
    have hl : l.length = 0 := by omega
    obtain rfl := List.eq_nil_of_length_eq_zero hl
    exact Or.inl ⟨by rw [hc]; rfl, rfl⟩
  | some a => exact Or.inr ⟨a, cap, rfl, h1, h2, fun j hj => by
      have := h4 a rfl j hj 0 _ rfl
      rw [Nat.mul_one, Nat.add_zero] at this
      exact this⟩
section
variable {H : Type} {enc : TypeId × Value → H}
theorem weights_in {P : Program} {e : TypeId} {d : DataW H} {n : Nat} : ∀ {l : List (DataW H)}, d ∈ l → n ∈ d.weights P e → n ∈ DataW.weightsAll P e l
  | [], h, _ => absurd h (by simp)
  | x :: r, h, hn => by
    simp only [DataW.weightsAll, List.mem_append]
    rcases List.mem_cons.1 h with rfl | h
    · exact Or.inl hn
    · exact Or.inr (weights_in h hn)
/-- What lies in one cell as a slice of bytes. -/
theorem lists_cell {W : World} {fuel : Nat} {cs : List Value} {x : DataW H × List MemPlace} (h : DataW.trod enc Try.prog W 0 (fun _ => true) true fuel 31 cs = some x) :
    ∃ (s : SV) (L : List UInt8), cs = [sl s] ∧ At W 1 rowB (sl s) L ∧ ((∀ n ∈ x.1.weights Try.prog 31, n ≤ reachBytes) → L.length ≤ 140737488355328) := by
  rcases open_ints Try.underlying31 Try.underlying5 (by kernel_rfl) h with ⟨rfl, _⟩ | ⟨a, len, cap, zs, rfl, _, h1, h2, h3, h4, h5, h6⟩
  · exact ⟨(none, 0, 0), [], rfl, At.nil _ _ _, fun _ => by simp⟩
  · simp only [if_true] at h3
    have hl : ((zs.take len).map fun n => UInt8.ofNat n.toNat).length = len := by simp; omega
    refine ⟨(some a, len, cap), (zs.take len).map fun n => UInt8.ofNat n.toNat, rfl, ⟨some a, cap, by rw [hl], by omega, h2, fun h => by simp at h, fun b hb j hj i u hu => ?_⟩, ?_⟩
    · obtain rfl : a = b := by simpa using hb
      rw [hl] at hj
      have hj' : j < zs.length := by omega
      have hi : i = 0 := by
        have := (List.getElem?_eq_some_iff.1 hu).1
        simp at this; exact this
      subst hi
      rw [Nat.mul_one, Nat.add_zero, h5 j hj']
      simp only [List.getElem_map, List.getElem_take, List.getElem?_cons_zero] at hu
      rw [toNat_ofNat_bytes h6 j hj'] at hu
      rw [← hu]
      simp [List.getD, List.getElem?_eq_getElem hj']
    · intro hw
      rw [hl]
      have hd : x.1 = .slice (lits .u8 (zs.take len)) (lits .u8 (zs.drop len)) := by rw [h4]
      have := hw ((len + (zs.length - len)) * Try.prog.bytesOf 5) (by
        rw [hd]
        unfold DataW.weights
        rw [Try.underlying31]
        simp [lits]
        left; rw [Nat.min_eq_left (by omega)])
      rw [show Try.prog.bytesOf 5 = 1 by kernel_rfl] at this
      unfold reachBytes at this
      omega
theorem open_lists {W : World} {r : Reach} {b0 : Nat} {v : Value} {d : DataW H} {ps : List MemPlace} (hval : Value.okWide Try.prog W r b0 59 v) (h : DataW.Trod enc Try.prog W 0 (fun _ => true) true 59 v d ps) :
    ∃ ll : List (List UInt8), (∃ vs, At W 1 slc v vs ∧ Ats W 1 rowB vs ll) ∧ ((∀ x ∈ d.weights Try.prog 59, x ≤ reachBytes) → ∀ L ∈ ll, L.length ≤ 140737488355328) := by
  have hC : Try.prog.cellsOf 31 = 1 := by kernel_rfl
  obtain ⟨a0, len, cap, rfl⟩ := okWide_slice Try.underlying59 hval
  obtain ⟨fuel, hf⟩ := h
  rcases Go.Deep.open_slice Try.underlying59 hf with ⟨h, _⟩ | ⟨a, len', cap', m, n, D, Pl, hcs, hb, hl, hm, hmm, hx, hi⟩
  · have hv : Value.slice a0 len cap = .slice none 0 0 := by simpa [Value.cells] using h
    rw [hv]
    exact ⟨[], ⟨[], At.nil _ _ _, rfl, fun j hj => absurd hj (by simp)⟩, fun _ L h => absurd h (by simp)⟩
  · simp only [if_true] at hmm
    subst hmm
    have hv : Value.slice a0 len cap = .slice (some a) len' m := by simpa [Value.cells] using hcs
    rw [hC] at hi
    have hcell : ∀ i, ∃ y : SV × List UInt8, i < m → (W.cell? (a.add i) = some (sl y.1) ∧ At W 1 rowB (sl y.1) y.2 ∧ ((∀ n ∈ (D i).weights Try.prog 31, n ≤ reachBytes) → y.2.length ≤ 140737488355328)) := by
      intro i
      by_cases him : i < m
      · obtain ⟨cs', hc, ht'⟩ := hi i him
        obtain ⟨s, L, hcs', hat, hw⟩ := lists_cell ht'
        obtain ⟨_, hcl, hcc⟩ := World.cells?_some hc
        refine ⟨(s, L), fun _ => ⟨?_, hat, hw⟩⟩
        have := hcc 0 (by omega)
        rw [hcs', add_twice, Nat.mul_one, Nat.add_zero] at this
        exact this
      · exact ⟨((none, 0, 0), []), fun h => absurd h him⟩
    obtain ⟨f, hfc⟩ := Classical.axiomOfChoice hcell
    refine ⟨(List.range len').map fun i => (f i).2, ⟨(List.range len').map fun i => (f i).1, ?_, by simp, fun j hj hj' => ?_⟩, ?_⟩
    · have hln : ((List.range len').map fun i => (f i).1).length = len' := by simp
      refine ⟨some a, m, by rw [hv, hln], by omega, hm, fun h => by simp at h, fun b hb j hj i u hu => ?_⟩
      obtain rfl : a = b := by simpa using hb
      rw [hln] at hj
      have hi0 : i = 0 := by
        have := (List.getElem?_eq_some_iff.1 hu).1
        simp at this; exact this
      subst hi0
      rw [Nat.mul_one, Nat.add_zero, (hfc j (by omega)).1]
      simpa using hu
    · simp only [List.getElem_map, List.getElem_range]
      have : j < len' := by simpa using hj
      exact (hfc j (by omega)).2.1
    · intro hw L hL
      obtain ⟨i, hir, rfl⟩ := List.mem_map.1 hL
      have hil : i < len' := by simpa using hir
      refine (hfc i (by omega)).2.2 (fun k hk => hw k ?_)
      have hd : d = .slice ((List.range len').map D) ((List.range (m - len')).map fun j => D (len' + j)) := (Prod.mk.inj hx).1
      rw [hd]
      unfold DataW.weights
      rw [Try.underlying59]
      refine List.mem_cons_of_mem _ (List.mem_append_left _ ?_)
      exact weights_in (List.mem_map.2 ⟨i, hir, rfl⟩) hk
end
end Go.Proofs.Ytckpecddglfjkaa
