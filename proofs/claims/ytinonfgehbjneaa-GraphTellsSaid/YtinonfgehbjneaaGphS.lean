/- Layer 12: the document's own words: has. -/
import Derived.Test.YtinonfgehbjneaaGphL
namespace Go.Proofs.Ytinonfgehbjneaa
open Go.ChangeShapes Go.WideShapes Go.ChangeAt Go.RowKit
set_option linter.unusedVariables false
set_option linter.unusedSimpArgs false

set_option maxHeartbeats 2000000 in
theorem rhas_any (v : Value) (l : List ByteArray) (s : ByteArray) (w : World) (h : At w 1 scV v l) :
    Calls Try.prog 32 #[v, .string s] w fun e w' => (∃ b : Bool, e = .returned (.bool b) ∧ (b = true ↔ s ∈ l)) ∧ Below w.heap.size w w' := by
  obtain ⟨A, c, rfl, h1, h2, h3⟩ := h.shape
  obtain ⟨n, hn⟩ : ∃ n, n = l.length := ⟨_, rfl⟩
  rw [← hn] at h
  have hm : n ≤ 9223372036854775807 := by unfold maxLen at h2; omega
  rw [← hn]
  have HN := Lib.hid hn; clear hn
  have H := Lib.hid h; clear h h1 h2 h3
  go_enter Try.func32, Try.ntmps32
  go_wp2_with fail
  go_loopw [5] (fun iv wr => ∃ i : Nat, i ≤ n ∧ iv = .int .i64 i ∧ (∀ j (h : j < l.length), j < i → ¬ (l[j]'h) = s) ∧ Below w.heap.size w wr) (fun iv _ => n - (intOf iv).toNat)
  case atStart => exact ⟨0, Nat.zero_le _, rfl, fun j h hj => absurd hj (by omega), Below.refl _ _⟩
  case round =>
    obtain ⟨i, hi, rfl, hno, hb⟩ := hrel
    by_cases hlt : i < n
    · obtain ⟨a, rfl, hc⟩ := H.out.cells rfl (by have := HN.out; omega)
      have hll : i < l.length := by have := HN.out; omega
      have c0 := (hc.later hb).row1 i hll rfl
      rw [Nat.mul_one] at c0
      obtain ⟨x, hx⟩ : ∃ x, x = l[i]'hll := ⟨_, rfl⟩
      rw [← hx] at c0
      by_cases hxs : x = s
      · subst hxs
        have HR := Lib.hid (show x ∈ l by rw [hx]; exact List.getElem_mem hll)
        have HB := Lib.hid hb
        clear hc hx hno hb hll
        go_wp2_with fail
        go_ret
        exact ⟨⟨true, rfl, fun _ => HR.out, fun _ => rfl⟩, HB.out⟩
      · have hxl : ¬ x.toList = s.toList := fun h => hxs (toList_inj h)
        have hxb : (x.toList == s.toList) = false := by simpa using hxl
        have HR := Lib.hid (show ∀ j (h : j < l.length), j < i + 1 → ¬ (l[j]'h) = s from fun j h hj => by
          rcases (by omega : j < i ∨ j = i) with h' | rfl
          · exact hno j h h'
          · rw [← hx]; exact hxs)
        have HB := Lib.hid hb
        clear hc hx hno hb hll hxs
        go_wp2_with fail
        go_roundw
        case rel => exact ⟨i + 1, by omega, by go_num, HR.out, HB.out⟩
        case measure => simp [intOf]; omega
    · obtain rfl : i = n := by omega
      have HR := Lib.hid (show ¬ s ∈ l from fun hm => by
        obtain ⟨j, hj, e⟩ := List.getElem_of_mem hm
        exact hno j hj (by have := HN.out; omega) e)
      have HB := Lib.hid hb
      clear hno hb
      go_wp2_with fail
      go_ret
      exact ⟨⟨false, rfl, (fun h => by cases h), fun h => absurd h HR.out⟩, HB.out⟩
open Gr (Nd nmAt frAt)
/-- Who is in so far: each comes of the name; names: the name, and theirs. -/
structure UpTo (N : List Nd) (s : ByteArray) (I : List Nat) : Prop where
  nod : I.Nodup
  lt : ∀ k ∈ I, k < N.length
  com : ∀ k ∈ I, Gr.Comes N s k
def nmsOf (N : List Nd) (s : ByteArray) (I : List Nat) : List ByteArray := s :: I.map (nmAt N)
/-- A node that speaks of what is in. -/
def Speaks (N : List Nd) (s : ByteArray) (I : List Nat) (i k : Nat) : Prop := ∃ q, ∃ hq : q < (frAt N i).length, q < k ∧ (frAt N i)[q]'hq ∈ nmsOf N s I
theorem speaks_comes {N : List Nd} {s : ByteArray} {I : List Nat} (h : UpTo N s I) {i k : Nat} (hs : Speaks N s I i k) : Gr.Comes N s i := by
  obtain ⟨q, hq, _, hm⟩ := hs
  rcases List.mem_cons.1 hm with e | hm
  · exact .base (e ▸ List.getElem_mem hq)
  · obtain ⟨j, hj, e⟩ := List.mem_map.1 hm
    exact .step (h.com j hj) (e ▸ List.getElem_mem hq)
theorem speaks_more {N : List Nd} {s : ByteArray} {I : List Nat} {i k : Nat} (hk : k < (frAt N i).length) : Speaks N s I i (k + 1) ↔ (Speaks N s I i k ∨ (frAt N i)[k]'hk ∈ nmsOf N s I) := by
  constructor
  · rintro ⟨q, hq, h1, h2⟩
    rcases (by omega : q < k ∨ q = k) with h | rfl
    · exact Or.inl ⟨q, hq, h, h2⟩
    · exact Or.inr h2
  · rintro (⟨q, hq, h1, h2⟩ | h)
    · exact ⟨q, hq, by omega, h2⟩
    · exact ⟨k, hk, by omega, h⟩
theorem UpTo.more {N : List Nd} {s : ByteArray} {I : List Nat} (h : UpTo N s I) {i : Nat} (hi : i < N.length) (hno : i ∉ I) (hs : Speaks N s I i (frAt N i).length) : UpTo N s (I ++ [i]) := by
  refine ⟨?_, fun k hk => ?_, fun k hk => ?_⟩
  · rw [List.nodup_append]
    exact ⟨h.nod, by simp, fun a ha b hb e => hno (by simp at hb; rw [← hb, ← e]; exact ha)⟩
  · rcases List.mem_append.1 hk with hk | hk
    · exact h.lt k hk
    · simp at hk; rw [hk]; exact hi
  · rcases List.mem_append.1 hk with hk | hk
    · exact h.com k hk
    · simp at hk; rw [hk]; exact speaks_comes h hs
/-- Nobody is left who speaks of them: these are all. -/
theorem UpTo.all {N : List Nd} {s : ByteArray} {I : List Nat} (h : UpTo N s I) (hc : ∀ i, i < N.length → i ∉ I → ¬ Speaks N s I i (frAt N i).length) (k : Nat) : k ∈ I ↔ Gr.Comes N s k := by
  refine ⟨h.com k, fun hk => ?_⟩
  induction hk with
  | base h1 =>
    refine Classical.byContradiction fun hno => hc _ (Gr.fr_lt h1) hno ?_
    obtain ⟨q, hq, e⟩ := List.getElem_of_mem h1
    exact ⟨q, hq, hq, by rw [e]; exact List.mem_cons_self ..⟩
  | step h1 h2 ih =>
    refine Classical.byContradiction fun hno => hc _ (Gr.fr_lt h2) hno ?_
    obtain ⟨q, hq, e⟩ := List.getElem_of_mem h2
    exact ⟨q, hq, hq, by rw [e]; exact List.mem_cons_of_mem _ (List.mem_map.2 ⟨_, ih, rfl⟩)⟩
end Go.Proofs.Ytinonfgehbjneaa
