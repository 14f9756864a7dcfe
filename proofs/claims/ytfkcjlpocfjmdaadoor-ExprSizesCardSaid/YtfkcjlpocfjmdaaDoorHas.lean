/- Is a text among some? (the statement's own function) -/
import Derived.Test.YtfkcjlpocfjmdaaDoorVars
import Derived.Test.YtfkcjlpocfjmdaaDoorCells2
namespace Go.Proofs.YtfkcjlpocfjmdaaDoor
open Go.ChangeShapes Go.WideShapes Go.ChangeAt Go.RowKit
set_option linter.unusedVariables false
set_option linter.unusedSimpArgs false

set_option maxHeartbeats 2000000 in
theorem has_any (v : Value) (l : List ByteArray) (s : ByteArray) (w : World) (h : At w 1 scV v l) :
    Calls Tryd.prog 27 #[v, .string s] w fun e w' => (∃ b : Bool, e = .returned (.bool b) ∧ (b = true ↔ s ∈ l)) ∧ Below w.heap.size w w' := by
  obtain ⟨A, c, rfl, h1, h2, h3⟩ := h.shape
  obtain ⟨n, hn⟩ : ∃ n, n = l.length := ⟨_, rfl⟩
  rw [← hn] at h
  have hm : n ≤ 9223372036854775807 := by unfold maxLen at h2; omega
  rw [← hn]
  have HN := Lib.hid hn; clear hn
  have H := Lib.hid h; clear h h1 h2 h3
  go_enter Tryd.func27, Tryd.ntmps27
  go_wp2_with fail
  go_loopw [5] (fun iv wr => ∃ i : Nat, i ≤ n ∧ iv = .int .i64 i ∧ (∀ j (h : j < l.length), j < i → ¬ (l[j]'h) = s) ∧ Below w.heap.size w wr) (fun iv _ => n - (intOf iv).toNat)
  case atStart => exact ⟨0, Nat.zero_le _, rfl, fun j h hj => absurd hj (by omega), Below.refl _ _⟩
  case round =>
    obtain ⟨i, hi, rfl, hno, hb⟩ := hrel
    by_cases hlt : i < n
    · obtain ⟨a, rfl, hc⟩ := H.out.cells rfl (by have := HN.out; omega)
      have hll : i < l.length := by have := HN.out; omega
      have c0 := (hc.later hb).row1 i hll rfl
      rw [Nat.mul_one] at c0
      obtain ⟨x, hx⟩ : ∃ x, x = l[i]'hll := ⟨_, rfl⟩
      rw [← hx] at c0
      by_cases hxs : x = s
      · subst hxs
        have HR := Lib.hid (show x ∈ l by rw [hx]; exact List.getElem_mem hll)
        have HB := Lib.hid hb
        clear hc hx hno hb hll
        go_wp2_with fail
        go_ret
        exact ⟨⟨true, rfl, fun _ => HR.out, fun _ => rfl⟩, HB.out⟩
      · have hxl : ¬ x.toList = s.toList := fun h => hxs (toList_inj h)
        have hxb : (x.toList == s.toList) = false := by simpa using hxl
        have HR := Lib.hid (show ∀ j (h : j < l.length), j < i + 1 → ¬ (l[j]'h) = s from fun j h hj => by
          rcases (by omega : j < i ∨ j = i) with h' | rfl
          · exact hno j h h'
          · rw [← hx]; exact hxs)
        have HB := Lib.hid hb
        clear hc hx hno hb hll hxs
        go_wp2_with fail
        go_roundw
        case rel => exact ⟨i + 1, by omega, by go_num, HR.out, HB.out⟩
        case measure => simp [intOf]; omega
    · obtain rfl : i = n := by omega
      have HR := Lib.hid (show ¬ s ∈ l from fun hm => by
        obtain ⟨j, hj, e⟩ := List.getElem_of_mem hm
        exact hno j hj (by have := HN.out; omega) e)
      have HB := Lib.hid hb
      clear hno hb
      go_wp2_with fail
      go_ret
      exact ⟨⟨false, rfl, (fun h => by cases h), fun h => absurd h HR.out⟩, HB.out⟩
theorem has_yes (v : Value) (l : List ByteArray) (s : ByteArray) (w : World) (h : At w 1 scV v l) (hs : s ∈ l) :
    Calls Tryd.prog 27 #[v, .string s] w fun e w' => e = .returned (.bool true) ∧ Below w.heap.size w w' := by
  refine (has_any v l s w h).mono ?_
  rintro e w' ⟨⟨b, rfl, hb⟩, h2⟩
  rw [hb.2 hs]; exact ⟨rfl, h2⟩
end Go.Proofs.YtfkcjlpocfjmdaaDoor
namespace Go.Proofs.YtfkcjlpocfjmdaaDoor
open Go.ChangeShapes Go.WideShapes Go.ChangeAt Go.RowKit
set_option linter.unusedVariables false
set_option linter.unusedSimpArgs false

theorem len_sub {α : Type} [DecidableEq α] : ∀ (r l : List α), r.Nodup → (∀ x ∈ r, x ∈ l) → r.length ≤ l.length
  | [], l, _, _ => Nat.zero_le _
  | x :: r, l, hn, hs => by
    have hx := hs x (List.mem_cons_self ..)
    have hn' := List.nodup_cons.1 hn
    have h := len_sub r (l.erase x) hn'.2 (fun y hy => (List.mem_erase_of_ne (fun e => hn'.1 (by rw [← e]; exact hy))).2 (hs y (List.mem_cons_of_mem _ hy)))
    rw [List.length_erase_of_mem hx] at h
    have : 0 < l.length := List.length_pos_of_mem hx
    rw [List.length_cons]; omega
theorem sorted_len {l r : List ByteArray} (h : Sorted1 l r) : r.length ≤ l.length := by
  have hn : (r.map ByteArray.toList).Nodup := by
    refine List.pairwise_map.2 (h.1.imp fun {a b} hlt => ?_)
    intro e; rw [e] at hlt; exact absurd hlt (List.lt_irrefl _)
  have := len_sub (r.map ByteArray.toList) (l.map ByteArray.toList) hn (fun x hx => by
    obtain ⟨y, hy, rfl⟩ := List.mem_map.1 hx
    exact List.mem_map.2 ⟨y, (h.2 y).1 hy, rfl⟩)
  simpa using this
theorem vars_len : ∀ t : Tr, t.vars.length ≤ t.nodes
  | .lit .. => by simp [Tr.vars, Tr.nodes]
  | .ref .. => by simp [Tr.vars, Tr.nodes]
  | .cnt .. => by simp [Tr.vars, Tr.nodes]
  | .un _ x => by have := vars_len x; simp only [Tr.vars, Tr.nodes]; omega
  | .bin _ x y => by have := vars_len x; have := vars_len y; simp only [Tr.vars, Tr.nodes, List.length_append]; omega
end Go.Proofs.YtfkcjlpocfjmdaaDoor
