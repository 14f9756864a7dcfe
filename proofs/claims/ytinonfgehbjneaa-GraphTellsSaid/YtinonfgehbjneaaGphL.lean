/- Layer 12: the statements' own helpers: has, numbers, names. -/
import Derived.Test.YtinonfgehbjneaaGphK
import Derived.Test.YtinonfgehbjneaaOpenLk
namespace Go.Proofs.Ytinonfgehbjneaa
open Go.ChangeShapes Go.WideShapes Go.ChangeAt Go.RowKit Go.Maps
open Gr (Nd nmAt frAt)
set_option linter.unusedVariables false
set_option linter.unusedSimpArgs false

set_option maxHeartbeats 1000000 in
theorem has_any (v : Value) (l : List Nat) (x : Nat) (w : World) (h : At w 1 rowP v l) :
    Calls Try.prog 23 #[v, .int .i64 (x : Int)] w fun e w' => e = .returned (.bool (decide (x ∈ l))) ∧ Below w.heap.size w w' := by
  obtain ⟨A, c, rfl, h1, h2, h3⟩ := h.shape
  obtain ⟨n, hn⟩ : ∃ n, n = l.length := ⟨_, rfl⟩
  rw [← hn] at h
  have hm : n ≤ 9223372036854775807 := by unfold maxLen at h2; omega
  rw [← hn]
  obtain ⟨b, hb⟩ : ∃ b, b = decide (x ∈ l) := ⟨_, rfl⟩
  rw [← hb]
  have HN := Lib.hid (And.intro hn hb); clear hn hb
  have H := Lib.hid h; clear h h1 h2 h3
  go_enter Try.func23, Try.ntmps23
  go_wp2_with fail
  go_loopw [5] (fun iv wr => ∃ i : Nat, i ≤ n ∧ iv = .int .i64 i ∧ (∀ j (h : j < l.length), j < i → ¬ (l[j]'h) = x) ∧ Below w.heap.size w wr) (fun iv _ => n - (intOf iv).toNat)
  case atStart => exact ⟨0, Nat.zero_le _, rfl, fun j h hj => absurd hj (by omega), Below.refl _ _⟩
  case round =>
    obtain ⟨i, hi, rfl, hno, hb⟩ := hrel
    by_cases hlt : i < n
    · obtain ⟨a, rfl, hc⟩ := H.out.cells rfl (by have := HN.out; omega)
      have hll : i < l.length := by have := HN.out; omega
      have c0 := (hc.later hb).row1 i hll rfl
      rw [Nat.mul_one] at c0
      obtain ⟨y, hy⟩ : ∃ y, y = l[i]'hll := ⟨_, rfl⟩
      rw [← hy] at c0
      by_cases hxs : y = x
      · subst hxs
        have HR := Lib.hid (show b = true by rw [HN.out.2]; exact decide_eq_true (by rw [hy]; exact List.getElem_mem hll))
        have HB := Lib.hid hb
        clear hc hy hno hb hll
        go_wp2_with fail
        go_ret
        exact ⟨by rw [HR.out]; rfl, HB.out⟩
      · have hyi : ¬ (y : Int) = (x : Int) := by omega
        have HR := Lib.hid (show ∀ j (h : j < l.length), j < i + 1 → ¬ (l[j]'h) = x from fun j h hj => by
          rcases (by omega : j < i ∨ j = i) with h' | rfl
          · exact hno j h h'
          · rw [← hy]; exact hxs)
        have HB := Lib.hid hb
        clear hc hy hno hb hll hxs
        go_wp2_with fail
        go_roundw
        case rel => exact ⟨i + 1, by omega, by go_num, HR.out, HB.out⟩
        case measure => simp [intOf]; omega
    · obtain rfl : i = n := by omega
      have HR := Lib.hid (show b = false from by
        rw [HN.out.2]
        refine decide_eq_false (fun hm => ?_)
        obtain ⟨j, hj, e⟩ := List.getElem_of_mem hm
        exact hno j hj (by have := HN.out; omega) e)
      have HB := Lib.hid hb
      clear hno hb
      go_wp2_with fail
      go_ret
      exact ⟨by rw [HR.out]; rfl, HB.out⟩
set_option maxHeartbeats 1000000 in
theorem numbers_any (v v' : Value) (l m : List Nat) (w : World) (h : At w 1 rowP v l) (h' : At w 1 rowP v' m) :
    Calls Try.prog 18 #[v, v'] w fun e w' => e = .returned (.bool (decide (l = m))) ∧ Below w.heap.size w w' := by
  obtain ⟨A, c, rfl, h1, h2, h3⟩ := h.shape
  obtain ⟨A', c', rfl, h1', h2', h3'⟩ := h'.shape
  obtain ⟨n, hn⟩ : ∃ n, n = l.length := ⟨_, rfl⟩
  obtain ⟨k, hk⟩ : ∃ k, k = m.length := ⟨_, rfl⟩
  rw [← hn] at h
  rw [← hk] at h'
  have hm : n ≤ 9223372036854775807 := by unfold maxLen at h2; omega
  rw [← hn, ← hk]
  obtain ⟨b, hb⟩ : ∃ b, b = decide (l = m) := ⟨_, rfl⟩
  rw [← hb]
  by_cases hnk : n = k
  · subst hnk
    have HN := Lib.hid (And.intro hn (And.intro hb hk)); clear hn hb hk
    have H := Lib.hid (And.intro h h'); clear h h' h1 h2 h3 h1' h2' h3'
    go_enter Try.func18, Try.ntmps18
    go_wp2_with fail
    go_loopw [5] (fun iv wr => ∃ i : Nat, i ≤ n ∧ iv = .int .i64 i ∧ (∀ j (h : j < l.length) (h' : j < m.length), j < i → (l[j]'h) = (m[j]'h')) ∧ Below w.heap.size w wr) (fun iv _ => n - (intOf iv).toNat)
    case atStart => exact ⟨0, Nat.zero_le _, rfl, fun j h h' hj => absurd hj (by omega), Below.refl _ _⟩
    case round =>
      obtain ⟨i, hi, rfl, hno, hb⟩ := hrel
      by_cases hlt : i < n
      · obtain ⟨a, rfl, hc⟩ := H.out.1.cells rfl (by have := HN.out; omega)
        obtain ⟨a', rfl, hc'⟩ := H.out.2.cells rfl (by have := HN.out; omega)
        have hll : i < l.length := by have := HN.out; omega
        have hll' : i < m.length := by have := HN.out; omega
        have c0 := (hc.later hb).row1 i hll rfl
        have c1 := (hc'.later hb).row1 i hll' rfl
        rw [Nat.mul_one] at c0 c1
        obtain ⟨y, hy⟩ : ∃ y, y = l[i]'hll := ⟨_, rfl⟩
        obtain ⟨z, hz⟩ : ∃ z, z = m[i]'hll' := ⟨_, rfl⟩
        rw [← hy] at c0
        rw [← hz] at c1
        by_cases hyz : y = z
        · have hyi : (y : Int) = (z : Int) := by omega
          have HR := Lib.hid (show ∀ j (h : j < l.length) (h' : j < m.length), j < i + 1 → (l[j]'h) = (m[j]'h') from fun j h h' hj => by
            rcases (by omega : j < i ∨ j = i) with h2 | rfl
            · exact hno j h h' h2
            · rw [← hy, ← hz]; exact hyz)
          have HB := Lib.hid hb
          clear hc hc' hy hz hno hb hll hll' hyi
          subst hyz
          go_wp2_with fail
          go_quiet (fail)
          go_wp2
          go_roundw
          case rel => exact ⟨i + 1, by omega, by go_num, HR.out, below_drewN HB.out _⟩
          case measure => simp [intOf]; omega
        · have hyi : ¬ (y : Int) = (z : Int) := by omega
          have HR := Lib.hid (show b = false from by
            rw [HN.out.2.1]
            exact decide_eq_false (fun e => hyz (by rw [hy, hz]; simp only [e])))
          have HB := Lib.hid hb
          clear hc hc' hy hz hno hb hll hll' hyz
          go_wp2_with fail
          go_quiet (fail)
          go_wp2
          go_ret
          exact ⟨by rw [HR.out]; rfl, below_drewN HB.out _⟩
      · obtain rfl : i = n := by omega
        have HR := Lib.hid (show b = true from by
          rw [HN.out.2.1]
          refine decide_eq_true (List.ext_getElem (by have := HN.out; omega) (fun j h h' => hno j h h' (by have := HN.out; omega))))
        have HB := Lib.hid hb
        clear hno hb
        go_wp2_with fail
        go_ret
        exact ⟨by rw [HR.out]; rfl, HB.out⟩
  · have HR := Lib.hid (show b = false from by
      rw [hb]
      exact decide_eq_false (fun e => hnk (by rw [hn, hk, e])))
    have hi : ¬ (n : Int) = (k : Int) := by omega
    clear h h' hn hk hb hnk h1 h2 h3 h1' h2' h3'
    go_enter Try.func18, Try.ntmps18
    go_wp2_with fail
    go_ret
    exact ⟨by rw [HR.out]; rfl, Below.refl _ _⟩
/-- What nodes are called. -/
def nms : List ByteArray := [⟨#[97]⟩, ⟨#[98]⟩, ⟨#[99]⟩, ⟨#[100]⟩, ⟨#[101]⟩, ⟨#[102]⟩, ⟨#[115]⟩, ⟨#[116]⟩]
theorem names_any (w : World) : Calls Try.prog 12 #[] w fun e w' => e = .returned (.slice (some ⟨w.heap.size, 0, none⟩) 8 8) ∧ Own w' w.heap.size 9 1 scV (.slice (some ⟨w.heap.size, 0, none⟩) 8 8) nms ∧ Below w.heap.size w w' := by
  go_enter Try.func12, Try.ntmps12
  go_wp2_with fail
  go_ret
  exact ⟨rfl, own_lit nms rfl (Nat.le_refl _) rfl (by unfold maxLen; omega) rfl rfl, ba _ _⟩
end Go.Proofs.Ytinonfgehbjneaa
