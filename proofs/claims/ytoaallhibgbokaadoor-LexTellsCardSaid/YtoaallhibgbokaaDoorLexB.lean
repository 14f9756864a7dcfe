/- Words of texts: contracts of word, number, quote. -/
import Derived.Test.YtoaallhibgbokaaDoorLexA
import Derived.Test.YtoaallhibgbokaaDoorLexT
namespace Go.Proofs.YtoaallhibgbokaaDoor
open Go.ChangeShapes Go.WideShapes Go.ChangeAt Go.RowKit
set_option linter.unusedVariables false
set_option linter.unusedSimpArgs false

abbrev tokC (k : Int) (t : ByteArray) (n p : Int) : Array Value := #[.int .i64 k, .string t, .int .i64 n, .int .i64 p]
abbrev tokV (k : Int) (t : ByteArray) (n p : Int) : Value := .agg (tokC k t n p)
/-- What is told of the word that a text begins with. -/
def TkP (o : Option (Int × Bs × Int × Nat)) (w : World) (e : Ending) (w' : World) : Prop :=
  ∃ (k : Int) (t : Bs) (n : Int) (z : Nat), (e = .returned (.tuple #[tokV k (mk t) n 0, .int .i64 (z : Int)]) ∧ ((o = none ∧ z = 0) ∨ (o = some (k, t, n, z) ∧ 0 < z))) ∧ Below w.heap.size w w'
theorem Blk.four {w : World} {g : Nat} {t : TypeId} {a b c d : Value} (h : Blk w g t #[a, b, c, d]) : w.cell? ⟨g, 0, none⟩ = some a ∧ w.cell? ⟨g, 1, none⟩ = some b ∧ w.cell? ⟨g, 2, none⟩ = some c ∧ w.cell? ⟨g, 3, none⟩ = some d := ⟨h.cell 0, h.cell 1, h.cell 2, h.cell 3⟩
theorem ext_to (s : ByteArray) (p : UInt8 → Bool) : s.extract 0 (s.data.toList.takeWhile p).length = mk (s.data.toList.takeWhile p) := by
  rw [extract_mk, List.drop_zero, takeWhile_take]
theorem ext_from (s : ByteArray) (k : Nat) : s.extract k s.size = mk (s.data.toList.drop k) := by
  rw [extract_mk, List.take_of_length_le (by simp)]
theorem tw_le (p : UInt8 → Bool) (s : ByteArray) : (s.data.toList.takeWhile p).length ≤ s.size := by
  have h2 := takeWhile_len (p := p) s.data.toList
  have h3 : s.data.toList.length = s.size := by simp
  omega
set_option maxHeartbeats 1000000 in
theorem word_any (s : ByteArray) (w : World) (hs : s.size ≤ maxLen) (h0 : 0 < (s.data.toList.takeWhile isLd).length) :
    Calls Tryd.prog 24 #[.string s] w (TkP (wordT s.data.toList) w) := by
  have hle := tw_le isLd s
  have hx := ext_to s isLd
  have cR := fun w => run_ld s w hs
  have hsz := mk_size (s.data.toList.takeWhile isLd)
  unfold wordT
  obtain ⟨t, ht⟩ : ∃ t, s.data.toList.takeWhile isLd = t := ⟨_, rfl⟩
  rw [ht] at hle hx cR hsz h0 ⊢
  clear ht
  obtain ⟨b, hb⟩ : ∃ b, mk t = b := ⟨_, rfl⟩
  obtain ⟨n, hn⟩ : ∃ n, t.length = n := ⟨_, rfl⟩
  rw [hb] at hx hsz
  rw [hn] at hle hx cR hsz h0
  have hnm : n ≤ 9223372036854775807 := by unfold maxLen at hs; omega
  have cN := fun w => IsName_any b w (by rw [hsz]; unfold maxLen at hs ⊢; omega)
  have fin : ∀ (k : Int) (W : World), wordR t = some (k, t, 0, n) → Below w.heap.size w W → TkP (wordR t) w (.returned (.tuple #[tokV k b 0 0, .int .i64 (n : Int)])) W :=
    fun k W h hW => ⟨k, t, 0, n, ⟨by rw [hb], Or.inr ⟨h, h0⟩⟩, hW⟩
  have fin0 : ∀ (W : World), wordR t = none → Below w.heap.size w W → TkP (wordR t) w (.returned (.tuple #[tokV 0 ⟨#[]⟩ 0 0, .int .i64 0])) W :=
    fun W h hW => ⟨0, [], 0, 0, ⟨rfl, Or.inl ⟨h, rfl⟩⟩, hW⟩
  have hB := Blk.new w 40 (tokC 0 ⟨#[]⟩ 0 0)
  have hU : wordR t = if nameB b then some (1, t, 0, n) else if decide (20 < n) then none else some (5, t, 0, n) := by unfold wordR; rw [← nameT_eq, hb, hn]
  rcases hN : nameB b with _ | _
  · rw [hN] at cN hU
    rw [if_neg (by decide)] at hU
    by_cases h20 : 20 < n
    · rw [decide_eq_true h20, if_pos rfl] at hU
      have H := Lib.hid (And.intro cR (And.intro cN (And.intro (fun W => fin0 W hU) hB))); clear cR cN hb hU hN hn fin fin0 hB
      go_enter Tryd.func24, Tryd.ntmps24
      go_wp2_with (first
        | (go_at_call 38; ((with_reducible refine (H.out.1 _).mono ?_); rintro e w1 ⟨rfl, rfl⟩))
        | (go_at_call 40; ((with_reducible refine (H.out.2.1 _).mono ?_); rintro e w1 ⟨rfl, rfl⟩)))
      obtain ⟨z0, z1, z2, z3⟩ := Blk.four H.out.2.2.2
      exact bodyPost_ret (v := .tuple #[tokV 0 ⟨#[]⟩ 0 0, .int .i64 0]) (by simp only [results, Tryd.results24]; simp [go_sem, Act.put, z0, z1, z2, z3]) rfl (H.out.2.2.1 _ (ba w _))
    · rw [decide_eq_false h20, if_neg (by decide)] at hU
      have H := Lib.hid (And.intro cR (And.intro cN (And.intro (fun W => fin 5 W hU) (fun c => Blk.new w 40 c)))); clear cR cN hb hU hN hn fin fin0 hB
      go_enter Tryd.func24, Tryd.ntmps24
      go_wp2_with (first
        | (go_at_call 38; ((with_reducible refine (H.out.1 _).mono ?_); rintro e w1 ⟨rfl, rfl⟩))
        | (go_at_call 40; ((with_reducible refine (H.out.2.1 _).mono ?_); rintro e w1 ⟨rfl, rfl⟩)))
      obtain ⟨z0, z1, z2, z3⟩ := Blk.four (H.out.2.2.2 (tokC 5 b 0 0))
      exact bodyPost_ret (v := .tuple #[tokV 5 b 0 0, .int .i64 (n : Int)]) (by simp only [results, Tryd.results24]; simp [go_sem, Act.put, z0, z1, z2, z3]) rfl (H.out.2.2.1 _ (ba w _))
  · rw [hN] at cN hU
    rw [if_pos rfl] at hU
    have H := Lib.hid (And.intro cR (And.intro cN (And.intro (fun W => fin 1 W hU) (fun c => Blk.new w 40 c)))); clear cR cN hb hU hN hn fin fin0 hB
    go_enter Tryd.func24, Tryd.ntmps24
    go_wp2_with (first
      | (go_at_call 38; ((with_reducible refine (H.out.1 _).mono ?_); rintro e w1 ⟨rfl, rfl⟩))
      | (go_at_call 40; ((with_reducible refine (H.out.2.1 _).mono ?_); rintro e w1 ⟨rfl, rfl⟩)))
    obtain ⟨z0, z1, z2, z3⟩ := Blk.four (H.out.2.2.2 (tokC 1 b 0 0))
    exact bodyPost_ret (v := .tuple #[tokV 1 b 0 0, .int .i64 (n : Int)]) (by simp only [results, Tryd.results24]; simp [go_sem, Act.put, z0, z1, z2, z3]) rfl (H.out.2.2.1 _ (ba w _))
end Go.Proofs.YtoaallhibgbokaaDoor
