/- Layer 11: the kind of an operation; what is known of a spot. -/
import Derived.Test.YtkmboffbohndjaaCkA
import Derived.BigGuard
import Derived.BigQuiet
namespace Go.Proofs.Ytkmboffbohndjaa
open Go.ChangeShapes Go.WideShapes Go.ChangeAt Go.RowKit Go.Maps
set_option linter.unusedVariables false
set_option linter.unusedSimpArgs false

theorem sameB_lit (op : ByteArray) (l : List UInt8) : op = ⟨l.toArray⟩ ∨ (sameB op ⟨l.toArray⟩ = false ∧ (op.toList == l) = false ∧ ¬ op.toList = l) := by
  by_cases h : op = ⟨l.toArray⟩
  · exact Or.inl h
  · have h2 : ¬ op.toList = l := fun e => h (by
      rw [Lib.toList_data] at e
      cases op with
      | mk d => simp at e; subst e; simp)
    exact Or.inr ⟨by rw [← Bool.not_eq_true]; exact fun e => h (sameB_iff.1 e), by simpa using h2, h2⟩
set_option maxRecDepth 20000 in
theorem unaryK_any (op : ByteArray) (k : Int) (w : World) :
    Calls Try.prog 34 #[.string op, .int .i64 k] w fun e w' => e = .returned (.tuple #[.int .i64 (unaryK op k).1, .int .i64 (unaryK op k).2]) ∧ w = w' := by
  rcases sameB_lit op [45] with rfl | ⟨ha, ha1, ha2⟩
  · have hb : sameB ⟨#[45]⟩ ⟨#[33]⟩ = false := by decide
    have hc : sameB ⟨#[45]⟩ ⟨#[45]⟩ = true := by decide
    by_cases h1 : k = 1
    · subst h1
      go_enter Try.func34, Try.ntmps34
      go_wp2
      exact bodyPost_ret (v := .tuple #[.int .i64 1, .int .i64 0]) (by simp [results, Try.results34, go_sem]) rfl ⟨by unfold unaryK; rfl, rfl⟩
    · have h1' : (k == 1) = false := by simpa using h1
      go_enter Try.func34, Try.ntmps34
      go_wp2
      exact bodyPost_ret (v := .tuple #[.int .i64 0, .int .i64 6]) (by simp [results, Try.results34, go_sem]) rfl ⟨by unfold unaryK; simp [hb, hc, h1], rfl⟩
  · rcases sameB_lit op [33] with rfl | ⟨hb, hb1, hb2⟩
    · have hb : sameB ⟨#[33]⟩ ⟨#[45]⟩ = false := by decide
      have hc : sameB ⟨#[33]⟩ ⟨#[33]⟩ = true := by decide
      by_cases h1 : k = 2
      · subst h1
        go_enter Try.func34, Try.ntmps34
        go_wp2
        exact bodyPost_ret (v := .tuple #[.int .i64 2, .int .i64 0]) (by simp [results, Try.results34, go_sem]) rfl ⟨by unfold unaryK; rfl, rfl⟩
      · have h1' : (k == 2) = false := by simpa using h1
        go_enter Try.func34, Try.ntmps34
        go_wp2
        exact bodyPost_ret (v := .tuple #[.int .i64 0, .int .i64 6]) (by simp [results, Try.results34, go_sem]) rfl ⟨by unfold unaryK; simp [hb, hc, h1], rfl⟩
    · have ha : sameB op ⟨#[45]⟩ = false := ha
      have hb : sameB op ⟨#[33]⟩ = false := hb
      go_enter Try.func34, Try.ntmps34
      go_wp2
      exact bodyPost_ret (v := .tuple #[.int .i64 0, .int .i64 6]) (by simp [results, Try.results34, go_sem]) rfl ⟨by unfold unaryK; simp [ha, hb], rfl⟩
set_option maxRecDepth 20000 in
theorem binaryK_any (op : ByteArray) (a b : Int) (w : World) :
    Calls Try.prog 35 #[.string op, .int .i64 a, .int .i64 b] w fun e w' => e = .returned (.tuple #[.int .i64 (binaryK op a b).1, .int .i64 (binaryK op a b).2]) ∧ w = w' := by
  by_cases hab : a = b
  · subst hab
    have k1 : a = 1 ∨ (¬ a = 1 ∧ (a == 1) = false) := by
      by_cases h : a = 1
      · exact Or.inl h
      · exact Or.inr ⟨h, by simpa using h⟩
    have k2 : a = 2 ∨ (¬ a = 2 ∧ (a == 2) = false) := by
      by_cases h : a = 2
      · exact Or.inl h
      · exact Or.inr ⟨h, by simpa using h⟩
    have k3 : a = 3 ∨ (¬ a = 3 ∧ (a == 3) = false) := by
      by_cases h : a = 3
      · exact Or.inl h
      · exact Or.inr ⟨h, by simpa using h⟩
    rcases sameB_lit op [124, 124] with rfl | ⟨p0, q0, r0⟩
    · rcases k2 with rfl | ⟨h2, h2'⟩
      · go_enter Try.func35, Try.ntmps35
        go_wp2
        exact bodyPost_ret (v := .tuple #[.int .i64 2, .int .i64 0]) (by simp [results, Try.results35, go_sem]) rfl ⟨by unfold binaryK; simp [sameB], rfl⟩
      · rcases k1 with rfl | ⟨h1, h1'⟩
        · go_enter Try.func35, Try.ntmps35
          go_wp2
          exact bodyPost_ret (v := .tuple #[.int .i64 0, .int .i64 6]) (by simp [results, Try.results35, go_sem]) rfl ⟨by unfold binaryK; simp [sameB], rfl⟩
        · go_enter Try.func35, Try.ntmps35
          go_wp2
          exact bodyPost_ret (v := .tuple #[.int .i64 0, .int .i64 6]) (by simp [results, Try.results35, go_sem]) rfl ⟨by unfold binaryK; simp [sameB, h2], rfl⟩
    replace p0 : sameB op ⟨#[124, 124]⟩ = false := p0
    rcases sameB_lit op [38, 38] with rfl | ⟨p1, q1, r1⟩
    · rcases k2 with rfl | ⟨h2, h2'⟩
      · go_enter Try.func35, Try.ntmps35
        go_wp2
        exact bodyPost_ret (v := .tuple #[.int .i64 2, .int .i64 0]) (by simp [results, Try.results35, go_sem]) rfl ⟨by unfold binaryK; simp [sameB], rfl⟩
      · rcases k1 with rfl | ⟨h1, h1'⟩
        · go_enter Try.func35, Try.ntmps35
          go_wp2
          exact bodyPost_ret (v := .tuple #[.int .i64 0, .int .i64 6]) (by simp [results, Try.results35, go_sem]) rfl ⟨by unfold binaryK; simp [sameB], rfl⟩
        · go_enter Try.func35, Try.ntmps35
          go_wp2
          exact bodyPost_ret (v := .tuple #[.int .i64 0, .int .i64 6]) (by simp [results, Try.results35, go_sem]) rfl ⟨by unfold binaryK; simp [sameB, h2], rfl⟩
    replace p1 : sameB op ⟨#[38, 38]⟩ = false := p1
    rcases sameB_lit op [61, 61] with rfl | ⟨p2, q2, r2⟩
    · rcases k1 with rfl | ⟨h1, h1'⟩
      · go_enter Try.func35, Try.ntmps35
        go_wp2
        exact bodyPost_ret (v := .tuple #[.int .i64 2, .int .i64 0]) (by simp [results, Try.results35, go_sem]) rfl ⟨by unfold binaryK; simp [sameB], rfl⟩
      · go_enter Try.func35, Try.ntmps35
        go_wp2
        exact bodyPost_ret (v := .tuple #[.int .i64 2, .int .i64 0]) (by simp [results, Try.results35, go_sem]) rfl ⟨by unfold binaryK; simp [sameB], rfl⟩
    replace p2 : sameB op ⟨#[61, 61]⟩ = false := p2
    rcases sameB_lit op [33, 61] with rfl | ⟨p3, q3, r3⟩
    · rcases k1 with rfl | ⟨h1, h1'⟩
      · go_enter Try.func35, Try.ntmps35
        go_wp2
        exact bodyPost_ret (v := .tuple #[.int .i64 2, .int .i64 0]) (by simp [results, Try.results35, go_sem]) rfl ⟨by unfold binaryK; simp [sameB], rfl⟩
      · go_enter Try.func35, Try.ntmps35
        go_wp2
        exact bodyPost_ret (v := .tuple #[.int .i64 2, .int .i64 0]) (by simp [results, Try.results35, go_sem]) rfl ⟨by unfold binaryK; simp [sameB], rfl⟩
    replace p3 : sameB op ⟨#[33, 61]⟩ = false := p3
    rcases sameB_lit op [60] with rfl | ⟨p4, q4, r4⟩
    · rcases k1 with rfl | ⟨h1, h1'⟩
      · go_enter Try.func35, Try.ntmps35
        go_wp2
        exact bodyPost_ret (v := .tuple #[.int .i64 2, .int .i64 0]) (by simp [results, Try.results35, go_sem]) rfl ⟨by unfold binaryK; simp [sameB], rfl⟩
      · go_enter Try.func35, Try.ntmps35
        go_wp2
        exact bodyPost_ret (v := .tuple #[.int .i64 2, .int .i64 0]) (by simp [results, Try.results35, go_sem]) rfl ⟨by unfold binaryK; simp [sameB], rfl⟩
    replace p4 : sameB op ⟨#[60]⟩ = false := p4
    rcases sameB_lit op [60, 61] with rfl | ⟨p5, q5, r5⟩
    · rcases k1 with rfl | ⟨h1, h1'⟩
      · go_enter Try.func35, Try.ntmps35
        go_wp2
        exact bodyPost_ret (v := .tuple #[.int .i64 2, .int .i64 0]) (by simp [results, Try.results35, go_sem]) rfl ⟨by unfold binaryK; simp [sameB], rfl⟩
      · go_enter Try.func35, Try.ntmps35
        go_wp2
        exact bodyPost_ret (v := .tuple #[.int .i64 2, .int .i64 0]) (by simp [results, Try.results35, go_sem]) rfl ⟨by unfold binaryK; simp [sameB], rfl⟩
    replace p5 : sameB op ⟨#[60, 61]⟩ = false := p5
    rcases sameB_lit op [62] with rfl | ⟨p6, q6, r6⟩
    · rcases k1 with rfl | ⟨h1, h1'⟩
      · go_enter Try.func35, Try.ntmps35
        go_wp2
        exact bodyPost_ret (v := .tuple #[.int .i64 2, .int .i64 0]) (by simp [results, Try.results35, go_sem]) rfl ⟨by unfold binaryK; simp [sameB], rfl⟩
      · go_enter Try.func35, Try.ntmps35
        go_wp2
        exact bodyPost_ret (v := .tuple #[.int .i64 2, .int .i64 0]) (by simp [results, Try.results35, go_sem]) rfl ⟨by unfold binaryK; simp [sameB], rfl⟩
    replace p6 : sameB op ⟨#[62]⟩ = false := p6
    rcases sameB_lit op [62, 61] with rfl | ⟨p7, q7, r7⟩
    · rcases k1 with rfl | ⟨h1, h1'⟩
      · go_enter Try.func35, Try.ntmps35
        go_wp2
        exact bodyPost_ret (v := .tuple #[.int .i64 2, .int .i64 0]) (by simp [results, Try.results35, go_sem]) rfl ⟨by unfold binaryK; simp [sameB], rfl⟩
      · go_enter Try.func35, Try.ntmps35
        go_wp2
        exact bodyPost_ret (v := .tuple #[.int .i64 2, .int .i64 0]) (by simp [results, Try.results35, go_sem]) rfl ⟨by unfold binaryK; simp [sameB], rfl⟩
    replace p7 : sameB op ⟨#[62, 61]⟩ = false := p7
    rcases sameB_lit op [43] with rfl | ⟨p8, q8, r8⟩
    · rcases k1 with rfl | ⟨h1, h1'⟩
      · go_enter Try.func35, Try.ntmps35
        go_wp2
        exact bodyPost_ret (v := .tuple #[.int .i64 1, .int .i64 0]) (by simp [results, Try.results35, go_sem]) rfl ⟨by unfold binaryK; simp [sameB], rfl⟩
      · rcases k3 with rfl | ⟨h3, h3'⟩
        · go_enter Try.func35, Try.ntmps35
          go_wp2
          exact bodyPost_ret (v := .tuple #[.int .i64 3, .int .i64 0]) (by simp [results, Try.results35, go_sem]) rfl ⟨by unfold binaryK; simp [sameB], rfl⟩
        · go_enter Try.func35, Try.ntmps35
          go_wp2
          exact bodyPost_ret (v := .tuple #[.int .i64 0, .int .i64 6]) (by simp [results, Try.results35, go_sem]) rfl ⟨by unfold binaryK; simp [sameB, h1, h3], rfl⟩
    replace p8 : sameB op ⟨#[43]⟩ = false := p8
    rcases k1 with rfl | ⟨h1, h1'⟩
    · go_enter Try.func35, Try.ntmps35
      go_wp2
      exact bodyPost_ret (v := .tuple #[.int .i64 1, .int .i64 0]) (by simp [results, Try.results35, go_sem]) rfl ⟨by unfold binaryK; simp [p0, p1, p2, p3, p4, p5, p6, p7, p8], rfl⟩
    · go_enter Try.func35, Try.ntmps35
      go_wp2
      exact bodyPost_ret (v := .tuple #[.int .i64 0, .int .i64 6]) (by simp [results, Try.results35, go_sem]) rfl ⟨by unfold binaryK; simp [p0, p1, p2, p3, p4, p5, p6, p7, p8, h1], rfl⟩
  · have hab' : (a == b) = false := by simpa using hab
    go_enter Try.func35, Try.ntmps35
    go_wp2
    exact bodyPost_ret (v := .tuple #[.int .i64 0, .int .i64 6]) (by simp [results, Try.results35, go_sem]) rfl ⟨by unfold binaryK; simp [hab], rfl⟩
set_option maxRecDepth 20000 in
theorem atK_any (b n : Nat) (c : ByteArray → ByteArray → Bool → Option Int) (s f : ByteArray) (k : Bool) (w : World) (h : KnAt w b n c) (hs : s.size ≤ maxLen) (hf : f.size ≤ maxLen) :
    Calls Try.prog 33 #[.map (some b), .agg #[.string s, .string f, .bool k]] w fun e w' => e = .returned (.tuple #[.int .i64 (told (c s f k)).1, .int .i64 (told (c s f k)).2]) ∧ Below w.heap.size w w' := by
  have bA := ba w (.cells #[.string s, .string f, .bool k] 87)
  have hk := (h.later bA).ok (k := k) hs hf
  have H := Lib.hid bA; clear bA h
  cases hc : c s f k with
  | none =>
    rw [hc] at hk
    simp only [Option.getD_none, Option.isSome_none] at hk
    go_enter Try.func33, Try.ntmps33
    go_wp2_with fail
    exact bodyPost_ret (v := .tuple #[.int .i64 0, .int .i64 5]) (by simp [results, Try.results33, go_sem]) rfl ⟨rfl, H.out⟩
  | some x =>
    rw [hc] at hk
    simp only [Option.getD_some, Option.isSome_some] at hk
    go_enter Try.func33, Try.ntmps33
    go_wp2_with fail
    exact bodyPost_ret (v := .tuple #[.int .i64 x, .int .i64 0]) (by simp [results, Try.results33, go_sem]) rfl ⟨rfl, H.out⟩
end Go.Proofs.Ytkmboffbohndjaa
