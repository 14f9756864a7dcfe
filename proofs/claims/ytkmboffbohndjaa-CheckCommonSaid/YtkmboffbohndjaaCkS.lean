/- Layer 11: the chapter's examples: mathematics; what streams there are. -/
import Derived.Test.YtkmboffbohndjaaCkP
import Derived.Test.YtkmboffbohndjaaTrB
namespace Go.Proofs.Ytkmboffbohndjaa
open Go.ChangeShapes Go.WideShapes Go.ChangeAt Go.RowKit Go.Maps
set_option linter.unusedVariables false
set_option linter.unusedSimpArgs false

abbrev yA : ByteArray := ⟨#[65]⟩
abbrev yB : ByteArray := ⟨#[66]⟩
abbrev yC : ByteArray := ⟨#[67]⟩
abbrev ya : ByteArray := ⟨#[97]⟩
abbrev yb : ByteArray := ⟨#[98]⟩
abbrev yk : ByteArray := ⟨#[107]⟩
abbrev yx : ByteArray := ⟨#[120]⟩
abbrev yy : ByteArray := ⟨#[121]⟩
abbrev ys : ByteArray := ⟨#[115]⟩
abbrev yt : ByteArray := ⟨#[116]⟩
abbrev yq : ByteArray := ⟨#[113]⟩
abbrev yz : ByteArray := ⟨#[122]⟩
abbrev yl : ByteArray := ⟨#[60]⟩
abbrev F1 : List Fld := [(yk, 1), (yx, 1)]
abbrev F2 : List Fld := [(yk, 1), (yy, 1), (ys, 3)]
abbrev F3 : List Fld := [(yk, 1), (yx, 1), (yt, 2)]
def ls3 : List SF := [(yA, F1), (yB, F2), (yC, F3)]
def exC1 : Pt := ⟨false, false, [yA], ya, []⟩
def exC2 : Pt := ⟨false, false, [yB, yC], yb, [.bin yl (.ref ya yx) (.ref yb yk)]⟩
def exC (by_ : ByteArray) : Qy := ⟨yq, false, [exC1, exC2], 0, by_, [⟨yz, .ref yb yk⟩]⟩
def exN : Qy := ⟨⟨#[]⟩, false, [], 0, ⟨#[]⟩, []⟩
theorem exC_parts : partsB false [exC1, exC2] = true := by
  have a1 : namesB [yA] = true := namesB_iff.2 ⟨fun s hs => by
    obtain rfl := List.mem_singleton.1 hs; decide +kernel, by simp⟩
  have a2 : namesB [yB, yC] = true := namesB_iff.2 ⟨fun s hs => by
    simp only [List.mem_cons, List.not_mem_nil, or_false] at hs
    rcases hs with rfl | rfl <;> decide +kernel, by simp⟩
  have a3 : namesB [ya, yb] = true := namesB_iff.2 ⟨fun s hs => by
    simp only [List.mem_cons, List.not_mem_nil, or_false] at hs
    rcases hs with rfl | rfl <;> decide +kernel, by simp⟩
  have p1 : partB exC1 = true := by unfold partB exC1; simp only; rw [a1]; rfl
  have p2 : partB exC2 = true := by
    unfold partB exC2; simp only; rw [a2]
    have : ([Tr.bin yl (.ref ya yx) (.ref yb yk)].all Tr.ok) = true := by decide +kernel
    rw [this]; rfl
  unfold partsB
  rw [show [exC1, exC2].map (·.v) = [ya, yb] from rfl, a3, show [exC1, exC2].all partB = true by simp [p1, p2]]
  rfl
theorem exC_outs : outsB [⟨yz, .ref yb yk⟩] = true := by
  have a1 : namesB [yz] = true := namesB_iff.2 ⟨fun s hs => by
    obtain rfl := List.mem_singleton.1 hs; decide +kernel, by simp⟩
  unfold outsB
  rw [show ([⟨yz, .ref yb yk⟩] : List Ot).map (·.f) = [yz] from rfl, a1]
  decide +kernel
theorem exC_right (by_ : ByteArray) (h : nameB by_ = true) : queryB (exC by_) = true := by
  unfold queryB exC
  simp only
  rw [exC_parts, exC_outs, h, show nameB yq = true by decide +kernel]
  simp
theorem exN_right : queryB exN = false := by
  unfold queryB exN
  simp only
  rw [show nameB ⟨#[]⟩ = false by decide +kernel]; rfl
theorem ck1 : checkE ls3 (exC yk) = ((yq, [(yz, 1)]), 0) := by
  unfold checkE
  rw [exC_right yk (by decide +kernel), if_neg (by decide +kernel), if_neg (by simp), if_neg (by decide +kernel), if_neg (by decide +kernel), if_neg (by decide +kernel)]
  decide +kernel
theorem ck2 : (checkE ls3 (exC yx)).2 = 5 := by
  unfold checkE
  rw [exC_right yx (by decide +kernel), if_neg (by decide +kernel), if_neg (by simp), if_neg (by decide +kernel), if_pos (by decide +kernel)]
  decide +kernel
theorem ck3 : (checkE [(yA, F1)] (exC yk)).2 = 5 := by
  unfold checkE
  rw [exC_right yk (by decide +kernel), if_neg (by decide +kernel), if_neg (by simp), if_neg (by decide +kernel), if_pos (by decide +kernel)]
  decide +kernel
theorem ck4 : (checkE (ls3 ++ [(yq, [])]) (exC yk)).2 = 11 := by
  unfold checkE
  rw [exC_right yk (by decide +kernel), if_neg (by decide +kernel), if_neg (by simp), if_pos (by decide +kernel)]
theorem ck5 : (checkE [] exN).2 = 1 := by
  unfold checkE
  rw [exN_right, if_neg (by decide +kernel), if_pos rfl]
theorem ck6 : commonF ls3 = [(yk, 1)] := by decide +kernel
theorem ck7 : kindT [] (.bin ⟨#[43]⟩ (.lit 1 1 e0) (.lit 1 2 e0)) = (1, 0) := by decide +kernel
theorem ck8 : kindT [] (.ref ya yx) = (0, 5) := by decide +kernel
theorem exC_ok (by_ : ByteArray) : QOk (exC by_) := by
  refine ⟨fun p hp t ht => ?_, fun o ho => ?_, fun p hp => ?_, fun p hp => ?_, by simp [exC], by simp [exC]⟩
  · simp only [exC, exC1, exC2, List.mem_cons, List.not_mem_nil, or_false] at hp
    rcases hp with rfl | rfl
    · simp at ht
    · simp only [List.mem_cons, List.not_mem_nil, or_false] at ht
      subst ht; decide +kernel
  · simp only [exC, List.mem_cons, List.not_mem_nil, or_false] at ho
    subst ho; decide +kernel
  · simp only [exC, exC1, exC2, List.mem_cons, List.not_mem_nil, or_false] at hp
    rcases hp with rfl | rfl <;> simp
  · simp only [exC, exC1, exC2, List.mem_cons, List.not_mem_nil, or_false] at hp
    rcases hp with rfl | rfl <;> simp
theorem exN_ok : QOk exN := ⟨fun p hp => by simp [exN] at hp, fun o ho => by simp [exN] at ho, fun p hp => by simp [exN] at hp, fun p hp => by simp [exN] at hp, by decide, by decide⟩
theorem eref_any (v f : ByteArray) (w : World) : Calls Try.prog 10 #[.string v, .string f] w fun e w' => e = .returned (ev 1 e0 0 0 e0 v f nilk) ∧ Below w.heap.size w w' := by
  go_enter Try.func10, Try.ntmps10
  go_wp2
  exact bodyPost_ret (v := ev 1 e0 0 0 e0 v f nilk) (by simp [results, Try.results10, go_sem]) rfl ⟨rfl, ba _ _⟩
theorem streams_any (w : World) : Calls Try.prog 14 #[] w fun e w' => e = .returned (.slice (some ⟨w.heap.size + 1 + 1 + 1, 0, none⟩) 3 3) ∧ SAt w' (.slice (some ⟨w.heap.size + 1 + 1 + 1, 0, none⟩) 3 3) ls3 ∧ Below w.heap.size w w' := by
  obtain ⟨W1, hW1⟩ : ∃ W1, W1 = w.alloc (.cells #[.string yk, .int .i64 1, .string yx, .int .i64 1] 26) := ⟨_, rfl⟩
  obtain ⟨W2, hW2⟩ : ∃ W2, W2 = W1.alloc (.cells #[.string yk, .int .i64 1, .string yy, .int .i64 1, .string ys, .int .i64 3] 26) := ⟨_, rfl⟩
  obtain ⟨W3, hW3⟩ : ∃ W3, W3 = W2.alloc (.cells #[.string yk, .int .i64 1, .string yx, .int .i64 1, .string yt, .int .i64 2] 26) := ⟨_, rfl⟩
  obtain ⟨W4, hW4⟩ : ∃ W4, W4 = W3.alloc (.cells #[.string yA, .slice (some ⟨w.heap.size, 0, none⟩) 2 2, .string yB, .slice (some ⟨w.heap.size + 1, 0, none⟩) 3 3, .string yC, .slice (some ⟨w.heap.size + 1 + 1, 0, none⟩) 3 3] 46) := ⟨_, rfl⟩
  have s1 : W1.heap.size = w.heap.size + 1 := by rw [hW1]; exact World.size_alloc _ _
  have s2 : W2.heap.size = w.heap.size + 1 + 1 := by rw [hW2, World.size_alloc, s1]
  have s3 : W3.heap.size = w.heap.size + 1 + 1 + 1 := by rw [hW3, World.size_alloc, s2]
  have b1 : Below w.heap.size w W1 := by rw [hW1]; exact ba _ _
  have b2 : Below W1.heap.size W1 W2 := by rw [hW2]; exact ba _ _
  have b3 : Below W2.heap.size W2 W3 := by rw [hW3]; exact ba _ _
  have b4 : Below W3.heap.size W3 W4 := by rw [hW4]; exact ba _ _
  have k1 : Blk W4 w.heap.size 26 #[.string yk, .int .i64 1, .string yx, .int .i64 1] := by
    have : Blk W1 w.heap.size 26 #[.string yk, .int .i64 1, .string yx, .int .i64 1] := by rw [hW1]; exact Blk.new _ _ _
    exact ((this.later b2).later b3).later b4
  have k2 : Blk W4 (w.heap.size + 1) 26 #[.string yk, .int .i64 1, .string yy, .int .i64 1, .string ys, .int .i64 3] := by
    have : Blk W2 (w.heap.size + 1) 26 #[.string yk, .int .i64 1, .string yy, .int .i64 1, .string ys, .int .i64 3] := by rw [hW2, ← s1]; exact Blk.new _ _ _
    exact (this.later b3).later b4
  have k3 : Blk W4 (w.heap.size + 1 + 1) 26 #[.string yk, .int .i64 1, .string yx, .int .i64 1, .string yt, .int .i64 2] := by
    have : Blk W3 (w.heap.size + 1 + 1) 26 #[.string yk, .int .i64 1, .string yx, .int .i64 1, .string yt, .int .i64 2] := by rw [hW3, ← s2]; exact Blk.new _ _ _
    exact this.later b4
  have k4 : Blk W4 (w.heap.size + 1 + 1 + 1) 46 #[.string yA, .slice (some ⟨w.heap.size, 0, none⟩) 2 2, .string yB, .slice (some ⟨w.heap.size + 1, 0, none⟩) 3 3, .string yC, .slice (some ⟨w.heap.size + 1 + 1, 0, none⟩) 3 3] := by rw [hW4, ← s3]; exact Blk.new _ _ _
  have hS : SAt W4 (.slice (some ⟨w.heap.size + 1 + 1 + 1, 0, none⟩) 3 3) ls3 := by
    refine ⟨[((yA, F1), (some ⟨w.heap.size, 0, none⟩, 2, 2)), ((yB, F2), (some ⟨w.heap.size + 1, 0, none⟩, 3, 3)), ((yC, F3), (some ⟨w.heap.size + 1 + 1, 0, none⟩, 3, 3))], at_blkC (k := 2) (f := sxF) (fun _ => rfl) _ k4 rfl (by unfold maxLen; omega) rfl, rfl, fun x hx => ?_⟩
    simp only [List.mem_cons, List.not_mem_nil, or_false] at hx
    rcases hx with rfl | rfl | rfl
    · exact at_blkC (k := 2) (f := fldF) (fun _ => rfl) F1 k1 (n := 2) rfl (by unfold maxLen; omega) rfl
    · exact at_blkC (k := 2) (f := fldF) (fun _ => rfl) F2 k2 (n := 3) rfl (by unfold maxLen; omega) rfl
    · exact at_blkC (k := 2) (f := fldF) (fun _ => rfl) F3 k3 (n := 3) rfl (by unfold maxLen; omega) rfl
  have H := Lib.hid (And.intro hS (bt (bt (bt b1 b2) b3) b4)); clear hS b1 b2 b3 b4 k1 k2 k3 k4 s1 s2 s3
  rw [hW3, hW2, hW1] at hW4
  go_enter Try.func14, Try.ntmps14
  go_wp2
  rw [← hW4]
  go_ret
  exact ⟨rfl, H.out.1, H.out.2⟩
theorem ls3_ok : OkS ls3 ∧ (∀ x ∈ ls3, x.1.size ≤ maxLen) := by
  have h : ∀ x ∈ ls3, x.1.size ≤ 1 ∧ x.2.length ≤ 3 ∧ (x.2.all (fun f => decide (f.1.size ≤ 1) && decide (1 ≤ f.2) && decide (f.2 ≤ 3))) = true := by decide +kernel
  refine ⟨fun x hx => ⟨by have := (h x hx).2.1; omega, fun f hf => ?_⟩, fun x hx => by have := (h x hx).1; unfold maxLen; omega⟩
  have := List.all_eq_true.1 (h x hx).2.2 f hf
  simp only [Bool.and_eq_true, decide_eq_true_eq] at this
  exact ⟨by unfold maxLen; omega, wf_mk ⟨by omega, by omega⟩⟩
end Go.Proofs.Ytkmboffbohndjaa
