/- Texts that several proofs stand on, part 39. -/
import Derived.Test.YtenmbahfgfmjjaaDoorQ30
import Derived.Test.YtenmbahfgfmjjaaDoorQ38
namespace Go.Proofs.YtenmbahfgfmjjaaDoor
open Go.ChangeShapes Go.WideShapes Go.ChangeAt Go.RowKit Go.Maps
set_option linter.unusedVariables false
set_option linter.unusedSimpArgs false

theorem at_blk {α : Type} {w : World} {g : Nat} {t : TypeId} {cs : Array Value} {k n : Nat} {f : α → List Value} (hf : ∀ x, (f x).length = k) (l : List α) (h : Blk w g t cs) (hn : n = l.length) (hm : n ≤ maxLen) (hcs : l.flatMap f = cs.toList) : At w k f (.slice (some ⟨g, 0, none⟩) n n) l := by
  subst hn
  refine ⟨some ⟨g, 0, none⟩, l.length, rfl, Nat.le_refl _, hm, fun h => by simp at h, fun b hb j hj i u hu => ?_⟩
  obtain rfl : (⟨g, 0, none⟩ : Addr) = b := by simpa using hb
  have hi : i < k := by
    have := (List.getElem?_eq_some_iff.1 hu).1
    rw [hf] at this; exact this
  have e := flat_get hf l j i hj hi
  rw [hcs] at e
  rw [addr_pl, Nat.zero_add, h.cell (j * k + i)]
  rw [← Array.getElem?_toList, e]; exact hu
abbrev xA : ByteArray := ⟨#[65]⟩
abbrev xB : ByteArray := ⟨#[66]⟩
abbrev xC : ByteArray := ⟨#[67]⟩
abbrev xa : ByteArray := ⟨#[97]⟩
abbrev xb : ByteArray := ⟨#[98]⟩
abbrev xk : ByteArray := ⟨#[107]⟩
abbrev xq : ByteArray := ⟨#[113]⟩
abbrev xx_ : ByteArray := ⟨#[120]⟩
def exP1 : Pt := ⟨false, true, [xA], xa, []⟩
def exP2 : Pt := ⟨true, false, [xB, xC], xb, [.lit 1 1 e0]⟩
def exQ (st : Bool) : Qy := ⟨xq, st, [exP1, exP2], 5, xk, [⟨xx_, .lit 1 2 e0⟩]⟩
def exZ : Qy := ⟨e0, false, [], 0, e0, []⟩
theorem exQ_ok (st : Bool) : QOk (exQ st) := by
  refine ⟨fun p hp t ht => ?_, fun o ho => ?_, fun p hp => ?_, fun p hp => ?_, by simp [exQ], by simp [exQ]⟩
  · simp only [exQ, exP1, exP2, List.mem_cons, List.not_mem_nil, or_false] at hp
    rcases hp with rfl | rfl
    · simp at ht
    · simp only [List.mem_cons, List.not_mem_nil, or_false] at ht
      subst ht; decide +kernel
  · simp only [exQ, List.mem_cons, List.not_mem_nil, or_false] at ho
    subst ho; decide +kernel
  · simp only [exQ, exP1, exP2, List.mem_cons, List.not_mem_nil, or_false] at hp
    rcases hp with rfl | rfl <;> simp
  · simp only [exQ, exP1, exP2, List.mem_cons, List.not_mem_nil, or_false] at hp
    rcases hp with rfl | rfl <;> simp
theorem exZ_ok : QOk exZ := ⟨fun p hp => by simp [exZ] at hp, fun o ho => by simp [exZ] at ho, fun p hp => by simp [exZ] at hp, fun p hp => by simp [exZ] at hp, by decide, by decide⟩
theorem ex_inputs : inputs [exP1, exP2] = [xA, xB, xC] := by
  have h1 : ¬ xB ∈ [xA] := by simp
  have h2 : ¬ xC ∈ [xA, xB] := by simp
  simp only [inputs, exP1, exP2, List.foldl_cons, List.foldl_nil]
  have e1 : inPut [] xA = [xA] := by unfold inPut; rw [if_neg (by simp)]; rfl
  have e2 : inPut [xA] xB = [xA, xB] := by unfold inPut; rw [if_neg h1]; rfl
  have e3 : inPut [xA, xB] xC = [xA, xB, xC] := by unfold inPut; rw [if_neg h2]; rfl
  rw [e1, e2, e3]
theorem ex_parts (st : Bool) : partsB st [exP1, exP2] = !st := by
  have a1 : namesB [xA] = true := namesB_iff.2 ⟨fun s hs => by
    simp only [List.mem_cons, List.not_mem_nil, or_false] at hs
    subst hs; decide +kernel, by simp⟩
  have a2 : namesB [xB, xC] = true := namesB_iff.2 ⟨fun s hs => by
    simp only [List.mem_cons, List.not_mem_nil, or_false] at hs
    rcases hs with rfl | rfl <;> decide +kernel, by simp⟩
  have a3 : namesB [xa, xb] = true := namesB_iff.2 ⟨fun s hs => by
    simp only [List.mem_cons, List.not_mem_nil, or_false] at hs
    rcases hs with rfl | rfl <;> decide +kernel, by simp⟩
  have a4 : Tr.ok (.lit 1 1 e0) = true := by decide +kernel
  cases st <;> simp [partsB, partB, exP1, exP2, a1, a2, a3, a4]
theorem ex_right (st : Bool) : queryB (exQ st) = !st := by
  have a1 : nameB xq = true := by decide +kernel
  have a2 : nameB xk = true := by decide +kernel
  have a3 : namesB [xx_] = true := namesB_iff.2 ⟨fun s hs => by
    simp only [List.mem_cons, List.not_mem_nil, or_false] at hs
    subst hs; decide +kernel, by simp⟩
  have a4 : Tr.ok (.lit 1 2 e0) = true := by decide +kernel
  have a5 : outsB [⟨xx_, .lit 1 2 e0⟩] = true := by simp [outsB, a3, a4]
  unfold queryB exQ
  simp only
  rw [ex_parts, a1, a2, a5]
  cases st <;> rfl
theorem ex_zero : queryB exZ = false := by
  have : nameB e0 = false := by decide +kernel
  unfold queryB exZ
  simp only
  rw [this]; rfl
theorem ex_text : queryT (exQ false) = [113, 32, 61, 32, 65, 32, 97, 43, 32, 59, 32, 33, 66, 32, 124, 32, 67, 32, 98, 91, 49, 93, 32, 87, 73, 84, 72, 73, 78, 32, 53, 32, 66, 89, 32, 107, 32, 69, 77, 73, 84, 32, 120, 58, 32, 50] := by decide +kernel
theorem lit_sm (n : Int) (h0 : 0 ≤ n) (h1 : n ≤ 9223372036854775807) (hok : Tr.ok (.lit 1 n e0) = true) (hl : Tr.len (.lit 1 n e0) ≤ 400000) : Sm (.lit 1 n e0) := ⟨hok, ⟨by omega, h1⟩, hl⟩
theorem exQ_sm : QSm (exQ false) := by
  refine ⟨by decide, by decide, by decide, by decide, by decide, fun p hp => ?_, fun o ho => ?_⟩
  · simp only [exQ, exP1, exP2, List.mem_cons, List.not_mem_nil, or_false] at hp
    rcases hp with rfl | rfl
    · refine ⟨by decide, fun s hs => ?_, by decide, by decide, fun t ht => by simp at ht⟩
      simp only [List.mem_cons, List.not_mem_nil, or_false] at hs
      subst hs; decide
    · refine ⟨by decide, fun s hs => ?_, by decide, by decide, fun t ht => ?_⟩
      · simp only [List.mem_cons, List.not_mem_nil, or_false] at hs
        rcases hs with rfl | rfl <;> decide
      · simp only [List.mem_cons, List.not_mem_nil, or_false] at ht
        subst ht
        exact lit_sm 1 (by decide) (by decide) (by decide +kernel) (by decide +kernel)
  · simp only [exQ, List.mem_cons, List.not_mem_nil, or_false] at ho
    subst ho
    exact ⟨by decide, lit_sm 2 (by decide) (by decide) (by decide +kernel) (by decide +kernel)⟩
theorem zero_at {w : World} : QyAt w (.slice none 0 0) (.slice none 0 0) exZ := ⟨⟨[], At.nil _ _ _, rfl, fun x hx => by simp at hx⟩, ⟨[], At.nil _ _ _, rfl, fun x hx => by simp at hx⟩, by decide, by decide⟩
abbrev litC (n : Int) : List Value := [.int .i64 0, .string e0, .int .i64 1, .int .i64 n, .string e0, .string e0, .string e0, nilk]
set_option maxRecDepth 20000 in
set_option maxHeartbeats 8000000 in
theorem examples_any (w : World) (hT : Tab w) :
    Calls Tryd.prog 7 #[] w fun e w' => e = .returned (.bool true) ∧ Below w.heap.size w w' := by
  have b0 := bt (ba w (.cells #[.string xA] 9)) (ba (w.alloc (.cells #[.string xA] 9)) (.cells #[.string xB, .string xC] 9))
  have B0 := (Blk.new w 9 #[.string xA]).later (ba (w.alloc (.cells #[.string xA] 9)) (.cells #[.string xB, .string xC] 9))
  have B1 := Blk.new (w.alloc (.cells #[.string xA] 9)) 9 #[.string xB, .string xC]
  rw [World.size_alloc] at B1
  have K := Lib.hid (And.intro B0 (And.intro B1 b0)); clear B0 B1 b0
  have HT := Lib.hid hT; clear hT
  go_enter Tryd.func7, Tryd.ntmps7
  go_wp2_with fail
  try go_at_call 14
  refine (lit_any 1 _).mono ?_
  rintro e w2 ⟨rfl, b2⟩
  have c2 := bt (ba w2 (.cells (litC 1).toArray 42)) (ba (w2.alloc (.cells (litC 1).toArray 42)) (.cells #[.bool false, .bool true, .slice (some ⟨w.heap.size, 0, none⟩) 1 1, .string xa, .slice none 0 0, .bool true, .bool false, .slice (some ⟨w.heap.size + 1, 0, none⟩) 2 2, .string xb, .slice (some ⟨w2.heap.size, 0, none⟩) 1 1] 37))
  have B2 := (Blk.new w2 42 (litC 1).toArray).later (ba (w2.alloc (.cells (litC 1).toArray 42)) (.cells #[.bool false, .bool true, .slice (some ⟨w.heap.size, 0, none⟩) 1 1, .string xa, .slice none 0 0, .bool true, .bool false, .slice (some ⟨w.heap.size + 1, 0, none⟩) 2 2, .string xb, .slice (some ⟨w2.heap.size, 0, none⟩) 1 1] 37))
  have B3 := Blk.new (w2.alloc (.cells (litC 1).toArray 42)) 37 #[.bool false, .bool true, .slice (some ⟨w.heap.size, 0, none⟩) 1 1, .string xa, .slice none 0 0, .bool true, .bool false, .slice (some ⟨w.heap.size + 1, 0, none⟩) 2 2, .string xb, .slice (some ⟨w2.heap.size, 0, none⟩) 1 1]
  rw [World.size_alloc] at B3
  have K2 := Lib.hid (And.intro ((K.out.1.later b2).later c2) (And.intro ((K.out.2.1.later b2).later c2) (And.intro B2 (And.intro B3 (bt (bt K.out.2.2 b2) c2))))); clear B2 B3 b2 c2 K
  go_wp2_with fail
  try go_at_call 14
  refine (lit_any 2 _).mono ?_
  rintro e w3 ⟨rfl, b3⟩
  have c3 := ba w3 (.cells (Value.string xx_ :: litC 2).toArray 45)
  have B4 := Blk.new w3 45 (Value.string xx_ :: litC 2).toArray
  obtain ⟨w4, hw4⟩ : ∃ w4, w4 = (w3.alloc (.cells (Value.string xx_ :: litC 2).toArray 45)).alloc (.cells #[.string xq, .bool false, .slice (some ⟨w2.heap.size + 1, 0, none⟩) 2 2, .int .i64 5, .string xk, .slice (some ⟨w3.heap.size, 0, none⟩) 1 1] 27) := ⟨_, rfl⟩
  have d3 := ba (w3.alloc (.cells (Value.string xx_ :: litC 2).toArray 45)) (.cells #[.string xq, .bool false, .slice (some ⟨w2.heap.size + 1, 0, none⟩) 2 2, .int .i64 5, .string xk, .slice (some ⟨w3.heap.size, 0, none⟩) 1 1] 27)
  have B5 := Blk.new (w3.alloc (.cells (Value.string xx_ :: litC 2).toArray 45)) 27 #[.string xq, .bool false, .slice (some ⟨w2.heap.size + 1, 0, none⟩) 2 2, .int .i64 5, .string xk, .slice (some ⟨w3.heap.size, 0, none⟩) 1 1]
  rw [World.size_alloc] at B5
  rw [← hw4] at d3 B5
  have e4 := bt c3 d3
  have A0 := (K2.out.1.later b3).later e4
  have A1 := (K2.out.2.1.later b3).later e4
  have A2 := (K2.out.2.2.1.later b3).later e4
  have A3 := (K2.out.2.2.2.1.later b3).later e4
  have A4 := B4.later d3
  have hPs : ∀ st, PtsAt w4 (.slice (some ⟨w2.heap.size + 1, 0, none⟩) 2 2) (exQ st).ps := fun st => by
    refine ⟨[(exP1, (some ⟨w.heap.size, 0, none⟩, 1, 1), (none, 0, 0)), (exP2, (some ⟨w.heap.size + 1, 0, none⟩, 2, 2), (some ⟨w2.heap.size, 0, none⟩, 1, 1))], at_blk (k := 5) (f := ptF) (fun _ => rfl) _ A3 rfl (by unfold maxLen; omega) rfl, rfl, fun x hx => ?_⟩
    simp only [List.mem_cons, List.not_mem_nil, or_false] at hx
    rcases hx with rfl | rfl
    · refine ⟨at_blk (k := 1) (f := scV) (fun _ => rfl) _ A0 rfl (show 1 ≤ maxLen by unfold maxLen; omega) rfl, ⟨[], At.nil _ _ _, rfl, fun x hx => by simp at hx⟩, (show xa.size ≤ maxLen by decide), fun s hs => ?_⟩
      simp only [exP1, List.mem_cons, List.not_mem_nil, or_false] at hs
      subst hs; decide
    · refine ⟨at_blk (k := 1) (f := scV) (fun _ => rfl) _ A1 rfl (show 2 ≤ maxLen by unfold maxLen; omega) rfl, ⟨[(.lit 1 1 e0, nilk)], at_blk (k := 8) (f := exF) (fun _ => rfl) _ A2 rfl (show 1 ≤ maxLen by unfold maxLen; omega) rfl, rfl, fun x hx => ?_⟩, (show xb.size ≤ maxLen by decide), fun s hs => ?_⟩
      · simp only [List.mem_cons, List.not_mem_nil, or_false] at hx
        subst hx; rfl
      · simp only [exP2, List.mem_cons, List.not_mem_nil, or_false] at hs
        rcases hs with rfl | rfl <;> decide
  have hOs : ∀ st, OtsAt w4 (.slice (some ⟨w3.heap.size, 0, none⟩) 1 1) (exQ st).os := fun st => by
    refine ⟨[(⟨xx_, .lit 1 2 e0⟩, nilk)], at_blk (k := 9) (f := otF) (fun _ => rfl) _ A4 rfl (by unfold maxLen; omega) rfl, rfl, fun x hx => ?_⟩
    simp only [List.mem_cons, List.not_mem_nil, or_false] at hx
    subst hx
    exact ⟨rfl, by decide⟩
  have hQ : ∀ st, QyAt w4 (.slice (some ⟨w2.heap.size + 1, 0, none⟩) 2 2) (.slice (some ⟨w3.heap.size, 0, none⟩) 1 1) (exQ st) := fun st => ⟨hPs st, hOs st, by show xq.size ≤ maxLen; decide, by show xk.size ≤ maxLen; decide⟩
  have b4 : Below w.heap.size w w4 := bt (bt K2.out.2.2.2.2 b3) e4
  have p5 := B5.cell
  have K4 := Lib.hid (And.intro hQ (And.intro B5 b4)); clear hQ B5 b4 hPs hOs A0 A1 A2 A3 A4 e4 d3 c3 B4 K2 b3
  have hh1 : w3.heap.size + 1 < w4.heap.size := K4.out.2.1.lt
  go_wp2_with fail
  try rw [← hw4]
  clear hw4
  try go_at_call 12
  refine (Inputs_any (exQ false) _ _ w4 (K4.out.1 false).1 (by simp [exQ]) (exQ_ok false).ns).mono ?_
  rintro e w5 ⟨r5, ⟨rfl, o5⟩, b5⟩
  rw [show inputs (exQ false).ps = [xA, xB, xC] from ex_inputs] at o5
  obtain ⟨rA, rc, hr, _, _, _⟩ := o5.shape
  change r5 = .slice rA 3 rc at hr
  subst hr
  obtain ⟨rg, rfl, _, _, _, oc⟩ := o5.cells (f := scV) (k := 1) (fun _ => rfl) rfl (by decide)
  have r0 := oc 0 (by decide) 0 _ rfl
  have r2 := oc 2 (by decide) 0 _ rfl
  simp only [Nat.zero_mul, Nat.add_zero, Nat.mul_one] at r0 r2
  clear p5
  have q5 := (K4.out.2.1.later b5).cell
  have c6 := ba w5 (.cells #[.string xq, .bool true, .slice (some ⟨w2.heap.size + 1, 0, none⟩) 2 2, .int .i64 5, .string xk, .slice (some ⟨w3.heap.size, 0, none⟩) 1 1] 27)
  have B6 := Blk.new w5 27 #[.string xq, .bool true, .slice (some ⟨w2.heap.size + 1, 0, none⟩) 2 2, .int .i64 5, .string xk, .slice (some ⟨w3.heap.size, 0, none⟩) 1 1]
  have hR := fun X (hX : Below w5.heap.size w5 X) => (⟨trivial, by rw [hX.cell (World.block_lt_of_cell? w5 _ r0)]; exact r0, by rw [hX.cell (World.block_lt_of_cell? w5 _ r2)]; exact r2⟩ : True ∧ X.cell? ⟨rg, 0, none⟩ = some (.string xA) ∧ X.cell? ⟨rg, 2, none⟩ = some (.string xC))
  go_upto_region 5 with fail
  obtain ⟨w6, hw6⟩ : ∃ w6, w6 = w5.alloc (.cells #[.string xq, .bool true, .slice (some ⟨w2.heap.size + 1, 0, none⟩) 2 2, .int .i64 5, .string xk, .slice (some ⟨w3.heap.size, 0, none⟩) 1 1] 27) := ⟨_, rfl⟩
  rw [← hw6] at c6 B6 ⊢
  clear hw6
  have K6 := Lib.hid (And.intro (fun st X (hX : Below w6.heap.size w6 X) => ((K4.out.1 st).later (bt b5 c6)).later hX) (And.intro ((K4.out.2.1.later b5).later c6) (And.intro B6 (And.intro (fun X (hX : Below w6.heap.size w6 X) => hR X (bt c6 hX)) (bt (bt K4.out.2.2 b5) c6)))))
  have BB := Lib.hid (Below.refl w6.heap.size w6)
  have pp := K6.out.2.1.cell
  have qq := K6.out.2.2.1.cell
  clear q5 c6 B6 hR oc o5 r0 r2 b5
  go_wp2_with fail
  refine (RightQ_any (exQ false) (.slice (some ⟨w2.heap.size + 1, 0, none⟩) 2 2) (.slice (some ⟨w3.heap.size, 0, none⟩) 1 1) _ (K6.out.1 false _ BB.out) (exQ_ok false)).mono ?_
  rintro e x10 ⟨rfl, b10⟩
  rw [show queryB (exQ false) = true from ex_right false]
  clear pp qq
  have pp := (K6.out.2.1.later (bt BB.out b10)).cell
  have qq := (K6.out.2.2.1.later (bt BB.out b10)).cell
  obtain ⟨_, r0, r2⟩ := K6.out.2.2.2.1 x10 (bt BB.out b10)
  replace BB := Lib.hid (bt BB.out b10); clear b10
  go_wp2_with fail
  clear r0 r2
  refine (PutQ_any (exQ false) (.slice (some ⟨w2.heap.size + 1, 0, none⟩) 2 2) (.slice (some ⟨w3.heap.size, 0, none⟩) 1 1) _ (K6.out.1 false _ BB.out) exQ_sm (HT.out.later (bt K6.out.2.2.2.2 BB.out))).mono ?_
  rintro e x11 ⟨rfl, b11⟩
  rw [ex_text, show (([113, 32, 61, 32, 65, 32, 97, 43, 32, 59, 32, 33, 66, 32, 124, 32, 67, 32, 98, 91, 49, 93, 32, 87, 73, 84, 72, 73, 78, 32, 53, 32, 66, 89, 32, 107, 32, 69, 77, 73, 84, 32, 120, 58, 32, 50] : List UInt8).toArray) = #[113, 32, 61, 32, 65, 32, 97, 43, 32, 59, 32, 33, 66, 32, 124, 32, 67, 32, 98, 91, 49, 93, 32, 87, 73, 84, 72, 73, 78, 32, 53, 32, 66, 89, 32, 107, 32, 69, 77, 73, 84, 32, 120, 58, 32, 50] from rfl]
  clear pp qq
  have pp := (K6.out.2.1.later (bt BB.out b11)).cell
  have qq := (K6.out.2.2.1.later (bt BB.out b11)).cell
  obtain ⟨_, r0, r2⟩ := K6.out.2.2.2.1 x11 (bt BB.out b11)
  replace BB := Lib.hid (bt BB.out b11); clear b11
  go_wp2_with fail
  clear r0 r2
  refine (Waits_any (exQ false) (.slice (some ⟨w2.heap.size + 1, 0, none⟩) 2 2) (.slice (some ⟨w3.heap.size, 0, none⟩) 1 1) _ (K6.out.1 false _ BB.out).1 (by simp [exQ])).mono ?_
  rintro e x12 ⟨rfl, b12⟩
  rw [show waits (exQ false).ps = true from rfl]
  clear pp qq
  have pp := (K6.out.2.1.later (bt BB.out b12)).cell
  have qq := (K6.out.2.2.1.later (bt BB.out b12)).cell
  obtain ⟨_, r0, r2⟩ := K6.out.2.2.2.1 x12 (bt BB.out b12)
  replace BB := Lib.hid (bt BB.out b12); clear b12
  go_wp2_with fail
  clear r0 r2
  refine (SameQ_any (exQ false) (exQ false) (.slice (some ⟨w2.heap.size + 1, 0, none⟩) 2 2) (.slice (some ⟨w3.heap.size, 0, none⟩) 1 1) (.slice (some ⟨w2.heap.size + 1, 0, none⟩) 2 2) (.slice (some ⟨w3.heap.size, 0, none⟩) 1 1) _ (K6.out.1 false _ BB.out) (K6.out.1 false _ BB.out) (exQ_ok false) (exQ_ok false)).mono ?_
  rintro e x13 ⟨rfl, b13⟩
  rw [show eqB (exQ false) (exQ false) = true from eqB_true rfl]
  clear pp qq
  have pp := (K6.out.2.1.later (bt BB.out b13)).cell
  have qq := (K6.out.2.2.1.later (bt BB.out b13)).cell
  obtain ⟨_, r0, r2⟩ := K6.out.2.2.2.1 x13 (bt BB.out b13)
  replace BB := Lib.hid (bt BB.out b13); clear b13
  go_wp2_with fail
  clear r0 r2
  refine (RightQ_any (exQ true) (.slice (some ⟨w2.heap.size + 1, 0, none⟩) 2 2) (.slice (some ⟨w3.heap.size, 0, none⟩) 1 1) _ (K6.out.1 true _ BB.out) (exQ_ok true)).mono ?_
  rintro e x14 ⟨rfl, b14⟩
  rw [show queryB (exQ true) = false from ex_right true]
  clear pp qq
  have pp := (K6.out.2.1.later (bt BB.out b14)).cell
  have qq := (K6.out.2.2.1.later (bt BB.out b14)).cell
  obtain ⟨_, r0, r2⟩ := K6.out.2.2.2.1 x14 (bt BB.out b14)
  replace BB := Lib.hid (bt BB.out b14); clear b14
  go_wp2_with fail
  clear r0 r2
  refine (SameQ_any (exQ false) (exQ true) (.slice (some ⟨w2.heap.size + 1, 0, none⟩) 2 2) (.slice (some ⟨w3.heap.size, 0, none⟩) 1 1) (.slice (some ⟨w2.heap.size + 1, 0, none⟩) 2 2) (.slice (some ⟨w3.heap.size, 0, none⟩) 1 1) _ (K6.out.1 false _ BB.out) (K6.out.1 true _ BB.out) (exQ_ok false) (exQ_ok true)).mono ?_
  rintro e x15 ⟨rfl, b15⟩
  rw [show eqB (exQ false) (exQ true) = false from eqB_false (fun h => by simp [exQ] at h)]
  clear pp qq
  have pp := (K6.out.2.1.later (bt BB.out b15)).cell
  have qq := (K6.out.2.2.1.later (bt BB.out b15)).cell
  obtain ⟨_, r0, r2⟩ := K6.out.2.2.2.1 x15 (bt BB.out b15)
  replace BB := Lib.hid (bt BB.out b15); clear b15
  go_wp2_with fail
  clear r0 r2
  refine (RightQ_any exZ (.slice none 0 0) (.slice none 0 0) _ zero_at exZ_ok).mono ?_
  rintro e x16 ⟨rfl, b16⟩
  rw [show queryB exZ = false from ex_zero]
  clear pp qq
  have pp := (K6.out.2.1.later (bt BB.out b16)).cell
  have qq := (K6.out.2.2.1.later (bt BB.out b16)).cell
  obtain ⟨_, r0, r2⟩ := K6.out.2.2.2.1 x16 (bt BB.out b16)
  replace BB := Lib.hid (bt BB.out b16); clear b16
  go_wp2_with fail
  clear r0 r2
  refine (Waits_any exZ (.slice none 0 0) (.slice none 0 0) _ zero_at.1 (by decide)).mono ?_
  rintro e x17 ⟨rfl, b17⟩
  rw [show waits exZ.ps = false from rfl]
  replace BB := Lib.hid (bt BB.out b17); clear b17
  go_wp2_with fail
  go_ret
  exact ⟨rfl, bt K6.out.2.2.2.2 BB.out⟩
end Go.Proofs.YtenmbahfgfmjjaaDoor
