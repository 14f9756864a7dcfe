/- The chapter's examples of reckon hold. -/
import Derived.Test.YtjddfjapopdciaaRkP
import Derived.Test.YtjddfjapopdciaaCells2
import Derived.Deep.RegionHeld3
namespace Go.Proofs.Ytjddfjapopdciaa
open Go.ChangeShapes Go.WideShapes Go.ChangeAt Go.RowKit
open Rk (inR)
set_option linter.unusedVariables false
set_option linter.unusedSimpArgs false

theorem At.blk {α : Type} {w : World} {g : Nat} {t : TypeId} {cs : Array Value} {k : Nat} {f : α → List Value} (hf : ∀ x, (f x).length = k) {l : List α} {n : Nat} (h : Blk w g t cs) (hn : n = l.length) (hc : cs.toList = l.flatMap f) (hm : n ≤ maxLen) : At w k f (.slice (some ⟨g, 0, none⟩) n n) l := by
  subst hn
  refine ⟨some ⟨g, 0, none⟩, l.length, rfl, Nat.le_refl _, hm, fun h => by simp at h, ?_⟩
  rintro a ha j hj i u hu
  obtain rfl := Option.some.inj ha
  refine blk_cells h _ u ?_
  have hi : i < k := by
    have := (List.getElem?_eq_some_iff.1 hu).1
    rw [hf] at this; exact this
  rw [hc, flat_get hf l j i hj hi]; exact hu
abbrev bA : ByteArray := ⟨#[97]⟩
abbrev bX : ByteArray := ⟨#[120]⟩
/-- The binds of the chapter's examples. -/
abbrev exB : List Bd := [(bA, [bX], [(0, [(1, 4, mt)]), (0, [(1, 6, mt)])])]
abbrev refC : Array Value := #[.int .i64 1, .string ⟨#[]⟩, .int .i64 0, .int .i64 0, .string ⟨#[]⟩, .string ⟨#[97]⟩, .string ⟨#[120]⟩, .slice none 0 0]
abbrev refV : Value := .agg #[.int .i64 1, .string ⟨#[]⟩, .int .i64 0, .int .i64 0, .string ⟨#[]⟩, .string ⟨#[97]⟩, .string ⟨#[120]⟩, .slice none 0 0]
abbrev cntV : Value := .agg #[.int .i64 2, .string ⟨#[]⟩, .int .i64 0, .int .i64 0, .string ⟨#[]⟩, .string ⟨#[97]⟩, .string ⟨#[]⟩, .slice none 0 0]
/-- What the examples keep. -/
def KX (w W : World) (L : Value) : Prop := Below w.heap.size w W ∧ Blk W w.heap.size 26 refC ∧ BdsAt W L exB
theorem KX.bel {w W : World} {L : Value} (h : KX w W L) : Below w.heap.size w W := h.1
theorem KX.bds {w W : World} {L : Value} (h : KX w W L) : BdsAt W L exB := h.2.2
theorem KX.ref {w W : World} {L : Value} (h : KX w W L) : ∀ j, W.cell? ⟨w.heap.size, j, none⟩ = refC[j]? := fun j => h.2.1.cell j
theorem KX.lt {w W : World} {L : Value} (h : KX w W L) : w.heap.size < W.heap.size := h.2.1.lt
theorem KX.go {w W W1 : World} {L : Value} (h : KX w W L) (hb : Below W.heap.size W W1) : KX w W1 L := ⟨bt h.1 hb, h.2.1.later hb, h.2.2.later hb⟩
theorem KX.new (w : World) : KX w ((((((w.alloc (.cells refC 26)).alloc (.cells #[.string ⟨#[120]⟩] 9)).alloc (.cells #[.int .i64 1, .int .i64 4, .string ⟨#[]⟩] 23)).alloc (.cells #[.int .i64 1, .int .i64 6, .string ⟨#[]⟩] 23)).alloc (.cells #[.int .i64 0, .slice (some ⟨w.heap.size + 1 + 1, 0, none⟩) 1 1, .int .i64 0, .slice (some ⟨w.heap.size + 1 + 1 + 1, 0, none⟩) 1 1] 62)).alloc (.cells #[.string ⟨#[97]⟩, .slice (some ⟨w.heap.size + 1, 0, none⟩) 1 1, .slice (some ⟨w.heap.size + 1 + 1 + 1 + 1, 0, none⟩) 2 2] 59))
    (.slice (some ⟨w.heap.size + 1 + 1 + 1 + 1 + 1, 0, none⟩) 1 1) := by
  have b0 := Blk.new w 26 refC
  generalize h0 : w.alloc (.cells refC 26) = W0 at *
  have s0 : W0.heap.size = w.heap.size + 1 := by rw [← h0]; simp
  have e0 : Below w.heap.size w W0 := by rw [← h0]; exact ba _ _
  clear h0
  have b1 := Blk.new W0 9 #[.string ⟨#[120]⟩]
  generalize h1 : W0.alloc (.cells #[.string ⟨#[120]⟩] 9) = W1 at *
  have s1 : W1.heap.size = w.heap.size + 1 + 1 := by rw [← h1]; simp [s0]
  have e1 : Below W0.heap.size W0 W1 := by rw [← h1]; exact ba _ _
  clear h1
  have b2 := Blk.new W1 23 #[.int .i64 1, .int .i64 4, .string ⟨#[]⟩]
  generalize h2 : W1.alloc (.cells #[.int .i64 1, .int .i64 4, .string ⟨#[]⟩] 23) = W2 at *
  have s2 : W2.heap.size = w.heap.size + 1 + 1 + 1 := by rw [← h2]; simp [s1]
  have e2 : Below W1.heap.size W1 W2 := by rw [← h2]; exact ba _ _
  clear h2
  have b3 := Blk.new W2 23 #[.int .i64 1, .int .i64 6, .string ⟨#[]⟩]
  generalize h3 : W2.alloc (.cells #[.int .i64 1, .int .i64 6, .string ⟨#[]⟩] 23) = W3 at *
  have s3 : W3.heap.size = w.heap.size + 1 + 1 + 1 + 1 := by rw [← h3]; simp [s2]
  have e3 : Below W2.heap.size W2 W3 := by rw [← h3]; exact ba _ _
  clear h3
  have b4 := Blk.new W3 62 #[.int .i64 0, .slice (some ⟨w.heap.size + 1 + 1, 0, none⟩) 1 1, .int .i64 0, .slice (some ⟨w.heap.size + 1 + 1 + 1, 0, none⟩) 1 1]
  generalize h4 : W3.alloc (.cells #[.int .i64 0, .slice (some ⟨w.heap.size + 1 + 1, 0, none⟩) 1 1, .int .i64 0, .slice (some ⟨w.heap.size + 1 + 1 + 1, 0, none⟩) 1 1] 62) = W4 at *
  have s4 : W4.heap.size = w.heap.size + 1 + 1 + 1 + 1 + 1 := by rw [← h4]; simp [s3]
  have e4 : Below W3.heap.size W3 W4 := by rw [← h4]; exact ba _ _
  clear h4
  have b5 := Blk.new W4 59 #[.string ⟨#[97]⟩, .slice (some ⟨w.heap.size + 1, 0, none⟩) 1 1, .slice (some ⟨w.heap.size + 1 + 1 + 1 + 1, 0, none⟩) 2 2]
  generalize h5 : W4.alloc (.cells #[.string ⟨#[97]⟩, .slice (some ⟨w.heap.size + 1, 0, none⟩) 1 1, .slice (some ⟨w.heap.size + 1 + 1 + 1 + 1, 0, none⟩) 2 2] 59) = W5 at *
  have e5 : Below W4.heap.size W4 W5 := by rw [← h5]; exact ba _ _
  clear h5
  rw [s0] at b1
  rw [s1] at b2
  rw [s2] at b3
  rw [s3] at b4
  rw [s4] at b5
  refine ⟨bt (bt (bt (bt (bt e0 e1) e2) e3) e4) e5, ((((b0.later e1).later e2).later e3).later e4).later e5, ?_⟩
  have a1 : At W5 1 sc (.slice (some ⟨w.heap.size + 1, 0, none⟩) 1 1) [bX] := At.blk (k := 1) (f := sc) (fun _ => rfl) ((((b1.later e2).later e3).later e4).later e5) rfl rfl (by decide)
  have a2 : At W5 3 vc (.slice (some ⟨w.heap.size + 1 + 1, 0, none⟩) 1 1) [(1, 4, mt)] := At.blk (k := 3) (f := vc) (fun _ => rfl) (((b2.later e3).later e4).later e5) rfl rfl (by decide)
  have a3 : At W5 3 vc (.slice (some ⟨w.heap.size + 1 + 1 + 1, 0, none⟩) 1 1) [(1, 6, mt)] := At.blk (k := 3) (f := vc) (fun _ => rfl) ((b3.later e4).later e5) rfl rfl (by decide)
  refine ⟨[(bA, (some ⟨w.heap.size + 1, 0, none⟩, 1, 1), (some ⟨w.heap.size + 1 + 1 + 1 + 1, 0, none⟩, 2, 2))], rfl, At.blk (k := 3) (f := bc) (fun _ => rfl) b5 rfl rfl (by show 1 ≤ maxLen; decide), ?_⟩
  intro i h h'
  obtain rfl : i = 0 := by simp at h; exact h
  refine ⟨rfl, a1, [(0, (some ⟨w.heap.size + 1 + 1, 0, none⟩, 1, 1)), (0, (some ⟨w.heap.size + 1 + 1 + 1, 0, none⟩, 1, 1))], rfl, At.blk (k := 2) (f := ec) (fun _ => rfl) (b4.later e5) rfl rfl (by show 2 ≤ maxLen; decide), ?_⟩
  intro j h2 h3
  have h2 : j < 2 := h2
  rcases (by omega : j = 0 ∨ j = 1) with rfl | rfl
  · exact ⟨rfl, a2⟩
  · exact ⟨rfl, a3⟩
abbrev resC : Array Value := #[.int .i64 1, .int .i64 8, .string ⟨#[]⟩]
/-- Behind the first answer. -/
def KY (w W : World) (L : Value) (g : Nat) : Prop := KX w W L ∧ Blk W g 23 resC
theorem KY.new {w W : World} {L : Value} (h : KX w W L) : KY w (W.alloc (.cells resC 23)) L W.heap.size := ⟨h.go (ba _ _), Blk.new W _ _⟩
theorem KY.go {w W W1 : World} {L : Value} {g : Nat} (h : KY w W L g) (hb : Below W.heap.size W W1) : KY w W1 L g := ⟨h.1.go hb, h.2.later hb⟩
theorem KY.drw {w W : World} {L : Value} {g : Nat} (h : KY w W L g) : KY w W.drew L g := h.go (below_drew (Below.refl _ _))
theorem KY.bel {w W : World} {L : Value} {g : Nat} (h : KY w W L g) : Below w.heap.size w W := h.1.1
theorem KY.bds {w W : World} {L : Value} {g : Nat} (h : KY w W L g) : BdsAt W L exB := h.1.2.2
theorem KY.held {w W : World} {L : Value} {g : Nat} (h : KY w W L g) : (∀ j, W.cell? ⟨w.heap.size, j, none⟩ = refC[j]?) ∧ (∀ j, W.cell? ⟨g, j, none⟩ = resC[j]?) := ⟨h.1.ref, fun j => h.2.cell j⟩
theorem exB_ok : okBds exB := by
  intro b hb
  simp only [exB, List.mem_singleton] at hb
  subst hb
  refine ⟨by decide, ?_⟩
  intro x hx v hv
  simp only [List.mem_cons, List.not_mem_nil, or_false] at hx
  rcases hx with rfl | rfl <;> (simp only [List.mem_cons, List.not_mem_nil, or_false] at hv; subst hv; exact ⟨by decide, by decide⟩)
abbrev bPl : ByteArray := ⟨#[43]⟩
abbrev bLs : ByteArray := ⟨#[60]⟩
abbrev tSum : Tr := .bin bPl (.ref bA bX) (.cnt bA)
abbrev tLess : Tr := .bin bLs (.ref bA bX) (.lit 1 7 mt)
theorem two_sum (W : World) : Calls Try.prog 32 #[.string ⟨#[43]⟩, refV, cntV] W fun e w' => IsTr tSum e w' ∧ Below W.heap.size W w' := two_tr bPl (.ref bA bX) (.cnt bA) nilk nilk W rfl rfl
theorem two_less (W : World) : Calls Try.prog 32 #[.string ⟨#[60]⟩, refV, ev 0 e0 1 7 e0 e0 e0 nilk] W fun e w' => IsTr tLess e w' ∧ Below W.heap.size W w' := two_tr bLs (.ref bA bX) (.lit 1 7 mt) nilk nilk W rfl rfl
theorem nameB_A : nameB bA = true := by kernel_rfl
theorem nameB_X : nameB bX = true := by kernel_rfl
theorem ok_sum : tSum.ok = true := by kernel_rfl
theorem ok_less : tLess.ok = true := by kernel_rfl
theorem ev_sum : evalT exB tSum = some (1, 8, mt) := by kernel_rfl
theorem ev_less : isYes (evalT exB tLess) = true := by kernel_rfl
theorem ev_ref : isYes (evalT exB (.ref bA bX)) = false := by kernel_rfl
theorem ev_none : evalT [] (.ref bA bX) = none := by kernel_rfl
theorem Reckon_sum (K L : Value) (W : World) (h : TrAt W tSum K) (hl : BdsAt W L exB) : Calls Try.prog 14 #[tSum.val K, L] W fun e w' => e = .returned (.tuple #[v3 (1, 8, mt), .bool true]) ∧ Below W.heap.size W w' := by
  have := Reckon_tr tSum K L exB W h ok_sum ⟨trivial, trivial⟩ hl exB_ok
  rw [ev_sum] at this; exact this
theorem Reckon_none (W : World) : Calls Try.prog 14 #[refV, .slice none 0 0] W fun e w' => e = .returned (.tuple #[v3 (0, 0, mt), .bool false]) ∧ Below W.heap.size W w' := by
  have := Reckon_tr (.ref bA bX) nilk (.slice none 0 0) [] W rfl (by kernel_rfl) trivial (BdsAt.nil W) (fun b hb => by simp at hb)
  rw [ev_none] at this; exact this
theorem Holds_less (K L : Value) (W : World) (h : TrAt W tLess K) (hl : BdsAt W L exB) : Calls Try.prog 18 #[tLess.val K, L] W fun e w' => e = .returned (.bool true) ∧ Below W.heap.size W w' := by
  have := Holds_tr tLess K L exB W h ok_less ⟨trivial, by show inR 7; decide⟩ hl exB_ok
  rw [ev_less] at this; exact this
theorem Holds_ref (L : Value) (W : World) (hl : BdsAt W L exB) : Calls Try.prog 18 #[refV, L] W fun e w' => e = .returned (.bool false) ∧ Below W.heap.size W w' := by
  have := Holds_tr (.ref bA bX) nilk L exB W rfl (by kernel_rfl) trivial hl exB_ok
  rw [ev_ref] at this; exact this
set_option maxHeartbeats 4000000 in
theorem examples_any (w : World) : Calls Try.prog 11 #[] w fun e w' => e = .returned (.bool true) ∧ Below w.heap.size w w' := by
  have K := Lib.hid (KX.new w)
  go_enter Try.func11, Try.ntmps11
  go_wp2_with (first
    | (go_at_call 30; ((with_reducible refine (Rem_ok _ _ _ (by decide)).mono ?_); rintro e w1 ⟨rfl, rfl⟩))
    | (go_at_call 28; ((with_reducible refine (Div_no _ _ _ (Or.inl rfl)).mono ?_); rintro e w1 ⟨rfl, rfl⟩))
    | (go_at_call 22; ((with_reducible refine (Add_no _ _ _ (by decide) (by decide) (by decide)).mono ?_); rintro e w1 ⟨rfl, rfl⟩)))
  generalize hW : (World.alloc (World.alloc (World.alloc (World.alloc (World.alloc (World.alloc w _) _) _) _) _) _) = W at *
  generalize hL : (Value.slice (some ⟨w.heap.size + 1 + 1 + 1 + 1 + 1, 0, none⟩) 1 1) = L at *
  clear hW hL
  go_wp2_with (first
    | (go_at_call 32; ((with_reducible refine (two_sum _).mono ?_); rintro e w1 ⟨⟨kk, rfl, hT⟩, hb⟩; have HT := Lib.hid hT; clear hT; replace K := Lib.hid (K.out.go hb); clear hb; have p0 := K.out.ref))
    | (go_at_call 14; ((with_reducible refine (Reckon_sum _ _ _ HT.out K.out.bds).mono ?_); rintro e w1 ⟨rfl, hb⟩; replace K := Lib.hid (K.out.go hb); clear hb p0; have p0 := K.out.ref; have hz := K.out.lt))
    | (go_at_call 14; ((with_reducible refine (Reckon_none _).mono ?_); rintro e w2 ⟨rfl, hb⟩; have Y := Lib.hid (((KY.new K.out).go hb).go (ba _ (.cells #[.int .i64 0, .int .i64 0, .string ⟨#[]⟩] 23))); clear hb p0 hz K)))
  generalize w2.alloc _ = W2 at *
  generalize w1.heap.size = g at *
  go_region_held3 (fun w' => (∀ j, w'.cell? ⟨w.heap.size, j, none⟩ = refC[j]?) ∧ (∀ j, w'.cell? ⟨g, j, none⟩ = resC[j]?)) (first | exact Y.out.held | exact Y.out.drw.held | go_keep) (first
    | (go_at_call 33; ((with_reducible refine (lit_any _ _).mono ?_); rintro e w1 ⟨rfl, hb⟩; (first | replace Y := Lib.hid (Y.out.go hb) | replace Y := Lib.hid (Y.out.drw.go hb)); clear hb))
    | (go_at_call 32; ((with_reducible refine (two_less _).mono ?_); rintro e w1 ⟨⟨kk, rfl, hT⟩, hb⟩; have HT2 := Lib.hid hT; clear hT; (first | replace Y := Lib.hid (Y.out.go hb) | replace Y := Lib.hid (Y.out.drw.go hb)); clear hb))
    | (go_at_call 18; ((with_reducible refine (Holds_less _ _ _ HT2.out Y.out.bds).mono ?_); rintro e w1 ⟨rfl, hb⟩; (first | replace Y := Lib.hid (Y.out.go hb) | replace Y := Lib.hid (Y.out.drw.go hb)); clear hb))
    | (go_at_call 18; ((with_reducible refine (Holds_ref _ _ Y.out.bds).mono ?_); rintro e w1 ⟨rfl, hb⟩; (first | replace Y := Lib.hid (Y.out.go hb) | replace Y := Lib.hid (Y.out.drw.go hb)); clear hb)))
  go_wp2
  go_ret
  exact ⟨rfl, Y.out.bel⟩
end Go.Proofs.Ytjddfjapopdciaa
