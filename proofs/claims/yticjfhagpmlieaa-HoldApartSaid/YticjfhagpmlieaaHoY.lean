/- Chapter 14's law: two holds beside one another. -/
import Derived.Test.YticjfhagpmlieaaOpenAH
import Derived.Test.YticjfhagpmlieaaAppLoc
namespace Go.Proofs.Yticjfhagpmlieaa
open Go.ChangeShapes Go.WideShapes Go.ChangeAt Go.RowKit
open Ho
set_option linter.unusedVariables false
set_option linter.unusedSimpArgs false

/-- The blocks of a Hold that are written. -/
def Bl (d : Nat) (v : Value) (k : Nat) : Prop := k = d ∨ v.ownBlock = some k
theorem HAt.lt {w : World} {B d : Nat} {v : Value} {l : List Wy} (h : HAt w B d v l) {k : Nat} (hk : Bl d v k) : k < w.heap.size := by
  rcases hk with rfl | hk
  · exact h.blk.lt
  · obtain ⟨_, cs, hc⟩ := h.row.block hk
    exact (Array.getElem?_eq_some_iff.1 hc).1
theorem HAt.kept {w w' : World} {B d : Nat} {v : Value} {l : List Wy} (h : HAt w B d v l) (hF : FrH w w') (hk : ∀ k, Bl d v k → w'.heap[k]? = w.heap[k]?) : HAt w' B d v l :=
  ⟨h.low, (hk d (Or.inl rfl)).trans h.blk, h.row.same (fun g hg => hk g (Or.inr hg)), fun y hy => (h.pts y hy).frm hF, h.fit⟩
/-- Two Holds that have no block in common, beside blocks Z that are none of theirs. -/
def Two (Z : Nat → Prop) (w W : World) (d1 d2 : Nat) (T1 T2 : List D) : Prop :=
  ∃ B1 B2 v1 v2 l1 l2, HAt W B1 d1 v1 l1 ∧ HAt W B2 d2 v2 l2 ∧ (l1.map (·.1) = T1 ∧ Sorted T1 ∧ T1.length ≤ 1000) ∧ (l2.map (·.1) = T2 ∧ Sorted T2 ∧ T2.length ≤ 1000) ∧ (∀ k, Bl d1 v1 k → ¬ Bl d2 v2 k) ∧
    (∀ k, Z k → ¬ Bl d1 v1 k ∧ ¬ Bl d2 v2 k ∧ k < W.heap.size) ∧ w.heap.size ≤ B1 ∧ w.heap.size ≤ B2 ∧ Below w.heap.size w W
theorem Two.bel {Z : Nat → Prop} {w W : World} {d1 d2 : Nat} {T1 T2 : List D} (h : Two Z w W d1 d2 T1 T2) : Below w.heap.size w W := by
  obtain ⟨B1, B2, v1, v2, l1, l2, g1, g2, m1, m2, hd, hz, b1, b2, hb⟩ := h
  exact hb
theorem Two.swap {Z : Nat → Prop} {w W : World} {d1 d2 : Nat} {T1 T2 : List D} (h : Two Z w W d1 d2 T1 T2) : Two Z w W d2 d1 T2 T1 := by
  obtain ⟨B1, B2, v1, v2, l1, l2, g1, g2, m1, m2, hd, hz, b1, b2, hb⟩ := h
  exact ⟨B2, B1, v2, v1, l2, l1, g2, g1, m2, m1, fun k h2 h1 => hd k h1 h2, fun k hk => ⟨(hz k hk).2.1, (hz k hk).1, (hz k hk).2.2⟩, b2, b1, hb⟩
theorem Two.later {Z : Nat → Prop} {w W W' : World} {d1 d2 : Nat} {T1 T2 : List D} (h : Two Z w W d1 d2 T1 T2) (hb' : Below W.heap.size W W') : Two Z w W' d1 d2 T1 T2 := by
  obtain ⟨B1, B2, v1, v2, l1, l2, g1, g2, m1, m2, hd, hz, b1, b2, hb⟩ := h
  exact ⟨B1, B2, v1, v2, l1, l2, g1.later hb', g2.later hb', m1, m2, hd, fun k hk => ⟨(hz k hk).1, (hz k hk).2.1, Nat.lt_of_lt_of_le (hz k hk).2.2 hb'.size⟩, b1, b2, bt hb hb'⟩
theorem Two.fst {Z : Nat → Prop} {w W : World} {d1 d2 : Nat} {T1 T2 : List D} (h : Two Z w W d1 d2 T1 T2) :
    ∃ B1 v2, HX (fun k => Z k ∨ Bl d2 v2 k) W B1 d1 T1 ∧ ((∀ k, Bl d2 v2 k → k < W.heap.size) ∧ ∀ k, Z k → ¬ Bl d2 v2 k) ∧ ∀ (W' : World) (T1' : List D) (Y Z' : Nat → Prop), HX Y W' B1 d1 T1' → (∀ k, Bl d2 v2 k → Y k) → (∀ k, Z' k → Y k ∧ ¬ Bl d2 v2 k) → Hc (fun k => Z k ∨ Bl d2 v2 k) B1 W W' → Two Z' w W' d1 d2 T1' T2 := by
  obtain ⟨B1, B2, v1, v2, l1, l2, g1, g2, m1, m2, hd, hz, b1, b2, hb⟩ := h
  refine ⟨B1, v2, ⟨v1, l1, g1, m1.1, m1.2.1, m1.2.2, ?_, fun g hg => ?_, fun k hk => ?_⟩, ⟨fun k hk => g2.lt hk, fun k hk => (hz k hk).2.1⟩, fun W' T1' Y Z' hx hY hZ hc => ?_⟩
  · rintro (h | h)
    · exact (hz _ h).1 (Or.inl rfl)
    · exact hd _ (Or.inl rfl) h
  · rintro (h | h)
    · exact (hz _ h).1 (Or.inr hg)
    · exact hd _ (Or.inr hg) h
  · rcases hk with h | h
    · exact (hz _ h).2.2
    · exact g2.lt h
  · obtain ⟨v, l, q1, q2, q3, q4, q5, q6, q7⟩ := hx
    refine ⟨B1, B2, v, v2, l, l2, q1, g2.kept hc.frm (fun k hk => hc.keep k (Or.inr hk)), ⟨q2, q3, q4⟩, m2, fun k h1 h2 => ?_, fun k hk => ⟨fun h1 => ?_, (hZ k hk).2, q7 k (hZ k hk).1⟩, b1, b2, hb.trans (hc.bel.mono b1)⟩
    · rcases h1 with rfl | h1
      · exact q5 (hY _ h2)
      · exact q6 k h1 (hY _ h2)
    · rcases h1 with rfl | h1
      · exact q5 (hZ _ hk).1
      · exact q6 k h1 (hZ _ hk).1
theorem Two.mk' {w W W' : World} {d1 d2 : Nat} {T1 T2 : List D} (h1 : HX (fun _ => False) W w.heap.size d1 T1) (hb : Below w.heap.size w W) (h2 : HX (fun _ => False) W' W.heap.size d2 T2) (hb2 : Below W.heap.size W W') : Two (fun _ => False) w W' d1 d2 T1 T2 := by
  obtain ⟨v, l, q1, q2, q3, q4, q5, q6, q7⟩ := h1
  obtain ⟨v', l', r1, r2, r3, r4, r5, r6, r7⟩ := h2
  refine ⟨w.heap.size, W.heap.size, v, v', l, l', q1.later hb2, r1, ⟨q2, q3, q4⟩, ⟨r2, r3, r4⟩, fun k h1 h2 => ?_, fun k hk => hk.elim, Nat.le_refl _, hb.size, bt hb hb2⟩
  have := q1.lt h1
  rcases h2 with rfl | h2
  · have := r1.low; omega
  · have := (r1.row.block h2).1; omega
theorem Two.grown {Z : Nat → Prop} {w W W' : World} {d1 d2 g : Nat} {T1 T2 : List D} (h : Two Z w W d1 d2 T1 T2) (hz : Z g) (hg : W.grownBy W' (some g)) (hw : w.heap.size ≤ g) (hc : ∃ cs, W.heap[g]? = some (.cells cs 35 (0, 0))) : Two Z w W' d1 d2 T1 T2 := by
  obtain ⟨B1, B2, v1, v2, l1, l2, g1, g2, m1, m2, hd, hZ, b1, b2, hb⟩ := h
  have hF : FrH W W' := Frm.grown hg (fun q hq => by
    have e : g = q := by simpa using hq
    rw [← e]; exact hc)
  have hB : Below w.heap.size W W' := grownBy_below hg hb.size (fun q hq => by
    have e : g = q := by simpa using hq
    rw [← e]; exact hw)
  refine ⟨B1, B2, v1, v2, l1, l2, g1.kept hF (fun k hk => hg.block k (g1.lt hk) (fun e => ?_)), g2.kept hF (fun k hk => hg.block k (g2.lt hk) (fun e => ?_)), m1, m2, hd, fun k hk => ⟨(hZ k hk).1, (hZ k hk).2.1, Nat.lt_of_lt_of_le (hZ k hk).2.2 hg.size⟩, b1, b2, hb.trans hB⟩
  · obtain rfl : k = g := by simpa using e
    exact (hZ _ hz).1 hk
  · obtain rfl : k = g := by simpa using e
    exact (hZ _ hz).2.1 hk
/-- A box is made. -/
theorem Two.box {Z : Nat → Prop} {w W : World} {d1 d2 : Nat} {T1 T2 : List D} (h : Two Z w W d1 d2 T1 T2) (o : Obj) : Two (fun k => Z k ∨ k = W.heap.size) w (W.alloc o) d1 d2 T1 T2 := by
  obtain ⟨B1, B2, v1, v2, l1, l2, g1, g2, m1, m2, hd, hz, b1, b2, hb⟩ := h
  refine ⟨B1, B2, v1, v2, l1, l2, g1.later (ba W o), g2.later (ba W o), m1, m2, hd, fun k hk => ?_, b1, b2, bt hb (ba W o)⟩
  rcases hk with h | rfl
  · obtain ⟨a, b, c⟩ := hz k h
    exact ⟨a, b, by rw [World.size_alloc]; omega⟩
  · exact ⟨fun h => absurd (g1.lt h) (Nat.lt_irrefl _), fun h => absurd (g2.lt h) (Nat.lt_irrefl _), by rw [World.size_alloc]; omega⟩
theorem Two.hx {Z : Nat → Prop} {w W : World} {d1 d2 : Nat} {T1 T2 : List D} (h : Two Z w W d1 d2 T1 T2) : ∃ X B, HX X W B d1 T1 := by
  obtain ⟨B1, v2, hx, _⟩ := h.fst
  exact ⟨_, _, hx⟩
theorem Two.hx2 {Z : Nat → Prop} {w W : World} {d1 d2 : Nat} {T1 T2 : List D} (h : Two Z w W d1 d2 T1 T2) : ∃ X B, HX X W B d2 T2 := h.swap.hx
theorem Two.len {Z : Nat → Prop} {w W : World} {d1 d2 : Nat} {T1 T2 : List D} (h : Two Z w W d1 d2 T1 T2) : T1.length ≤ 1000 ∧ T2.length ≤ 1000 := by
  obtain ⟨B1, B2, v1, v2, l1, l2, g1, g2, m1, m2, _⟩ := h
  exact ⟨m1.2.2, m2.2.2⟩
/-- Len and At, by what a law keeps. -/
theorem Two.len1 {Z : Nat → Prop} {w W : World} {d1 d2 : Nat} {T1 T2 : List D} (h : Two Z w W d1 d2 T1 T2) : Calls Try.prog 21 #[.pointer (some ⟨d1, 0, none⟩)] W fun e w' => e = .returned (.int .i64 (T1.length : Int)) ∧ Below W.heap.size W w' := by
  obtain ⟨X, B, hx⟩ := h.hx
  exact Len_any X B d1 T1 W hx
theorem Two.at1 {Z : Nat → Prop} {w W : World} {d1 d2 : Nat} {T1 T2 : List D} (h : Two Z w W d1 d2 T1 T2) (k : Nat) (hk : k < T1.length) : Calls Try.prog 22 #[.pointer (some ⟨d1, 0, none⟩), .int .i64 (k : Int)] W (AtY (T1[k]'hk) W) := by
  obtain ⟨X, B, hx⟩ := h.hx
  exact At_in X B d1 T1 k hk W hx
theorem Two.cut1 {Z : Nat → Prop} {w W : World} {d1 d2 : Nat} {T1 T2 : List D} (h : Two Z w W d1 d2 T1 T2) (k : Nat) (hk : k < T1.length) : Calls Try.prog 13 #[.pointer (some ⟨d1, 0, none⟩), .int .i64 (k : Int)] W fun e w' => e = .returned (.bool true) ∧ Two Z w w' d1 d2 (T1.eraseIdx k) T2 := by
  obtain ⟨B1, v2, hx, hl, hgo⟩ := h.fst
  refine (Cut_in _ B1 d1 T1 k hk W hx).mono ?_
  rintro e w' ⟨rfl, hX, hc⟩
  exact ⟨rfl, hgo w' _ _ Z hX (fun k hk => Or.inr hk) (fun k hk => ⟨Or.inl hk, hl.2 k hk⟩) hc⟩
theorem Two.cut0 {Z : Nat → Prop} {w W : World} {d1 d2 : Nat} {T1 T2 : List D} (h : Two Z w W d1 d2 T1 T2) (i : Int) (hi : i < 0 ∨ (T1.length : Int) ≤ i) : Calls Try.prog 13 #[.pointer (some ⟨d1, 0, none⟩), .int .i64 i] W fun e w' => e = .returned (.bool false) ∧ Two Z w w' d1 d2 T1 T2 := by
  obtain ⟨B1, v2, hx, hl, hgo⟩ := h.fst
  refine (Cut_out _ B1 d1 T1 i hi W hx).mono ?_
  rintro e w' ⟨rfl, hX, hc⟩
  exact ⟨rfl, hgo w' _ _ Z hX (fun k hk => Or.inr hk) (fun k hk => ⟨Or.inl hk, hl.2 k hk⟩) hc⟩
/-- A row of waits that a law holds: made behind w, none of the Holds'. -/
def Row (w W : World) (v : Value) (T : List D) : Prop := ∃ (l : List Wy) (B : Nat), Own W w.heap.size 35 3 rowW v l ∧ l.map (·.1) = T ∧ ∀ y ∈ l, PtsO W B (sl y.2) y.1.2.1
theorem Row.later {w W W' : World} {v : Value} {T : List D} (h : Row w W v T) (hb : Below W.heap.size W W') : Row w W' v T := by
  obtain ⟨l, B, h1, h2, h3⟩ := h
  exact ⟨l, B, h1.later hb, h2, fun y hy => (h3 y hy).later hb⟩
theorem Row.reads {w W : World} {v : Value} {T : List D} (h : Row w W v T) : Reads W v T := by
  obtain ⟨l, B, h1, h2, h3⟩ := h
  exact ⟨l, Own.at_ (f := rowW) (k := 3) (fun _ => rfl) h1, h2, fun y hy => (h3 y hy).pts⟩
theorem Row.kept {w W W' : World} {v : Value} {T : List D} (h : Row w W v T) (hF : FrH W W') (hk : ∀ k, v.ownBlock = some k → W'.heap[k]? = W.heap[k]?) : Row w W' v T := by
  obtain ⟨l, B, h1, h2, h3⟩ := h
  exact ⟨l, B, h1.same hk, h2, fun y hy => (h3 y hy).frm hF⟩
def DueP (Z : Nat → Prop) (w : World) (d1 d2 : Nat) (T1 S1 T2 : List D) (W : World) (e : Ending) (w' : World) : Prop := ∃ v, (e = .returned v ∧ Row w w' v T1 ∧ Two (fun k => Z k ∨ v.ownBlock = some k) w w' d1 d2 S1 T2) ∧ FrH W w' ∧ ∀ k, Z k → w'.heap[k]? = W.heap[k]?
theorem Two.first1 {Z : Nat → Prop} {w W : World} {d1 d2 : Nat} {T1 T2 O S : List D} (h : Two Z w W d1 d2 T1 T2) {f : Nat} {args : Array Value} (hC : ∀ X B, HX X W B d1 T1 → Calls Try.prog f args W (FirstP X B d1 O S W)) : Calls Try.prog f args W (DueP Z w d1 d2 O S T2 W) := by
  have hbel := h.bel
  obtain ⟨B1, v2, hx, hl, hgo⟩ := h.fst
  refine (hC _ _ hx).mono ?_
  rintro e w' ⟨v, ⟨rfl, ⟨l, o1, o2, o3⟩, hX⟩, hc⟩
  refine ⟨v, ⟨rfl, ⟨l, B1, o1.lift hbel.size, o2, o3⟩, hgo w' _ _ _ hX (fun k hk => Or.inl (Or.inr hk)) (fun k hk => ?_) hc⟩, hc.frm, fun k hk => hc.keep k (Or.inl hk)⟩
  rcases hk with hk | hk
  · exact ⟨Or.inl (Or.inl hk), hl.2 k hk⟩
  · refine ⟨Or.inr hk, fun hb => ?_⟩
    have := (o1.block hk).1
    have := hl.1 k hb
    omega
theorem Two.due1 {Z : Nat → Prop} {w W : World} {d1 d2 : Nat} {T1 T2 : List D} (h : Two Z w W d1 d2 T1 T2) (now : Int) : Calls Try.prog 16 #[.pointer (some ⟨d1, 0, none⟩), .int .i64 now] W (DueP Z w d1 d2 (T1.take (dpos now T1)) (T1.drop (dpos now T1)) T2 W) :=
  h.first1 fun X B hx => Due_any X B d1 T1 now W hx
theorem Two.all1 {Z : Nat → Prop} {w W : World} {d1 d2 : Nat} {T1 T2 : List D} (h : Two Z w W d1 d2 T1 T2) : Calls Try.prog 19 #[.pointer (some ⟨d1, 0, none⟩)] W (DueP Z w d1 d2 T1 [] T2 W) :=
  h.first1 fun X B hx => All_any X B d1 T1 W hx
theorem grown_none {w w' : World} (h : w.grownBy w' none) : Below w.heap.size w w' := grownBy_below h (Nat.le_refl _) (fun k hk => by simp at hk)
/-- Behind an append onto a row of the law's. -/
theorem Two.app {Z : Nat → Prop} {w W W' : World} {d1 d2 : Nat} {T1 T2 : List D} (h : Two Z w W d1 d2 T1 T2) {v v' : Value} {l l' : List Wy} (hO : Own W w.heap.size 35 3 rowW v l) (hz : ∀ k, v.ownBlock = some k → Z k) (hg : W.grownBy W' v.ownBlock) (hO' : Own W' w.heap.size 35 3 rowW v' l') (hq : ∀ x, v'.ownBlock = some x → v.ownBlock = some x ∨ W.heap.size ≤ x) :
    Two (fun k => Z k ∨ v'.ownBlock = some k) w W' d1 d2 T1 T2 ∧ FrH W W' := by
  have hF : FrH W W' := Frm.grown hg (fun q hq => (hO.block hq).2)
  obtain ⟨B1, B2, v1, v2, l1, l2, g1, g2, m1, m2, hd, hZ, b1, b2, hb⟩ := h
  have hK : ∀ k, k < W.heap.size → (v.ownBlock = some k → False) → W'.heap[k]? = W.heap[k]? := fun k hk hn => hg.block k hk (fun e => hn e.symm)
  have hB : Below w.heap.size W W' := grownBy_below hg hb.size (fun q hq => (hO.block hq).1)
  refine ⟨⟨B1, B2, v1, v2, l1, l2, g1.kept hF (fun k hk => hK k (g1.lt hk) (fun e => (hZ k (hz k e)).1 hk)), g2.kept hF (fun k hk => hK k (g2.lt hk) (fun e => (hZ k (hz k e)).2.1 hk)), m1, m2, hd, fun k hk => ?_, b1, b2, hb.trans hB⟩, hF⟩
  rcases hk with hk | hk
  · exact ⟨(hZ k hk).1, (hZ k hk).2.1, Nat.lt_of_lt_of_le (hZ k hk).2.2 hg.size⟩
  · rcases hq k hk with h1 | h1
    · exact ⟨(hZ k (hz k h1)).1, (hZ k (hz k h1)).2.1, Nat.lt_of_lt_of_le (hZ k (hz k h1)).2.2 hg.size⟩
    · refine ⟨fun h => ?_, fun h => ?_, ?_⟩
      · have := g1.lt h; omega
      · have := g2.lt h; omega
      · obtain ⟨_, cs, hc⟩ := hO'.block hk
        exact (Array.getElem?_eq_some_iff.1 hc).1
end Go.Proofs.Yticjfhagpmlieaa
