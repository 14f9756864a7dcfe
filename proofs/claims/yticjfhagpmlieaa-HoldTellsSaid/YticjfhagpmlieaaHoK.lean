/- Waits that are held: New, Len, At. -/
import Derived.Test.YticjfhagpmlieaaHoJ
namespace Go.Proofs.Yticjfhagpmlieaa
open Go.ChangeShapes Go.WideShapes Go.ChangeAt Go.RowKit
open Ho
set_option linter.unusedVariables false
set_option linter.unusedSimpArgs false

/-- A Hold of these, beside blocks X that are none of its. -/
def HX (X : Nat → Prop) (w : World) (B d : Nat) (T : List D) : Prop :=
  ∃ v l, HAt w B d v l ∧ l.map (·.1) = T ∧ Sorted T ∧ T.length ≤ 1000 ∧ ¬ X d ∧ (∀ g, v.ownBlock = some g → ¬ X g) ∧ ∀ k, X k → k < w.heap.size
/-- What a call on a Hold leaves of all else. -/
structure Hc (X : Nat → Prop) (B : Nat) (w w' : World) : Prop where
  bel : Below B w w'
  frm : FrH w w'
  keep : ∀ k, X k → w'.heap[k]? = w.heap[k]?
theorem Hc.refl (X : Nat → Prop) (B : Nat) (w : World) : Hc X B w w := ⟨Below.refl _ _, Frm.refl _ _ _, fun _ _ => rfl⟩
theorem Hc.trans {X : Nat → Prop} {B : Nat} {a b c : World} (h : Hc X B a b) (k : Hc X B b c) : Hc X B a c := ⟨h.bel.trans k.bel, h.frm.trans k.frm, fun q hq => (k.keep q hq).trans (h.keep q hq)⟩
theorem HX.later {X : Nat → Prop} {w w' : World} {B d : Nat} {T : List D} (h : HX X w B d T) (hb : Below w.heap.size w w') : HX X w' B d T := by
  obtain ⟨v, l, h1, h2, h3, h4, h5, h6, h7⟩ := h
  exact ⟨v, l, h1.later hb, h2, h3, h4, h5, h6, fun k hk => Nat.lt_of_lt_of_le (h7 k hk) hb.size⟩
theorem HX.low' {X : Nat → Prop} {w : World} {B d : Nat} {T : List D} (h : HX X w B d T) : B ≤ w.heap.size := by
  obtain ⟨v, l, h1, _⟩ := h
  exact h1.low'
theorem HX.len {X : Nat → Prop} {w : World} {B d : Nat} {T : List D} (h : HX X w B d T) : T.length ≤ 1000 := by
  obtain ⟨v, l, h1, h2, h3, h4, _⟩ := h
  exact h4
theorem HX.sorted {X : Nat → Prop} {w : World} {B d : Nat} {T : List D} (h : HX X w B d T) : Sorted T := by
  obtain ⟨v, l, h1, h2, h3, h4, _⟩ := h
  exact h3
theorem HX.hc {X : Nat → Prop} {w w' : World} {B d : Nat} {T : List D} (h : HX X w B d T) (hb : Below w.heap.size w w') : Hc X B w w' := by
  have hB := h.low'
  obtain ⟨v, l, h1, h2, h3, h4, h5, h6, h7⟩ := h
  exact ⟨hb.mono hB, Frm.below hb, fun k hk => hb.block k (h7 k hk)⟩
/-- One more block that is none of its. -/
theorem HX.add {X : Nat → Prop} {w : World} {B d : Nat} {T : List D} (h : HX X w B d T) (o : Obj) : HX (fun k => X k ∨ k = w.heap.size) (w.alloc o) B d T := by
  obtain ⟨v, l, h1, h2, h3, h4, h5, h6, h7⟩ := h
  refine ⟨v, l, h1.later (ba w o), h2, h3, h4, ?_, fun g hg => ?_, fun k hk => ?_⟩
  · rintro (h | h)
    · exact h5 h
    · have := h1.blk.lt; omega
  · have hlt : g < w.heap.size := by
      obtain ⟨_, cs, hc⟩ := h1.row.block hg
      exact (Array.getElem?_eq_some_iff.1 hc).1
    rintro (h | h)
    · exact h6 g hg h
    · omega
  · rw [World.size_alloc]
    rcases hk with h | h
    · have := h7 k h; omega
    · omega
theorem HX.less {X Y : Nat → Prop} {w : World} {B d : Nat} {T : List D} (h : HX X w B d T) (hY : ∀ k, Y k → X k) : HX Y w B d T := by
  obtain ⟨v, l, h1, h2, h3, h4, h5, h6, h7⟩ := h
  exact ⟨v, l, h1, h2, h3, h4, fun hy => h5 (hY _ hy), fun g hg hy => h6 g hg (hY _ hy), fun k hk => h7 k (hY k hk)⟩
theorem New_any (w : World) : Calls Try.prog 9 #[] w fun e w' => e = .returned (.pointer (some ⟨w.heap.size, 0, none⟩)) ∧ HX (fun _ => False) w' w.heap.size w.heap.size [] ∧ Below w.heap.size w w' := by
  go_enter Try.func9, Try.ntmps9
  go_wp2
  go_ret
  exact ⟨rfl, ⟨.slice none 0 0, [], ⟨Nat.le_refl _, Blk.new w _ _, Own.nil _ _ _ _ _, fun y hy => (List.not_mem_nil hy).elim, fun y hy => (List.not_mem_nil hy).elim⟩, rfl, sorted_nil, by simp, fun h => h, fun g hg h => h, fun k h => h.elim⟩, ba _ _⟩
theorem Len_any (X : Nat → Prop) (B d : Nat) (T : List D) (w : World) (h : HX X w B d T) :
    Calls Try.prog 21 #[.pointer (some ⟨d, 0, none⟩)] w fun e w' => e = .returned (.int .i64 (T.length : Int)) ∧ Below w.heap.size w w' := by
  obtain ⟨v, l, h1, rfl, h3, h4, h5, h6, h7⟩ := h
  obtain ⟨A, c, rfl, _, _, _⟩ := h1.row.shape
  obtain ⟨d0, dl, df⟩ := h1.cells
  rw [List.length_map] at h4 ⊢
  clear h1 h3 h5 h6 h7
  go_enter Try.func21, Try.ntmps21
  go_wp2
  go_ret
  exact ⟨rfl, Below.refl _ _⟩
def AtY (t : D) (w : World) (e : Ending) (w' : World) : Prop := ∃ s : SV, (e = .returned (.tuple #[waitV t.1 s t.2.2, .bool true]) ∧ PtsO w' w.heap.size (sl s) t.2.1) ∧ Below w.heap.size w w'
set_option maxHeartbeats 1000000 in
theorem At_in (X : Nat → Prop) (B d : Nat) (T : List D) (k : Nat) (hk : k < T.length) (w : World) (h : HX X w B d T) :
    Calls Try.prog 22 #[.pointer (some ⟨d, 0, none⟩), .int .i64 (k : Int)] w (AtY (T[k]'hk) w) := by
  obtain ⟨v, l, h1, rfl, h3, h4, h5, h6, h7⟩ := h
  obtain ⟨A, c, rfl, _, _, _⟩ := h1.row.shape
  rw [List.length_map] at h4
  have hkl : k < l.length := by simpa using hk
  obtain ⟨g, rfl, x0, x1, x2, xf, xl⟩ := (h1.later (ba w (.cells #[.int .i64 0, .slice none 0 0, .int .i64 0] 35))).wait k hkl
  obtain ⟨d0, dl, df⟩ := (h1.later (ba w (.cells #[.int .i64 0, .slice none 0 0, .int .i64 0] 35))).cells
  have hP := (h1.pts _ (List.getElem_mem hkl)).pts
  have hF := h1.fit _ (List.getElem_mem hkl)
  rw [List.getElem_map]
  generalize l[k]'hkl = y at *
  obtain ⟨⟨u, p, x⟩, ⟨sA, sn, sc⟩⟩ := y
  simp only at hP hF x0 x1 x2
  change World.cell? _ _ = some (.slice sA sn sc) at x1
  have cC : ∀ W, Below w.heap.size w W → Calls Try.prog 32 #[waitV u (sA, sn, sc) x] W (CopyP u x p W) := fun W hW => copyOf_any u _ x p W (hP.later hW) hF
  have H := Lib.hid cC; clear cC hP hF h1 h3 h5 h6 h7
  have t1 : ¬ (k : Int) < 0 := by omega
  have t2 : decide ((k : Int) < 0) = false := decide_eq_false t1
  have t3 : ¬ (l.length : Int) ≤ (k : Int) := by omega
  have t4 : decide ((l.length : Int) ≤ (k : Int)) = false := decide_eq_false t3
  have t5 : (k : Int) < (l.length : Int) := by omega
  go_enter Try.func22, Try.ntmps22
  go_wp2_with (go_at_call 32; (refine (H.out _ (ba _ _)).mono ?_); rintro e w1 ⟨s', ⟨rfl, hS⟩, b1⟩; obtain ⟨tA, tn, tc⟩ := s'; have hB := ((Blk.new w 35 #[.int .i64 0, .slice none 0 0, .int .i64 0]).later b1); obtain ⟨z0, z1, z2⟩ := hB.three; have zf := hB.frozen; have zl := hB.lt; have Z := Lib.hid (And.intro hS (And.intro b1 hB)); clear hS b1 hB)
  have r0 := Z.out.2.2
  have r1 := r0.set_ 0 (.int .i64 u)
  have r2 := r1.set_ 1 (.slice tA tn tc)
  obtain ⟨y0, y1, y2⟩ := (r0.put3 (.int .i64 u) (.slice tA tn tc) (.int .i64 x)).three
  refine bodyPost_ret (v := .tuple #[waitV u (tA, tn, tc) x, .bool true]) (by simp only [results, Try.results22]; simp [go_sem, y0, y1, y2]) rfl ?_
  refine ⟨(tA, tn, tc), ⟨rfl, ((((Z.out.1.lift (by simp)).dset r0 (by decide) (by decide) 0 _).dset r1 (by decide) (by decide) 1 _).dset r2 (by decide) (by decide) 2 _)⟩, below_put3 (bt (ba w _) Z.out.2.1) (Nat.le_refl _) _ _ _⟩
def AtN (w : World) (e : Ending) (w' : World) : Prop := e = .returned (.tuple #[waitV 0 (none, 0, 0) 0, .bool false]) ∧ Below w.heap.size w w'
set_option maxHeartbeats 1000000 in
theorem At_out (X : Nat → Prop) (B d : Nat) (T : List D) (i : Int) (hi : i < 0 ∨ (T.length : Int) ≤ i) (w : World) (h : HX X w B d T) :
    Calls Try.prog 22 #[.pointer (some ⟨d, 0, none⟩), .int .i64 i] w (AtN w) := by
  obtain ⟨v, l, h1, rfl, h3, h4, h5, h6, h7⟩ := h
  obtain ⟨A, c, rfl, _, _, _⟩ := h1.row.shape
  rw [List.length_map] at h4 hi
  obtain ⟨d0, dl, df⟩ := (h1.later (ba w (.cells #[.int .i64 0, .slice none 0 0, .int .i64 0] 35))).cells
  obtain ⟨z0, z1, z2⟩ := (Blk.new w 35 #[.int .i64 0, .slice none 0 0, .int .i64 0]).three
  obtain ⟨y0, y1, y2⟩ := ((Blk.new w 35 #[.int .i64 0, .slice none 0 0, .int .i64 0]).put3 (.int .i64 0) (.slice none 0 0) (.int .i64 0)).three
  clear h1 h3 h5 h6 h7
  by_cases h0 : i < 0
  · have t2 : decide (i < 0) = true := decide_eq_true h0
    go_enter Try.func22, Try.ntmps22
    go_wp2
    refine bodyPost_ret (v := .tuple #[waitV 0 (none, 0, 0) 0, .bool false]) (by simp only [results, Try.results22]; simp [go_sem, y0, y1, y2]) rfl ?_
    exact ⟨rfl, ba w _⟩
  · have h1 : (l.length : Int) ≤ i := by omega
    have t2 : decide (i < 0) = false := decide_eq_false h0
    have t4 : decide ((l.length : Int) ≤ i) = true := decide_eq_true h1
    go_enter Try.func22, Try.ntmps22
    go_wp2
    refine bodyPost_ret (v := .tuple #[waitV 0 (none, 0, 0) 0, .bool false]) (by simp only [results, Try.results22]; simp [go_sem, y0, y1, y2]) rfl ?_
    exact ⟨rfl, ba w _⟩
end Go.Proofs.Yticjfhagpmlieaa
