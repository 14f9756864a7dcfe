/- HoldTells: Due, All, At of both holds. -/
import Derived.Test.YticjfhagpmlieaaHtH
namespace Go.Proofs.Yticjfhagpmlieaa
open Go.ChangeShapes Go.WideShapes Go.ChangeAt Go.RowKit
open Ho
set_option linter.unusedVariables false
set_option linter.unusedSimpArgs false

theorem Out.frq {w w' : World} {b B : Nat} {v : Value} {T : List D} (h : Out w b B v T) (hF : FrQ w w') : Out w' b B v T := by
  obtain ⟨l, h1, h2, h3⟩ := h
  exact ⟨l, h1.frm hF (by decide) (by decide), h2, fun y hy => (h3 y hy).frq hF⟩
theorem Out.later {w w' : World} {b B : Nat} {v : Value} {T : List D} (h : Out w b B v T) (hb : Below w.heap.size w w') : Out w' b B v T := by
  obtain ⟨l, h1, h2, h3⟩ := h
  exact ⟨l, h1.later hb, h2, fun y hy => (h3 y hy).later hb⟩
/-- Waits are handed out by the program's hold. -/
def TqF (w0 : World) (d m : Nat) (F T S : List D) (W : World) (e : Ending) (W1 : World) : Prop := ∃ v b, (e = .returned v ∧ Out W1 b w0.heap.size v F ∧ Tq w0 W1 d m T S) ∧ FrH W W1
theorem tqAll {w0 W : World} {d m : Nat} {T S : List D} (h : Tq w0 W d m T S) : Calls Try.prog 19 #[.pointer (some ⟨d, 0, none⟩)] W (TqF w0 d m T [] S W) := by
  refine (All_any noX w0.heap.size d T W h.hx).mono ?_
  rintro e W1 ⟨v, ⟨rfl, h1, h2⟩, h3⟩
  exact ⟨v, _, ⟨rfl, h1, h2.less (fun k hk => absurd hk (fun h => h)), h.rh.frh h3.frm h3.bel, h.bel.trans h3.bel⟩, h3.frm⟩
theorem tqDue {w0 W : World} {d m : Nat} {T S : List D} (h : Tq w0 W d m T S) (now : Int) : Calls Try.prog 16 #[.pointer (some ⟨d, 0, none⟩), .int .i64 now] W (TqF w0 d m (T.take (dpos now T)) (T.drop (dpos now T)) S W) := by
  refine (Due_any noX w0.heap.size d T now W h.hx).mono ?_
  rintro e W1 ⟨v, ⟨rfl, h1, h2⟩, h3⟩
  exact ⟨v, _, ⟨rfl, h1, h2.less (fun k hk => absurd hk (fun h => h)), h.rh.frh h3.frm h3.bel, h.bel.trans h3.bel⟩, h3.frm⟩
/-- Waits are handed out by the document's hold. -/
def TqRF (w0 : World) (d m : Nat) (F T S : List D) (W : World) (e : Ending) (W1 : World) : Prop := ∃ v l, (e = .returned v ∧ At W1 3 rowW v l ∧ l.map (·.1) = F ∧ (∀ y ∈ l, PtsAt w0 (sl y.2) y.1.2.1) ∧ Tq w0 W1 d m T S) ∧ FrQ W W1
theorem tqRAll {w0 W : World} {d m : Nat} {T S : List D} (h : Tq w0 W d m T S) : Calls Try.prog 20 #[.pointer (some ⟨m, 0, none⟩)] W (TqRF w0 d m S T [] W) := by
  refine (rhAll_any w0 m S W h.rh).mono ?_
  rintro e W1 ⟨v, l, ⟨rfl, h1, h2, h3, h4⟩, h5⟩
  exact ⟨v, l, ⟨rfl, h1, h2, h3, h.hx.frq h5.frm, h4, h.bel.trans h5.bel⟩, h5.frm⟩
theorem tqRDue {w0 W : World} {d m : Nat} {T S : List D} (h : Tq w0 W d m T S) (now : Int) (hn : S.length < 1000) (hS : Sorted S) : Calls Try.prog 18 #[.pointer (some ⟨m, 0, none⟩), .int .i64 now] W (TqRF w0 d m (S.take (dpos now S)) T (S.drop (dpos now S)) W) := by
  obtain ⟨e1, e2⟩ := due_take hS now
  have := rhDue_any w0 m S now W h.rh hn
  rw [e1, e2] at this
  refine this.mono ?_
  rintro e W1 ⟨v, l, ⟨rfl, h1, h2, h3, h4⟩, h5⟩
  exact ⟨v, l, ⟨rfl, h1, h2, h3, h.hx.frq h5.frm, h4, h.bel.trans h5.bel⟩, h5.frm⟩
/-- What is turned back reads as the waits that went in. -/
theorem back_reads (w0 : World) (v : Value) (l : List Wy) (F : List D) (w : World) (h : At w 3 rowW v l) (hF : l.map (·.1) = F) (hp : ∀ y ∈ l, PtsAt w0 (sl y.2) y.1.2.1) (hb : Below w0.heap.size w0 w) (hn : F.length ≤ 1000) :
    Calls Try.prog 17 #[v] w fun e w' => ∃ u, (e = .returned u ∧ Reads w' u F) ∧ Below w.heap.size w w' := by
  refine (back_any v l w h (by rw [← hF, List.length_map] at hn; exact hn)).mono ?_
  rintro e w' ⟨u, ⟨rfl, h1⟩, h2⟩
  exact ⟨u, ⟨rfl, l, Own.at_ (f := rowW) (k := 3) (fun _ => rfl) h1, hF, fun y hy => (hp y hy).later (bt hb h2)⟩, h2⟩
theorem Tq.sorted {w0 W : World} {d m : Nat} {T S : List D} (h : Tq w0 W d m T S) : Sorted T := by
  obtain ⟨v, l, _, _, h3, _⟩ := h.hx
  exact h3
/-- What At answers. -/
def atT (T : List D) (i : Int) : D × Bool := if h : 0 ≤ i ∧ i.toNat < T.length then (T[i.toNat]'h.2, true) else ((0, [], 0), false)
def AtP (t : D) (b : Bool) (w : World) (e : Ending) (w' : World) : Prop := ∃ s : SV, (e = .returned (.tuple #[waitV t.1 s t.2.2, .bool b]) ∧ PtsAt w' (sl s) t.2.1) ∧ Below w.heap.size w w'
theorem tqAt {w0 W : World} {d m : Nat} {T S : List D} (h : Tq w0 W d m T S) (i : Int) : Calls Try.prog 22 #[.pointer (some ⟨d, 0, none⟩), .int .i64 i] W (AtP (atT T i).1 (atT T i).2 W) := by
  unfold atT
  by_cases hi : 0 ≤ i ∧ i.toNat < T.length
  · rw [dif_pos hi]
    obtain ⟨k, rfl⟩ : ∃ k : Nat, i = (k : Int) := ⟨i.toNat, by omega⟩
    simp only [Int.toNat_natCast]
    refine (At_in noX w0.heap.size d T k (by simpa using hi.2) W h.hx).mono ?_
    rintro e W1 ⟨s, ⟨rfl, h1⟩, h2⟩
    exact ⟨s, ⟨rfl, h1.pts⟩, h2⟩
  · rw [dif_neg hi]
    refine (At_out noX w0.heap.size d T i (by omega) W h.hx).mono ?_
    rintro e W1 ⟨rfl, h2⟩
    exact ⟨(none, 0, 0), ⟨rfl, PtsAt.nil _⟩, h2⟩
theorem tqRAt {w0 W : World} {d m : Nat} {T S : List D} (h : Tq w0 W d m T S) (i : Int) (hn : S.length < 1000) : Calls Try.prog 23 #[.pointer (some ⟨m, 0, none⟩), .int .i64 i] W (AtP (atT S i).1 (atT S i).2 W) := by
  unfold atT
  by_cases hi : 0 ≤ i ∧ i.toNat < S.length
  · rw [dif_pos hi]
    obtain ⟨k, rfl⟩ : ∃ k : Nat, i = (k : Int) := ⟨i.toNat, by omega⟩
    simp only [Int.toNat_natCast]
    refine (rhAt_in w0 m S k (by simpa using hi.2) W h.rh hn).mono ?_
    rintro e W1 ⟨s, ⟨rfl, h1⟩, h2⟩
    exact ⟨s, ⟨rfl, h1.later (bt h.bel h2)⟩, h2⟩
  · rw [dif_neg hi]
    refine (rhAt_out w0 m S i (by omega) W h.rh hn).mono ?_
    rintro e W1 ⟨rfl, h2⟩
    exact ⟨(none, 0, 0), ⟨rfl, PtsAt.nil _⟩, h2⟩
end Go.Proofs.Yticjfhagpmlieaa
