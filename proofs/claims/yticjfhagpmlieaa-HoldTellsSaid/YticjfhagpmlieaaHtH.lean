/- HoldTells: both holds side by side. -/
import Derived.Test.YticjfhagpmlieaaHtD
import Derived.Test.YticjfhagpmlieaaHtG
import Derived.Test.YticjfhagpmlieaaHoX
namespace Go.Proofs.Yticjfhagpmlieaa
open Go.ChangeShapes Go.WideShapes Go.ChangeAt Go.RowKit
open Ho
set_option linter.unusedVariables false
set_option linter.unusedSimpArgs false

abbrev noX : Nat → Prop := fun _ => False
theorem Rws.frq {w w' : World} {B : Nat} {vs : List SV} {p : List (List Int)} (h : Rws w B vs p) (hF : FrQ w w') : Rws w' B vs p := ⟨h.1, fun j hj hj' => (h.2 j hj hj').frm hF (by decide) (by decide)⟩
theorem PtsO.frq {w w' : World} {B : Nat} {v : Value} {p : List (List Int)} (h : PtsO w B v p) (hF : FrQ w w') : PtsO w' B v p := by
  obtain ⟨vs, h1, h2⟩ := h
  exact ⟨vs, h1.frm hF (by decide) (by decide), h2.frq hF⟩
theorem HX.frq {w w' : World} {B d : Nat} {T : List D} (h : HX noX w B d T) (hF : FrQ w w') : HX noX w' B d T := by
  obtain ⟨v, l, h1, h2, h3, h4, h5, h6, h7⟩ := h
  exact ⟨v, l, ⟨h1.low, h1.blk.frm hF (by decide) (by decide), h1.row.frm hF (by decide) (by decide), fun y hy => (h1.pts y hy).frq hF, h1.fit⟩, h2, h3, h4, h5, h6, fun k hk => absurd hk (fun h => h)⟩
theorem RhS.frh {w0 w w' : World} {m : Nat} {T : List D} (h : RhS w0 w m T) (hF : FrH w w') (hb : Below w0.heap.size w w') : RhS w0 w' m T := by
  obtain ⟨v, l, h, e⟩ := h
  exact ⟨v, l, ⟨h.low, h.blk.frm hF (by decide) (by decide), h.row.frm hF (by decide) (by decide), h.pts, h.bel.trans hb⟩, e⟩
/-- The program's hold and the document's, side by side. -/
structure Tq (w0 W : World) (d m : Nat) (T S : List D) : Prop where
  hx : HX noX W w0.heap.size d T
  rh : RhS w0 W m S
  bel : Below w0.heap.size w0 W
theorem Tq.later {w0 W W' : World} {d m : Nat} {T S : List D} (h : Tq w0 W d m T S) (hb : Below W.heap.size W W') : Tq w0 W' d m T S := ⟨h.hx.later hb, h.rh.later hb, bt h.bel hb⟩
def TqE (w0 : World) (d m : Nat) (T S : List D) (r : Ending) (W : World) (e : Ending) (W1 : World) : Prop := (e = r ∧ Tq w0 W1 d m T S) ∧ FrH W W1
def TqQ (w0 : World) (d m : Nat) (T S : List D) (r : Ending) (W : World) (e : Ending) (W1 : World) : Prop := (e = r ∧ Tq w0 W1 d m T S) ∧ FrQ W W1
theorem tqA {w0 W : World} {d m : Nat} {T S : List D} (h : Tq w0 W d m T S) (u : Int) (s : SV) (x : Int) (p : List (List Int)) (hp : PtsAt W (sl s) p) (hf : Fit p) (hn : T.length < 1000) : Calls Try.prog 10 #[.pointer (some ⟨d, 0, none⟩), waitV u s x] W (TqE w0 d m (ins T (u, p, x)) S (.returned (.tuple #[])) W) := by
  refine (Add_any noX w0.heap.size d T u s x p W h.hx hp hf hn).mono ?_
  rintro e W1 ⟨rfl, h1, h2⟩
  exact ⟨⟨rfl, h1, h.rh.frh h2.frm h2.bel, h.bel.trans h2.bel⟩, h2.frm⟩
theorem tqRA {w0 W : World} {d m : Nat} {T S : List D} (h : Tq w0 W d m T S) (hS : Sorted S) (u : Int) (s : SV) (x : Int) (p : List (List Int)) (hp : PtsAt w0 (sl s) p) (hn : S.length < 1000) : Calls Try.prog 12 #[.pointer (some ⟨m, 0, none⟩), waitV u s x] W (TqQ w0 d m T (ins S (u, p, x)) (.returned (.tuple #[])) W) := by
  refine (rhAdd_any w0 m S u s x p W h.rh hS hp hn).mono ?_
  rintro e W1 ⟨rfl, h1, h2⟩
  exact ⟨⟨rfl, h.hx.frq h2.frm, h1, h.bel.trans h2.bel⟩, h2.frm⟩
/-- What Cut answers, and what it leaves. -/
def cutT (T : List D) (i : Int) : Bool × List D := if 0 ≤ i ∧ i < (T.length : Int) then (true, T.eraseIdx i.toNat) else (false, T)
theorem tqC {w0 W : World} {d m : Nat} {T S : List D} (h : Tq w0 W d m T S) (i : Int) : Calls Try.prog 13 #[.pointer (some ⟨d, 0, none⟩), .int .i64 i] W (TqE w0 d m (cutT T i).2 S (.returned (.bool (cutT T i).1)) W) := by
  by_cases hi : 0 ≤ i ∧ i < (T.length : Int)
  · obtain ⟨k, rfl⟩ : ∃ k : Nat, i = (k : Int) := ⟨i.toNat, by omega⟩
    unfold cutT
    rw [if_pos hi, Int.toNat_natCast]
    refine (Cut_in noX w0.heap.size d T k (by omega) W h.hx).mono ?_
    rintro e W1 ⟨rfl, h1, h2⟩
    exact ⟨⟨rfl, h1, h.rh.frh h2.frm h2.bel, h.bel.trans h2.bel⟩, h2.frm⟩
  · unfold cutT
    rw [if_neg hi]
    refine (Cut_out noX w0.heap.size d T i (by omega) W h.hx).mono ?_
    rintro e W1 ⟨rfl, h1, h2⟩
    exact ⟨⟨rfl, h1, h.rh.frh h2.frm h2.bel, h.bel.trans h2.bel⟩, h2.frm⟩
theorem tqRC {w0 W : World} {d m : Nat} {T S : List D} (h : Tq w0 W d m T S) (i : Int) (hn : S.length < 1000) : Calls Try.prog 14 #[.pointer (some ⟨m, 0, none⟩), .int .i64 i] W (TqQ w0 d m T (cutT S i).2 (.returned (.bool (cutT S i).1)) W) := by
  by_cases hi : 0 ≤ i ∧ i < (S.length : Int)
  · obtain ⟨k, rfl⟩ : ∃ k : Nat, i = (k : Int) := ⟨i.toNat, by omega⟩
    unfold cutT
    rw [if_pos hi, Int.toNat_natCast]
    refine (rhCut_in w0 m S k (by omega) W h.rh hn).mono ?_
    rintro e W1 ⟨rfl, h1, h2⟩
    exact ⟨⟨rfl, h.hx.frq h2.frm, h1, h.bel.trans h2.bel⟩, h2.frm⟩
  · unfold cutT
    rw [if_neg hi]
    refine (rhCut_out w0 m S i (by omega) W h.rh hn).mono ?_
    rintro e W1 ⟨rfl, h1, h2⟩
    exact ⟨⟨rfl, h.hx.frq h2.frm, h1, h.bel.trans h2.bel⟩, h2.frm⟩
theorem Tq.start {w0 W : World} {d m : Nat} (hd : HX noX W w0.heap.size d []) (hm : w0.heap.size ≤ m) (hB : Blk W m 29 #[.slice none 0 0]) (hb : Below w0.heap.size w0 W) : Tq w0 W d m [] [] :=
  ⟨hd, ⟨_, [], ⟨hm, hB, Own.nil _ _ _ _ _, fun y hy => absurd hy (by simp), hb⟩, rfl⟩, hb⟩
theorem cut_len (T : List D) (i : Int) : (cutT T i).2.length ≤ T.length := by
  unfold cutT
  split
  · exact List.length_eraseIdx_le _ _
  · exact Nat.le_refl _
end Go.Proofs.Yticjfhagpmlieaa
