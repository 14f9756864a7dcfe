/- The document's own round: how it lies; find, cost. -/
import Derived.Test.YtckpecddglfjkaaDrX
namespace Go.Proofs.Ytckpecddglfjkaa
open Go.ChangeShapes Go.WideShapes Go.ChangeAt Go.RowKit
open Dr
set_option linter.unusedVariables false
set_option linter.unusedSimpArgs false

theorem retI {a b : Int} (h : a = b) : Ending.returned (.int .i64 a) = .returned (.int .i64 b) := by rw [h]
theorem grown_none {w w' : World} (h : w.grownBy w' none) : Below w.heap.size w w' := grownBy_below h (Nat.le_refl _) (fun k hk => by simp at hk)
abbrev FrR := Frm 29 49
structure RmAt (w : World) (B m : Nat) (v : Value) (M : List Gl) (fr : Bool) : Prop where
  low : B ≤ m
  blk : Blk w m 29 #[v, .bool fr]
  row : Own w B 49 3 rowG v M
def RmS (w : World) (B m : Nat) (M : List Gl) (fr : Bool) : Prop := ∃ v, RmAt w B m v M fr
theorem RmAt.later {w w' : World} {B m : Nat} {v : Value} {M : List Gl} {fr : Bool} (h : RmAt w B m v M fr) (hb : Below w.heap.size w w') : RmAt w' B m v M fr := ⟨h.low, h.blk.later hb, h.row.later hb⟩
theorem RmS.later {w w' : World} {B m : Nat} {M : List Gl} {fr : Bool} (h : RmS w B m M fr) (hb : Below w.heap.size w w') : RmS w' B m M fr := by
  obtain ⟨v, h⟩ := h
  exact ⟨v, h.later hb⟩
theorem RmAt.low' {w : World} {B m : Nat} {v : Value} {M : List Gl} {fr : Bool} (h : RmAt w B m v M fr) : B ≤ w.heap.size := by have := h.low; have := h.blk.lt; omega
theorem RmAt.cells {w : World} {B m : Nat} {v : Value} {M : List Gl} {fr : Bool} (h : RmAt w B m v M fr) : w.cell? ⟨m, 0, none⟩ = some v ∧ w.cell? ⟨m, 1, none⟩ = some (.bool fr) ∧ m < w.heap.size ∧ (∀ o, w.frozen? ⟨m, o, none⟩ = false) := ⟨h.blk.cell 0, h.blk.cell 1, h.blk.lt, h.blk.frozen⟩
structure ChR (B : Nat) (w w' : World) : Prop where
  bel : Below B w w'
  frm : FrR w w'
theorem ChR.refl (B : Nat) (w : World) : ChR B w w := ⟨Below.refl _ _, Frm.refl _ _ _⟩
theorem ChR.trans {B : Nat} {a b c : World} (h : ChR B a b) (k : ChR B b c) : ChR B a c := ⟨h.bel.trans k.bel, h.frm.trans k.frm⟩
theorem ChR.later {B : Nat} {w w' : World} (hB : B ≤ w.heap.size) (h : Below w.heap.size w w') : ChR B w w' := ⟨h.mono hB, Frm.below h⟩
/-- The program's round is kept by what the document's does, and the other way round. -/
theorem DrS.frr {w w' : World} {B d : Nat} {L : List Fl} {fr : Bool} (h : DrS w B d L fr) (hF : FrR w w') : DrS w' B d L fr := by
  obtain ⟨v, l, c, h1, h2⟩ := h
  exact ⟨v, l, c, ⟨h1.low, h1.blk.frm hF (by decide) (by decide), h1.row.frm hF (by decide) (by decide), h1.cur⟩, h2⟩
theorem RmS.frd {w w' : World} {B m : Nat} {M : List Gl} {fr : Bool} (h : RmS w B m M fr) (hF : FrD w w') : RmS w' B m M fr := by
  obtain ⟨v, h1⟩ := h
  exact ⟨v, ⟨h1.low, h1.blk.frm hF (by decide) (by decide), h1.row.frm hF (by decide) (by decide)⟩⟩
theorem Own.dset {α : Type} {w : World} {B d : Nat} {e t : TypeId} {k : Nat} {f : α → List Value} {v : Value} {l : List α} {cs : Array Value} (hO : Own w B e k f v l) (hB : Blk w d t cs) (hne : e ≠ t) (o : Nat) (u : Value) : Own (w.setCell ⟨d, o, none⟩ u) B e k f v l :=
  hO.grown (grown_set w d o u) (fun b hb he => by
    obtain rfl : d = b := by simpa using hb
    obtain ⟨_, cs', hc⟩ := hO.block he
    have := hc.symm.trans hB
    simp at this
    exact hne this.2)
theorem RmAt.fresh {w : World} {B m : Nat} {v : Value} {M : List Gl} {fr : Bool} (h : RmAt w B m v M fr) (b : Bool) : RmAt (w.setCell ⟨m, 1, none⟩ (.bool b)) B m v M b ∧ ChR B w (w.setCell ⟨m, 1, none⟩ (.bool b)) := by
  have hs := h.blk.set_ 1 (.bool b)
  exact ⟨⟨h.low, by simpa using hs, h.row.dset h.blk (by decide) 1 _⟩, ⟨(Below.refl _ _).setCell (p := ⟨m, 1, none⟩) h.low _, Frm.set1 h.blk 1 _⟩⟩
/-- A cell of a flow is written. -/
theorem RmAt.put {w : World} {B m g n c : Nat} {M : List Gl} {fr : Bool} (h : RmAt w B m (.slice (some ⟨g, 0, none⟩) n c) M fr) (j : Nat) (hj : j < M.length) {i : Nat} (hi : i < 3) {x : Gl} {u : Value} (hx : rowG x = (rowG (M[j]'hj)).set i u) {o : Nat} (ho : o = j * 3 + i) :
    RmAt (w.setCell ⟨g, o, none⟩ u) B m (.slice (some ⟨g, 0, none⟩) n c) (M.set j x) fr ∧ ChR B w (w.setCell ⟨g, o, none⟩ u) := by
  subst ho
  obtain ⟨hB, cs, hcs⟩ := h.row.block (g := g) rfl
  refine ⟨⟨h.low, h.blk.far (p := ⟨g, j * 3 + i, none⟩) (fun e => ?_) u, Own.put (f := rowG) (k := 3) (fun _ => rfl) h.row j hj hi hx⟩, ⟨(Below.refl _ _).setCell (p := ⟨g, j * 3 + i, none⟩) hB _, Frm.set2 hcs _ _⟩⟩
  have e' : m = g := e
  rw [e'] at h
  have := h.blk.symm.trans hcs
  simp at this
theorem RmAt.fl {w : World} {B m : Nat} {A : Option Addr} {n c : Nat} {M : List Gl} {fr : Bool} (h : RmAt w B m (.slice A n c) M fr) (j : Nat) (hj : j < M.length) :
    ∃ g, A = some ⟨g, 0, none⟩ ∧ w.cell? ⟨g, j * 3, none⟩ = some (.int .i64 (M[j]'hj).1) ∧ w.cell? ⟨g, j * 3 + 1, none⟩ = some (.int .i64 (M[j]'hj).2.1) ∧ w.cell? ⟨g, j * 3 + 2, none⟩ = some (.int .i64 (M[j]'hj).2.2) ∧ (∀ x, w.frozen? ⟨g, x, none⟩ = false) ∧ g < w.heap.size := by
  obtain ⟨g, hg, _, hlt, hf, hc⟩ := h.row.cells (f := rowG) (k := 3) (fun _ => rfl) rfl (by omega)
  exact ⟨g, hg, hc j hj 0 _ rfl, hc j hj 1 _ rfl, hc j hj 2 _ rfl, hf, hlt⟩
def idxG (l : List Gl) (x : Int) : Int := idxB (fun y : Gl => isI x y.1) l
set_option maxHeartbeats 1000000 in
theorem rfind_any (B m : Nat) (M : List Gl) (fr : Bool) (x : Int) (w : World) (h : RmS w B m M fr) :
    Calls Try.prog 25 #[.pointer (some ⟨m, 0, none⟩), .int .i64 x] w fun e w' => e = .returned (.int .i64 (idxG M x)) ∧ Below w.heap.size w w' := by
  obtain ⟨v, h⟩ := h
  obtain ⟨A, c, rfl, _, a1, a2⟩ := h.row.shape
  have hm : M.length ≤ 9223372036854775807 := by unfold maxLen at a2; omega
  have H := Lib.hid h; clear h
  go_enter Try.func25, Try.ntmps25
  go_wp2
  go_loopw [5] (fun i wr => ∃ k : Nat, k ≤ M.length ∧ i = .int .i64 k ∧ (∀ j (hj : j < M.length), j < k → isI x (M[j]'hj).1 = false) ∧ Below w.heap.size w wr) (fun i _ => M.length - (intOf i).toNat)
  case atStart => exact ⟨0, Nat.zero_le _, rfl, fun j hj h => by omega, Below.refl _ _⟩
  case round =>
    obtain ⟨k, hk, rfl, hall, hb⟩ := hrel
    obtain ⟨d0, _, dl, df⟩ := (H.out.later hb).cells
    by_cases hlt : k < M.length
    · obtain ⟨g, rfl, x0, _, _, _, _⟩ := (H.out.later hb).fl k hlt
      by_cases he : (M[k]'hlt).1 = x
      · have hE : idxG M x = (k : Int) := idxB_found (p := fun y : Gl => isI x y.1) hlt (by simp [isI, he]) hall
        have hee : ((M[k]'hlt).1 == x) = true := by simpa using he
        generalize (M[k]'hlt).1 = y at *
        subst he
        have K := Lib.hid (And.intro hE hb); clear hE hb hall hee
        go_wp2
        go_ret
        exact ⟨retI K.out.1.symm, K.out.2⟩
      · have hall' : ∀ j (hj : j < M.length), j < k + 1 → isI x (M[j]'hj).1 = false := fun j hj hlt' => by
          rcases Nat.lt_succ_iff_lt_or_eq.1 hlt' with h2 | rfl
          · exact hall j hj h2
          · simpa [isI] using he
        have hee : ((M[k]'hlt).1 == x) = false := by simpa using he
        generalize (M[k]'hlt).1 = y at *
        have K := Lib.hid (And.intro hall' hb); clear hall' hb hall
        go_wp2
        go_roundw
        case rel => exact ⟨k + 1, by omega, by go_num, K.out.1, K.out.2⟩
        case measure => simp [intOf]; omega
    · have hE : idxG M x = -1 := idxB_none (p := fun y : Gl => isI x y.1) (fun j hj => hall j hj (by omega))
      have K := Lib.hid (And.intro hE hb); clear hE hb hall
      go_wp2
      go_ret
      exact ⟨retI K.out.1.symm, K.out.2⟩
theorem cost_at (cs : List (Int × Int)) (id : Int) : ∀ (k : Nat) (hk : k < cs.length), (∀ j (hj : j < cs.length), j < k → (cs[j]'hj).1 ≠ id) → (cs[k]'hk).1 = id → costOf cs id = max 0 (min (cs[k]'hk).2 512) := by
  induction cs with
  | nil => intro k hk; exact absurd hk (by simp)
  | cons a r ih =>
    intro k hk hall he
    unfold costOf
    cases k with
    | zero =>
      have he' : a.1 = id := he
      rw [if_pos he']; rfl
    | succ k =>
      have h0 : a.1 ≠ id := hall 0 (by simp) (by omega)
      rw [if_neg h0]
      exact ih k (by simpa using hk) (fun j hj h => hall (j + 1) (by simpa using hj) (by omega)) he
theorem cost_no (cs : List (Int × Int)) (id : Int) (h : ∀ j (hj : j < cs.length), (cs[j]'hj).1 ≠ id) : costOf cs id = 0 := by
  induction cs with
  | nil => rfl
  | cons a r ih =>
    unfold costOf
    have h0 : a.1 ≠ id := h 0 (by simp)
    rw [if_neg h0]
    exact ih (fun j hj => h (j + 1) (by simpa using hj))
set_option maxHeartbeats 1000000 in
theorem rcost_any (v : Value) (cs : List (Int × Int)) (id : Int) (w : World) (h : At w 2 rowC v cs) :
    Calls Try.prog 29 #[v, .int .i64 id] w fun e w' => e = .returned (.int .i64 (costOf cs id)) ∧ Below w.heap.size w w' := by
  obtain ⟨A, c, rfl, a1, a2, _⟩ := h.shape
  have hm : cs.length ≤ 9223372036854775807 := by unfold maxLen at a2; omega
  have H := Lib.hid h; clear h
  go_enter Try.func29, Try.ntmps29
  go_wp2
  go_loopw [5] (fun i wr => ∃ k : Nat, k ≤ cs.length ∧ i = .int .i64 k ∧ (∀ j (hj : j < cs.length), j < k → (cs[j]'hj).1 ≠ id) ∧ Below w.heap.size w wr) (fun i _ => cs.length - (intOf i).toNat)
  case atStart => exact ⟨0, Nat.zero_le _, rfl, fun j hj h => by omega, Below.refl _ _⟩
  case round =>
    obtain ⟨k, hk, rfl, hall, hb⟩ := hrel
    by_cases hlt : k < cs.length
    · obtain ⟨a, rfl, hc⟩ := H.out.cells rfl (by omega)
      obtain ⟨x0, x1⟩ := (hc.later hb).row2 k hlt rfl
      by_cases he : (cs[k]'hlt).1 = id
      · have hE := cost_at cs id k hlt hall he
        generalize cs[k]'hlt = y at *
        obtain ⟨yi, yn⟩ := y
        simp only at x0 x1 he hE
        subst he
        have K := Lib.hid (And.intro hE hb); clear hE hb hall hc
        by_cases hn : yn < 0
        · have h5 : ¬ (512 : Int) < 0 := by omega
          have hE : costOf cs yi = 0 := by rw [K.out.1]; omega
          go_wp2
          go_ret
          exact ⟨rfl, K.out.2⟩
        · by_cases h5 : (512 : Int) < yn
          · have hE : costOf cs yi = 512 := by rw [K.out.1]; omega
            go_wp2
            go_ret
            exact ⟨rfl, K.out.2⟩
          · have hE : costOf cs yi = yn := by rw [K.out.1]; omega
            go_wp2
            go_ret
            exact ⟨rfl, K.out.2⟩
      · have hall' : ∀ j (hj : j < cs.length), j < k + 1 → (cs[j]'hj).1 ≠ id := fun j hj hlt' => by
          rcases Nat.lt_succ_iff_lt_or_eq.1 hlt' with h2 | rfl
          · exact hall j hj h2
          · exact he
        have hee : ((cs[k]'hlt).1 == id) = false := by simpa using he
        generalize cs[k]'hlt = y at *
        obtain ⟨yi, yn⟩ := y
        simp only at x0 x1 he hee
        have K := Lib.hid (And.intro hall' hb); clear hall' hb hall hc
        go_wp2
        go_roundw
        case rel => exact ⟨k + 1, by omega, by go_num, K.out.1, K.out.2⟩
        case measure => simp [intOf]; omega
    · have hE := cost_no cs id (fun j hj => hall j hj (by omega))
      have K := Lib.hid (And.intro hE hb); clear hE hb hall
      go_wp2
      go_ret
      exact ⟨retI K.out.1.symm, K.out.2⟩
end Go.Proofs.Ytckpecddglfjkaa
