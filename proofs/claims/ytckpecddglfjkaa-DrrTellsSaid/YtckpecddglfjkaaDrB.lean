/- Turns by deficits: serve. -/
import Derived.Test.YtckpecddglfjkaaDrA
import Derived.Deep.RegionLaw
import Derived.Deep.RegionHeld3
namespace Go.Proofs.Ytckpecddglfjkaa
open Go.ChangeShapes Go.WideShapes Go.ChangeAt Go.RowKit
set_option linter.unusedVariables false
set_option linter.unusedSimpArgs false

theorem grown_set (w : World) (g o : Nat) (u : Value) : w.grownBy (w.setCell ⟨g, o, none⟩ u) (some g) :=
  ⟨rfl, rfl, rfl, by simp [World.setCell], fun k hk hne => Below.heap_setCell _ _ _ _ (fun e => hne (by rw [e]))⟩
theorem DrAt.put {w : World} {B d g n cap : Nat} {l : List Fl} {c : Nat} {fr : Bool} (h : DrAt w B d (.slice (some ⟨g, 0, none⟩) n cap) l c fr) (j : Nat) (hj : j < l.length) {i : Nat} (hi : i < 4) {x : Fl} {u : Value} (hx : rowF x = (rowF (l[j]'hj)).set i u) {o : Nat} (ho : o = j * 4 + i) :
    DrAt (w.setCell ⟨g, o, none⟩ u) B d (.slice (some ⟨g, 0, none⟩) n cap) (l.set j x) c fr ∧ Chg B w (w.setCell ⟨g, o, none⟩ u) := by
  subst ho
  have hne := h.apart (g := g) rfl
  obtain ⟨hB, cs, hcs⟩ := h.row.block (g := g) rfl
  refine ⟨⟨h.low, h.blk.far (p := ⟨g, j * 4 + i, none⟩) (Ne.symm hne) _, Own.put (f := rowF) (k := 4) (fun _ => rfl) h.row j hj hi hx, fun hl => ?_⟩, ⟨(Below.refl _ _).setCell (p := ⟨g, j * 4 + i, none⟩) hB _, Frm.set2 hcs _ _⟩⟩
  rw [List.length_set]
  exact h.cur (fun e => hl (by rw [e]; rfl))
theorem DrAt.dcell {w : World} {B d : Nat} {v v' : Value} {l : List Fl} {c c' : Nat} {fr fr' : Bool} (h : DrAt w B d v l c fr) (o : Nat) (u : Value) (hs : #[v, .int .i64 (c : Int), .bool fr].setIfInBounds o u = #[v, .int .i64 (c' : Int), .bool fr']) (hc : l ≠ [] → c' < l.length) :
    DrAt (w.setCell ⟨d, o, none⟩ u) B d v l c' fr' ∧ Chg B w (w.setCell ⟨d, o, none⟩ u) := by
  have hb := h.blk.set_ o u
  rw [hs] at hb
  exact ⟨⟨h.low, hb, h.row.grown (grown_set w d o u) (fun b hb he => h.apart he (by simpa using hb.symm)), hc⟩, ⟨(Below.refl _ _).setCell (p := ⟨d, o, none⟩) h.low _, Frm.set1 h.blk _ _⟩⟩
theorem DrAt.fresh {w : World} {B d : Nat} {v : Value} {l : List Fl} {c : Nat} {fr : Bool} (h : DrAt w B d v l c fr) (b : Bool) :
    DrAt (w.setCell ⟨d, 2, none⟩ (.bool b)) B d v l c b ∧ Chg B w (w.setCell ⟨d, 2, none⟩ (.bool b)) :=
  h.dcell (v' := v) 2 (.bool b) rfl h.cur
theorem DrAt.turn {w : World} {B d : Nat} {v : Value} {l : List Fl} {c : Nat} {fr : Bool} (h : DrAt w B d v l c fr) (k : Nat) (hk : l ≠ [] → k < l.length) :
    DrAt (w.setCell ⟨d, 1, none⟩ (.int .i64 (k : Int))) B d v l k fr ∧ Chg B w (w.setCell ⟨d, 1, none⟩ (.int .i64 (k : Int))) :=
  h.dcell (v' := v) 1 _ rfl hk
theorem DrAt.fl {w : World} {B d g n cap : Nat} {l : List Fl} {c : Nat} {fr : Bool} (h : DrAt w B d (.slice (some ⟨g, 0, none⟩) n cap) l c fr) (j : Nat) (hj : j < l.length) {o : Nat} (ho : o = j * 4) :
    w.cell? ⟨g, o, none⟩ = some (.int .i64 (l[j]'hj).1) ∧ w.cell? ⟨g, o + 1, none⟩ = some (.int .i64 (l[j]'hj).2.1) ∧ w.cell? ⟨g, o + 2, none⟩ = some (.int .i64 (l[j]'hj).2.2.1) ∧ w.cell? ⟨g, o + 3, none⟩ = some (.int .i64 (l[j]'hj).2.2.2) ∧ (∀ x, w.frozen? ⟨g, x, none⟩ = false) ∧ g < w.heap.size := by
  subst ho
  obtain ⟨g', hg, _, hlt, hf, hc⟩ := h.row.cells (f := rowF) (k := 4) (fun _ => rfl) rfl (by omega)
  obtain rfl : g = g' := by simpa using hg
  exact ⟨hc j hj 0 _ rfl, hc j hj 1 _ rfl, hc j hj 2 _ rfl, hc j hj 3 _ rfl, hf, hlt⟩
theorem DrAt.heap {w w' : World} {B d : Nat} {v : Value} {l : List Fl} {c : Nat} {fr : Bool} (h : DrAt w B d v l c fr) (hh : w'.heap = w.heap) : DrAt w' B d v l c fr := by
  refine ⟨h.low, ?_, ?_, h.cur⟩
  · have := h.blk; unfold Blk at this ⊢; rw [hh]; exact this
  · have := h.row; unfold Own World.ownsRow at this ⊢; rw [hh]; exact this
theorem Chg.heap {B : Nat} {w w' w'' : World} (h : Chg B w w') (hh : w''.heap = w'.heap) (h1 : w''.os = w'.os) (h2 : w''.tape = w'.tape) (h3 : w''.output = w'.output) : Chg B w w'' :=
  h.trans ⟨⟨h1, h2, h3, by rw [hh]; exact Nat.le_refl _, fun k _ => by rw [hh]⟩, ⟨by rw [hh]; exact Nat.le_refl _, fun k _ _ _ => by rw [hh]⟩⟩
open Dr
def ServeP (B d : Nat) (v : Value) (l : List Fl) (c : Nat) (f : Fl) (fr : Bool) (w : World) (e : Ending) (w' : World) : Prop :=
  e = .returned (.bool (serveF f fr).1) ∧ DrAt w' B d v (l.set c (serveF f fr).2.1) c (serveF f fr).2.2 ∧ Chg B w w'
set_option maxHeartbeats 1000000 in
theorem serve_any (B d g n cap : Nat) (l : List Fl) (c : Nat) (fr : Bool) (w : World) (h : DrAt w B d (.slice (some ⟨g, 0, none⟩) n cap) l c fr) (hc : c < l.length) (hf : OkF (l[c]'hc)) (hd : (l[c]'hc).2.2.1 ≤ 2000) (o : Nat) (ho : o = c * 4) :
    Calls Try.prog 28 #[.pointer (some ⟨d, 0, none⟩), .pointer (some ⟨g, o, none⟩)] w (ServeP B d (.slice (some ⟨g, 0, none⟩) n cap) l c (l[c]'hc) fr w) := by
  obtain ⟨x0, x1, x2, x3, xf, xl⟩ := h.fl c hc ho
  obtain ⟨d0, d1, d2, dl, df⟩ := h.cells
  have hne := h.apart (g := g) rfl
  obtain ⟨hf1, hf2, hf3, hf4, hf5, _, _⟩ := hf
  have hl : l ≠ [] := fun e => by rw [e] at hc; simp at hc
  have p0 := fun u x (hx : rowF x = (rowF (l[c]'hc)).set 2 u) => h.put c hc (i := 2) (by decide) (x := x) (u := u) hx (o := o + 2) (by omega)
  have hx0 : l.set c (l[c]'hc) = l := by rw [List.set_getElem_self]
  generalize hy : l[c]'hc = y at *
  obtain ⟨i, q, t, k⟩ := y
  simp only at x0 x1 x2 x3 hf1 hf2 hf3 hf4 hf5 hd
  obtain ⟨w1, w2, w3⟩ : IntKind.i64.wrap (t + q) = t + q ∧ IntKind.i64.wrap (t - k) = t - k ∧ IntKind.i64.wrap (t + q - k) = t + q - k := ⟨IntWalk.i64_in _ (by omega), IntWalk.i64_in _ (by omega), IntWalk.i64_in _ (by omega)⟩
  have H := Lib.hid (And.intro h (And.intro p0 (And.intro hx0 (And.intro hl ho)))); clear h p0 hx0 ho hy hl
  by_cases k0 : k = 0
  · subst k0
    have hs : serveF (i, q, t, 0) fr = (false, (i, q, 0, 0), fr) := rfl
    unfold ServeP
    rw [hs]
    clear hs
    go_enter Try.func28, Try.ntmps28
    go_wp2
    go_ret
    obtain ⟨a, b⟩ := H.out.2.1 (.int .i64 0) (i, q, 0, 0) rfl
    exact ⟨rfl, a, b⟩
  · have kb : (k == 0) = false := by simpa using k0
    unfold ServeP
    cases fr
    · by_cases hlt : t < k
      · have hs : serveF (i, q, t, k) false = (false, (i, q, t, k), false) := by unfold serveF; simp [k0, hlt]
        rw [hs]; clear hs
        go_enter Try.func28, Try.ntmps28
        go_wp2
        go_quiet (fail)
        go_wp2
        go_ret
        exact ⟨rfl, by rw [H.out.2.2.1]; exact H.out.1.heap rfl, (Chg.refl B w).heap rfl rfl rfl rfl⟩
      · have hs : serveF (i, q, t, k) false = (true, (i, q, t - k, k), false) := by unfold serveF; simp [k0, hlt]
        rw [hs]; clear hs
        go_enter Try.func28, Try.ntmps28
        go_wp2
        go_quiet (fail)
        go_wp2_with fail
        go_region_law (fail)
        all_goals go_wp2
        all_goals go_ret
        all_goals
          obtain ⟨a, b⟩ := H.out.2.1 (.int .i64 (t - k)) (i, q, t - k, k) rfl
          exact ⟨rfl, a.heap rfl, b.heap rfl rfl rfl rfl⟩
    · by_cases hlt : t + q < k
      · have hs : serveF (i, q, t, k) true = (false, (i, q, t + q, k), false) := by unfold serveF; simp [k0, hlt]
        rw [hs]; clear hs
        go_enter Try.func28, Try.ntmps28
        go_wp2
        go_region_law (fail)
        all_goals go_wp2
        all_goals go_quiet (fail)
        all_goals go_wp2
        all_goals go_ret
        all_goals
          obtain ⟨a, b⟩ := H.out.2.1 (.int .i64 (t + q)) (i, q, t + q, k) rfl
          obtain ⟨a', b'⟩ := a.fresh false
          exact ⟨rfl, a'.heap rfl, (b.trans b').heap rfl rfl rfl rfl⟩
      · have hs : serveF (i, q, t, k) true = (true, (i, q, t + q - k, k), false) := by unfold serveF; simp [k0, hlt]
        rw [hs]; clear hs
        go_enter Try.func28, Try.ntmps28
        go_wp2
        go_region_law (fail)
        all_goals go_wp2
        all_goals go_quiet (fail)
        all_goals go_wp2_with fail
        all_goals go_region_law (fail)
        all_goals go_wp2
        all_goals go_ret
        all_goals
          obtain ⟨a, b⟩ := H.out.2.1 (.int .i64 (t + q)) (i, q, t + q, k) rfl
          obtain ⟨a', b'⟩ := a.fresh false
          obtain ⟨a2, b2⟩ := a'.put c (by rw [List.length_set]; exact hc) (i := 2) (by decide) (x := (i, q, t + q - k, k)) (u := .int .i64 (t + q - k)) (by rw [List.getElem_set_self]; rfl) (o := o + 2) (by rw [H.out.2.2.2.2])
          rw [List.set_set] at a2
          exact ⟨rfl, a2.heap rfl, ((b.trans b').trans b2).heap rfl rfl rfl rfl⟩
end Go.Proofs.Ytckpecddglfjkaa
