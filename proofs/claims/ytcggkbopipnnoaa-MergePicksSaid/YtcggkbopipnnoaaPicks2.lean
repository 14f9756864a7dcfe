/- MergePicks: what is known, in memory. -/
import Derived.Test.YtcggkbopipnnoaaPicks
namespace Go.Proofs.Ytcggkbopipnnoaa
open Go.ChangeShapes Go.WideShapes Go.ChangeAt Go.RowKit
set_option linter.unusedVariables false
set_option linter.unusedSimpArgs false

abbrev bolc (b : Bool) : List Value := [.bool b]
theorem flat_set {α : Type} {f : α → List Value} (hf : ∀ x, (f x).length = 1) {u : Value} {x : α} (hx : f x = [u]) : ∀ (l : List α) (k : Nat), (l.flatMap f).set k u = (l.set k x).flatMap f
  | [], k => by simp
  | y :: r, 0 => by
    obtain ⟨z, hz⟩ : ∃ z, f y = [z] := List.length_eq_one_iff.1 (hf y)
    simp [hx, hz]
  | y :: r, k + 1 => by
    obtain ⟨z, hz⟩ : ∃ z, f y = [z] := List.length_eq_one_iff.1 (hf y)
    simp [hz, flat_set hf hx r k]
theorem own_put {α : Type} {f : α → List Value} (hf : ∀ x, (f x).length = 1) {w : World} {b : Nat} {e : TypeId} {g n c : Nat} {cs : List α} (h : Own w b e 1 f (.slice (some ⟨g, 0, none⟩) n c) cs) (k : Nat) {x : α} {u : Value} (hx : f x = [u]) :
    Own (w.setCell ⟨g, k, none⟩ u) b e 1 f (.slice (some ⟨g, 0, none⟩) n c) (cs.set k x) ∧ w.grownBy (w.setCell ⟨g, k, none⟩ u) (Value.slice (some ⟨g, 0, none⟩) n c).ownBlock := by
  obtain ⟨_, _, he, _, _, _⟩ := h.shape
  simp only [Value.slice.injEq] at he
  obtain ⟨_, rfl, rfl⟩ := he
  have := World.ownsRow.stored h k u
  refine ⟨?_, this.2⟩
  unfold Own
  rw [List.length_set, ← flat_set hf hx]
  exact this.1
theorem own_cell {α : Type} {f : α → List Value} (hf : ∀ x, (f x).length = 1) {w : World} {b : Nat} {e : TypeId} {g n c : Nat} {cs : List α} (h : Own w b e 1 f (.slice (some ⟨g, 0, none⟩) n c) cs) (k : Nat) (hk : k < cs.length) {u : Value} (hx : f (cs[k]'hk) = [u]) :
    w.cell? ⟨g, k, none⟩ = some u ∧ ∀ o, w.frozen? ⟨g, o, none⟩ = false := by
  obtain ⟨g', hg, _, _, hfr, hc⟩ := h.cells hf rfl (by omega)
  obtain rfl : g = g' := by simpa using hg
  have := hc k hk 0 u (by rw [hx]; rfl)
  rw [Nat.mul_one, Nat.add_zero] at this
  exact ⟨this, hfr⟩
theorem own_made {α : Type} {w : World} {e : TypeId} {g : Nat} {f : α → List Value} {z : Value} {x : α} {n : Nat} (hz : z.cells = #[z]) (hf : f x = [z]) (h : w.ownsRow 0 e 1 (.slice (some ⟨g, 0, none⟩) n n) n (madeCells z.cells (n * 1)).toList) : Own w 0 e 1 f (.slice (some ⟨g, 0, none⟩) n n) (rm n fun _ => x) := by
  have e : (madeCells z.cells (n * 1)).toList = (rm n fun _ => x).flatMap f := by
    rw [hz, toList_madeCells_one, Nat.mul_one]
    clear h
    induction n with
    | zero => rfl
    | succ n ih => rw [rm_succ, List.flatMap_append, ← ih, List.replicate_succ']; simp [hf]
  unfold Own
  rw [rm_len, ← e]; exact h
theorem own_lt {α : Type} {w : World} {b : Nat} {e : TypeId} {k : Nat} {f : α → List Value} {g n c : Nat} {l : List α} (h : Own w b e k f (.slice (some ⟨g, 0, none⟩) n c) l) : g < w.heap.size := by
  rcases h.2 with ⟨h, _⟩ | ⟨g', cap, cur, hv, h1, h2, h3⟩
  · simp at h
  · obtain ⟨rfl, _, _⟩ : g = g' ∧ n = _ ∧ c = _ := by simpa using hv
    exact (Array.getElem?_eq_some_iff.1 h2).1

/-- The law's lists in memory: come, read, low, done; all, the inputs. -/
structure Ps (w : World) (gc gr gl gd n : Nat) (lv uv : Value) (l : List Pr) (us : List SV) (ins : List (List Ev2)) (c r : Nat → Nat) (lo : Nat → Int) (dn : Nat → Bool) : Prop where
  ne : gc ≠ gr
  come : Own w 0 3 1 i64c (.slice (some ⟨gc, 0, none⟩) n n) (rm n fun k => ((c k : Nat) : Int))
  read : Own w 0 3 1 i64c (.slice (some ⟨gr, 0, none⟩) n n) (rm n fun k => ((r k : Nat) : Int))
  low : Own w 0 2 1 i64c (.slice (some ⟨gl, 0, none⟩) n n) (rm n lo)
  done : Own w 0 4 1 bolc (.slice (some ⟨gd, 0, none⟩) n n) (rm n dn)
  all : Own w 0 52 3 rowP lv l
  rows : Own w 0 25 1 slc uv us
  each : Each w 46 2 rowE us ins
section
variable {w w' : World} {gc gr gl gd n : Nat} {lv uv : Value} {l : List Pr} {us : List SV} {ins : List (List Ev2)} {c r : Nat → Nat} {lo : Nat → Int} {dn : Nat → Bool}
theorem Ps.later (h : Ps w gc gr gl gd n lv uv l us ins c r lo dn) (hb : Below w.heap.size w w') : Ps w' gc gr gl gd n lv uv l us ins c r lo dn :=
  ⟨h.ne, h.come.later hb, h.read.later hb, h.low.later hb, h.done.later hb, h.all.later hb, h.rows.later hb, h.each.later hb⟩
theorem other {α β : Type} {w w' : World} {e e' : TypeId} {k k' : Nat} {f : α → List Value} {g : β → List Value} {u v : Value} {l : List α} {m : List β} (h : Own w 0 e k f v l) (h' : Own w 0 e' k' g u m) (hne : e ≠ e') (hg : w.grownBy w' u.ownBlock) : Own w' 0 e k f v l := h.grown hg (fun b hb => h.apart h' hne b hb)
theorem upd_int (n : Nat) (c : Nat → Nat) (k x : Nat) : (rm n fun j => ((c j : Nat) : Int)).set k ((x : Nat) : Int) = rm n fun j => ((upd c k x j : Nat) : Int) := by
  rw [rm_set]
  exact rm_eq _ _ _ (fun j hj => by unfold upd; split <;> rfl)
theorem Ps.putCome (h : Ps w gc gr gl gd n lv uv l us ins c r lo dn) (k x : Nat) : Ps (w.setCell ⟨gc, k, none⟩ (.int .i64 (x : Int))) gc gr gl gd n lv uv l us ins (upd c k x) r lo dn := by
  obtain ⟨h1, h2⟩ := own_put (fun _ => rfl) h.come k (x := (x : Int)) rfl
  rw [upd_int] at h1
  exact ⟨h.ne, h1, h.read.grown h2 (fun b hb => by simp [Value.ownBlock] at hb ⊢; have := h.ne; omega), other h.low h.come (by decide) h2, other h.done h.come (by decide) h2, other h.all h.come (by decide) h2, other h.rows h.come (by decide) h2, h.each.grown h.come (by decide) h2⟩
theorem Ps.putRead (h : Ps w gc gr gl gd n lv uv l us ins c r lo dn) (k x : Nat) : Ps (w.setCell ⟨gr, k, none⟩ (.int .i64 (x : Int))) gc gr gl gd n lv uv l us ins c (upd r k x) lo dn := by
  obtain ⟨h1, h2⟩ := own_put (fun _ => rfl) h.read k (x := (x : Int)) rfl
  rw [upd_int] at h1
  exact ⟨h.ne, h.come.grown h2 (fun b hb => by simp [Value.ownBlock] at hb ⊢; have := h.ne; omega), h1, other h.low h.read (by decide) h2, other h.done h.read (by decide) h2, other h.all h.read (by decide) h2, other h.rows h.read (by decide) h2, h.each.grown h.read (by decide) h2⟩
theorem Ps.putLow (h : Ps w gc gr gl gd n lv uv l us ins c r lo dn) (k : Nat) (x : Int) : Ps (w.setCell ⟨gl, k, none⟩ (.int .i64 x)) gc gr gl gd n lv uv l us ins c r (upd lo k x) dn := by
  obtain ⟨h1, h2⟩ := own_put (fun _ => rfl) h.low k (x := x) rfl
  rw [rm_set] at h1
  exact ⟨h.ne, other h.come h.low (by decide) h2, other h.read h.low (by decide) h2, h1, other h.done h.low (by decide) h2, other h.all h.low (by decide) h2, other h.rows h.low (by decide) h2, h.each.grown h.low (by decide) h2⟩
theorem Ps.putDone (h : Ps w gc gr gl gd n lv uv l us ins c r lo dn) (k : Nat) (x : Bool) : Ps (w.setCell ⟨gd, k, none⟩ (.bool x)) gc gr gl gd n lv uv l us ins c r lo (upd dn k x) := by
  obtain ⟨h1, h2⟩ := own_put (f := bolc) (fun _ => rfl) h.done k (x := x) rfl
  rw [rm_set] at h1
  exact ⟨h.ne, other h.come h.done (by decide) h2, other h.read h.done (by decide) h2, other h.low h.done (by decide) h2, h1, other h.all h.done (by decide) h2, other h.rows h.done (by decide) h2, h.each.grown h.done (by decide) h2⟩
theorem Ps.cells (h : Ps w gc gr gl gd n lv uv l us ins c r lo dn) {k : Nat} (hk : k < n) :
    w.cell? ⟨gc, k, none⟩ = some (.int .i64 (c k : Nat)) ∧ w.cell? ⟨gr, k, none⟩ = some (.int .i64 (r k : Nat)) ∧ w.cell? ⟨gl, k, none⟩ = some (.int .i64 (lo k)) ∧ w.cell? ⟨gd, k, none⟩ = some (.bool (dn k)) :=
  ⟨(own_cell (fun _ => rfl) h.come k (by rw [rm_len]; exact hk) (by rw [rm_get])).1, (own_cell (fun _ => rfl) h.read k (by rw [rm_len]; exact hk) (by rw [rm_get])).1, (own_cell (fun _ => rfl) h.low k (by rw [rm_len]; exact hk) (by rw [rm_get])).1, (own_cell (f := bolc) (fun _ => rfl) h.done k (by rw [rm_len]; exact hk) (by rw [rm_get])).1⟩
theorem Ps.thawed (h : Ps w gc gr gl gd n lv uv l us ins c r lo dn) (hn : 0 < n) (o : Nat) :
    w.frozen? ⟨gc, o, none⟩ = false ∧ w.frozen? ⟨gr, o, none⟩ = false ∧ w.frozen? ⟨gl, o, none⟩ = false ∧ w.frozen? ⟨gd, o, none⟩ = false :=
  ⟨(own_cell (fun _ => rfl) h.come 0 (by rw [rm_len]; exact hn) (by rw [rm_get])).2 o, (own_cell (fun _ => rfl) h.read 0 (by rw [rm_len]; exact hn) (by rw [rm_get])).2 o, (own_cell (fun _ => rfl) h.low 0 (by rw [rm_len]; exact hn) (by rw [rm_get])).2 o, (own_cell (f := bolc) (fun _ => rfl) h.done 0 (by rw [rm_len]; exact hn) (by rw [rm_get])).2 o⟩
theorem Ps.apart (h : Ps w gc gr gl gd n lv uv l us ins c r lo dn) : gc ≠ gl ∧ gc ≠ gd ∧ gr ≠ gl ∧ gr ≠ gd ∧ gl ≠ gd :=
  ⟨fun e => h.come.apart h.low (by decide) gl rfl (by rw [e]; rfl), fun e => h.come.apart h.done (by decide) gd rfl (by rw [e]; rfl), fun e => h.read.apart h.low (by decide) gl rfl (by rw [e]; rfl), fun e => h.read.apart h.done (by decide) gd rfl (by rw [e]; rfl), fun e => h.low.apart h.done (by decide) gd rfl (by rw [e]; rfl)⟩
/-- An input's row, its times. -/
theorem Ps.row {gi ci : Nat} (h : Ps w gc gr gl gd n lv (.slice (some ⟨gi, 0, none⟩) n ci) l us ins c r lo dn) (hu : us.length = n) {k : Nat} (hk : k < n) :
    ∃ B cb, w.cell? ⟨gi, k, none⟩ = some (.slice B (lenf ins k) cb) ∧ ∀ j, j < lenf ins k → ∃ ge, B = some ⟨ge, 0, none⟩ ∧ w.cell? ⟨ge, j * 2, none⟩ = some (.int .i64 (tmf ins k j)) := by
  have hki : k < ins.length := by have := h.each.1; omega
  have hE := h.each.2 k (by omega) hki
  have hc := (own_cell (fun _ => rfl) h.rows k (by omega) rfl).1
  generalize us[k]'(by omega : k < us.length) = s at *
  obtain ⟨B, nb, cb⟩ := s
  obtain ⟨_, cb', heb, _, _, _⟩ := hE.shape
  obtain ⟨rfl, rfl, rfl⟩ : B = _ ∧ nb = (ins[k]'hki).length ∧ cb = cb' := by simpa [sl] using heb
  rw [lenf_at hki]
  refine ⟨_, _, hc, fun j hj => ?_⟩
  obtain ⟨ge, hge, _, _, _, hce⟩ := hE.cells (f := rowE) (k := 2) (fun _ => rfl) rfl (by omega)
  refine ⟨ge, hge, ?_⟩
  rw [tmf_at hki hj]
  exact hce j hj 0 _ rfl
theorem Ps.who (h : Ps w gc gr gl gd n lv uv l us ins c r lo dn) {A : Option Addr} {m d : Nat} (hv : lv = .slice A m d) (i : Nat) (hi : i < l.length) : ∃ g, A = some ⟨g, 0, none⟩ ∧ w.cell? ⟨g, i * 3, none⟩ = some (.int .i64 (l[i]'hi).1) := by
  obtain ⟨g, hg, _, _, _, hc⟩ := h.all.cells (f := rowP) (k := 3) (fun _ => rfl) hv (by omega)
  exact ⟨g, hg, hc i hi 0 _ rfl⟩
theorem rd_next {l : List Pr} {got q : Nat} (hg : got < l.length) (hq : (l[got]'hg).1 = (q : Int)) : upd (rd l got) q (rd l got q + 1) = rd l (got + 1) := by
  funext k
  rw [rd_succ hg, hq]
  unfold upd
  by_cases h : k = q
  · subst h; rw [if_pos rfl, if_pos rfl]
  · rw [if_neg h, if_neg (by omega)]; rfl
end
end Go.Proofs.Ytcggkbopipnnoaa
