/- Layer 12: ranks: what waits. -/
import Derived.Test.YtinonfgehbjneaaGphF
import Derived.Deep.RegionLaw
namespace Go.Proofs.Ytinonfgehbjneaa
open Go.ChangeShapes Go.WideShapes Go.ChangeAt Go.RowKit Go.Maps
open Gr (Nd nmAt frAt cn leadsU leadsL wtOf Dist Kahn Inner RankFull Loopy)
set_option linter.unusedVariables false
set_option linter.unusedSimpArgs false

theorem own_madeI (w : World) (n : Nat) (hn : n ≤ maxLen) : Own (w.alloc (.cells (madeCells #[.int .i64 0] n) 3)) w.heap.size 3 1 rowP (.slice (some ⟨w.heap.size, 0, none⟩) n n) (List.replicate n 0) := by
  refine own_lit (List.replicate n 0) rfl (Nat.le_refl _) (by simp) hn ?_ ?_
  · simp [madeCells]
  · apply List.ext_getElem
    · rw [flat_len (f := rowP) (k := 1) (fun _ => rfl)]; simp [madeCells]
    · intro j h1 h2
      have hj : j < n := by rw [flat_len (f := rowP) (k := 1) (fun _ => rfl), List.length_replicate] at h1; omega
      have e := flat_get (f := rowP) (k := 1) (fun _ => rfl) (List.replicate n 0) j 0 (by simpa using hj) (by omega)
      simp only [Nat.mul_one, Nat.add_zero, List.getElem_replicate, List.getElem?_cons_zero, List.getElem?_eq_getElem h1] at e
      rw [Option.some.inj e]
      simp [madeCells, Nat.mod_one]
def Named (N : List Nd) (f : ByteArray) : Prop := ∃ j, j < N.length ∧ nmAt N j = f
open Classical in
noncomputable def cNamed (N : List Nd) (l : List ByteArray) : Nat := l.countP (fun f => decide (Named N f))
theorem wtOf_nil (N : List Nd) (k : Nat) : wtOf N [] k = cNamed N (frAt N k) := by
  unfold wtOf cNamed Named
  congr 1
  funext f
  simp
theorem cNamed_more {N : List Nd} {l : List ByteArray} {j : Nat} (hj : j < l.length) : (Named N (l[j]'hj) → cNamed N (l.take (j + 1)) = cNamed N (l.take j) + 1) ∧ (¬ Named N (l[j]'hj) → cNamed N (l.take (j + 1)) = cNamed N (l.take j)) := by
  rw [Gr.take_more hj]
  unfold cNamed
  constructor
  · intro h; rw [List.countP_append]; simp [h]
  · intro h; rw [List.countP_append]; simp [h]
/-- For how many a node waits, told up to place i, of which c are told. -/
noncomputable def wl (N : List Nd) (n i c : Nat) : List Nat := (List.range n).map fun k => if k < i then wtOf N [] k else if k = i then c else 0
theorem wl_len (N : List Nd) (n i c : Nat) : (wl N n i c).length = n := by simp [wl]
theorem wl_zero (N : List Nd) (n : Nat) : wl N n 0 0 = List.replicate n 0 := by
  apply List.ext_getElem
  · simp [wl]
  · intro j h1 h2; simp [wl]
theorem wl_at {N : List Nd} {n i c k : Nat} (h : k < (wl N n i c).length) : (wl N n i c)[k]'h = if k < i then wtOf N [] k else if k = i then c else 0 := by simp [wl]
theorem wl_here {N : List Nd} {n i c : Nat} (h : i < (wl N n i c).length) : (wl N n i c)[i]'h = c := by rw [wl_at]; simp
theorem wl_set {N : List Nd} {n i c d : Nat} : (wl N n i c).set i d = wl N n i d := by
  apply List.ext_getElem
  · simp [wl]
  · intro j h1 h2
    rw [List.getElem_set, wl_at, wl_at]
    by_cases e : i = j
    · subst e; simp
    · rw [if_neg e, if_neg (Ne.symm e)]
      simp only [if_neg (Ne.symm e)]
theorem wl_next {N : List Nd} {n i : Nat} : wl N n i (wtOf N [] i) = wl N n (i + 1) 0 := by
  apply List.ext_getElem
  · simp [wl]
  · intro j h1 h2
    rw [wl_at, wl_at]
    rcases (by omega : j < i ∨ j = i ∨ i < j) with h | rfl | h
    · rw [if_pos h, if_pos (by omega)]
    · simp
    · rw [if_neg (by omega), if_neg (by omega), if_neg (by omega), ite_self]
theorem getD_set {l : List Nat} {k v j : Nat} (hk : k < l.length) : (l.set k v).getD j 0 = if j = k then v else l.getD j 0 := by
  by_cases e : j = k
  · subst e; simp [hk]
  · rw [if_neg e]; simp [List.getElem?_set, Ne.symm e]
theorem getD_at {l : List Nat} {k : Nat} (hk : k < l.length) : l.getD k 0 = l[k]'hk := by simp [hk]
/-- Kahn's start. -/
theorem kahn_start {N : List Nd} {n : Nat} {X : List Nat} (hn : N.length = n) (hX : Rise (fun k => k < n ∧ wtOf N [] k = 0) X) : Kahn N X 0 (fun k => (wl N n n 0).getD k 0) (fun k => (List.replicate n 0).getD k 0) := by
  have hw : ∀ k, k < n → (wl N n n 0).getD k 0 = wtOf N [] k := fun k hk => by
    rw [getD_at (by rw [wl_len]; exact hk), wl_at, if_pos hk]
  have hr : ∀ k, (List.replicate n 0).getD k 0 = 0 := fun k => by
    rcases Nat.lt_or_ge k n with h | h
    · rw [getD_at (by simpa using h)]; simp
    · simp [List.getD, List.getElem?_eq_none (show (List.replicate n 0).length ≤ k by simpa using h)]
  refine ⟨hX.1.imp (fun {a b} h e => by omega), fun k hk => by rw [hn]; exact ((hX.2 k).1 hk).1, fun k hk => ?_, fun k hk => ?_, fun k hk => ⟨fun p hp => by simp at hp, Or.inl (hr k)⟩⟩
  · simp only [List.take_zero]; exact hw k (by omega)
  · rw [hX.2]
    simp only [hw k (by omega)]
    exact ⟨fun h => h.2, fun h => ⟨by omega, h⟩⟩
/-- The rows that rank holds: what waits (block gw), ranks (block gr), who is next. -/
structure KhAt (w1 wr : World) (gw gr n : Nat) (xv : Value) (Wm Rm X : List Nat) : Prop where
  wt : Own wr gw 3 1 rowP (.slice (some ⟨gw, 0, none⟩) n n) Wm
  rk : Own wr gr 3 1 rowP (.slice (some ⟨gr, 0, none⟩) n n) Rm
  nx : Own wr (gw + 1) 3 1 rowP xv X
  ap : ∀ x, xv.ownBlock = some x → x ≠ gr
  lt : gw < gr
  bel : Below gw w1 wr
  sz : gw ≤ w1.heap.size
theorem KhAt.lw {w1 wr : World} {gw gr n : Nat} {xv : Value} {Wm Rm X : List Nat} (h : KhAt w1 wr gw gr n xv Wm Rm X) : Wm.length = n := by
  obtain ⟨_, _, e, _⟩ := h.wt.shape
  simp only [Value.slice.injEq] at e
  exact e.2.1.symm
theorem KhAt.lr {w1 wr : World} {gw gr n : Nat} {xv : Value} {Wm Rm X : List Nat} (h : KhAt w1 wr gw gr n xv Wm Rm X) : Rm.length = n := by
  obtain ⟨_, _, e, _⟩ := h.rk.shape
  simp only [Value.slice.injEq] at e
  exact e.2.1.symm
theorem KhAt.later {w1 wr w' : World} {gw gr n : Nat} {xv : Value} {Wm Rm X : List Nat} (h : KhAt w1 wr gw gr n xv Wm Rm X) (hb : Below wr.heap.size wr w') : KhAt w1 w' gw gr n xv Wm Rm X :=
  ⟨h.wt.later hb, h.rk.later hb, h.nx.later hb, h.ap, h.lt, h.bel.trans (hb.mono (Nat.le_trans h.sz h.bel.size)), h.sz⟩
theorem KhAt.setW {w1 wr : World} {gw gr n : Nat} {xv : Value} {Wm Rm X : List Nat} (h : KhAt w1 wr gw gr n xv Wm Rm X) (k : Nat) (hk : k < n) (v : Nat) : KhAt w1 (wr.setCell ⟨gw, k, none⟩ (.int .i64 (v : Int))) gw gr n xv (Wm.set k v) Rm X := by
  have hl := h.lw
  have h2 := Own.put (f := rowP) (k := 1) (fun _ => rfl) h.wt k (by omega) (i := 0) (by omega) (x := v) (u := .int .i64 (v : Int)) rfl
  rw [Nat.mul_one, Nat.add_zero] at h2
  exact ⟨h2, h.rk.far (p := ⟨gw, k, none⟩) h.lt _, h.nx.far (p := ⟨gw, k, none⟩) (Nat.lt_succ_self gw) _, h.ap, h.lt, h.bel.setCell (p := ⟨gw, k, none⟩) (Nat.le_refl gw) _, h.sz⟩
theorem own_off {α : Type} {w : World} {B : Nat} {e : TypeId} {k : Nat} {f : α → List Value} {v : Value} {l : List α} (h : Own w B e k f v l) {p : Addr} (hp : v.ownBlock ≠ some p.block) (u : Value) : Own (w.setCell p u) B e k f v l := by
  refine ⟨h.1, ?_⟩
  rcases h.2 with h0 | ⟨g, cap, cur, rfl, h1, h2, h3⟩
  · exact Or.inl h0
  · exact Or.inr ⟨g, cap, cur, rfl, h1, by rw [Below.heap_setCell w p u g (fun e => hp (by rw [← e]; rfl))]; exact h2, h3⟩
theorem KhAt.setR {w1 wr : World} {gw gr n : Nat} {xv : Value} {Wm Rm X : List Nat} (h : KhAt w1 wr gw gr n xv Wm Rm X) (k : Nat) (hk : k < n) (v : Nat) : KhAt w1 (wr.setCell ⟨gr, k, none⟩ (.int .i64 (v : Int))) gw gr n xv Wm (Rm.set k v) X := by
  have hl := h.lr
  have h2 := Own.put (f := rowP) (k := 1) (fun _ => rfl) h.rk k (by omega) (i := 0) (by omega) (x := v) (u := .int .i64 (v : Int)) rfl
  rw [Nat.mul_one, Nat.add_zero] at h2
  have hlt := h.lt
  exact ⟨own_off h.wt (p := ⟨gr, k, none⟩) (fun e => by simp [Value.ownBlock] at e; omega) _, h2, own_off h.nx (p := ⟨gr, k, none⟩) (fun e => h.ap _ e rfl) _, h.ap, h.lt, h.bel.setCell (p := ⟨gr, k, none⟩) (Nat.le_of_lt hlt) _, h.sz⟩
theorem KhAt.app {w1 wr w' : World} {gw gr n : Nat} {xv v' : Value} {Wm Rm X X' : List Nat} (h : KhAt w1 wr gw gr n xv Wm Rm X) (ho : Own w' (gw + 1) 3 1 rowP v' X') (hg : wr.grownBy w' xv.ownBlock) (hl : ∀ x, v'.ownBlock = some x → xv.ownBlock = some x ∨ wr.heap.size ≤ x) : KhAt w1 w' gw gr n v' Wm Rm X' := by
  obtain ⟨_, cs, hc⟩ := Own.block h.rk rfl
  have hgr := (Array.getElem?_eq_some_iff.1 hc).1
  refine ⟨h.wt.grown hg (fun b hb e => ?_), h.rk.grown hg (fun b hb e => ?_), ho, fun x hx => ?_, h.lt, h.bel.trans (grownBy_below hg (Nat.le_trans h.sz h.bel.size) (fun k hk => by have := (Own.block h.nx hk).1; omega)), h.sz⟩
  · have := (Own.block h.nx hb).1
    simp [Value.ownBlock] at e; omega
  · simp [Value.ownBlock] at e
    exact h.ap b hb e.symm
  · rcases hl x hx with h1 | h1
    · exact h.ap x h1
    · omega
/-- The cells of the two rows. -/
theorem KhAt.cells {w1 wr : World} {gw gr n : Nat} {xv : Value} {Wm Rm X : List Nat} (h : KhAt w1 wr gw gr n xv Wm Rm X) (hn : 0 < n) : gw < wr.heap.size ∧ gr < wr.heap.size ∧ (∀ o, wr.frozen? ⟨gw, o, none⟩ = false) ∧ (∀ o, wr.frozen? ⟨gr, o, none⟩ = false) ∧ (∀ k, k < n → wr.cell? ⟨gw, k, none⟩ = some (.int .i64 ((Wm.getD k 0 : Nat) : Int))) ∧ ∀ k, k < n → wr.cell? ⟨gr, k, none⟩ = some (.int .i64 ((Rm.getD k 0 : Nat) : Int)) := by
  have hw := h.lw
  have hr := h.lr
  obtain ⟨g1, e1, _, b1, c1, d1⟩ := h.wt.cells (f := rowP) (k := 1) (fun _ => rfl) rfl (by omega)
  obtain ⟨g2, e2, _, b2, c2, d2⟩ := h.rk.cells (f := rowP) (k := 1) (fun _ => rfl) rfl (by omega)
  obtain rfl : gw = g1 := by simpa using e1
  obtain rfl : gr = g2 := by simpa using e2
  refine ⟨b1, b2, c1, c2, fun k hk => ?_, fun k hk => ?_⟩
  · have := d1 k (by omega) 0 _ rfl
    rw [Nat.mul_one, Nat.add_zero] at this
    rw [getD_at (by omega)]; exact this
  · have := d2 k (by omega) 0 _ rfl
    rw [Nat.mul_one, Nat.add_zero] at this
    rw [getD_at (by omega)]; exact this
end Go.Proofs.Ytinonfgehbjneaa
