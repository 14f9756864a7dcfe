/- Turns by deficits: how they lie in memory; find. -/
import Derived.Test.YtckpecddglfjkaaDrM
import Derived.Test.YtckpecddglfjkaaCells2
import Derived.Deep.QuietTactic
namespace Go.Proofs.Ytckpecddglfjkaa
open Go.ChangeShapes Go.WideShapes Go.ChangeAt Go.RowKit
set_option linter.unusedVariables false
set_option linter.unusedSimpArgs false

theorem flat_set {α : Type} {f : α → List Value} {k : Nat} (hf : ∀ x, (f x).length = k) {i : Nat} (hi : i < k) {u : Value} {x : α} : ∀ (l : List α) (j : Nat) (hj : j < l.length), f x = (f (l[j]'hj)).set i u → (l.set j x).flatMap f = (l.flatMap f).set (j * k + i) u
  | [], j, hj, _ => absurd hj (by simp)
  | a :: r, 0, hj, h => by
    simp only [List.set_cons_zero, List.flatMap_cons, Nat.zero_mul, Nat.zero_add]
    rw [List.set_append_left _ _ (by rw [hf]; exact hi), h]; rfl
  | a :: r, j + 1, hj, h => by
    simp only [List.set_cons_succ, List.flatMap_cons]
    rw [List.set_append_right _ _ (by rw [hf, Nat.add_mul]; omega), flat_set hf hi r j (by simpa using hj) h, hf]
    congr 2
    rw [Nat.add_mul]; omega
/-- A cell of an element is written. -/
theorem Own.put {α : Type} {f : α → List Value} {k : Nat} (hf : ∀ x, (f x).length = k) {w : World} {b : Nat} {e : TypeId} {g n c : Nat} {l : List α} (h : Own w b e k f (.slice (some ⟨g, 0, none⟩) n c) l) (j : Nat) (hj : j < l.length) {i : Nat} (hi : i < k) {x : α} {u : Value} (hx : f x = (f (l[j]'hj)).set i u) :
    Own (w.setCell ⟨g, j * k + i, none⟩ u) b e k f (.slice (some ⟨g, 0, none⟩) n c) (l.set j x) := by
  obtain ⟨_, _, he, _, _, _⟩ := h.shape
  simp only [Value.slice.injEq] at he
  obtain ⟨_, rfl, rfl⟩ := he
  have := World.ownsRow.stored h (j * k + i) u
  unfold Own
  rw [List.length_set, flat_set hf hi l j hj hx]
  exact this.1
/-- All but blocks of these two types is as it was. -/
structure Frm (t1 t2 : TypeId) (w w' : World) : Prop where
  size : w.heap.size ≤ w'.heap.size
  same : ∀ k, k < w.heap.size → (∀ cs fr, w.heap[k]? ≠ some (.cells cs t1 fr)) → (∀ cs fr, w.heap[k]? ≠ some (.cells cs t2 fr)) → w'.heap[k]? = w.heap[k]?
theorem Frm.refl (t1 t2 : TypeId) (w : World) : Frm t1 t2 w w := ⟨Nat.le_refl _, fun _ _ _ _ => rfl⟩
theorem Frm.trans {t1 t2 : TypeId} {a b c : World} (h : Frm t1 t2 a b) (k : Frm t1 t2 b c) : Frm t1 t2 a c :=
  ⟨Nat.le_trans h.size k.size, fun i hi h1 h2 => by
    have e := h.same i hi h1 h2
    rw [k.same i (Nat.lt_of_lt_of_le hi h.size) (fun cs fr => by rw [e]; exact h1 cs fr) (fun cs fr => by rw [e]; exact h2 cs fr), e]⟩
theorem Frm.below {t1 t2 : TypeId} {w w' : World} (h : Below w.heap.size w w') : Frm t1 t2 w w' := ⟨h.size, fun k hk _ _ => h.block k hk⟩
theorem Frm.set1 {t1 t2 : TypeId} {w : World} {g : Nat} {cs : Array Value} {fr : Nat × Nat} (h : w.heap[g]? = some (.cells cs t1 fr)) (o : Nat) (u : Value) : Frm t1 t2 w (w.setCell ⟨g, o, none⟩ u) :=
  ⟨by simp [World.setCell], fun k hk h1 h2 => Below.heap_setCell _ _ _ _ (fun e => by have e' : k = g := e; subst e'; exact h1 _ _ h)⟩
theorem Frm.set2 {t1 t2 : TypeId} {w : World} {g : Nat} {cs : Array Value} {fr : Nat × Nat} (h : w.heap[g]? = some (.cells cs t2 fr)) (o : Nat) (u : Value) : Frm t1 t2 w (w.setCell ⟨g, o, none⟩ u) :=
  ⟨by simp [World.setCell], fun k hk h1 h2 => Below.heap_setCell _ _ _ _ (fun e => by have e' : k = g := e; subst e'; exact h2 _ _ h)⟩
theorem Own.block {α : Type} {w : World} {b : Nat} {e : TypeId} {k : Nat} {f : α → List Value} {v : Value} {l : List α} (h : Own w b e k f v l) {g : Nat} (hg : v.ownBlock = some g) : b ≤ g ∧ ∃ cs, w.heap[g]? = some (.cells cs e (0, 0)) := by
  rcases h.2 with ⟨rfl, _⟩ | ⟨g', cap, cur, rfl, h1, h2, _⟩
  · simp [Value.ownBlock] at hg
  · simp [Value.ownBlock] at hg
    subst hg
    exact ⟨h1, _, h2⟩
theorem Frm.grown {t1 t2 : TypeId} {w w' : World} {row : Option Nat} (hg : w.grownBy w' row) (h : ∀ g, row = some g → ∃ cs, w.heap[g]? = some (.cells cs t2 (0, 0))) : Frm t1 t2 w w' :=
  ⟨hg.size, fun k hk h1 h2 => hg.block k hk (fun e => by obtain ⟨cs, hc⟩ := h k e.symm; exact h2 _ _ hc)⟩
theorem Own.frm {α : Type} {t1 t2 : TypeId} {w w' : World} {b : Nat} {e : TypeId} {k : Nat} {f : α → List Value} {v : Value} {l : List α} (h : Own w b e k f v l) (hF : Frm t1 t2 w w') (n1 : e ≠ t1) (n2 : e ≠ t2) : Own w' b e k f v l := by
  refine ⟨h.1, ?_⟩
  rcases h.2 with h0 | ⟨g, cap, cur, rfl, h1, h2, h3⟩
  · exact Or.inl h0
  · exact Or.inr ⟨g, cap, cur, rfl, h1, by rw [hF.same g (Array.getElem?_eq_some_iff.1 h2).1 (fun cs fr => by rw [h2]; simpa using fun _ e => absurd e n1) (fun cs fr => by rw [h2]; simpa using fun _ e => absurd e n2)]; exact h2, h3⟩
theorem Blk.frm {t1 t2 : TypeId} {w w' : World} {g : Nat} {t : TypeId} {cs : Array Value} (h : Blk w g t cs) (hF : Frm t1 t2 w w') (n1 : t ≠ t1) (n2 : t ≠ t2) : Blk w' g t cs := by
  have h' : w.heap[g]? = some (.cells cs t (0, 0)) := h
  exact (hF.same g h.lt (fun cs fr => by rw [h']; simpa using fun _ e => absurd e n1) (fun cs fr => by rw [h']; simpa using fun _ e => absurd e n2)).trans h

abbrev rowF (f : Fl) : List Value := [.int .i64 f.1, .int .i64 f.2.1, .int .i64 f.2.2.1, .int .i64 f.2.2.2]
abbrev FrD := Frm 65 68
/-- Block d is a Drr of that round, this one current; all lies from block B on. -/
structure DrAt (w : World) (B d : Nat) (v : Value) (l : List Fl) (c : Nat) (fr : Bool) : Prop where
  low : B ≤ d
  blk : Blk w d 65 #[v, .int .i64 (c : Int), .bool fr]
  row : Own w B 68 4 rowF v l
  cur : l ≠ [] → c < l.length
theorem DrAt.later {w w' : World} {B d : Nat} {v : Value} {l : List Fl} {c : Nat} {fr : Bool} (h : DrAt w B d v l c fr) (hb : Below w.heap.size w w') : DrAt w' B d v l c fr := ⟨h.low, h.blk.later hb, h.row.later hb, h.cur⟩
theorem DrAt.cells {w : World} {B d : Nat} {v : Value} {l : List Fl} {c : Nat} {fr : Bool} (h : DrAt w B d v l c fr) : w.cell? ⟨d, 0, none⟩ = some v ∧ w.cell? ⟨d, 1, none⟩ = some (.int .i64 (c : Int)) ∧ w.cell? ⟨d, 2, none⟩ = some (.bool fr) ∧ d < w.heap.size ∧ (∀ o, w.frozen? ⟨d, o, none⟩ = false) :=
  ⟨h.blk.cell 0, h.blk.cell 1, h.blk.cell 2, h.blk.lt, h.blk.frozen⟩
/-- What a call on a Drr leaves of all else. -/
structure Chg (B : Nat) (w w' : World) : Prop where
  bel : Below B w w'
  frm : FrD w w'
theorem Chg.refl (B : Nat) (w : World) : Chg B w w := ⟨Below.refl _ _, Frm.refl _ _ _⟩
theorem Chg.trans {B : Nat} {a b c : World} (h : Chg B a b) (k : Chg B b c) : Chg B a c := ⟨h.bel.trans k.bel, h.frm.trans k.frm⟩
theorem Chg.later {B : Nat} {w w' : World} (hB : B ≤ w.heap.size) (h : Below w.heap.size w w') : Chg B w w' := ⟨h.mono hB, Frm.below h⟩
theorem DrAt.low' {w : World} {B d : Nat} {v : Value} {l : List Fl} {c : Nat} {fr : Bool} (h : DrAt w B d v l c fr) : B ≤ w.heap.size := by have := h.low; have := h.blk.lt; omega
theorem DrAt.apart {w : World} {B d : Nat} {v : Value} {l : List Fl} {c : Nat} {fr : Bool} (h : DrAt w B d v l c fr) {g : Nat} (hg : v.ownBlock = some g) : g ≠ d := by
  obtain ⟨_, cs, hc⟩ := h.row.block hg
  rintro rfl
  have := hc.symm.trans h.blk
  simp at this

def idxB {α : Type} (p : α → Bool) (l : List α) : Int := if l.findIdx p < l.length then (l.findIdx p : Int) else -1
theorem idxB_found {α : Type} {p : α → Bool} {l : List α} {k : Nat} (hk : k < l.length) (h : p (l[k]'hk) = true) (h1 : ∀ j (hj : j < l.length), j < k → p (l[j]'hj) = false) : idxB p l = k := by
  have : l.findIdx p = k := (List.findIdx_eq hk).2 ⟨h, fun j hj => by simpa using h1 j (by omega) hj⟩
  unfold idxB; rw [this, if_pos hk]
theorem idxB_none {α : Type} {p : α → Bool} {l : List α} (h1 : ∀ j (hj : j < l.length), p (l[j]'hj) = false) : idxB p l = -1 := by
  have : l.findIdx p = l.length := by
    rw [List.findIdx_eq_length]
    intro x hx
    obtain ⟨j, hj, rfl⟩ := List.getElem_of_mem hx
    simpa using h1 j hj
  unfold idxB; rw [this, if_neg (by omega)]
def isI (x : Int) (y : Int) : Bool := y == x
theorem findClo_any (f : Fl) (x : Int) (b : Nat) (w : World) (hc : w.cell? ⟨b, 0, none⟩ = some (.int .i64 x)) :
    Calls Try.prog 32 #[.agg #[.int .i64 f.1, .int .i64 f.2.1, .int .i64 f.2.2.1, .int .i64 f.2.2.2], .pointer (some ⟨b, 0, none⟩)] w fun e w' => e = .returned (.bool (isI x f.1)) ∧ Below w.heap.size w w' := by
  obtain ⟨i, q, d, k⟩ := f
  have hb := World.block_lt_of_cell? w _ hc
  have hc' : (w.alloc (.cells #[.int .i64 i, .int .i64 q, .int .i64 d, .int .i64 k] 68)).cell? ⟨b, 0, none⟩ = some (.int .i64 x) := by rw [(ba w _).cell hb]; exact hc
  have e0 : isI x i = (i == x) := rfl
  rw [e0]
  clear e0
  go_enter Try.func32, Try.ntmps32
  go_wp2
  go_ret
  exact ⟨by rfl, ba _ _⟩
theorem indexF_any (v : Value) (l : List Fl) (x : Int) (b : Nat) (w : World) (hv : At w 4 rowF v l) (hc : w.cell? ⟨b, 0, none⟩ = some (.int .i64 x)) :
    Calls Try.prog 31 #[v, .func (.func 32) #[] #[.pointer (some ⟨b, 0, none⟩)]] w fun e w' => e = .returned (.int .i64 (idxB (fun y => isI x y.1) l)) ∧ Below w.heap.size w w' := by
  obtain ⟨A, cap, rfl, h1, h2, _⟩ := hv.shape
  have hm : l.length ≤ 9223372036854775807 := by unfold maxLen at h2; omega
  have hbk := World.block_lt_of_cell? w _ hc
  have H := Lib.hid (And.intro hv hc); clear hv hc
  go_enter Try.func31, Try.ntmps31
  go_wp2
  go_loopw [8] (fun i wr => ∃ k : Nat, k ≤ l.length ∧ i = .int .i64 k ∧ (∀ j (hj : j < l.length), j < k → isI x (l[j]'hj).1 = false) ∧ Below w.heap.size w wr) (fun i _ => l.length - (intOf i).toNat)
  case atStart => exact ⟨0, Nat.zero_le _, rfl, fun j hj h => by omega, Below.refl _ _⟩
  case round =>
    obtain ⟨k, hk, rfl, hall, hb⟩ := hrel
    have HK := Lib.hid (And.intro hall hb); clear hall hb
    by_cases hlt : k < l.length
    · obtain ⟨a, rfl, hc⟩ := H.out.1.cells rfl (by omega)
      obtain ⟨c0, c1, c2, c3⟩ := (hc.later HK.out.2).row4 k hlt rfl
      have cC : ∀ W : World, Below w.heap.size w W → _ := fun W hW => findClo_any (l[k]'hlt) x b W (by rw [hW.cell hbk]; exact H.out.2)
      have h1' : isI x (l[k]'hlt).1 = true → idxB (fun y : Fl => isI x y.1) l = k := fun h => idxB_found (p := fun y : Fl => isI x y.1) hlt h HK.out.1
      have h0' : isI x (l[k]'hlt).1 = false → ∀ j (hj : j < l.length), j < k + 1 → isI x (l[j]'hj).1 = false := fun h j hj hlt' => by
        rcases Nat.lt_succ_iff_lt_or_eq.1 hlt' with h2 | rfl
        · exact HK.out.1 j hj h2
        · exact h
      generalize l[k]'hlt = y at *
      obtain ⟨i, q, d, kk⟩ := y
      simp only at c0 c1 c2 c3 cC h1' h0'
      clear hc
      rcases hr : isI x i with _ | _
      · rw [hr] at cC
        have HC := Lib.hid (And.intro (cC _ HK.out.2) (h0' hr)); clear cC hr h0' h1'
        go_wp2_with (go_at_call 32; ((with_reducible refine (HC.out.1).mono ?_); rintro e w1 ⟨rfl, b1⟩))
        go_roundw
        case rel => exact ⟨k + 1, by omega, by go_num, HC.out.2, bt HK.out.2 b1⟩
        case measure => simp [intOf]; omega
      · rw [hr] at cC
        have HC := Lib.hid (And.intro (cC _ HK.out.2) (h1' hr)); clear cC hr h0' h1'
        go_wp2_with (go_at_call 32; ((with_reducible refine (HC.out.1).mono ?_); rintro e w1 ⟨rfl, b1⟩))
        go_ret
        exact ⟨by rw [HC.out.2]; rfl, bt HK.out.2 b1⟩
    · have hE : idxB (fun y : Fl => isI x y.1) l = -1 := idxB_none (p := fun y : Fl => isI x y.1) (fun j hj => HK.out.1 j hj (by omega))
      have HE := Lib.hid hE; clear hE
      go_wp2
      go_ret
      exact ⟨by rw [HE.out]; rfl, HK.out.2⟩
def idxI (l : List Fl) (x : Int) : Int := idxB (fun y : Fl => isI x y.1) l
theorem find_any (B d : Nat) (v : Value) (l : List Fl) (c : Nat) (fr : Bool) (x : Int) (w : World) (h : DrAt w B d v l c fr) :
    Calls Try.prog 23 #[.pointer (some ⟨d, 0, none⟩), .int .i64 x] w fun e w' => e = .returned (.int .i64 (idxI l x)) ∧ Below w.heap.size w w' := by
  have hb := ba w (.cells #[.int .i64 x] 3)
  have hc : (w.alloc (.cells #[.int .i64 x] 3)).cell? ⟨w.heap.size, 0, none⟩ = some (.int .i64 x) := by rw [World.cell?_alloc_new]; rfl
  obtain ⟨d0, _, _, dl, _⟩ := h.cells
  obtain ⟨A, n, rfl, _, _, _⟩ := h.row.shape
  have cI := indexF_any _ l x _ _ ((Own.at_ (f := rowF) (k := 4) (fun _ => rfl) h.row).later hb) hc
  have H := Lib.hid (And.intro cI hb); clear cI hb hc h
  go_enter Try.func23, Try.ntmps23
  go_wp2_with (go_at_call 31; ((with_reducible refine (H.out.1).mono ?_); rintro e w1 ⟨rfl, b1⟩))
  go_ret
  exact ⟨rfl, bt H.out.2 b1⟩
end Go.Proofs.Ytckpecddglfjkaa
