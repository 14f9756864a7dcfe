/- Layer 12: how nodes, and what a name leads to, lie in memory. -/
import Derived.Test.YtinonfgehbjneaaGphM
import Derived.Test.YtinonfgehbjneaaCells2
import Derived.Test.YtinonfgehbjneaaAppLoc
import Derived.Maps.Own
import Derived.Maps.Views
import Derived.Maps.OwnSet
import Derived.StringKeys
import Derived.Deep.QuietTactic
import Derived.Deep.OwnRows
namespace Go.Proofs.Ytinonfgehbjneaa
open Go.ChangeShapes Go.WideShapes Go.ChangeAt Go.RowKit Go.Maps
open Gr (Nd nmAt frAt Comes cn leadsU leadsL)
set_option linter.unusedVariables false
set_option linter.unusedSimpArgs false

abbrev rowP (k : Nat) : List Value := [.int .i64 (k : Int)]
abbrev rowZ (b : Bool) : List Value := [.bool b]
abbrev scV (s : ByteArray) : List Value := [.string s]
abbrev Ny := Nd × SV
abbrev rowN (y : Ny) : List Value := [.string y.1.1, sl y.2]
/-- A slice of nodes. -/
def NdsAt (w : World) (v : Value) (N : List Nd) : Prop :=
  ∃ l : List Ny, At w 2 rowN v l ∧ l.map (·.1) = N ∧ ∀ y ∈ l, At w 1 scV (sl y.2) y.1.2 ∧ y.1.1.size ≤ maxLen ∧ ∀ f ∈ y.1.2, f.size ≤ maxLen
theorem NdsAt.later {w w' : World} {v : Value} {N : List Nd} (h : NdsAt w v N) (hb : Below w.heap.size w w') : NdsAt w' v N := by
  obtain ⟨l, h1, h2, h3⟩ := h
  exact ⟨l, h1.later hb, h2, fun y hy => ⟨(h3 y hy).1.later hb, (h3 y hy).2⟩⟩
/-- How many names stand in From ahead of place i. -/
def tot (N : List Nd) : Nat → Nat
  | 0 => 0
  | i + 1 => tot N i + (frAt N i).length
theorem tot_mono {N : List Nd} {i : Nat} : ∀ j, i ≤ j → tot N i ≤ tot N j
  | 0, h => by obtain rfl : i = 0 := by omega
               exact Nat.le_refl _
  | j + 1, h => by
    rcases (by omega : i = j + 1 ∨ i ≤ j) with rfl | h
    · exact Nat.le_refl _
    · have := tot_mono (N := N) j h
      simp only [tot]; omega

theorem flat_set {α : Type} {f : α → List Value} {k : Nat} (hf : ∀ x, (f x).length = k) {i : Nat} (hi : i < k) {u : Value} {x : α} : ∀ (l : List α) (j : Nat) (hj : j < l.length), f x = (f (l[j]'hj)).set i u → (l.set j x).flatMap f = (l.flatMap f).set (j * k + i) u
  | [], j, hj, _ => absurd hj (by simp)
  | a :: r, 0, hj, h => by
    simp only [List.set_cons_zero, List.flatMap_cons, Nat.zero_mul, Nat.zero_add]
    rw [List.set_append_left _ _ (by rw [hf]; exact hi), h]; rfl
  | a :: r, j + 1, hj, h => by
    simp only [List.set_cons_succ, List.flatMap_cons]
    rw [List.set_append_right _ _ (by rw [hf, Nat.add_mul]; omega), flat_set hf hi r j (by simpa using hj) h, hf]
    congr 2
    rw [Nat.add_mul]; omega
/-- A cell of an element is written. -/
theorem Own.put {α : Type} {f : α → List Value} {k : Nat} (hf : ∀ x, (f x).length = k) {w : World} {b : Nat} {e : TypeId} {g n c : Nat} {l : List α} (h : Own w b e k f (.slice (some ⟨g, 0, none⟩) n c) l) (j : Nat) (hj : j < l.length) {i : Nat} (hi : i < k) {x : α} {u : Value} (hx : f x = (f (l[j]'hj)).set i u) :
    Own (w.setCell ⟨g, j * k + i, none⟩ u) b e k f (.slice (some ⟨g, 0, none⟩) n c) (l.set j x) := by
  obtain ⟨_, _, he, _, _, _⟩ := h.shape
  simp only [Value.slice.injEq] at he
  obtain ⟨_, rfl, rfl⟩ := he
  have := World.ownsRow.stored h (j * k + i) u
  unfold Own
  rw [List.length_set, flat_set hf hi l j hj hx]
  exact this.1
theorem Own.block {α : Type} {w : World} {b : Nat} {e : TypeId} {k : Nat} {f : α → List Value} {v : Value} {l : List α} (h : Own w b e k f v l) {g : Nat} (hg : v.ownBlock = some g) : b ≤ g ∧ ∃ cs, w.heap[g]? = some (.cells cs e (0, 0)) := by
  rcases h.2 with ⟨rfl, _⟩ | ⟨g', cap, cur, rfl, h1, h2, _⟩
  · simp [Value.ownBlock] at hg
  · simp [Value.ownBlock] at hg
    subst hg
    exact ⟨h1, _, h2⟩
theorem Own.put1 {α : Type} {w : World} {b : Nat} {e : TypeId} {k : Nat} {f : α → List Value} {v : Value} {l : List α} (h : Own w b e k f v l) {g : Nat} {t : TypeId} {cs : Array Value} (hC : Blk w g t cs) (hne : t ≠ e) (i : Nat) (u : Value) : Own (w.setCell ⟨g, i, none⟩ u) b e k f v l := by
  refine ⟨h.1, ?_⟩
  rcases h.2 with h0 | ⟨x, cap, cur, rfl, h1, h2, h3⟩
  · exact Or.inl h0
  · refine Or.inr ⟨x, cap, cur, rfl, h1, ?_, h3⟩
    have hx : x ≠ g := by
      rintro rfl
      unfold Blk at hC
      rw [h2] at hC
      simp at hC
      exact hne hC.2.symm
    rw [Below.heap_setCell w ⟨g, i, none⟩ u x hx]; exact h2
theorem Blk.off {α : Type} {w : World} {g : Nat} {t : TypeId} {cs : Array Value} (h : Blk w g t cs) {B : Nat} {e : TypeId} {k : Nat} {f : α → List Value} {v : Value} {l : List α} (o : Own w B e k f v l) (hne : t ≠ e) : v.ownBlock ≠ some g := fun he => by
  obtain ⟨_, cs', hc⟩ := o.block he
  have h' : w.heap[g]? = some (.cells cs t (0, 0)) := h
  rw [hc] at h'
  simp at h'
  exact hne h'.2.symm
/-- A slice that is written out. -/
theorem own_lit {α : Type} {W : World} {e : TypeId} {k : Nat} {f : α → List Value} {B : Nat} (l : List α) {cs : Array Value} {g n : Nat} (hg : g = W.heap.size) (hB : B ≤ g) (hn : n = l.length) (hm : n ≤ maxLen) (hs : cs.size = n * k) (hcs : l.flatMap f = cs.toList) : Own (W.alloc (.cells cs e)) B e k f (.slice (some ⟨g, 0, none⟩) n n) l := by
  subst hg; subst hn
  unfold Own
  rw [hcs]
  exact World.ownsRow_lit W cs l.length hB hm hs
/-- A row of the call's own, by block, length, room. -/
abbrev RV := Option (Nat × Nat × Nat)
def rvV : RV → Value
  | none => .slice none 0 0
  | some r => .slice (some ⟨r.1, 0, none⟩) r.2.1 r.2.2
def rvD : RV → DataW Unit
  | none => .agg []
  | some r => .agg [.lit (.int .i64 (r.1 : Int)), .lit (.int .i64 (r.2.1 : Int)), .lit (.int .i64 (r.2.2 : Int))]
def svElem : Value → Option (DataW Unit × List MemPlace)
  | .slice none 0 0 => some (rvD none, [])
  | .slice (some ⟨g, 0, none⟩) n c => some (rvD (some (g, n, c)), [])
  | _ => none
theorem svElem_mk (r : RV) : svElem (rvV r) = some (rvD r, []) := by
  cases r <;> rfl
theorem rvD_inj {r s : RV} (h : rvD r = rvD s) : r = s := by
  cases r with
  | none => cases s with
    | none => rfl
    | some s => simp [rvD] at h
  | some r => cases s with
    | none => simp [rvD] at h
    | some s =>
      obtain ⟨a, b, c⟩ := r
      obtain ⟨a', b', c'⟩ := s
      simp only [rvD, DataW.agg.injEq, List.cons.injEq, DataW.lit.injEq, Lit.int.injEq, true_and, and_true] at h
      obtain ⟨h1, h2, h3⟩ := h
      rw [Int.ofNat_inj.1 h1, Int.ofNat_inj.1 h2, Int.ofNat_inj.1 h3]
theorem svElem_inv {v : Value} {z : DataW Unit × List MemPlace} (h : svElem v = some z) : ∃ r, v = rvV r ∧ z = (rvD r, []) := by
  unfold svElem at h
  split at h
  · exact ⟨none, rfl, by simpa using h.symm⟩
  · exact ⟨some (_, _, _), rfl, by simpa using h.symm⟩
  · cases h
theorem own_rv {α : Type} {w : World} {B : Nat} {e : TypeId} {k : Nat} {f : α → List Value} {v : Value} {l : List α} (h : Own w B e k f v l) : ∃ r, v = rvV r := by
  rcases h.2 with ⟨rfl, _⟩ | ⟨g, cap, cur, rfl, _⟩
  · exact ⟨none, rfl⟩
  · exact ⟨some (g, _, cap), rfl⟩
theorem strKeys : Keyed Try.prog 9 := string_keyed Try.underlying9
theorem keyOf_str {s : ByteArray} (hs : s.size ≤ maxLen) : keyOf Try.prog 9 (.string s) = some (.string s.data.toList) := WideMaps.keyOf_string_mk Try.underlying9 hs
theorem slZero (w : World) : (zeroValue 31).run Try.prog w = .ok (rvV none) w := by kernel_rfl
theorem blZero (w : World) : (zeroValue 4).run Try.prog w = .ok (.bool false) w := by kernel_rfl
theorem strKey_inj {s t : ByteArray} (h : (Lit.string s.data.toList) = .string t.data.toList) : s = t := by
  simp only [Lit.string.injEq] at h
  exact toList_inj (by rw [Lib.toList_data, Lib.toList_data]; exact h)
def updV (V : ByteArray → RV) (s : ByteArray) (r : RV) : ByteArray → RV := fun t => if t = s then r else V t
def updT (T : ByteArray → List Nat) (s : ByteArray) (l : List Nat) : ByteArray → List Nat := fun t => if t = s then l else T t
/-- Block m is a map whose rows are V, which read as T; all lies from block B on. -/
structure LdV (w : World) (B m cnt : Nat) (V : ByteArray → RV) (T : ByteArray → List Nat) : Prop where
  map : ∃ D : DataW Unit, w.ownsMap Try.prog 9 svElem m cnt D ∧ IsMap D ∧ ∀ s, s.size ≤ maxLen → D.atKey (.string s.data.toList) (rvD none) = rvD (V s)
  low : B ≤ m
  rows : ∀ s, s.size ≤ maxLen → Own w B 3 1 rowP (rvV (V s)) (T s)
  apart : ∀ s t, s.size ≤ maxLen → t.size ≤ maxLen → s ≠ t → ∀ g, (rvV (V s)).ownBlock = some g → (rvV (V t)).ownBlock ≠ some g
def LdAt (w : World) (B m : Nat) (T : ByteArray → List Nat) : Prop := ∃ cnt V, LdV w B m cnt V T
theorem LdV.later {w w' : World} {B m cnt : Nat} {V : ByteArray → RV} {T : ByteArray → List Nat} (h : LdV w B m cnt V T) (hb : Below w.heap.size w w') : LdV w' B m cnt V T := by
  obtain ⟨D, ⟨es, clock, g1, g2⟩, h2⟩ := h.map
  exact ⟨⟨D, ⟨es, clock, (hb.block m (Array.getElem?_eq_some_iff.1 g1).1).trans g1, g2⟩, h2⟩, h.low, fun s hs => (h.rows s hs).later hb, h.apart⟩
theorem LdAt.later {w w' : World} {B m : Nat} {T : ByteArray → List Nat} (h : LdAt w B m T) (hb : Below w.heap.size w w') : LdAt w' B m T := by
  obtain ⟨cnt, V, h⟩ := h
  exact ⟨cnt, V, h.later hb⟩
theorem LdV.lt {w : World} {B m cnt : Nat} {V : ByteArray → RV} {T : ByteArray → List Nat} (h : LdV w B m cnt V T) : m < w.heap.size := by
  obtain ⟨D, h1, _⟩ := h.map
  exact h1.lt
theorem LdV.made (w : World) : LdV (w.alloc (.map #[] 0)) w.heap.size w.heap.size 0 (fun _ => none) (fun _ => []) :=
  ⟨⟨.map [], World.ownsMap_made w _ _ _, ⟨_, rfl⟩, fun s _ => rfl⟩, Nat.le_refl _, fun s _ => Own.nil _ _ _ _ _, fun s t _ _ _ g hg => by simp [rvV, Value.ownBlock] at hg⟩
theorem LdV.look {w : World} {B m cnt : Nat} {V : ByteArray → RV} {T : ByteArray → List Nat} (h : LdV w B m cnt V T) {s : ByteArray} (hs : s.size ≤ maxLen) :
    (Instr.lookup 58 (.map (some m)) (.string s) false).run Try.prog w = .ok (rvV (V s)) w := by
  obtain ⟨D, h1, _, h3⟩ := h.map
  obtain ⟨v, ps, hr, hv⟩ := h1.lookup strKeys Try.underlying58 (slZero w) (svElem_mk none) (keyOf_str hs)
  rw [h3 s hs] at hv
  obtain ⟨r, rfl, hx⟩ := svElem_inv hv
  simp only [Prod.mk.injEq] at hx
  rw [rvD_inj hx.1]; exact hr
/-- One row more, or another one, in the map. -/
theorem LdV.put {w w1 : World} {B m cnt : Nat} {V : ByteArray → RV} {T : ByteArray → List Nat} (h : LdV w B m cnt V T) (hn : cnt < maxLen) {s : ByteArray} (hs : s.size ≤ maxLen) {r : RV} {L : List Nat}
    (hO : Own w1 B 3 1 rowP (rvV r) L) (hg : w.grownBy w1 (rvV (V s)).ownBlock) (hloc : ∀ x, (rvV r).ownBlock = some x → (rvV (V s)).ownBlock = some x ∨ w.heap.size ≤ x) :
    ∃ w2, (Instr.mapUpdate 58 (.map (some m)) (.string s) (rvV r)).run Try.prog w1 = .ok () w2 ∧ LdV w2 B m (cnt + 1) (updV V s r) (updT T s L) ∧ w1.grownBy w2 (some m) := by
  obtain ⟨D, h1, h2, h3⟩ := h.map
  have hmb : ∀ t, t.size ≤ maxLen → (rvV (V t)).ownBlock ≠ some m := fun t ht e => by
    obtain ⟨_, cs, hc⟩ := Own.block (h.rows t ht) e
    obtain ⟨es, clock, g1, _⟩ := h1
    rw [hc] at g1
    simp at g1
  have h1' : w1.ownsMap Try.prog 9 svElem m cnt D := h1.kept hg (fun e => hmb s hs e.symm)
  obtain ⟨w2, q1, q2, q3⟩ := h1'.update strKeys Try.underlying58 hn (keyOf_str hs) (svElem_mk r)
  have hm1 : ∀ v L', Own w1 B 3 1 rowP v L' → Own w2 B 3 1 rowP v L' := fun v L' hv => hv.grown q3 (fun b hb e => by
    cases hb
    obtain ⟨_, cs, hc⟩ := Own.block hv e
    obtain ⟨es, clock, g1, _⟩ := h1'
    rw [hc] at g1
    simp at g1)
  refine ⟨w2, q1, ⟨⟨_, q2, q2.isMap, fun t ht => ?_⟩, h.low, fun t ht => ?_, fun t u ht hu hne g hg' => ?_⟩, q3⟩
  · unfold updV
    by_cases he : t = s
    · subst he
      rw [if_pos rfl]
      exact atKey_put_same h2 (strKeys.key (keyOf_str hs)) _ _
    · rw [if_neg he, atKey_put_other (fun e => he (strKey_inj e)), h3 t ht]
  · unfold updV updT
    by_cases he : t = s
    · subst he
      rw [if_pos rfl, if_pos rfl]
      exact hm1 _ _ hO
    · rw [if_neg he, if_neg he]
      exact hm1 _ _ ((h.rows t ht).grown hg (fun b hb e => h.apart t s ht hs he b e hb))
  · have hold : ∀ t, t.size ≤ maxLen → ∀ g, (rvV (V t)).ownBlock = some g → g < w.heap.size := fun t ht g hg => by
      obtain ⟨_, cs, hc⟩ := Own.block (h.rows t ht) hg
      exact (Array.getElem?_eq_some_iff.1 hc).1
    unfold updV at hg' ⊢
    by_cases he : t = s
    · subst he
      rw [if_pos rfl] at hg'
      rw [if_neg (Ne.symm hne)]
      intro e
      rcases hloc g hg' with h4 | h4
      · exact h.apart t u ht hu hne g h4 e
      · have := hold u hu g e; omega
    · rw [if_neg he] at hg'
      by_cases hu2 : u = s
      · subst hu2
        rw [if_pos rfl]
        intro e
        rcases hloc g e with h4 | h4
        · exact h.apart t u ht hu hne g hg' h4
        · have := hold t ht g hg'; omega
      · rw [if_neg hu2]
        exact h.apart t u ht hu hne g hg'

/-- Block m is a map that holds true at just the names of l. -/
def MetS (w : World) (m cnt : Nat) (l : List ByteArray) : Prop :=
  ∃ D : DataW Unit, w.ownsMap Try.prog 9 (plainElem Try.prog 4) m cnt D ∧ IsMap D ∧ ∀ s, s.size ≤ maxLen → ∃ b, D.atKey (.string s.data.toList) (.lit (.bool false)) = .lit (.bool b) ∧ (b = true ↔ s ∈ l)
theorem MetS.made (w : World) : MetS (w.alloc (.map #[] 0)) w.heap.size 0 [] :=
  ⟨.map [], World.ownsMap_made w _ _ _, ⟨_, rfl⟩, fun s _ => ⟨false, rfl, by simp⟩⟩
theorem MetS.later {w w' : World} {m cnt : Nat} {l : List ByteArray} (h : MetS w m cnt l) (hb : Below w.heap.size w w') : MetS w' m cnt l := by
  obtain ⟨D, ⟨es, clock, g1, g2⟩, h2⟩ := h
  exact ⟨D, ⟨es, clock, (hb.block m (Array.getElem?_eq_some_iff.1 g1).1).trans g1, g2⟩, h2⟩
theorem MetS.lt {w : World} {m cnt : Nat} {l : List ByteArray} (h : MetS w m cnt l) : m < w.heap.size := by
  obtain ⟨D, h1, _⟩ := h
  exact h1.lt
theorem plainElem_bool_inv {H : Type} {P : Program} {e : TypeId} (he : P.underlying e = some .bool) {v : Value} {z : DataW H × List MemPlace} (h : plainElem P e v = some z) : ∃ x, v = .bool x ∧ z = (.lit (.bool x), []) := by
  unfold plainElem at h
  rw [he] at h
  cases v <;> simp at h
  exact ⟨_, rfl, h.symm⟩
theorem MetS.look {w : World} {m cnt : Nat} {l : List ByteArray} (h : MetS w m cnt l) {s : ByteArray} (hs : s.size ≤ maxLen) :
    ∃ b, (Instr.lookup 54 (.map (some m)) (.string s) false).run Try.prog w = .ok (.bool b) w ∧ (b = true ↔ s ∈ l) := by
  obtain ⟨D, h1, _, h4⟩ := h
  obtain ⟨v, ps, hr, hv⟩ := h1.lookup strKeys Try.underlying54 (blZero w) (plainElem_bool Try.underlying4 false) (keyOf_str hs)
  obtain ⟨B, e, hB⟩ := h4 s hs
  rw [e] at hv
  obtain ⟨x, rfl, hx⟩ := plainElem_bool_inv Try.underlying4 hv
  simp only [Prod.mk.injEq, DataW.lit.injEq, Lit.bool.injEq] at hx
  obtain ⟨rfl, _⟩ := hx
  exact ⟨_, hr, hB⟩
theorem MetS.put {w : World} {m cnt : Nat} {l : List ByteArray} (h : MetS w m cnt l) (hn : cnt < maxLen) {s : ByteArray} (hs : s.size ≤ maxLen) :
    ∃ w', (Instr.mapUpdate 54 (.map (some m)) (.string s) (.bool true)).run Try.prog w = .ok () w' ∧ MetS w' m (cnt + 1) (s :: l) ∧ w.grownBy w' (some m) := by
  obtain ⟨D, h1, h2, h4⟩ := h
  obtain ⟨w', r, o, g⟩ := h1.update strKeys Try.underlying54 hn (keyOf_str hs) (plainElem_bool Try.underlying4 true)
  refine ⟨w', r, ⟨_, o, o.isMap, fun s' hs' => ?_⟩, g⟩
  by_cases he : s' = s
  · subst he
    exact ⟨true, atKey_put_same h2 (strKeys.key (keyOf_str hs)) _ _, by simp⟩
  · obtain ⟨B, e, hB⟩ := h4 s' hs'
    refine ⟨B, by rw [atKey_put_other (fun e => he (strKey_inj e))]; exact e, ?_⟩
    rw [hB, List.mem_cons]
    exact ⟨Or.inr, fun h => h.elim (fun e => absurd e he) id⟩
end Go.Proofs.Ytinonfgehbjneaa
