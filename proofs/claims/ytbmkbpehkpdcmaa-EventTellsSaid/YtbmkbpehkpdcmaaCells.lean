/- Rows of structs of the call's own, as lists. Nothing of one package. -/
import Derived.Test.YtbmkbpehkpdcmaaMem
import Derived.Laws.AppendOwnNone
namespace Go.Proofs.Ytbmkbpehkpdcmaa
open Go.ChangeShapes Go.WideShapes Go.ChangeAt Go.RowKit
set_option linter.unusedVariables false
set_option linter.unusedSimpArgs false

theorem flat_len {α : Type} {f : α → List Value} {k : Nat} (hf : ∀ x, (f x).length = k) : ∀ l : List α, (l.flatMap f).length = l.length * k
  | [] => by simp
  | x :: r => by rw [List.flatMap_cons, List.length_append, hf, flat_len hf r, List.length_cons, Nat.add_mul]; omega
theorem flat_get {α : Type} {f : α → List Value} {k : Nat} (hf : ∀ x, (f x).length = k) : ∀ (l : List α) (j i : Nat) (hj : j < l.length) (hi : i < k), (l.flatMap f)[j * k + i]? = (f (l[j]'hj))[i]?
  | [], j, i, hj, _ => absurd hj (by simp)
  | x :: r, 0, i, hj, hi => by
    rw [List.flatMap_cons, List.getElem?_append_left (by rw [hf]; omega)]
    simp
  | x :: r, j + 1, i, hj, hi => by
    rw [List.flatMap_cons, List.getElem?_append_right (by rw [hf, Nat.add_mul]; omega), hf]
    rw [show (j + 1) * k + i - k = j * k + i by rw [Nat.add_mul]; omega]
    rw [flat_get hf r j i (by simpa using hj) hi]
    simp
/-- A row of the call's own, blocks from base on, that reads as l. -/
def Own {α : Type} (w : World) (base : Nat) (e : TypeId) (k : Nat) (f : α → List Value) (v : Value) (l : List α) : Prop := w.ownsRow base e k v l.length (l.flatMap f)
theorem Own.later {α : Type} {w w' : World} {base : Nat} {e : TypeId} {k : Nat} {f : α → List Value} {v : Value} {l : List α} (h : Own w base e k f v l) (hb : Below w.heap.size w w') : Own w' base e k f v l := ownsRow_later h hb
theorem Own.nil {α : Type} (w : World) (base : Nat) (e : TypeId) (k : Nat) (f : α → List Value) : Own w base e k f (.slice none 0 0) [] := World.ownsRow_nil w base e k
theorem Own.far {α : Type} {w : World} {base : Nat} {e : TypeId} {k : Nat} {f : α → List Value} {v : Value} {l : List α} (h : Own w base e k f v l) {p : Addr} (hp : p.block < base) (u : Value) : Own (w.setCell p u) base e k f v l := ownsRow_far h hp u
theorem Own.shape {α : Type} {w : World} {base : Nat} {e : TypeId} {k : Nat} {f : α → List Value} {v : Value} {l : List α} (h : Own w base e k f v l) : ∃ (A : Option Addr) (c : Nat), v = .slice A l.length c ∧ (A = none → l.length = 0 ∧ c = 0) ∧ l.length ≤ c ∧ c ≤ maxLen := by
  rcases h.2 with ⟨rfl, h0⟩ | ⟨g, cap, cur, rfl, h1, h2, h3, h4, h5⟩
  · have h9 : l.length = 0 := h0
    exact ⟨none, 0, by rw [h9], fun _ => ⟨h9, rfl⟩, by omega, Nat.zero_le _⟩
  · exact ⟨_, _, rfl, fun h => by simp at h, h3, h4⟩
/-- Its cells. -/
theorem Own.cells {α : Type} {w : World} {base : Nat} {e : TypeId} {k : Nat} {f : α → List Value} (hf : ∀ x, (f x).length = k) {v : Value} {l : List α} (h : Own w base e k f v l) {A : Option Addr} {n c : Nat} (hv : v = .slice A n c) (h0 : 0 < l.length) :
    ∃ g, A = some ⟨g, 0, none⟩ ∧ base ≤ g ∧ g < w.heap.size ∧ (∀ o, w.frozen? ⟨g, o, none⟩ = false) ∧ ∀ j (hj : j < l.length) i u, (f (l[j]'hj))[i]? = some u → w.cell? ⟨g, j * k + i, none⟩ = some u := by
  have hown := h
  rcases h.2 with ⟨rfl, h0'⟩ | ⟨g, cap, cur, rfl, h1, h2, h3, h4, h5⟩
  · exact absurd h0 (by have h9 : l.length = 0 := h0'; omega)
  · simp only [Value.slice.injEq] at hv
    obtain ⟨rfl, rfl, rfl⟩ := hv
    refine ⟨g, rfl, h1, (Array.getElem?_eq_some_iff.1 h2).1, fun o => World.ownsRow.frozenAt hown o, fun j hj i u hu => ?_⟩
    have hi : i < k := by
      have := (List.getElem?_eq_some_iff.1 hu).1
      rw [hf] at this; exact this
    have hlt : j * k + i < l.length * k := by
      have : (j + 1) * k ≤ l.length * k := Nat.mul_le_mul_right _ hj
      rw [Nat.add_mul] at this; omega
    rw [World.ownsRow.cellAt hown _ hlt, flat_get hf l j i hj hi]; exact hu
theorem Own.more {α : Type} {w : World} {base : Nat} {e : TypeId} {k : Nat} {f : α → List Value} {v : Value} {l : List α} {x : α} {n : Nat} (hn : n = l.length) (h : w.ownsRow base e k v (n + 1) (l.flatMap f ++ f x)) : Own w base e k f v (l ++ [x]) := by
  subst hn
  unfold Own
  rw [List.length_append, List.flatMap_append]
  simpa using h
theorem Own.lift {α : Type} {w : World} {base base' : Nat} {e : TypeId} {k : Nat} {f : α → List Value} {v : Value} {l : List α} (h : Own w base e k f v l) (hb : base' ≤ base) : Own w base' e k f v l := by
  refine ⟨h.1, ?_⟩
  rcases h.2 with h0 | ⟨g, cap, cur, hv, h1, h2⟩
  · exact Or.inl h0
  · exact Or.inr ⟨g, cap, cur, hv, by omega, h2⟩
theorem Own.grown {α : Type} {w w' : World} {base : Nat} {e : TypeId} {k : Nat} {f : α → List Value} {v : Value} {l : List α} (h : Own w base e k f v l) {row : Option Nat} (hg : w.grownBy w' row) (hr : ∀ b, row = some b → v.ownBlock ≠ some b) : Own w' base e k f v l := by
  refine ⟨h.1, ?_⟩
  rcases h.2 with h0 | ⟨g, cap, cur, rfl, h1, h2, h3⟩
  · exact Or.inl h0
  · refine Or.inr ⟨g, cap, cur, rfl, h1, ?_, h3⟩
    rw [hg.block g (Array.getElem?_eq_some_iff.1 h2).1 (fun e => hr g e.symm rfl)]; exact h2

/-- A slice, as three. -/
abbrev SV := Option Addr × Nat × Nat
abbrev sl (s : SV) : Value := .slice s.1 s.2.1 s.2.2
abbrev slc (s : SV) : List Value := [sl s]
theorem addr_blk (a : Addr) (n : Nat) : (a.add n).block = a.block := by unfold Addr.add; split <;> rfl
theorem addr_off (a : Addr) (n : Nat) : (a.add n).off = a.off + n := by unfold Addr.add; split <;> simp_all
theorem addr_in (a : Addr) (n i : Nat) (hi : 0 < i) : (⟨(a.add n).block, (a.add n).off + i, none⟩ : Addr) = a.add (n + i) := by
  rw [addr_blk, addr_off]
  unfold Addr.add
  rw [if_neg (by omega), Nat.add_assoc]
theorem add_twice (a : Addr) (n i : Nat) : (a.add n).add i = a.add (n + i) := by
  unfold Addr.add
  by_cases h1 : n = 0 <;> by_cases h2 : i = 0 <;> simp [h1, h2, Nat.add_assoc]
/-- A slice, its elements of k cells, that reads as l. -/
def At {α : Type} (w : World) (k : Nat) (f : α → List Value) (v : Value) (l : List α) : Prop :=
  ∃ (A : Option Addr) (cap : Nat), v = .slice A l.length cap ∧ l.length ≤ cap ∧ cap ≤ maxLen ∧ (A = none → cap = 0) ∧
    ∀ a, A = some a → ∀ j (hj : j < l.length) i u, (f (l[j]'hj))[i]? = some u → w.cell? (a.add (j * k + i)) = some u
theorem At.later {α : Type} {w w' : World} {k : Nat} {f : α → List Value} {v : Value} {l : List α} (h : At w k f v l) (hb : Below w.heap.size w w') : At w' k f v l := by
  obtain ⟨A, cap, rfl, h1, h2, h3, h4⟩ := h
  refine ⟨A, cap, rfl, h1, h2, h3, fun a ha j hj i u hu => ?_⟩
  have := h4 a ha j hj i u hu
  rw [hb.cell (World.block_lt_of_cell? w _ this)]; exact this
theorem At.nil {α : Type} (w : World) (k : Nat) (f : α → List Value) : At w k f (.slice none 0 0) [] := ⟨none, 0, rfl, Nat.le_refl _, Nat.zero_le _, fun _ => rfl, fun a h => by simp at h⟩
theorem At.shape {α : Type} {w : World} {k : Nat} {f : α → List Value} {v : Value} {l : List α} (h : At w k f v l) : ∃ (A : Option Addr) (c : Nat), v = .slice A l.length c ∧ l.length ≤ c ∧ c ≤ maxLen ∧ (A = none → c = 0) := by
  obtain ⟨A, cap, rfl, h1, h2, h3, h4⟩ := h
  exact ⟨A, cap, rfl, h1, h2, h3⟩
theorem Own.at_ {α : Type} {w : World} {base : Nat} {e : TypeId} {k : Nat} {f : α → List Value} (hf : ∀ x, (f x).length = k) {v : Value} {l : List α} (h : Own w base e k f v l) : At w k f v l := by
  obtain ⟨A, c, rfl, h0, h1, h2⟩ := h.shape
  refine ⟨A, c, rfl, h1, h2, fun ha => (h0 ha).2, fun a ha j hj i u hu => ?_⟩
  obtain ⟨g, hg, _, _, _, hc⟩ := h.cells hf rfl (show 0 < l.length by omega)
  obtain rfl : a = ⟨g, 0, none⟩ := Option.some.inj (ha.symm.trans hg)
  rw [addr_pl]
  have := hc j hj i u hu
  simpa using this
/-- The cells of a slice, by its address. -/
def CellsOf {α : Type} (w : World) (k : Nat) (f : α → List Value) (a : Addr) (l : List α) : Prop := ∀ j (hj : j < l.length) i u, (f (l[j]'hj))[i]? = some u → w.cell? (a.add (j * k + i)) = some u
theorem CellsOf.later {α : Type} {w w' : World} {k : Nat} {f : α → List Value} {a : Addr} {l : List α} (h : CellsOf w k f a l) (hb : Below w.heap.size w w') : CellsOf w' k f a l := fun j hj i u hu => by
  have := h j hj i u hu
  rw [hb.cell (World.block_lt_of_cell? w _ this)]; exact this
theorem At.cells {α : Type} {w : World} {k : Nat} {f : α → List Value} {v : Value} {l : List α} (h : At w k f v l) {A : Option Addr} {n c : Nat} (hv : v = .slice A n c) (h0 : 0 < l.length) :
    ∃ a, A = some a ∧ CellsOf w k f a l := by
  obtain ⟨B, cap, rfl, h1, h2, h3, h4⟩ := h
  simp only [Value.slice.injEq] at hv
  obtain ⟨rfl, rfl, rfl⟩ := hv
  cases B with
  | none => exact absurd (h3 rfl) (by omega)
  | some b => exact ⟨b, rfl, h4 b rfl⟩
theorem CellsOf.row1 {α : Type} {w : World} {k : Nat} {f : α → List Value} {l : List α} {a : Addr} (h : CellsOf w k f a l) (j : Nat) (hj : j < l.length) {x : Value} (hx : f (l[j]'hj) = [x]) : w.cell? (a.add (j * k)) = some x :=
  h j hj 0 x (by rw [hx]; rfl)
theorem CellsOf.row2 {α : Type} {w : World} {k : Nat} {f : α → List Value} {l : List α} {a : Addr} (h : CellsOf w k f a l) (j : Nat) (hj : j < l.length) {x y : Value} (hx : f (l[j]'hj) = [x, y]) : w.cell? (a.add (j * k)) = some x ∧ w.cell? ⟨(a.add (j * k)).block, (a.add (j * k)).off + 1, none⟩ = some y :=
  ⟨h j hj 0 x (by rw [hx]; rfl), by rw [addr_in _ _ _ (by omega)]; exact h j hj 1 y (by rw [hx]; rfl)⟩
theorem CellsOf.row3 {α : Type} {w : World} {k : Nat} {f : α → List Value} {l : List α} {a : Addr} (h : CellsOf w k f a l) (j : Nat) (hj : j < l.length) {x y z : Value} (hx : f (l[j]'hj) = [x, y, z]) : Row3 w (a.add (j * k)) x y z :=
  ⟨h j hj 0 x (by rw [hx]; rfl), by rw [addr_in _ _ _ (by omega)]; exact h j hj 1 y (by rw [hx]; rfl), by rw [addr_in _ _ _ (by omega)]; exact h j hj 2 z (by rw [hx]; rfl)⟩
theorem CellsOf.row4 {α : Type} {w : World} {k : Nat} {f : α → List Value} {l : List α} {a : Addr} (h : CellsOf w k f a l) (j : Nat) (hj : j < l.length) {x y z u : Value} (hx : f (l[j]'hj) = [x, y, z, u]) : w.cell? (a.add (j * k)) = some x ∧ w.cell? ⟨(a.add (j * k)).block, (a.add (j * k)).off + 1, none⟩ = some y ∧ w.cell? ⟨(a.add (j * k)).block, (a.add (j * k)).off + 2, none⟩ = some z ∧ w.cell? ⟨(a.add (j * k)).block, (a.add (j * k)).off + 3, none⟩ = some u :=
  ⟨h j hj 0 x (by rw [hx]; rfl), by rw [addr_in _ _ _ (by omega)]; exact h j hj 1 y (by rw [hx]; rfl), by rw [addr_in _ _ _ (by omega)]; exact h j hj 2 z (by rw [hx]; rfl), by rw [addr_in _ _ _ (by omega)]; exact h j hj 3 u (by rw [hx]; rfl)⟩
/-- A piece of a slice. -/
theorem At.sliced {α : Type} {w : World} {k : Nat} {f : α → List Value} {A : Option Addr} {n c : Nat} {l : List α} (h : At w k f (.slice A n c) l) (lo hi m : Nat) (h1 : lo ≤ hi) (h2 : hi ≤ l.length) (h3 : hi ≤ m) (h4 : m ≤ c) :
    At w k f (Go.sliced A lo hi m k) ((l.take hi).drop lo) := by
  obtain ⟨B, cap, hv, k1, k2, k3, k4⟩ := h
  simp only [Value.slice.injEq] at hv
  obtain ⟨rfl, rfl, rfl⟩ := hv
  have hlen : ((l.take hi).drop lo).length = hi - lo := by rw [List.length_drop, List.length_take]; omega
  refine ⟨_, m - lo, by unfold Go.sliced; rw [hlen], by omega, by omega, fun hA => ?_, fun a ha j hj i u hu => ?_⟩
  · split at hA
    · omega
    · cases A with
      | none => have := k3 rfl; omega
      | some a => simp at hA
  · rw [hlen] at hj
    have hne : ¬ m = lo := by omega
    rw [if_neg hne] at ha
    cases A with
    | none => simp at ha
    | some b =>
      simp only [Option.map_some, Option.some.injEq] at ha
      subst ha
      rw [add_twice]
      have e : ((l.take hi).drop lo)[j]'(by rw [hlen]; exact hj) = l[lo + j]'(by omega) := by simp
      rw [e] at hu
      have := k4 b rfl (lo + j) (by omega) i u hu
      rw [Nat.add_mul, Nat.add_assoc] at this
      exact this
/-- 's[1:]'. -/
theorem At.tail {α : Type} {P : Program} {w : World} {k : Nat} {f : α → List Value} {t : TypeId} (ht : P.underlying t = some (.slice (P.elem t))) (hk : ∀ W, (sizeOf (P.elem t)).run P W = .ok k W) {A : Option Addr} {n c : Nat} {x : α} {l : List α} (hn : n = l.length + 1) (h : At w k f (.slice A n c) (x :: l)) :
    ∃ A' c', (∀ W, (Instr.slice t (.slice A n c) (some (.int .i64 1)) none none).run P W = .ok (.slice A' l.length c') W) ∧ At w k f (.slice A' l.length c') l := by
  subst hn
  obtain ⟨_, _, hv, h1, _⟩ := h.shape
  simp only [Value.slice.injEq] at hv
  obtain ⟨_, _, rfl⟩ := hv
  simp only [List.length_cons] at h1
  have hs := h.sliced 1 (l.length + 1) c (by omega) (by simp) h1 (Nat.le_refl _)
  simp only [List.take_succ_cons, List.take_length, List.drop_succ_cons, List.drop_zero] at hs
  refine ⟨if c = 1 then A else A.map (·.add (1 * k)), c - 1, fun W => ?_, ?_⟩
  · rw [run_slice_l W t A (l.length + 1) c ht .i64 1 (by omega) (by omega), hk]
    simp [Result.andThen, Go.sliced]
  · unfold Go.sliced at hs; simpa using hs
/-- append onto the call's own row, of a slice that reads as a list. -/
theorem wpList_append_at {α : Type} {P : Program} (w : World) {ops : Array Oper} {rest : List Oper} {o : Oper} {a : Act} {Q : Exit → Act → World → Prop} (hgd : o.guard = none) (s x : Operand) (t : TypeId)
    (ho : o.op = .call { callee := .builtin .append, args := #[s, x], argTypes := #[t, t] })
    (base : Nat) (e : TypeId) (i : TypeInfo) (z : Value) (size bytes : Nat) (ht : P.underlying t = some (.slice e)) (hi : P.info? e = some i) (hz : i.zero = some z)
    (hsize : i.size = size) (hby : i.bytes = bytes) (hzs : z.cells.size = size) (hsz : 0 < size)
    {f : α → List Value} (hf : ∀ x, (f x).length = size) (h1 : ∀ x, ∀ u ∈ f x, u.oneCell' = true)
    (v : Value) (l : List α) (hs : a.eval s = v) (hown : Own w base e size f v l)
    (A : Option Addr) (m c : Nat) (news : List α) (hm : m = news.length) (hx : a.eval x = .slice A m c) (hat : At w size f (.slice A m c) news)
    (h63 : l.length + m ≤ maxLen) (hbytes : (l.length + m) * bytes ≤ 140737488355328) (hbase : base ≤ w.heap.size)
    (h : ∀ v' w', Own w' base e size f v' (l ++ news) → w.grownBy w' v.ownBlock → wpList P ops Q rest (a.put o.dst v') w') : wpList P ops Q (o :: rest) a w := by
  subst hm
  obtain ⟨B, c', hv, k1, k2, k3⟩ := hat.shape
  simp only [Value.slice.injEq] at hv
  obtain ⟨rfl, _, rfl⟩ := hv
  cases A with
  | none =>
    obtain rfl := k3 rfl
    obtain rfl : news = [] := List.eq_nil_of_length_eq_zero (by omega)
    refine wpList_append_own_none hgd s x t ho base e i size ht hi v l.length (l.flatMap f) hs hown hx ?_
    exact h v w (by simpa using hown) (World.grownBy.refl w _)
  | some ad =>
    have hat' := hat
    obtain ⟨_, _, hv, _, _, _, h4⟩ := hat'
    simp only [Value.slice.injEq] at hv
    obtain ⟨rfl, _, rfl⟩ := hv
    refine wpList_append_own w hgd s x t ho base e i z size bytes ht hi hz hsize hby hzs hsz v l.length (l.flatMap f) hs hown ad news.length c (news.flatMap f) hx (flat_len hf news) ?_ ?_ h63 hbytes hbase ?_
    · intro j u hu
      have hj := (List.getElem?_eq_some_iff.1 hu).1
      rw [flat_len hf] at hj
      have hd : j / size < news.length := Nat.div_lt_of_lt_mul (by rw [Nat.mul_comm]; exact hj)
      have hr : j % size < size := Nat.mod_lt _ hsz
      have e : j / size * size + j % size = j := by rw [Nat.mul_comm]; exact Nat.div_add_mod j size
      have := flat_get hf news (j / size) (j % size) hd hr
      rw [e] at this
      rw [this] at hu
      have h5 := h4 ad rfl (j / size) hd (j % size) u hu
      rw [e] at h5; exact h5
    · intro u hu
      obtain ⟨y, _, hy⟩ := List.mem_flatMap.1 hu
      exact h1 y u hy
    · intro v' w' r1 r2 _
      refine h v' w' ?_ r2
      unfold Own
      rw [List.length_append, List.flatMap_append]; exact r1
/-- Behind an append onto the call's own row nothing older has turned. -/
theorem own_past {α : Type} {w w0 w1 w2 : World} {e : TypeId} {k : Nat} {f : α → List Value} {v : Value} {l : List α} (h : Below w.heap.size w w1) (hg : w1.grownBy w2 v.ownBlock) (hO : Own w0 w.heap.size e k f v l) : Below w.heap.size w w2 := by
  refine h.trans (grownBy_below hg h.size ?_)
  intro b hb
  rcases hO.2 with ⟨rfl, _⟩ | ⟨g, cap, cur, rfl, h3, _⟩
  · simp [Value.ownBlock] at hb
  · simp [Value.ownBlock] at hb
    omega
end Go.Proofs.Ytbmkbpehkpdcmaa
