/- Pieces of slices, appends of slices in regions. Nothing of one package. -/
import Derived.Test.YtbmkbpehkpdcmaaCells
namespace Go.Proofs.Ytbmkbpehkpdcmaa
open Go.ChangeShapes Go.WideShapes Go.ChangeAt Go.RowKit
set_option linter.unusedVariables false
set_option linter.unusedSimpArgs false

theorem blk_cells {w : World} {g : Nat} {t : TypeId} {cs : Array Value} (h : Blk w g t cs) : ∀ j u, cs.toList[j]? = some u → w.cell? ((⟨g, 0, none⟩ : Addr).add j) = some u := by
  intro j u hu
  rw [addr_pl, Nat.zero_add, h.cell j]
  simpa using hu
/-- 's[:h]'. -/
theorem At.upto {α : Type} {P : Program} {w : World} {k : Nat} {f : α → List Value} {t : TypeId} (ht : P.underlying t = some (.slice (P.elem t))) (hk : ∀ W, (sizeOf (P.elem t)).run P W = .ok k W) {A : Option Addr} {n c : Nat} {l : List α} (h : At w k f (.slice A n c) l) (m : Nat) (hm : m ≤ l.length) :
    ∃ A' c', (∀ W, (Instr.slice t (.slice A n c) none (some (.int .i64 (m : Int))) none).run P W = .ok (.slice A' m c') W) ∧ At w k f (.slice A' m c') (l.take m) := by
  obtain ⟨_, _, hv, h1, _⟩ := h.shape
  simp only [Value.slice.injEq] at hv
  obtain ⟨rfl, rfl, rfl⟩ := hv
  have hs := h.sliced 0 m c (by omega) hm (by omega) (Nat.le_refl _)
  simp only [List.drop_zero] at hs
  refine ⟨if c = 0 then A else A.map (·.add (0 * k)), c, fun W => ?_, ?_⟩
  · rw [run_slice_h W t A l.length c ht .i64 m (by omega) (by omega), hk]
    simp [Result.andThen, Go.sliced]
  · unfold Go.sliced at hs; simpa using hs
/-- 's[l:]'. -/
theorem At.from_ {α : Type} {P : Program} {w : World} {k : Nat} {f : α → List Value} {t : TypeId} (ht : P.underlying t = some (.slice (P.elem t))) (hk : ∀ W, (sizeOf (P.elem t)).run P W = .ok k W) {A : Option Addr} {n c : Nat} {l : List α} (h : At w k f (.slice A n c) l) (m : Nat) (hm : m ≤ l.length) :
    ∃ A' c', (∀ W, (Instr.slice t (.slice A n c) (some (.int .i64 (m : Int))) none none).run P W = .ok (.slice A' (l.length - m) c') W) ∧ At w k f (.slice A' (l.length - m) c') (l.drop m) := by
  obtain ⟨_, _, hv, h1, _⟩ := h.shape
  simp only [Value.slice.injEq] at hv
  obtain ⟨rfl, rfl, rfl⟩ := hv
  have hs := h.sliced m l.length c hm (Nat.le_refl _) h1 (Nat.le_refl _)
  rw [List.take_length] at hs
  refine ⟨if c = m then A else A.map (·.add (m * k)), c - m, fun W => ?_, ?_⟩
  · rw [run_slice_l W t A l.length c ht .i64 m (by omega) (by omega), hk]
    simp [Result.andThen, Go.sliced]
  · unfold Go.sliced at hs; simpa using hs
/-- append onto the call's own row, of a slice that reads as a list, as one step of a region that draws its order. -/
theorem step_append_at {α : Type} {P : Program} {ops : Array Oper} {o : Oper} {a : Act} {w : World} {K : Act → World → Prop} {Q : Exit → Act → World → Prop} {E : Prop} (hgd : o.guard = none) (s x : Operand) (t : TypeId)
    (ho : o.op = .call { callee := .builtin .append, args := #[s, x], argTypes := #[t, t] })
    (base : Nat) (e : TypeId) (i : TypeInfo) (z : Value) (size bytes : Nat) (ht : P.underlying t = some (.slice e)) (hi : P.info? e = some i) (hz : i.zero = some z)
    (hsize : i.size = size) (hby : i.bytes = bytes) (hzs : z.cells.size = size) (hsz : 0 < size)
    {f : α → List Value} (hf : ∀ x, (f x).length = size) (h1 : ∀ x, ∀ u ∈ f x, u.oneCell' = true)
    (v : Value) (l : List α) (hs : a.eval s = v) (hown : Own w base e size f v l)
    (A : Option Addr) (m c : Nat) (news : List α) (hm : m = news.length) (hx : a.eval x = .slice A m c) (hat : At w size f (.slice A m c) news)
    (h63 : l.length + m ≤ maxLen) (hbytes : (l.length + m) * bytes ≤ 140737488355328) (hbase : base ≤ w.heap.size)
    (h : ∀ v' w', Own w' base e size f v' (l ++ news) → w.grownBy w' v.ownBlock → K (a.put o.dst v') w') : if Region.wanted o (yielded ops a.tmps) = true then Oper.wp P o a w K Q else E := by
  subst hm
  obtain ⟨B, c', hv, k1, k2, k3⟩ := hat.shape
  simp only [Value.slice.injEq] at hv
  obtain ⟨rfl, _, rfl⟩ := hv
  cases A with
  | none =>
    obtain rfl := k3 rfl
    obtain rfl : news = [] := List.eq_nil_of_length_eq_zero (by omega)
    rw [if_pos (by simp [Region.wanted, hgd])]
    have hrun := run_append_owned_none (P := P) (w := w) base t o.type e i size ht hi v l.length (l.flatMap f) hown
    unfold Oper.wp
    simp only [List.length_nil] at hx
    simp [execOp, ho, resolve, invoke, builtin, hs, hx, hrun, Result.andThen]
    exact h v w (by simpa using hown) (World.grownBy.refl w _)
  | some ad =>
    have hat' := hat
    obtain ⟨_, _, hv, _, _, _, h4⟩ := hat'
    simp only [Value.slice.injEq] at hv
    obtain ⟨rfl, _, rfl⟩ := hv
    refine step_append_own hgd s x t ho base e i z size bytes ht hi hz hsize hby hzs hsz v l.length (l.flatMap f) hs hown ad news.length c (news.flatMap f) hx (flat_len hf news) ?_ ?_ h63 hbytes hbase ?_
    · intro j u hu
      have hj := (List.getElem?_eq_some_iff.1 hu).1
      rw [flat_len hf] at hj
      have hd : j / size < news.length := Nat.div_lt_of_lt_mul (by rw [Nat.mul_comm]; exact hj)
      have hr : j % size < size := Nat.mod_lt _ hsz
      have e : j / size * size + j % size = j := by rw [Nat.mul_comm]; exact Nat.div_add_mod j size
      have := flat_get hf news (j / size) (j % size) hd hr
      rw [e] at this
      rw [this] at hu
      have h5 := h4 ad rfl (j / size) hd (j % size) u hu
      rw [e] at h5; exact h5
    · intro u hu
      obtain ⟨y, _, hy⟩ := List.mem_flatMap.1 hu
      exact h1 y u hy
    · intro v' w' r1 r2 _
      refine h v' w' ?_ r2
      unfold Own
      rw [List.length_append, List.flatMap_append]; exact r1
end Go.Proofs.Ytbmkbpehkpdcmaa
