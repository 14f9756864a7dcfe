/- append to a slice that has no room, of one element. Nothing of one package. -/
import Derived.Test.YtkmboffbohndjaaCells2
import Derived.Test.YtkmboffbohndjaaGrow
namespace Go.Proofs.Ytkmboffbohndjaa
open Go.ChangeShapes Go.WideShapes Go.ChangeAt Go.RowKit
set_option linter.unusedVariables false
set_option linter.unusedSimpArgs false

/-- 's[:len(s):len(s)]'. -/
theorem At.full {α : Type} {P : Program} {w : World} {k : Nat} {f : α → List Value} {t : TypeId} (ht : P.underlying t = some (.slice (P.elem t))) (hk : ∀ W, (sizeOf (P.elem t)).run P W = .ok k W) {A : Option Addr} {n c : Nat} {l : List α} (h : At w k f (.slice A n c) l) :
    ∃ A', (∀ W, (Instr.slice t (.slice A n c) none (some (.int .i64 (n : Int))) (some (.int .i64 (n : Int)))).run P W = .ok (.slice A' n n) W) ∧ At w k f (.slice A' n n) l := by
  obtain ⟨_, _, hv, h1, _⟩ := h.shape
  simp only [Value.slice.injEq] at hv
  obtain ⟨rfl, rfl, rfl⟩ := hv
  have hs := h.sliced 0 l.length l.length (by omega) (Nat.le_refl _) (Nat.le_refl _) h1
  simp only [List.drop_zero, List.take_length] at hs
  refine ⟨if l.length = 0 then A else A.map (·.add (0 * k)), fun W => ?_, ?_⟩
  · rw [run_slice_hm W t A l.length c ht .i64 .i64 l.length l.length (by omega) (by omega) (by omega), hk]
    simp [Result.andThen, Go.sliced]
  · unfold Go.sliced at hs; simpa using hs
theorem cap_next (n : Nat) : Builtin.nextslicecap (n + 1) n ≤ n + n / 4 + 1000 := by
  unfold Builtin.nextslicecap
  split
  · omega
  · split
    · omega
    · rw [growBy_four]
      repeat' split
      all_goals omega
/-- One element more in a slice that has no room: asked is what Go asks, no more. -/
theorem run_append_one_more {P : Program} {w : World} (t ty e : TypeId) (i : TypeInfo) (z : Value) (size bytes : Nat) (ht : P.underlying t = some (.slice e)) (hi : P.info? e = some i) (hz : i.zero = some z)
    (hsize : i.size = size) (hby : i.bytes = bytes) (hzs : z.cells.size = size) (hsz : 0 < size)
    (b : Addr) (n : Nat) (olds : List Value) (hlo : olds.length = n * size) (holds : ∀ j u, olds[j]? = some u → w.cell? (b.add j) = some u)
    (a : Addr) (c : Nat) (news : List Value) (hl : news.length = size) (hnews : ∀ j u, news[j]? = some u → w.cell? (a.add j) = some u)
    (h63 : n + 1 ≤ maxLen) (hbytes : (n + n / 4 + 1000) * bytes ≤ 281474976710656) :
    ∃ v' w', (Builtin.append_ #[t, t] ty #[.slice (some b) n n, .slice (some a) 1 c]).run P w = .ok v' w' ∧ w'.ownsRow w.heap.size e size v' (n + 1) (olds ++ news) ∧ w.grownBy w' none := by
  subst hsize
  subst hby
  have hsmall : n + 1 ≤ 9223372036854775807 := by simp only [maxLen] at h63; omega
  have hlen : (olds ++ news).length = (n + 1) * i.size := by rw [List.length_append, hlo, hl, Nat.add_mul]; omega
  have hge := grownCap_ge w (n + 1) n e
  have hcm : grownCap w (n + 1) n e ≤ maxLen := grownCap_le_maxLen w (n + 1) n e h63
  have hfit : Builtin.nextslicecap (n + 1) n * i.bytes ≤ 281474976710656 := Nat.le_trans (Nat.mul_le_mul_right _ (cap_next n)) hbytes
  have hr := run_append_grow (P := P) w t ty e i z ht hi hz b n n olds hlo holds a 1 c news (by omega) hnews (by omega) (by omega) hfit
  refine ⟨_, _, hr, ⟨hlen, .inr ⟨w.heap.size, _, _, rfl, Nat.le_refl _, heap_alloc_new w.drew _, hge, hcm, ?_, ?_⟩⟩, ⟨rfl, rfl, rfl, by simp, fun k hk _ => heap_alloc_old w.drew _ hk⟩⟩
  · simp only [Array.size_append, List.size_toArray, size_zeroCells, hzs, hlo, hl]
    rw [show n * i.size + i.size = (n + 1) * i.size by rw [Nat.add_mul]; omega, ← Nat.add_mul]
    congr 1
    omega
  · simp only [Array.toList_append, List.append_assoc]
    rw [← List.append_assoc, ← hlen]
    exact List.take_left
theorem step_append_full {α : Type} {P : Program} {ops : Array Oper} {o : Oper} {a : Act} {w : World} {K : Act → World → Prop} {Q : Exit → Act → World → Prop} {E : Prop} (hgd : o.guard = none) (s x : Operand) (t : TypeId)
    (ho : o.op = .call { callee := .builtin .append, args := #[s, x], argTypes := #[t, t] })
    (e : TypeId) (i : TypeInfo) (z : Value) (size bytes : Nat) (h1 : P.underlying t = some (.slice e)) (h2 : P.info? e = some i) (h3 : i.zero = some z)
    (h4 : i.size = size) (h5 : i.bytes = bytes) (h6 : z.cells.size = size) (h7 : 0 < size)
    {f : α → List Value} (hf : ∀ x, (f x).length = size) (h1c : ∀ x, ∀ u ∈ f x, u.oneCell' = true)
    (A : Option Addr) (n : Nat) (l : List α) (hn : n = l.length) (hs : a.eval s = .slice A n n) (hat : At w size f (.slice A n n) l)
    (ad : Addr) (c : Nat) (y : α) (hx : a.eval x = .slice (some ad) 1 c) (hc : ∀ j u, (f y)[j]? = some u → w.cell? (ad.add j) = some u)
    (b1 : n + 1 ≤ maxLen) (b2 : (n + n / 4 + 1000) * bytes ≤ 281474976710656) (b3 : bytes ≤ 140737488355328)
    (hK : ∀ v' w', Own w' w.heap.size e size f v' (l ++ [y]) → w.grownBy w' none → K (a.put o.dst v') w') :
    if Region.wanted o (yielded ops a.tmps) = true then Oper.wp P o a w K Q else E := by
  subst hn
  obtain ⟨B, cap, hv, k1, k2, k3, k4⟩ := hat
  simp only [Value.slice.injEq] at hv
  obtain ⟨rfl, _, rfl⟩ := hv
  rw [if_pos (by simp [Region.wanted, hgd])]
  cases A with
  | some b =>
    obtain ⟨v', w', hrun, r1, r2⟩ := run_append_one_more (P := P) (w := w) t o.type e i z size bytes h1 h2 h3 h4 h5 h6 h7 b l.length (l.flatMap f) (flat_len hf l) (by
      intro j u hu
      have hj := (List.getElem?_eq_some_iff.1 hu).1
      rw [flat_len hf] at hj
      have hd : j / size < l.length := Nat.div_lt_of_lt_mul (by rw [Nat.mul_comm]; exact hj)
      have hr : j % size < size := Nat.mod_lt _ h7
      have e : j / size * size + j % size = j := by rw [Nat.mul_comm]; exact Nat.div_add_mod j size
      have := flat_get hf l (j / size) (j % size) hd hr
      rw [e] at this
      rw [this] at hu
      have h5 := k4 b rfl (j / size) hd (j % size) u hu
      rw [e] at h5; exact h5) ad c (f y) (hf y) hc b1 b2
    unfold Oper.wp execOp
    simp only [ho, resolve, invoke, builtin, Sem.run_bind, Sem.run_pure, Result.andThen_ok, List.map_toArray, List.map_cons, List.map_nil, hs, hx, hrun]
    exact hK _ _ (Own.more rfl r1) r2
  | none =>
    have h0 := k3 rfl
    obtain rfl : l = [] := List.eq_nil_of_length_eq_zero h0
    obtain ⟨v', w', hrun, r1, r2, _⟩ := run_append_own (P := P) w w.heap.size t o.type e i z size bytes h1 h2 h3 h4 h5 h6 h7 (.slice none 0 0) 0 [] (World.ownsRow_nil w _ e size) ad 1 c (f y) (by rw [hf]; omega) hc (h1c y) (by simpa using b1) (by omega) (Nat.le_refl _)
    unfold Oper.wp execOp
    simp only [List.length_nil] at hs
    simp only [ho, resolve, invoke, builtin, Sem.run_bind, Sem.run_pure, Result.andThen_ok, List.map_toArray, List.map_cons, List.map_nil, hs, hx, hrun]
    exact hK _ _ (Own.more (l := []) rfl r1) r2
end Go.Proofs.Ytkmboffbohndjaa
