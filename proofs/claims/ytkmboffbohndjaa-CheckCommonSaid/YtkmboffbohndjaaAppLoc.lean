/- append onto a row of the call's own, told with where the new row lies. Nothing of one package. -/
import Derived.Test.YtkmboffbohndjaaRowK
import Derived.ArgAppend
namespace Go.Proofs.Ytkmboffbohndjaa
open Go.ChangeShapes Go.WideShapes Go.ChangeAt Go.RowKit
set_option linter.unusedVariables false
set_option linter.unusedSimpArgs false

theorem wpList_append_loc {α : Type} {P : Program} (w : World) {ops : Array Oper} {rest : List Oper} {o : Oper} {a : Act} {Q : Exit → Act → World → Prop} (hgd : o.guard = none) (s x : Operand) (t : TypeId)
    (ho : o.op = .call { callee := .builtin .append, args := #[s, x], argTypes := #[t, t] })
    (base : Nat) (e : TypeId) (i : TypeInfo) (z : Value) (size bytes : Nat) (ht : P.underlying t = some (.slice e)) (hi : P.info? e = some i) (hz : i.zero = some z)
    (hsize : i.size = size) (hby : i.bytes = bytes) (hzs : z.cells.size = size) (hsz : 0 < size)
    {f : α → List Value} (hf : ∀ x, (f x).length = size) (h1 : ∀ x, ∀ u ∈ f x, u.oneCell' = true)
    (v : Value) (l : List α) (hs : a.eval s = v) (hown : Own w base e size f v l)
    (A : Option Addr) (m c : Nat) (news : List α) (hm : m = news.length) (hx : a.eval x = .slice A m c) (hat : At w size f (.slice A m c) news)
    (h63 : l.length + m ≤ maxLen) (hbytes : (l.length + m) * bytes ≤ 140737488355328) (hbase : base ≤ w.heap.size)
    (h : ∀ v' w', Own w' base e size f v' (l ++ news) → w.grownBy w' v.ownBlock → (∀ x, v'.ownBlock = some x → v.ownBlock = some x ∨ w.heap.size ≤ x) → wpList P ops Q rest (a.put o.dst v') w') : wpList P ops Q (o :: rest) a w := by
  subst hm
  obtain ⟨B, c', hv, k1, k2, k3⟩ := hat.shape
  simp only [Value.slice.injEq] at hv
  obtain ⟨rfl, _, rfl⟩ := hv
  cases A with
  | none =>
    obtain rfl := k3 rfl
    obtain rfl : news = [] := List.eq_nil_of_length_eq_zero (by omega)
    refine wpList_append_own_none hgd s x t ho base e i size ht hi v l.length (l.flatMap f) hs hown hx ?_
    exact h v w (by simpa using hown) (World.grownBy.refl w _) (fun x hx => Or.inl hx)
  | some ad =>
    have hat' := hat
    obtain ⟨_, _, hv, _, _, _, h4⟩ := hat'
    simp only [Value.slice.injEq] at hv
    obtain ⟨rfl, _, rfl⟩ := hv
    have hnl : (news.flatMap f).length = news.length * size := flat_len hf news
    have hnews : ∀ j u, (news.flatMap f)[j]? = some u → w.cell? (ad.add j) = some u := by
      intro j u hu
      have hj := (List.getElem?_eq_some_iff.1 hu).1
      rw [hnl] at hj
      have hd : j / size < news.length := Nat.div_lt_of_lt_mul (by rw [Nat.mul_comm]; exact hj)
      have hr : j % size < size := Nat.mod_lt _ hsz
      have e : j / size * size + j % size = j := by rw [Nat.mul_comm]; exact Nat.div_add_mod j size
      have := flat_get hf news (j / size) (j % size) hd hr
      rw [e] at this
      rw [this] at hu
      have h5 := h4 ad rfl (j / size) hd (j % size) u hu
      rw [e] at h5; exact h5
    have h1n : ∀ u ∈ news.flatMap f, u.oneCell' = true := by
      intro u hu
      obtain ⟨y, _, hy⟩ := List.mem_flatMap.1 hu
      exact h1 y u hy
    have hflat : ∀ w' v', w'.ownsRow base e size v' (l.length + news.length) (l.flatMap f ++ news.flatMap f) → Own w' base e size f v' (l ++ news) := fun w' v' r1 => by
      unfold Own
      rw [List.length_append, List.flatMap_append]; exact r1
    rcases hown.2 with ⟨rfl, hl0⟩ | ⟨g, cap, cur, rfl, g1, g2, g3, g4, g5, g6⟩
    · by_cases hm0 : news.length = 0
      · refine wpList_append_own w hgd s x t ho base e i z size bytes ht hi hz hsize hby hzs hsz (.slice none 0 0) l.length (l.flatMap f) hs hown ad news.length c (news.flatMap f) hx hnl hnews h1n h63 hbytes hbase ?_
        intro v' w' r1 r2 r3
        refine h v' w' (hflat w' v' r1) r2 (fun x hx => ?_)
        rw [r3.2 ⟨rfl, hm0⟩] at hx
        simp [Value.ownBlock] at hx
      · have hl0' : l.length = 0 := hl0
        have hl := List.eq_nil_of_length_eq_zero hl0'
        subst hl
        refine wpList_append_grows w hgd s x t ho e i z size bytes ht hi hz hsize hby hzs hsz none 0 0 [] (by simpa using hs) (fun _ => ⟨rfl, rfl⟩) (by simp) (fun b hb => by simp at hb) ad news.length c (news.flatMap f) hx hnl hnews h1n (by omega) (by simpa using h63) (by simpa using hbytes) ?_
        intro v' w' r1 r2
        have hO : Own w' w.heap.size e size f v' news := by
          unfold Own
          simpa using r1
        exact h v' w' (hO.lift hbase) ⟨r2.os, r2.tape, r2.output, r2.size, fun k hk _ => r2.block k hk (by simp)⟩ (fun x hx => by
          rcases hO.2 with ⟨rfl, _⟩ | ⟨g', _, _, rfl, q1, _⟩
          · simp [Value.ownBlock] at hx
          · simp [Value.ownBlock] at hx
            subst hx
            exact Or.inr q1)
    · have hgb : Blk w g e cur.toList.toArray := by simpa [Blk] using g2
      by_cases hr : l.length + news.length ≤ cap
      · have hfit : l.length * size + (news.flatMap f).length ≤ cur.toList.length := by
          have e0 : cur.toList.length = cap * size := by rw [Array.length_toList]; exact g5
          rw [hnl, e0, ← Nat.add_mul]
          exact Nat.mul_le_mul_right _ hr
        refine wpList_append_roomK hgd s x t ho e i size ht hi hsize g l.length cap hs ad news.length c hx cur.toList hgb (news.flatMap f) hnl hnews h1n hr hfit ?_
        intro w' q1 q2
        refine h _ w' ?_ q2 (fun x hx => Or.inl hx)
        have e1 : (splice cur.toList (l.length * size) (news.flatMap f)).take ((l.length + news.length) * size) = (l ++ news).flatMap f := by
          have e2 : (l.length + news.length) * size = l.length * size + (news.flatMap f).length := by rw [hnl, Nat.add_mul]
          have e3 : (splice cur.toList (l.length * size) (news.flatMap f)).take (l.length * size + (news.flatMap f).length) = cur.toList.take (l.length * size) ++ news.flatMap f := by
            unfold splice
            rw [← List.append_assoc, List.take_append_of_le_length (by rw [List.length_append, List.length_take]; omega), List.take_of_length_le (by rw [List.length_append, List.length_take]; omega)]
          rw [e2, e3, List.flatMap_append]
          congr 1
        exact own_of hf q1 (by rw [length_splice _ _ _ hfit, Array.length_toList]; exact g5) e1 (by rw [List.length_append]) g1 hr g4
      · refine wpList_append_grows w hgd s x t ho e i z size bytes ht hi hz hsize hby hzs hsz (some ⟨g, 0, none⟩) l.length cap (l.flatMap f) hs (fun e => by simp at e) (flat_len hf l) (fun b hb j u hu => ?_) ad news.length c (news.flatMap f) hx hnl hnews h1n (by omega) h63 hbytes ?_
        · obtain rfl : (⟨g, 0, none⟩ : Addr) = b := Option.some.inj hb
          rw [addr_pl, Nat.zero_add]
          have hj : j < l.length * size := by have := (List.getElem?_eq_some_iff.1 hu).1; rwa [flat_len hf] at this
          rw [World.ownsRow.cellAt hown j hj]; exact hu
        · intro v' w' r1 r2
          have hO : Own w' w.heap.size e size f v' (l ++ news) := by
            unfold Own
            rw [List.length_append, List.flatMap_append]; exact r1
          exact h v' w' (hO.lift hbase) ⟨r2.os, r2.tape, r2.output, r2.size, fun k hk _ => r2.block k hk (by simp)⟩ (fun x hx => by
            rcases hO.2 with ⟨rfl, _⟩ | ⟨g', _, _, rfl, q1, _⟩
            · simp [Value.ownBlock] at hx
            · simp [Value.ownBlock] at hx
              subst hx
              exact Or.inr q1)
end Go.Proofs.Ytkmboffbohndjaa
