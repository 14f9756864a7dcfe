/- Rings: rows of numbers beside them. -/
import Derived.Test.YtbbjlefldpgckaaRgV
namespace Go.Proofs.Ytbbjlefldpgckaa
open Go.ChangeShapes Go.WideShapes Go.ChangeAt Go.RowKit Go.Maps
open Ev (V3 rightV OkV)
set_option linter.unusedVariables false
set_option linter.unusedSimpArgs false
set_option maxRecDepth 20000

theorem own_ne2 {α β : Type} {w : World} {b b' : Nat} {e e' : TypeId} {k k' : Nat} {f : α → List Value} {f' : β → List Value} {v v' : Value} {l : List α} {l' : List β} (h : Own w b e k f v l) (h' : Own w b' e' k' f' v' l') (he : e ≠ e') {g : Nat} (hg : v'.ownBlock = some g) : v.ownBlock ≠ some g := fun hv => by
  obtain ⟨_, cs, hc⟩ := h.block hv
  obtain ⟨_, cs', hc'⟩ := h'.block hg
  have := hc.symm.trans hc'
  simp only [Option.some.injEq, Obj.cells.injEq] at this
  exact he this.2.1
theorem int_cellg {w : World} {b g n c : Nat} {l : List Int} (h : Own w b 3 1 i64r (.slice (some ⟨g, 0, none⟩) n c) l) (k : Nat) (hk : k < l.length) : w.cell? ⟨g, k, none⟩ = some (.int .i64 (l[k]'hk)) := by
  obtain ⟨g', hg', hl'⟩ := int_cell h k hk
  obtain rfl : g = g' := by simpa using hg'
  exact hl'
/-- A row of numbers of the call's own is written, or grows: the ring is as it was. -/
theorem RX.row {X : Nat → Prop} {w w' : World} {B d b : Nat} {s : Rg} (h : RX X w B d s) {v : Value} {l : List Int} (hO : Own w b 3 1 i64r v l) (hg : w.grownBy w' v.ownBlock) : RX X w' B d s := by
  obtain ⟨v0, m, L, hR, hX⟩ := h
  have hne : ∀ g cs t fr, w.heap[g]? = some (Obj.cells cs t fr) → t ≠ 3 → some g ≠ v.ownBlock := fun g cs t fr hc ht e => by
    obtain ⟨_, cs', hc'⟩ := hO.block e.symm
    have := hc.symm.trans hc'
    simp only [Option.some.injEq, Obj.cells.injEq] at this
    exact ht this.2.1
  have hm : some m ≠ v.ownBlock := fun e => by
    obtain ⟨_, cs', hc'⟩ := hO.block e.symm
    obtain ⟨D, ⟨es, clock, hm, _⟩, _⟩ := hR.pre.map
    have := hm.symm.trans hc'
    simp at this
  refine ⟨v0, m, L, ⟨⟨hR.pre.low, hR.pre.mlow, hR.pre.blk.grown hg (hne _ _ _ _ hR.pre.blk (by decide)), hR.pre.row.grown hg (fun g hgg => own_ne2 hR.pre.row hO (by decide) hgg), hR.pre.kept.mono (fun u ll hn => ?_), hR.pre.map.grown hg hm, hR.pre.ok⟩, hR.len, hR.fits, hR.times⟩, fun k hk => ⟨Nat.lt_of_lt_of_le (hX k hk).1 hg.size, (hX k hk).2⟩⟩
  have hn' : Own w B 84 3 row3 u ll := hn
  exact (hn'.grown hg (fun g hgg => own_ne2 hn' hO (by decide) hgg) : Own w' B 84 3 row3 u ll)
theorem Kr.row {X : Nat → Prop} {w W W' : World} {d : Nat} {s : Rg} (h : Kr X w W d s) {v : Value} {l : List Int} (hO : Own W w.heap.size 3 1 i64r v l) (hg : W.grownBy W' v.ownBlock) : Kr X w W' d s :=
  ⟨h.rx.row hO hg, h.bel.trans (grownBy_below hg h.bel.size (fun k hk => (hO.block hk).1))⟩
/-- Readers that have read nothing of a ring that had nothing. -/
def rdL (l : List Int) : Rd := fun id => if id ∈ l then some (0, 0) else none
theorem rdL_nil : rdL [] = fun _ => none := by funext x; simp [rdL]
theorem rdL_add (l : List Int) (n : Int) : upd (rdL l) n (some (0, 0)) = rdL (l ++ [n]) := by
  funext x
  unfold upd rdL
  by_cases h : x = n
  · simp [h]
  · simp [h]
theorem rdL_cut (A B : List Int) (x : Int) (h : (A ++ x :: B).Nodup) : upd (rdL (A ++ x :: B)) x none = rdL (A ++ B) := by
  funext y
  unfold upd rdL
  rw [List.nodup_append] at h
  obtain ⟨_, h2, h3⟩ := h
  rw [List.nodup_cons] at h2
  by_cases hy : y = x
  · subst hy
    have h4 : y ∉ A := fun hA => h3 y hA y (List.mem_cons_self ..) rfl
    simp [h4, h2.1]
  · simp [hy]
theorem cut_at {l : List Int} {k : Nat} (hk : k < l.length) : l = l.take k ++ l[k] :: l.drop (k + 1) := by
  conv => lhs; rw [← List.take_append_drop k l, List.drop_eq_getElem_cons hk]
def h1s : Nat → List It
  | 0 => []
  | k + 1 => h1s k ++ [(false, (k : Int), oneV 0)]
theorem h1s_len : ∀ k : Nat, (h1s k).length = k
  | 0 => rfl
  | k + 1 => by rw [h1s, List.length_append, h1s_len k]; rfl
abbrev rl (h : Nat) (l : List Int) (last : Nat) : Rg := ⟨2, h1s h, (h : Int), false, rdL l, l.length, last⟩
structure ROk (l : List Int) (last : Nat) : Prop where
  nd : l.Nodup
  len : l.length ≤ 16
  le : ∀ x ∈ l, 1 ≤ x ∧ x ≤ last
theorem ROk.add {l : List Int} {last : Nat} (h : ROk l last) (hl : l.length < 16) : ROk (l ++ [(last : Int) + 1]) (last + 1) := by
  refine ⟨?_, by simp; omega, fun x hx => ?_⟩
  · rw [List.nodup_append]
    refine ⟨h.nd, by simp, fun x hx y hy e => ?_⟩
    rw [List.mem_singleton] at hy
    have := h.le x hx
    omega
  · rcases List.mem_append.1 hx with hx | hx
    · have := h.le x hx; omega
    · rw [List.mem_singleton] at hx; omega
theorem ROk.cut {A B : List Int} {x : Int} {last : Nat} (h : ROk (A ++ x :: B) last) : ROk (A ++ B) last := by
  refine ⟨?_, ?_, fun y hy => h.le y ?_⟩
  · have := h.nd
    rw [List.nodup_append] at this ⊢
    obtain ⟨h1, h2, h3⟩ := this
    rw [List.nodup_cons] at h2
    exact ⟨h1, h2.2, fun a ha b hb => h3 a ha b (List.mem_cons_of_mem _ hb)⟩
  · have := h.len
    simp only [List.length_append, List.length_cons] at this ⊢
    omega
  · rcases List.mem_append.1 hy with hy | hy
    · exact List.mem_append.2 (Or.inl hy)
    · exact List.mem_append.2 (Or.inr (List.mem_cons_of_mem _ hy))
theorem rl_len (n : Nat) (l : List Int) : IsLen n (rdL l) (if l = [] then 0 else n) := by
  refine ⟨fun id r h => ?_, ?_⟩
  · unfold rdL at h
    split at h
    · rename_i hm
      cases h
      have : l ≠ [] := fun e => by rw [e] at hm; cases hm
      rw [if_neg this]; exact Nat.le_refl _
    · cases h
  · cases l with
    | nil => exact Or.inl rfl
    | cons x l => exact Or.inr ⟨x, (0, 0), by simp [rdL], by simp⟩
theorem rl_add {l : List Int} {last : Nat} {n : Int} {s' : Rg} (h : AddR (rl 0 l last) n s') (hl : l.length < 16) : n = (last : Int) + 1 ∧ s' = rl 0 (l ++ [(last : Int) + 1]) (last + 1) := by
  obtain ⟨h1, h2⟩ := h.yes hl
  refine ⟨h1, h2.trans ?_⟩
  show (⟨2, [], 0, false, upd (rdL l) ((last : Int) + 1) (some (0, 0)), l.length + 1, last + 1⟩ : Rg) = _
  rw [rdL_add]
  simp [h1s]
theorem rl_cut {k : Nat} {A B : List Int} {x : Int} {last : Nat} {okb : Bool} {s' : Rg} (h : DropR (rl k (A ++ x :: B) last) x okb s') (hr : ROk (A ++ x :: B) last) : okb = true ∧ s' = rl k (A ++ B) last := by
  obtain ⟨h1, h2⟩ := h.yes (r := (0, 0)) (by show rdL _ _ = _; simp [rdL])
  refine ⟨h1, h2.trans ?_⟩
  show (⟨2, h1s k, (k : Int), false, upd (rdL (A ++ x :: B)) x none, (A ++ x :: B).length - 1, last⟩ : Rg) = _
  rw [rdL_cut _ _ _ hr.nd]
  simp
theorem rl_gone {A B : List Int} {x : Int} {last : Nat} (hr : ROk (A ++ x :: B) last) : rdL (A ++ B) x = none := by
  have h := congrFun (rdL_cut A B x hr.nd) x
  rw [upd_same] at h
  exact h.symm
theorem rl_put {k : Nat} {l : List Int} {last : Nat} {e : Int} {s' : Rg} (h : PutR (rl k l last) false (k : Int) (oneV 0) e s') (hk : k < 2) : e = 0 ∧ s' = rl (k + 1) l last := by
  have hq := rl_len (h1s k).length l
  obtain ⟨h1, h2⟩ := h.ok (right_one _ _ (by omega) (by omega)) rfl (fun h => by
    rcases h with h | ⟨h, _⟩
    · have h' : (k : Int) < (k : Int) := h
      omega
    · cases h) hq (by show (if l = [] then 0 else (h1s k).length) < 2; rw [h1s_len]; split <;> omega)
  exact ⟨h1, h2⟩
theorem rl_free {k : Nat} {l : List Int} {last : Nat} {w w' : World} {e : Ending} (h : FreeP (rl k l last) w e w') : e = .returned (.int .i64 (2 - ((if l = [] then 0 else k : Nat) : Int))) ∧ Below w.heap.size w w' := by
  obtain ⟨m, ⟨he, hm, _⟩, hb⟩ := h
  have := hm.one (rl_len (h1s k).length l)
  rw [h1s_len] at this
  subst this
  exact ⟨he, hb⟩
theorem rl_wait (l : List Int) (last : Nat) (id : Int) : waitR (rl 0 l last) id = 0 := by
  unfold waitR
  show (match rdL l id with | none => 0 | some r => (([] : List It).length : Int) - (r.1 : Int)) = 0
  unfold rdL
  split
  · rfl
  · rename_i r h
    split at h
    · cases h; rfl
    · cases h
theorem rl_end (k : Nat) (l : List Int) (last : Nat) (id : Int) : endR (rl k l last) id = false := by
  unfold endR
  split <;> rfl
theorem rl_peek {l : List Int} {last : Nat} {id : Int} {w w' : World} {e : Ending} (h : PeekP (rl 0 l last) id w e w') : e = .returned (.tuple #[item false 0 (.slice none 0 0), .bool false]) ∧ Below w.heap.size w w' := by
  obtain ⟨h, hb⟩ := h
  rcases h with ⟨_, he⟩ | ⟨r, x, v', ⟨_, hx⟩, _⟩
  · exact ⟨he, hb⟩
  · have hx' : ([] : List It)[r.1]? = some x := hx
    cases hx'
theorem rl_cutAt {j : Nat} {l : List Int} {k : Nat} (hk : k < l.length) {last : Nat} {okb : Bool} {s' : Rg} (h : DropR (rl j l last) (l[k]'hk) okb s') (hr : ROk l last) : okb = true ∧ s' = rl j (l.take k ++ l.drop (k + 1)) last := by
  have key : ∀ (L : List Int) (x : Int) (A B : List Int), L = A ++ x :: B → DropR (rl j L last) x okb s' → ROk L last → okb = true ∧ s' = rl j (A ++ B) last := fun L x A B e h hr => by
    subst e
    exact rl_cut h hr
  exact key l _ _ _ (cut_at hk) h hr
theorem rl_goneAt {l : List Int} {k : Nat} (hk : k < l.length) {last : Nat} (hr : ROk l last) : rdL (l.take k ++ l.drop (k + 1)) (l[k]'hk) = none := by
  have key : ∀ (L : List Int) (x : Int) (A B : List Int), L = A ++ x :: B → ROk L last → rdL (A ++ B) x = none := fun L x A B e hr => by
    subst e
    exact rl_gone hr
  exact key l _ _ _ (cut_at hk) hr
theorem ROk.cutAt {l : List Int} {k : Nat} (hk : k < l.length) {last : Nat} (hr : ROk l last) : ROk (l.take k ++ l.drop (k + 1)) last := by
  have key : ∀ (L : List Int) (x : Int) (A B : List Int), L = A ++ x :: B → ROk L last → ROk (A ++ B) last := fun L x A B e hr => by
    subst e
    exact hr.cut
  exact key l _ _ _ (cut_at hk) hr
theorem rl_first {j : Nat} {l : List Int} {k : Nat} (hk : k < l.length) {last : Nat} {okb : Bool} {s' : Rg} (h : DropR (rl j (l.drop k) last) (l[k]'hk) okb s') (hr : ROk (l.drop k) last) : okb = true ∧ s' = rl j (l.drop (k + 1)) last ∧ ROk (l.drop (k + 1)) last := by
  rw [List.drop_eq_getElem_cons hk] at h hr
  obtain ⟨h1, h2⟩ := rl_cut (A := []) h hr
  exact ⟨h1, h2, hr.cut (A := [])⟩
end Go.Proofs.Ytbbjlefldpgckaa
