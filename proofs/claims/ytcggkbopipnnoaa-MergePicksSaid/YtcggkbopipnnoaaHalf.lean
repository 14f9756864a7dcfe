/- Contracts of package merge: halved, All. -/
import Derived.Test.YtcggkbopipnnoaaBoth
import Derived.BigQuiet
namespace Go.Proofs.Ytcggkbopipnnoaa
open Go.ChangeShapes Go.WideShapes Go.ChangeAt Go.RowKit
set_option linter.unusedVariables false
set_option linter.unusedSimpArgs false

/-- Rows of the call's own, each of which reads as a list. -/
def Each {α : Type} (w : World) (e : TypeId) (k : Nat) (f : α → List Value) (vs : List SV) (ll : List (List α)) : Prop :=
  vs.length = ll.length ∧ ∀ j (hj : j < vs.length) (hj' : j < ll.length), Own w 0 e k f (sl (vs[j]'hj)) (ll[j]'hj')
theorem Each.later {α : Type} {w w' : World} {e : TypeId} {k : Nat} {f : α → List Value} {vs : List SV} {ll : List (List α)} (h : Each w e k f vs ll) (hb : Below w.heap.size w w') : Each w' e k f vs ll := ⟨h.1, fun j hj hj' => (h.2 j hj hj').later hb⟩
theorem Each.nil {α : Type} (w : World) (e : TypeId) (k : Nat) (f : α → List Value) : Each w e k f [] [] := ⟨rfl, fun j hj => absurd hj (by simp)⟩
theorem Each.more {α : Type} {w : World} {e : TypeId} {k : Nat} {f : α → List Value} {vs : List SV} {ll : List (List α)} {s : SV} {l : List α} (h : Each w e k f vs ll) (hs : Own w 0 e k f (sl s) l) : Each w e k f (vs ++ [s]) (ll ++ [l]) := by
  refine ⟨by simp [h.1], fun j hj hj' => ?_⟩
  by_cases hlt : j < vs.length
  · rw [List.getElem_append_left hlt, List.getElem_append_left (by rw [← h.1]; exact hlt)]
    exact h.2 j hlt _
  · have e : j = vs.length := by simp at hj; omega
    subst e
    have e1 : (vs ++ [s])[vs.length]'hj = s := by simp
    have e2 : (ll ++ [l])[vs.length]'hj' = l := by rw [List.getElem_append_right (by rw [h.1]; omega)]; simp
    rw [e1, e2]; exact hs
theorem Own.apart {α β : Type} {w : World} {b c : Nat} {e e' : TypeId} {k k' : Nat} {f : α → List Value} {g : β → List Value} {v u : Value} {l : List α} {m : List β} (h : Own w b e k f v l) (h' : Own w c e' k' g u m) (hne : e ≠ e') (x : Nat) (hx : u.ownBlock = some x) : v.ownBlock ≠ some x := by
  intro hy
  rcases h.2 with ⟨rfl, _⟩ | ⟨i, cap, cur, rfl, h1, h2, _⟩
  · simp [Value.ownBlock] at hy
  · rcases h'.2 with ⟨rfl, _⟩ | ⟨i', cap', cur', rfl, h1', h2', _⟩
    · simp [Value.ownBlock] at hx
    · simp [Value.ownBlock] at hx hy
      subst hx; subst hy
      rw [h2] at h2'
      simp at h2'
      exact hne h2'.2
theorem Each.grown {α β : Type} {w w' : World} {c : Nat} {e e' : TypeId} {k k' : Nat} {f : α → List Value} {g : β → List Value} {u : Value} {m : List β} {vs : List SV} {ll : List (List α)} (h : Each w e k f vs ll) (h' : Own w c e' k' g u m) (hne : e ≠ e') (hg : w.grownBy w' u.ownBlock) : Each w' e k f vs ll :=
  ⟨h.1, fun j hj hj' => (h.2 j hj hj').grown hg (fun b hb => (h.2 j hj hj').apart h' hne b hb)⟩
theorem shape_sv {A : Option Addr} {n c : Nat} : (Value.slice A n c) = sl (A, n, c) := rfl

theorem halved_two {E : Type} (tm : E → Int) : ∀ (m : Nat) (l : List (List (Int × E))) (h : 2 * m + 1 < l.length), Mrg.halved tm (l.take (2 * (m + 1))) = Mrg.halved tm (l.take (2 * m)) ++ [Mrg.both tm (l[2 * m]'(by omega)) (l[2 * m + 1]'h)]
  | 0, a :: b :: r, _ => by simp [Mrg.halved]
  | m + 1, a :: b :: r, h => by
    have ih := halved_two tm m r (by simp at h; omega)
    have e1 : 2 * (m + 1 + 1) = 2 * (m + 1) + 1 + 1 := by omega
    have e2 : 2 * (m + 1) = 2 * m + 1 + 1 := by omega
    rw [e1, List.take_succ_cons, List.take_succ_cons]
    simp only [Mrg.halved]
    rw [ih]
    simp only [e2, List.take_succ_cons, Mrg.halved, List.cons_append, List.getElem_cons_succ]
  | 0, [], h => absurd h (by simp)
  | 0, [a], h => absurd h (by simp)
  | m + 1, [], h => absurd h (by simp)
  | m + 1, [a], h => absurd h (by simp)
theorem halved_one' {E : Type} (tm : E → Int) : ∀ (m : Nat) (l : List (List (Int × E))) (h : 2 * m + 1 = l.length), Mrg.halved tm l = Mrg.halved tm (l.take (2 * m)) ++ [l[2 * m]'(by omega)]
  | 0, [a], _ => by simp [Mrg.halved]
  | m + 1, a :: b :: r, h => by
    have ih := halved_one' tm m r (by simp at h; omega)
    have e2 : 2 * (m + 1) = 2 * m + 1 + 1 := by omega
    simp only [Mrg.halved]
    rw [ih]
    simp only [e2, List.take_succ_cons, Mrg.halved, List.cons_append, List.getElem_cons_succ]
  | 0, [], h => absurd h (by simp)
  | 0, a :: b :: r, h => absurd h (by simp)
  | m + 1, [], h => absurd h (by simp)
  | m + 1, [a], h => by simp at h
theorem flat_mem_len {α : Type} {l : List (List α)} {a : List α} (h : a ∈ l) : a.length ≤ l.flatten.length := by
  obtain ⟨s, t, rfl⟩ := List.append_of_mem h
  simp; omega
theorem half_two {E : Type} (tm : E → Int) (k : Nat) (hk : k % 2 = 0) (l : List (List (Int × E))) (h : k + 1 < l.length) : Mrg.halved tm (l.take (k + 2)) = Mrg.halved tm (l.take k) ++ [Mrg.both tm (l[k]'(by omega)) (l[k + 1]'h)] := by
  obtain ⟨m, rfl⟩ : ∃ m, k = 2 * m := ⟨k / 2, by omega⟩
  exact halved_two tm m l h
theorem half_one {E : Type} (tm : E → Int) (k : Nat) (hk : k % 2 = 0) (l : List (List (Int × E))) (h : k + 1 = l.length) : Mrg.halved tm (l.take (k + 2)) = Mrg.halved tm (l.take k) ++ [l[k]'(by omega)] := by
  obtain ⟨m, rfl⟩ : ∃ m, k = 2 * m := ⟨k / 2, by omega⟩
  rw [List.take_of_length_le (by omega)]
  exact halved_one' tm m l h
theorem two_len {α : Type} {l : List (List α)} {k : Nat} (h : k + 1 < l.length) : (l[k]'(by omega)).length + (l[k + 1]'h).length ≤ l.flatten.length := by
  have e : l = l.take k ++ (l[k]'(by omega) :: l[k + 1]'h :: l.drop (k + 2)) := by
    rw [← List.drop_eq_getElem_cons, ← List.drop_eq_getElem_cons, List.take_append_drop]
  have := congrArg (fun x => x.flatten.length) e
  simp only [List.flatten_append, List.flatten_cons, List.length_append] at this
  omega
theorem pairs_at {w : World} {b : Nat} {e : TypeId} {v : Value} {l : List Pr} (h : Own w b e 3 rowP v l) : At w 3 rowP v l := Own.at_ (f := rowP) (k := 3) (fun _ => rfl) h
theorem one_oneCell (s : SV) : ∀ u ∈ slc s, u.oneCell' = true := by simp [Value.oneCell']
set_option maxRecDepth 20000 in
set_option maxHeartbeats 2000000 in
theorem halved_any (v : Value) (vs : List SV) (ll : List (List Pr)) (w : World) (hv : At w 1 slc v vs) (hE : Each w 52 3 rowP vs ll) (hn : ll.flatten.length ≤ 2199023255552) (hn2 : ll.length ≤ 2199023255552) :
    Calls Try.prog 24 #[v] w fun e w' => ∃ (u : Value) (us : List SV), (e = .returned u ∧ Own w' w.heap.size 47 1 slc u us ∧ Each w' 52 3 rowP us (Mrg.halved tmE ll)) ∧ Below w.heap.size w w' := by
  obtain ⟨A, c, rfl, a1, a2, a3⟩ := hv.shape
  obtain ⟨i0, hi, hz0, hz1, hz2⟩ := info_parts (P := Try.prog) (e := 47) (z := .slice none 0 0) (size := 1) (bytes := 24) (by kernel_rfl)
  have hvl := hE.1
  have hm : vs.length ≤ 2199023255552 := by omega
  have H := Lib.hid (And.intro hv (And.intro hE hvl)); clear hv hE hvl a3
  go_enter Try.func24, Try.ntmps24
  go_wp2
  go_loopw [3, 4] (fun hv iv wr => ∃ (k : Nat) (us : List SV), k % 2 = 0 ∧ k ≤ vs.length + 1 ∧ iv = .int .i64 k ∧ us.length ≤ k ∧ Own wr w.heap.size 47 1 slc hv us ∧ Each wr 52 3 rowP us (Mrg.halved tmE (ll.take k)) ∧ Below w.heap.size w wr) (fun _ i _ => vs.length + 1 - (intOf i).toNat)
  case atStart => exact ⟨0, [], rfl, Nat.zero_le _, rfl, Nat.zero_le _, Own.nil _ _ _ _ _, Each.nil _ _ _ _, Below.refl _ _⟩
  case round =>
    obtain ⟨k, us, hk2, hk, rfl, hul, hO, hE, hb⟩ := hrel
    obtain ⟨B, d, rfl, b1, b2, b3⟩ := hO.shape
    by_cases hlt : k < vs.length
    · obtain ⟨a, rfl, hc⟩ := H.out.1.cells rfl (by omega)
      have hll := H.out.2.2
      have c0 := (hc.later hb).row1 k hlt rfl
      rw [Nat.mul_one] at c0
      have A0 := (H.out.2.1.later hb).2 k hlt (by omega)
      have hbl : us.length + 1 ≤ maxLen ∧ (us.length + 1) * 24 ≤ 140737488355328 := by unfold maxLen; omega
      by_cases h1 : k + 1 = vs.length
      · have hH := half_one tmE k hk2 ll (by omega)
        generalize ll[k]'_ = L at *
        generalize vs[k]'hlt = s at *
        have K := Lib.hid (And.intro hO (And.intro hE (And.intro hb (And.intro A0 (And.intro hH (And.intro hbl (And.intro hk2 hul)))))))
        clear hO hE hb A0 hH hbl hk2 hul hc hll b1 b2 b3
        have h2 : (k : Int) + 1 = (vs.length : Int) := by omega
        go_wp2_with (at_builtin; refine wpList_append_own _ rfl (.tmp 16) (.tmp 21) 73 rfl w.heap.size 47 i0 (.slice none 0 0) 1 24 Try.underlying73 hi hz0 hz1 hz2 rfl (by decide) _ us.length _ rfl (K.out.1.later (ba _ _)) ⟨_, 0, none⟩ 1 1 (slc s) rfl rfl (new_cells rfl _ #[sl s]) (one_oneCell s) K.out.2.2.2.2.2.1.1 K.out.2.2.2.2.2.1.2 (by have := K.out.2.2.1.size; simp only [World.size_alloc]; omega) ?_; intro v1 w1 hO1 hg1 _; obtain ⟨A1, n1, c1, rfl⟩ := own_shape hO1)
        go_roundw
        case rel => exact ⟨k + 2, us ++ [s], by have := K.out.2.2.2.2.2.2.1; omega, by omega, by go_num, by have := K.out.2.2.2.2.2.2.2; rw [List.length_append]; simp only [List.length_cons, List.length_nil]; omega, Own.more rfl hO1, by rw [K.out.2.2.2.2.1]; exact ((K.out.2.1.later (ba _ _)).more (K.out.2.2.2.1.later (ba _ _))).grown (K.out.1.later (ba _ _)) (by decide) hg1, own_past (bt K.out.2.2.1 (ba _ _)) hg1 K.out.1⟩
        case measure => simp [intOf]; omega
      · have hlt2 : k + 1 < vs.length := by omega
        have hH := half_two tmE k hk2 ll (by omega)
        have c1 := (hc.later hb).row1 (k + 1) hlt2 rfl
        rw [Nat.mul_one] at c1
        have c2 : wr.cell? ⟨a.block, a.off + (k + 1), none⟩ = some (sl (vs[k + 1]'hlt2)) := by rw [← c1]; unfold Addr.add; rw [if_neg (by omega)]
        have A1 := (H.out.2.1.later hb).2 (k + 1) hlt2 (by omega)
        have h2l := two_len (l := ll) (k := k) (by omega)
        generalize ll[k]'_ = L at *
        generalize ll[k + 1]'_ = M at *
        generalize vs[k]'hlt = s at *
        generalize vs[k + 1]'hlt2 = t at *
        obtain ⟨sA, sn, sc⟩ := s
        obtain ⟨tA, tn, tc⟩ := t
        have cB := fun (W : World) (hW : Below wr.heap.size wr W) => both_any _ _ L M W ((pairs_at A0).later hW) ((pairs_at A1).later hW) (by omega)
        have K := Lib.hid (And.intro hO (And.intro hE (And.intro hb (And.intro cB (And.intro hH (And.intro hbl (And.intro hk2 hul)))))))
        clear hO hE hb A0 A1 hH hbl hk2 hul hc hll b1 b2 b3 cB h2l
        have h2 : ¬ (k : Int) + 1 = (vs.length : Int) := by omega
        have h3 : (k : Int) + 1 < (vs.length : Int) := by omega
        have h4 : ((k : Int) + 1).toNat = k + 1 := by omega
        have h5 : IntKind.i64.wrap ((k : Int) + 1) = (k : Int) + 1 := IntWalk.i64_in _ (by omega)
        have h6 : 0 ≤ (k : Int) + 1 := by omega
        go_wp2_with fail
        go_region_law (first
          | (refine step_append_own rfl (.tmp 23) (.tmp 34) 73 rfl w.heap.size 47 i0 (.slice none 0 0) 1 24 Try.underlying73 hi hz0 hz1 hz2 rfl (by decide) _ us.length _ (by simp [Act.eval, Act.put]) (K.out.1.later (bt b5 (ba _ _))) ⟨_, 0, none⟩ 1 1 (slc (A5, n5, c5)) (by simp [Act.eval, Act.put]) rfl (fun j u hu => new_cells (w := w5) rfl _ #[sl (A5, n5, c5)] j u hu) (one_oneCell _) K.out.2.2.2.2.2.1.1 K.out.2.2.2.2.2.1.2 (by have := K.out.2.2.1.size; have := b5.size; simp only [World.size_alloc, World.size_drew]; omega) ?_; intro v1 w1 hO1 hg1 _; obtain ⟨B1, n1, d1, rfl⟩ := own_shape hO1)
          | (go_simp; go_at_call 26; ((with_reducible refine (K.out.2.2.2.1 _ (below_drew (Below.refl _ _))).mono ?_); rintro e w5 ⟨v5, ⟨rfl, hO5⟩, b5⟩; replace b5 : Below wr.heap.size wr w5 := ⟨b5.os, b5.tape, b5.output, b5.size, b5.block⟩; obtain ⟨A5, n5, c5, rfl⟩ := own_shape hO5)))
        all_goals
          go_simp
          go_wp2
          go_roundw
          case rel => exact ⟨k + 2, us ++ [(A5, n5, c5)], by have := K.out.2.2.2.2.2.2.1; omega, by omega, by go_num, by have := K.out.2.2.2.2.2.2.2; rw [List.length_append]; simp only [List.length_cons, List.length_nil]; omega, Own.more rfl hO1, by rw [K.out.2.2.2.2.1]; exact (((K.out.2.1.later b5).later (ba w5 (.cells #[sl (A5, n5, c5)] 47))).more ((hO5.lift (Nat.zero_le _)).later (ba w5 (.cells #[sl (A5, n5, c5)] 47)))).grown (K.out.1.later (bt b5 (ba w5 (.cells #[sl (A5, n5, c5)] 47)))) (by decide) hg1, own_past (bt K.out.2.2.1 (bt b5 (ba w5 (.cells #[sl (A5, n5, c5)] 47)))) hg1 K.out.1⟩
          case measure => simp [intOf]; omega
    · have hT : ll.take k = ll := List.take_of_length_le (by have := H.out.2.2; omega)
      rw [hT] at hE
      have K := Lib.hid (And.intro hO (And.intro hE hb)); clear hO hE hb hT b1 b2 b3
      obtain ⟨n9, h9⟩ : ∃ n, n = us.length := ⟨_, rfl⟩
      go_wp2
      go_ret
      exact ⟨_, us, ⟨rfl, K.out.1, K.out.2.1⟩, K.out.2.2⟩
end Go.Proofs.Ytcggkbopipnnoaa
