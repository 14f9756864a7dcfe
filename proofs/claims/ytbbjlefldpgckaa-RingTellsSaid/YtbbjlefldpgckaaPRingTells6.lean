/- Texts of the proof of RingTells, part 6. -/
import Derived.Test.YtbbjlefldpgckaaPRingTells1
import Derived.Test.YtbbjlefldpgckaaPRingTells3
import Derived.Test.YtbbjlefldpgckaaPRingTells5
import Derived.BigQuiet
import Derived.Deep.QuietTactic
import Derived.Laws.OwnMore
import Derived.OwnWalk
import Derived.Deep.Draws
import Derived.Below
namespace Go.Proofs.Ytbbjlefldpgckaa
open Go.ChangeShapes Go.WideShapes Go.ChangeAt Go.RowKit
open Ev (V3 rightV OkV)
set_option linter.unusedVariables false
set_option linter.unusedSimpArgs false

/-- A slice of values that reads as l. -/
def ValsAt (w : World) (v : Value) (l : List V3) : Prop :=
  ∃ (A : Option Addr) (cap : Nat), v = .slice A l.length cap ∧ l.length ≤ cap ∧ cap ≤ maxLen ∧
    (0 < l.length → ∃ a, A = some a ∧ ∀ j (hj : j < l.length), Row3 w (a.add (j * 3)) (.int .i64 (l[j]'hj).1) (.int .i64 (l[j]'hj).2.1) (.string (l[j]'hj).2.2))
theorem ValsAt.later {w w' : World} {v : Value} {l : List V3} (h : ValsAt w v l) (hb : Below w.heap.size w w') : ValsAt w' v l := by
  obtain ⟨A, cap, rfl, h1, h2, h3⟩ := h
  refine ⟨A, cap, rfl, h1, h2, fun h0 => ?_⟩
  obtain ⟨a, rfl, h4⟩ := h3 h0
  exact ⟨a, rfl, fun j hj => (h4 j hj).later hb⟩
theorem ValsAt.nil (w : World) : ValsAt w (.slice none 0 0) [] := ⟨none, 0, rfl, Nat.le_refl _, Nat.zero_le _, fun h => absurd h (by simp)⟩

theorem all_take {l : List V3} {k : Nat} (h : k < l.length) (h1 : (l.take k).all rightV = true) (h2 : rightV (l[k]'h) = true) : (l.take (k + 1)).all rightV = true := by
  rw [List.take_succ_eq_append_getElem h, List.all_append, h1]; simp [h2]
theorem all_not {l : List V3} {k : Nat} (h : k < l.length) (h2 : rightV (l[k]'h) = false) : l.all rightV = false := by
  rw [List.all_eq_false]; exact ⟨_, List.getElem_mem h, by simp [h2]⟩
theorem every_any (v : Value) (l : List V3) (w : World) (hv : ValsAt w v l) (hs : ∀ x ∈ l, x.2.2.size ≤ maxLen) :
    Calls Try.prog 58 #[v, .func (.func 59) #[] #[]] w fun e w' => e = .returned (.bool (l.all rightV)) ∧ Below w.heap.size w w' := by
  obtain ⟨A, cap, rfl, h1, h2, h3⟩ := hv
  have hm : l.length ≤ 9223372036854775807 := by unfold maxLen at h2; omega
  have H := Lib.hid (And.intro h3 hs); clear h3 hs
  go_enter Try.func58, Try.ntmps58
  go_wp2
  go_loopw [9] (fun i wr => ∃ k : Nat, k ≤ l.length ∧ i = .int .i64 k ∧ (l.take k).all rightV = true ∧ Below w.heap.size w wr) (fun i _ => l.length - (intOf i).toNat)
  case atStart => exact ⟨0, Nat.zero_le _, rfl, rfl, Below.refl _ _⟩
  case round =>
    obtain ⟨k, hk, rfl, hall, hb⟩ := hrel
    have HK := Lib.hid (And.intro hall hb); clear hall hb
    by_cases hlt : k < l.length
    · obtain ⟨a, rfl, hc⟩ := H.out.1 (by omega)
      have hk3 := (hc k hlt).later HK.out.2
      obtain ⟨c0, c1, c2⟩ := hk3
      have cR := fun w => Right_any (l[k]'hlt).1 (l[k]'hlt).2.1 (l[k]'hlt).2.2 w (H.out.2 _ (List.getElem_mem hlt))
      have h1' : Val.right (l[k]'hlt).1 (l[k]'hlt).2.1 (l[k]'hlt).2.2 = true → (l.take (k + 1)).all rightV = true := fun h => all_take hlt HK.out.1 h
      have h0' : Val.right (l[k]'hlt).1 (l[k]'hlt).2.1 (l[k]'hlt).2.2 = false → l.all rightV = false := fun h => all_not (l := l) hlt h
      generalize (l[k]'hlt).1 = x at *
      generalize (l[k]'hlt).2.1 = y at *
      generalize (l[k]'hlt).2.2 = z at *
      clear hc
      rcases hr : Val.right x y z with _ | _
      · rw [hr] at cR
        have hE := h0' hr
        have HC := Lib.hid (And.intro cR hE); clear cR hr h0' h1' hE
        go_wp2_with (go_at_call 59; ((with_reducible refine (HC.out.1 _).mono ?_); rintro e w1 ⟨rfl, b1⟩))
        go_ret
        exact ⟨by rw [HC.out.2]; rfl, bt HK.out.2 (bt (ba _ _) b1)⟩
      · rw [hr] at cR
        have hE := h1' hr
        have HC := Lib.hid (And.intro cR hE); clear cR hr h0' h1' hE
        go_wp2_with (go_at_call 59; ((with_reducible refine (HC.out.1 _).mono ?_); rintro e w1 ⟨rfl, b1⟩))
        go_roundw
        case rel => exact ⟨k + 1, by omega, by go_num, HC.out.2, bt HK.out.2 (bt (ba _ _) b1)⟩
        case measure => simp [intOf]; omega
    · have hE : l.all rightV = true := by have := HK.out.1; rwa [List.take_of_length_le (by omega)] at this
      have HE := Lib.hid hE; clear hE
      go_wp2
      go_ret
      exact ⟨by rw [HE.out]; rfl, HK.out.2⟩

/-- An event, as the program has it. -/
abbrev ev (t : Int) (v : Value) : Value := .agg #[.int .i64 t, v]
theorem Plain_any (t : Int) (v : Value) (l : List V3) (w : World) (hv : ValsAt w v l) (hs : ∀ x ∈ l, x.2.2.size ≤ maxLen) :
    Calls Try.prog 53 #[ev t v] w fun e w' => e = .returned (.bool (Ev.plain t l)) ∧ Below w.heap.size w w' := by
  have cE := fun w' (h : ValsAt w' v l) => every_any v l w' h hs
  have hp : Ev.plain t l = (decide (0 ≤ t) && decide (t ≤ 2305843009213693952) && decide (l.length ≤ 6) && l.all rightV) := rfl
  have hv' := hv.later (ba w (.cells #[.int .i64 t, v] 35))
  obtain ⟨A, cap, rfl, h1, h2, h3⟩ := hv
  have hm : l.length ≤ 9223372036854775807 := by unfold maxLen at h2; omega
  rw [hp]
  have H := Lib.hid (And.intro cE hv'); clear cE h3 hp hv' hs
  generalize l.all rightV = b at *
  rcases (by omega : ¬ 0 ≤ t ∨ (0 ≤ t ∧ ¬ t ≤ 2305843009213693952) ∨ (0 ≤ t ∧ t ≤ 2305843009213693952 ∧ ¬ l.length ≤ 6) ∨ (0 ≤ t ∧ t ≤ 2305843009213693952 ∧ l.length ≤ 6)) with h | ⟨ha, h⟩ | ⟨ha, hb, h⟩ | ⟨ha, hb, h⟩
  · rw [decide_eq_false h]
    go_enter Try.func53, Try.ntmps53
    go_wp2
    go_ret
    exact ⟨by simp, ba _ _⟩
  · rw [decide_eq_true ha, decide_eq_false h]
    go_enter Try.func53, Try.ntmps53
    go_wp2
    go_ret
    exact ⟨by simp, ba _ _⟩
  · rw [decide_eq_true ha, decide_eq_true hb, decide_eq_false h]
    go_enter Try.func53, Try.ntmps53
    go_wp2
    go_ret
    exact ⟨by simp, ba _ _⟩
  · rw [decide_eq_true ha, decide_eq_true hb, decide_eq_true h]
    go_enter Try.func53, Try.ntmps53
    go_wp2_with (go_at_call 58; ((with_reducible refine (H.out.1 _ H.out.2).mono ?_); rintro e w1 ⟨rfl, b1⟩))
    go_ret
    exact ⟨by simp, bt (ba _ _) b1⟩

end Go.Proofs.Ytbbjlefldpgckaa
namespace Go.Proofs.Ytbbjlefldpgckaa
open Go.ChangeShapes Go.WideShapes Go.ChangeAt Go.RowKit
open Ev (V3 rightV OkV)
set_option linter.unusedVariables false
set_option linter.unusedSimpArgs false

theorem sameV (a b : V3) : a = b ↔ (a.1 = b.1 ∧ a.2.1 = b.2.1 ∧ a.2.2 = b.2.2) := by
  obtain ⟨x, y, z⟩ := a; obtain ⟨x', y', z'⟩ := b; simp
theorem take_same {l m : List V3} (hl : l.length = m.length) {k : Nat} (h : k < l.length) (h1 : l.take k = m.take k) (h2 : l[k]'h = m[k]'(by omega)) : l.take (k + 1) = m.take (k + 1) := by
  rw [List.take_succ_eq_append_getElem h, List.take_succ_eq_append_getElem (by omega), h1, h2]
theorem not_same {l m : List V3} (hl : l.length = m.length) {k : Nat} (h : k < l.length) (h2 : ¬ l[k]'h = m[k]'(by omega)) : ¬ l = m := by
  intro e; subst e; exact h2 rfl
set_option maxRecDepth 20000 in
theorem Equal_any (v : Value) (l : List V3) (u : Value) (m : List V3) (w : World) (hv : ValsAt w v l) (hu : ValsAt w u m) :
    Calls Try.prog 56 #[v, u] w fun e w' => e = .returned (.bool (decide (l = m))) ∧ Below w.heap.size w w' := by
  obtain ⟨A, cap, rfl, h1, h2, h3⟩ := hv
  obtain ⟨B, dap, rfl, k1, k2, k3⟩ := hu
  have hm : l.length ≤ 9223372036854775807 := by unfold maxLen at h2; omega
  have hm' : m.length ≤ 9223372036854775807 := by unfold maxLen at k2; omega
  have H := Lib.hid (And.intro h3 k3); clear h3 k3
  by_cases hn : l.length = m.length
  · rw [← hn]
    have HN := Lib.hid hn; clear hn k1 hm'
    go_enter Try.func56, Try.ntmps56
    go_wp2
    go_loopw [13] (fun i wr => ∃ k : Nat, k ≤ l.length ∧ i = .int .i64 k ∧ l.take k = m.take k ∧ Below w.heap.size w wr) (fun i _ => l.length - (intOf i).toNat)
    case atStart => exact ⟨0, Nat.zero_le _, rfl, rfl, Below.refl _ _⟩
    case round =>
      obtain ⟨k, hk, rfl, hall, hb⟩ := hrel
      have HK := Lib.hid (And.intro hall hb); clear hall hb
      by_cases hlt : k < l.length
      · have hlt' : k < m.length := by have := HN.out; omega
        obtain ⟨a, rfl, hc⟩ := H.out.1 (by omega)
        obtain ⟨b, rfl, hd⟩ := H.out.2 (by omega)
        have q1 := (hc k hlt).later HK.out.2
        have q2 := (hd k hlt').later HK.out.2
        have e1 : (l[k]'hlt).1 = (m[k]'hlt').1 ∧ (l[k]'hlt).2.1 = (m[k]'hlt').2.1 ∧ (l[k]'hlt).2.2 = (m[k]'hlt').2.2 → l.take (k + 1) = m.take (k + 1) := fun h => take_same HN.out hlt HK.out.1 ((sameV _ _).2 h)
        have e2 : ¬ ((l[k]'hlt).1 = (m[k]'hlt').1 ∧ (l[k]'hlt).2.1 = (m[k]'hlt').2.1 ∧ (l[k]'hlt).2.2 = (m[k]'hlt').2.2) → decide (l = m) = false := fun h => decide_eq_false (not_same HN.out hlt (fun h' => h ((sameV _ _).1 h')))
        clear hc hd
        generalize (l[k]'hlt).1 = x1 at *
        generalize (l[k]'hlt).2.1 = y1 at *
        generalize (l[k]'hlt).2.2 = z1 at *
        generalize (m[k]'_).1 = x2 at *
        generalize (m[k]'_).2.1 = y2 at *
        generalize (m[k]'_).2.2 = z2 at *
        obtain ⟨c0, c1, c2⟩ := q1
        obtain ⟨d0, d1, d2⟩ := q2
        rcases same3 x1 y1 z1 x2 y2 z2 with ⟨rfl, rfl, rfl⟩ | ⟨hne, hway⟩
        · have HE := Lib.hid (e1 ⟨rfl, rfl, rfl⟩); clear e1 e2
          go_wp2
          go_quiet (fail)
          go_wp2
          go_roundw
          case rel => exact ⟨k + 1, by omega, by go_num, HE.out, below_drewN HK.out.2 _⟩
          case measure => simp [intOf]; omega
        · have HE := Lib.hid (e2 hne); clear e1 e2 hne
          rcases hway with h | h | ⟨h, hb⟩
          all_goals
            go_wp2
            go_quiet (fail)
            go_wp2
            go_ret
            exact ⟨by rw [HE.out]; rfl, below_drewN HK.out.2 _⟩
      · have hE : decide (l = m) = true := decide_eq_true (by have h1 := HK.out.1; have h2 := HN.out; rwa [List.take_of_length_le (by omega), List.take_of_length_le (by omega)] at h1)
        have HE := Lib.hid hE; clear hE
        go_wp2
        go_ret
        exact ⟨by rw [HE.out]; rfl, HK.out.2⟩
  · have hE : decide (l = m) = false := decide_eq_false (fun h => hn (by rw [h]))
    have HE := Lib.hid hE; clear hE
    have hn' : ¬ (l.length : Int) = (m.length : Int) := by omega
    clear hn
    go_enter Try.func56, Try.ntmps56
    go_wp2
    go_ret
    exact ⟨by rw [HE.out]; rfl, Below.refl _ _⟩
end Go.Proofs.Ytbbjlefldpgckaa
namespace Go.Proofs.Ytbbjlefldpgckaa
open Go.ChangeShapes Go.WideShapes Go.ChangeAt Go.RowKit
open Ev (V3 rightV OkV)
set_option linter.unusedVariables false
set_option linter.unusedSimpArgs false

/-- A list of values, cell by cell. -/
def cells3 (l : List V3) : List Value := l.flatMap fun x => [.int .i64 x.1, .int .i64 x.2.1, .string x.2.2]
theorem cells3_snoc (l : List V3) (x : V3) : cells3 (l ++ [x]) = cells3 l ++ [.int .i64 x.1, .int .i64 x.2.1, .string x.2.2] := by simp [cells3]
theorem cells3_length (l : List V3) : (cells3 l).length = l.length * 3 := by
  induction l with
  | nil => rfl
  | cons x l ih => rw [show cells3 (x :: l) = [.int .i64 x.1, .int .i64 x.2.1, .string x.2.2] ++ cells3 l from rfl, List.length_append, ih]; simp; omega
theorem cells3_at : ∀ (l : List V3) (j : Nat) (h : j < l.length), (cells3 l)[j * 3]? = some (.int .i64 (l[j]'h).1) ∧ (cells3 l)[j * 3 + 1]? = some (.int .i64 (l[j]'h).2.1) ∧ (cells3 l)[j * 3 + 2]? = some (.string (l[j]'h).2.2)
  | x :: l, 0, h => ⟨rfl, rfl, rfl⟩
  | x :: l, j + 1, h => by
    have ih := cells3_at l j (by simpa using h)
    have e : cells3 (x :: l) = .int .i64 x.1 :: .int .i64 x.2.1 :: .string x.2.2 :: cells3 l := rfl
    rw [e, show (j + 1) * 3 = j * 3 + 1 + 1 + 1 by omega]
    simp only [List.getElem?_cons_succ, List.getElem_cons_succ]
    exact ih
theorem valsAt_own {w : World} {base : Nat} {e : TypeId} {v : Value} {l : List V3} (h : w.ownsRow base e 3 v l.length (cells3 l)) : ValsAt w v l := by
  rcases h.2 with ⟨rfl, h0⟩ | ⟨g, cap, cur, rfl, h1, h2, h3, h4, h5, h6⟩
  · have := List.length_eq_zero_iff.1 h0
    subst this
    exact ValsAt.nil w
  · refine ⟨some ⟨g, 0, none⟩, cap, rfl, h3, h4, fun h0 => ⟨_, rfl, fun j hj => ?_⟩⟩
    have hc := h.cellAt
    obtain ⟨a0, a1, a2⟩ := cells3_at l j hj
    unfold Row3
    rw [addr_pl]
    simp only [Nat.zero_add]
    exact ⟨by rw [hc _ (by omega)]; exact a0, by rw [hc _ (by omega)]; exact a1, by rw [hc _ (by omega)]; exact a2⟩
/-- A slice of values in memory of the call's own, from block base on. -/
def NewAt (base : Nat) (w : World) (v : Value) (l : List V3) : Prop := w.ownsRow base 84 3 v l.length (cells3 l)
theorem NewAt.vals {base : Nat} {w : World} {v : Value} {l : List V3} (h : NewAt base w v l) : ValsAt w v l := valsAt_own h
theorem NewAt.nil (base : Nat) (w : World) : NewAt base w (.slice none 0 0) [] := World.ownsRow_nil _ _ _ _
theorem NewAt.later {base : Nat} {w w' : World} {v : Value} {l : List V3} (h : NewAt base w v l) (hb : Below w.heap.size w w') : NewAt base w' v l := ownsRow_later h hb
theorem NewAt.far {base : Nat} {w : World} {v : Value} {l : List V3} (h : NewAt base w v l) {p : Addr} (hp : p.block < base) (u : Value) : NewAt base (w.setCell p u) v l := ownsRow_far h hp u
theorem NewAt.put2 {base : Nat} {w : World} {v : Value} {l : List V3} (h : NewAt base w v l) {g : Nat} (hp : g < base) (x y : Value) : NewAt base ((w.setCell ⟨g, 0, none⟩ x).setCell ⟨g, 1, none⟩ y) v l := (h.far (p := ⟨g, 0, none⟩) hp x).far (p := ⟨g, 1, none⟩) hp y
theorem NewAt.put3 {base : Nat} {w : World} {v : Value} {l : List V3} (h : NewAt base w v l) {g : Nat} (hp : g < base) (x y z : Value) : NewAt base (((w.setCell ⟨g, 0, none⟩ x).setCell ⟨g, 1, none⟩ y).setCell ⟨g, 2, none⟩ z) v l := (h.put2 hp x y).far (p := ⟨g, 2, none⟩) hp z
theorem NewAt.weak {base base' : Nat} {w : World} {v : Value} {l : List V3} (h : NewAt base w v l) (hb : base' ≤ base) : NewAt base' w v l := by
  refine ⟨h.1, ?_⟩
  rcases h.2 with h0 | ⟨g, cap, cur, rfl, h1, h2⟩
  · exact Or.inl h0
  · exact Or.inr ⟨g, cap, cur, rfl, by omega, h2⟩
theorem NewAt.shape {base : Nat} {w : World} {v : Value} {l : List V3} (h : NewAt base w v l) : ∃ A c, v = .slice A l.length c := by
  rcases h.2 with ⟨rfl, h0⟩ | ⟨g, cap, cur, rfl, _⟩
  · exact ⟨none, 0, by rw [h0]⟩
  · exact ⟨_, _, rfl⟩
theorem value_info : (Try.prog.info? 84).map (fun i => (i.zero, i.size, i.bytes)) = some (some (.agg #[.int .i64 0, .int .i64 0, .string ⟨#[]⟩]), 3, 32) := by kernel_rfl
/-- A new block of one value. -/
theorem three_new (w : World) (x y z : Value) (ty : TypeId) : ∀ j u, [x, y, z][j]? = some u → (w.alloc (.cells #[x, y, z] ty)).cell? ((⟨w.heap.size, 0, none⟩ : Addr).add j) = some u := by
  intro j u h
  rw [addr_pl, World.cell?_alloc_new, Nat.zero_add]
  match j, h with
  | 0, h => exact h
  | 1, h => exact h
  | 2, h => exact h
  | j + 3, h => simp at h
theorem three_one (x y : Int) (z : ByteArray) : ∀ u ∈ [Value.int .i64 x, Value.int .i64 y, Value.string z], u.oneCell' = true := by
  intro u hu
  simp only [List.mem_cons, List.not_mem_nil, or_false] at hu
  rcases hu with rfl | rfl | rfl <;> rfl
end Go.Proofs.Ytbbjlefldpgckaa
