/- Turns by deficits: what the calls keep; the law's own rounds, costs, find. -/
import Derived.Test.YtckpecddglfjkaaDrK
namespace Go.Proofs.Ytckpecddglfjkaa
open Go.ChangeShapes Go.WideShapes Go.ChangeAt Go.RowKit
open Dr
set_option linter.unusedVariables false
set_option linter.unusedSimpArgs false

theorem AddR.ok {L : List Fl} {fr : Bool} {id q e : Int} {L' : List Fl} {fr' : Bool} (h : AddR L fr id q e L' fr') (hS : OkS L fr) (hn : L.length < 1000) (hi : wfI id) : OkS L' fr' := by
  rcases h with ⟨_, _, rfl, rfl⟩ | ⟨_, _, _, _, rfl, rfl⟩ | ⟨h1, h2, h3, _, rfl, rfl⟩
  · exact hS
  · exact hS
  · obtain ⟨s1, s2, s3, s4⟩ := hS
    refine ⟨fun f hf => ?_, ?_, ?_, by rw [List.length_append]; exact hn⟩
    · rcases List.mem_append.1 hf with hf | hf
      · exact s1 f hf
      · obtain rfl : f = _ := by simpa using hf
        exact ⟨h1, h2, by simp, by simp, by simp, hi.1, hi.2⟩
    · cases L with
      | nil => exact ⟨by simp, by simp⟩
      | cons a r =>
        simp only [List.cons_append, List.isEmpty_cons, Bool.or_false]
        refine ⟨s2.1, fun g hg => ?_⟩
        rcases List.mem_append.1 hg with hg | hg
        · exact s2.2 g hg
        · obtain rfl : g = _ := by simpa using hg
          simp
    · rw [List.map_append, List.nodup_append]
      refine ⟨s3, by simp, fun a ha b hb e => ?_⟩
      obtain rfl : b = id := by simpa using hb
      rw [e] at ha
      exact h3 ha
theorem DropR.ok {L : List Fl} {fr : Bool} {id : Int} {ok : Bool} {L' : List Fl} {fr' : Bool} (h : DropR L fr id ok L' fr') (hS : OkS L fr) : OkS L' fr' := by
  rcases h with ⟨_, _, rfl, rfl⟩ | ⟨_, _, rfl, rfl⟩
  · exact hS
  · obtain ⟨s1, s2, s3, s4⟩ := hS
    refine ⟨fun f hf => s1 f (List.mem_filter.1 hf).1, ?_, (List.filter_sublist.map _).nodup s3, Nat.le_trans (List.length_filter_le ..) s4⟩
    cases L with
    | nil => trivial
    | cons a r =>
      by_cases ha : a.1 = id
      · rw [List.filter_cons_of_neg (by simp [keepP, ha])]
        have e : (((a :: r).map (·.1)).head? == some id) = true := by simp [ha]
        rw [e, Bool.or_true]
        have hall : ∀ g ∈ r.filter (keepP id), g.2.2.1 ≤ 511 := fun g hg => s2.2 g (List.mem_filter.1 hg).1
        cases hr : r.filter (keepP id) with
        | nil => trivial
        | cons b t => rw [hr] at hall; exact ⟨by have := hall b (List.mem_cons_self ..); simpa using this, fun g hg => hall g (List.mem_cons_of_mem _ hg)⟩
      · rw [List.filter_cons_of_pos (by simp [keepP, ha])]
        have e : (((a :: r).map (·.1)).head? == some id) = false := by simp [ha]
        rw [e, Bool.or_false]
        exact ⟨s2.1, fun g hg => s2.2 g (List.mem_filter.1 hg).1⟩
theorem TurnR.ok {cs : List (Int × Int)} {L : List Fl} {fr : Bool} {id : Int} {ok : Bool} {L' : List Fl} {fr' : Bool} (h : TurnR cs L fr id ok L' fr') (hS : OkS L fr) : OkS L' fr' := by
  have hP := priced_ok (cs := cs) hS
  rcases h with ⟨_, _, _, rfl, rfl⟩ | ⟨_, _, n, f, r, ht, rfl, _⟩
  · obtain ⟨s1, s2, s3, s4⟩ := hP
    refine ⟨fun f hf => ?_, ?_, by unfold rest0; rw [List.map_map]; exact s3, by unfold rest0; rw [List.length_map]; exact s4⟩
    · obtain ⟨g, hg, rfl⟩ := List.mem_map.1 hf
      obtain ⟨a, b, c, d⟩ := s1 g hg
      exact ⟨a, b, by simp, d⟩
    · cases hL : priced cs L with
      | nil => trivial
      | cons a r =>
        rw [hL] at s1
        obtain ⟨q1, q2, _⟩ := s1 a (List.mem_cons_self ..)
        refine ⟨?_, fun g hg => ?_⟩
        · cases fr'
          · simp only [Bool.false_eq_true, if_false]; omega
          · simp
        · obtain ⟨x, _, rfl⟩ := List.mem_map.1 hg
          simp
  · exact hP.turn ht
theorem TurnR.one {cs : List (Int × Int)} {L : List Fl} {fr : Bool} {id : Int} {ok : Bool} {L' : List Fl} {fr' : Bool} (h : TurnR cs L fr id ok L' fr') (n : Nat) {f : Fl} {r : List Fl} {fr2 : Bool} (hr : ready (priced cs L) = true) (ht : turn n (priced cs L) fr = some (f :: r, fr2)) : id = f.1 ∧ ok = true ∧ L' = f :: r ∧ fr' = fr2 := by
  rcases h with ⟨h0, _⟩ | ⟨_, h1, m, f', r', ht', h2, h3⟩
  · rw [hr] at h0; cases h0
  · have := turn_one ht' ht
    simp only [Prod.mk.injEq, List.cons.injEq] at this
    obtain ⟨⟨rfl, rfl⟩, rfl⟩ := this
    exact ⟨h3, h1, h2, rfl⟩
theorem TurnR.no {cs : List (Int × Int)} {L : List Fl} {fr : Bool} {id : Int} {ok : Bool} {L' : List Fl} {fr' : Bool} (h : TurnR cs L fr id ok L' fr') (hr : ready (priced cs L) = false) : id = 0 ∧ ok = false ∧ L' = rest0 (priced cs L) ∧ fr' = fr := by
  rcases h with ⟨_, h⟩ | ⟨h0, _⟩
  · exact h
  · rw [hr] at h0; cases h0
theorem AddR.yes {L : List Fl} {fr : Bool} {id q e : Int} {L' : List Fl} {fr' : Bool} (h : AddR L fr id q e L' fr') (h1 : 1 ≤ q) (h2 : q ≤ 1000) (h3 : id ∉ L.map (·.1)) : e = 0 ∧ L' = L ++ [(id, q, 0, 0)] ∧ fr' = (fr || L.isEmpty) := by
  rcases h with ⟨h, _⟩ | ⟨_, _, h, _⟩ | ⟨_, _, _, h⟩
  · omega
  · exact absurd h h3
  · exact h
theorem AddR.twice {L : List Fl} {fr : Bool} {id q e : Int} {L' : List Fl} {fr' : Bool} (h : AddR L fr id q e L' fr') (h1 : 1 ≤ q) (h2 : q ≤ 1000) (h3 : id ∈ L.map (·.1)) : e = 11 ∧ L' = L ∧ fr' = fr := by
  rcases h with ⟨h, _⟩ | ⟨_, _, _, h⟩ | ⟨_, _, h, _⟩
  · omega
  · exact h
  · exact absurd h3 h
theorem AddR.arg {L : List Fl} {fr : Bool} {id q e : Int} {L' : List Fl} {fr' : Bool} (h : AddR L fr id q e L' fr') (h1 : q < 1 ∨ 1000 < q) : e = 1 ∧ L' = L ∧ fr' = fr := by
  rcases h with ⟨_, h⟩ | ⟨h, h', _⟩ | ⟨h, h', _⟩
  · exact h
  · omega
  · omega

/-- The flow of that ID. -/
def findG (l : List Gl) (id : Int) : Option Gl := l.find? fun g => g.1 == id
def FindP (l : List Gl) (id : Int) (w : World) (e : Ending) (w' : World) : Prop := (match findG l id with
  | some g => e = .returned (.tuple #[.agg #[.int .i64 g.1, .int .i64 g.2.1, .int .i64 g.2.2], .bool true])
  | none => e = .returned (.tuple #[.agg #[.int .i64 0, .int .i64 0, .int .i64 0], .bool false])) ∧ Below w.heap.size w w'
theorem findG_at (l : List Gl) (id : Int) (k : Nat) (h : k < l.length) (he : (l[k]'h).1 = id) (h1 : ∀ j (hj : j < l.length), j < k → (l[j]'hj).1 ≠ id) : findG l id = some (l[k]'h) := by
  unfold findG
  rw [List.find?_eq_some_iff_getElem]
  exact ⟨by simpa using he, k, h, rfl, fun j hj => by simpa using h1 j (by omega) hj⟩
theorem findG_no (l : List Gl) (id : Int) (h1 : ∀ j (hj : j < l.length), (l[j]'hj).1 ≠ id) : findG l id = none := by
  unfold findG
  rw [List.find?_eq_none]
  intro x hx
  obtain ⟨j, hj, rfl⟩ := List.getElem_of_mem hx
  simpa using h1 j hj
set_option maxHeartbeats 1000000 in
theorem lfind_any (v : Value) (l : List Gl) (id : Int) (w : World) (hv : At w 3 rowG v l) :
    Calls Try.prog 22 #[v, .int .i64 id] w (FindP l id w) := by
  obtain ⟨A, cap, rfl, h1, h2, _⟩ := hv.shape
  have hm : l.length ≤ 9223372036854775807 := by unfold maxLen at h2; omega
  have H := Lib.hid hv; clear hv
  go_enter Try.func22, Try.ntmps22
  go_wp2
  go_loopw [6] (fun iv wr => ∃ (k : Nat), k ≤ l.length ∧ iv = .int .i64 k ∧ (∀ j (hj : j < l.length), j < k → (l[j]'hj).1 ≠ id) ∧ Blk wr w.heap.size 48 #[.int .i64 0, .int .i64 0, .int .i64 0] ∧ Below w.heap.size w wr) (fun i _ => l.length - (intOf i).toNat)
  case atStart => exact ⟨0, Nat.zero_le _, rfl, fun j hj h => by omega, Blk.new w _ _, ba _ _⟩
  case round =>
    obtain ⟨k, hk, rfl, hall, hB, hb⟩ := hrel
    by_cases hlt : k < l.length
    · obtain ⟨a, rfl, hc⟩ := H.out.cells rfl (by omega)
      obtain ⟨c0, c1, c2⟩ := (hc.later hb).row3 k hlt rfl
      obtain ⟨b0, b1, b2⟩ := hB.three
      have bf := hB.frozen
      have bl := hB.lt
      by_cases he : (l[k]'hlt).1 = id
      · have hF := findG_at l id k hlt he hall
        generalize l[k]'hlt = y at *
        obtain ⟨i, q, t⟩ := y
        simp only at c0 c1 c2 he
        subst he
        have K := Lib.hid (And.intro hF (And.intro hB hb)); clear hF hB hb hall hc
        go_wp2
        obtain ⟨z0, z1, z2⟩ := (K.out.2.1.put3 (.int .i64 i) (.int .i64 q) (.int .i64 t)).three
        refine bodyPost_ret (v := .tuple #[.agg #[.int .i64 i, .int .i64 q, .int .i64 t], .bool true]) (by simp only [results, Try.results22]; simp [go_sem, z0, z1, z2]) rfl ?_
        unfold FindP
        rw [K.out.1]
        exact ⟨rfl, below_put3 K.out.2.2 (Nat.le_refl _) _ _ _⟩
      · have hall' : ∀ j (hj : j < l.length), j < k + 1 → (l[j]'hj).1 ≠ id := fun j hj hlt' => by
          rcases Nat.lt_succ_iff_lt_or_eq.1 hlt' with h2 | rfl
          · exact hall j hj h2
          · exact he
        generalize l[k]'hlt = y at *
        obtain ⟨i, q, t⟩ := y
        simp only at c0 c1 c2 he
        have hee : (i == id) = false := by simpa using he
        have K := Lib.hid (And.intro hall' (And.intro hB hb)); clear hall' hB hb hall hc
        go_wp2
        go_roundw
        case rel => exact ⟨k + 1, by omega, by go_num, K.out.1, K.out.2.1, K.out.2.2⟩
        case measure => simp [intOf]; omega
    · have hF := findG_no l id (fun j hj => hall j hj (by omega))
      obtain ⟨b0, b1, b2⟩ := hB.three
      have bf := hB.frozen
      have bl := hB.lt
      have K := Lib.hid (And.intro hF (And.intro hB hb)); clear hF hB hb hall
      go_wp2
      obtain ⟨z0, z1, z2⟩ := (K.out.2.1.put3 (.int .i64 0) (.int .i64 0) (.int .i64 0)).three
      refine bodyPost_ret (v := .tuple #[.agg #[.int .i64 0, .int .i64 0, .int .i64 0], .bool false]) (by simp only [results, Try.results22]; simp [go_sem, z0, z1, z2]) rfl ?_
      unfold FindP
      rw [K.out.1]
      exact ⟨rfl, below_put3 K.out.2.2 (Nat.le_refl _) _ _ _⟩
end Go.Proofs.Ytckpecddglfjkaa
