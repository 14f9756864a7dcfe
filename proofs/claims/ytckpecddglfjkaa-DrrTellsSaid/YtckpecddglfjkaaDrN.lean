/- Turns by deficits: who stands in the round, behind calls. -/
import Derived.Test.YtckpecddglfjkaaDrQ
import Derived.Deep.DeepCutAuto
import Derived.Deep.CutBlock
namespace Go.Proofs.Ytckpecddglfjkaa
open Go.ChangeShapes Go.WideShapes Go.ChangeAt Go.RowKit
open Dr
set_option linter.unusedVariables false
set_option linter.unusedSimpArgs false

abbrev key (f : Fl) : Int × Int := (f.1, f.2.1)
theorem priced_keys (cs : List (Int × Int)) (L : List Fl) : (priced cs L).map key = L.map key := by unfold priced; rw [List.map_map]; rfl
theorem rest_keys (L : List Fl) : (rest0 L).map key = L.map key := by unfold rest0; rw [List.map_map]; rfl
theorem turn_keys : ∀ {n : Nat} {L : List Fl} {fr : Bool} {S : List Fl × Bool}, turn n L fr = some S → (S.1.map key).Perm (L.map key)
  | 0, _, _, _, h => by simp [Dr.turn] at h
  | n + 1, [], _, _, h => by simp [Dr.turn] at h
  | n + 1, f :: r, fr, S, h => by
    have hk : key (serveF f fr).2.1 = key f := by unfold key; rw [(serve_ids f fr).1, (serve_ids f fr).2.1]
    unfold Dr.turn at h
    by_cases c : (serveF f fr).1 = true
    · rw [if_pos c] at h
      obtain rfl := Option.some.inj h
      simp only [List.map_cons, hk]
      exact List.Perm.refl _
    · rw [if_neg c] at h
      refine (turn_keys h).trans ?_
      rw [List.map_append, List.map_cons, List.map_nil, hk, List.map_cons]
      exact List.perm_append_singleton _ _
theorem TurnR.keys {cs : List (Int × Int)} {L : List Fl} {fr : Bool} {id : Int} {ok : Bool} {L' : List Fl} {fr' : Bool} (h : TurnR cs L fr id ok L' fr') : (L'.map key).Perm (L.map key) := by
  rcases h with ⟨_, _, _, rfl, _⟩ | ⟨_, _, n, f, r, ht, rfl, _⟩
  · rw [rest_keys, priced_keys]
  · have := turn_keys ht
    rw [priced_keys] at this
    exact this
/-- Whoever has its turn was ready. -/
theorem turn_ready : ∀ {n : Nat} {L : List Fl} {fr : Bool} {f : Fl} {r : List Fl} {fr' : Bool}, turn n L fr = some (f :: r, fr') → ∃ g ∈ L, g.1 = f.1 ∧ g.2.2.2 = f.2.2.2 ∧ g.2.2.2 ≠ 0
  | 0, _, _, _, _, _, h => by simp [Dr.turn] at h
  | n + 1, [], _, _, _, _, h => by simp [Dr.turn] at h
  | n + 1, a :: t, fr, f, r, fr', h => by
    unfold Dr.turn at h
    by_cases c : (serveF a fr).1 = true
    · rw [if_pos c] at h
      have := Option.some.inj h
      simp only [Prod.mk.injEq, List.cons.injEq] at this
      obtain ⟨⟨h1, _⟩, _⟩ := this
      refine ⟨a, List.mem_cons_self .., by rw [← h1, (serve_ids a fr).1], by rw [← h1, (serve_ids a fr).2.2], fun h0 => ?_⟩
      unfold serveF at c
      rw [if_pos h0] at c
      simp at c
    · rw [if_neg c] at h
      obtain ⟨g, hg, e1, e2, e3⟩ := turn_ready h
      rcases List.mem_append.1 hg with hg | hg
      · exact ⟨g, List.mem_cons_of_mem _ hg, e1, e2, e3⟩
      · obtain rfl : g = (serveF a fr).2.1 := by simpa using hg
        rw [(serve_ids a fr).1] at e1
        rw [(serve_ids a fr).2.2] at e2 e3
        exact ⟨a, List.mem_cons_self .., e1, e2, e3⟩
theorem TurnR.mem {cs : List (Int × Int)} {L : List Fl} {fr : Bool} {id : Int} {L' : List Fl} {fr' : Bool} (h : TurnR cs L fr id true L' fr') : id ∈ L.map (·.1) ∧ 0 < costOf cs id := by
  rcases h with ⟨_, _, h, _⟩ | ⟨_, _, n, f, r, ht, rfl, rfl⟩
  · cases h
  · obtain ⟨g, hg, e1, e2, e3⟩ := turn_ready ht
    obtain ⟨x, hx, rfl⟩ := List.mem_map.1 hg
    simp only at e1 e2 e3
    have := (cost_pos cs x.1).1
    rw [← e1]
    exact ⟨List.mem_map.2 ⟨x, hx, rfl⟩, by omega⟩
theorem keys_ids {L L' : List Fl} (h : (L'.map key).Perm (L.map key)) : (L'.map (·.1)).Perm (L.map (·.1)) := by
  have := h.map Prod.fst
  rw [List.map_map, List.map_map] at this
  exact this
theorem TurnR.len {cs : List (Int × Int)} {L : List Fl} {fr : Bool} {id : Int} {ok : Bool} {L' : List Fl} {fr' : Bool} (h : TurnR cs L fr id ok L' fr') : L'.length = L.length := by
  have := h.keys.length_eq
  simpa using this
theorem T_any (w W : World) (d : Nat) (L : List Fl) (fr : Bool) (lv : Value) (cs : List (Int × Int)) (h : Kp w W d L fr) (hl : At W 2 rowC lv cs) (hok : OkC cs) :
    Calls Try.prog 15 #[.pointer (some ⟨d, 0, none⟩), lv] W fun e W' => ∃ id ok L' fr', (e = .returned (.tuple #[.int .i64 id, .bool ok]) ∧ TurnR cs L fr id ok L' fr' ∧ Kp w W' d L' fr') ∧ FrD W W' :=
  (Turn_any w.heap.size d L fr lv cs W h.drs h.ok hl hok).mono fun e W' ⟨id, ok, L', fr', ⟨he, hR, hD⟩, hX⟩ => ⟨id, ok, L', fr', ⟨he, hR, h.turn hR hD hX⟩, hX.frm⟩
theorem F_any (w W : World) (d : Nat) (L : List Fl) (fr : Bool) (h : Kp w W d L fr) :
    Calls Try.prog 19 #[.pointer (some ⟨d, 0, none⟩)] W fun e W' => ∃ v, (e = .returned v ∧ Own W' W.heap.size 48 3 rowG v (L.map gl) ∧ Kp w W' d L fr) ∧ Below W.heap.size W W' :=
  (Flows_any w.heap.size d L fr W h.drs h.ok.2.2.2).mono fun e W' ⟨v, ⟨he, hO⟩, hb⟩ => ⟨v, ⟨he, hO, h.later hb⟩, hb⟩
theorem roundL_perm_ids {q : List UInt8} {L : List Fl} (h : (L.map key).Perm ((roundL q).map key)) {m : Nat} (hm : m = min q.length 5) : L.length = m ∧ ∀ x : Int, x ∈ L.map (·.1) ↔ 0 ≤ x ∧ x < (m : Int) := by
  have hl : L.length = m := by
    have := h.length_eq
    rw [List.length_map, List.length_map, roundL_len] at this
    omega
  refine ⟨hl, fun x => ?_⟩
  rw [(keys_ids h).mem_iff]
  constructor
  · intro hx
    have := roundL_ids q x hx
    omega
  · rintro ⟨h1, h2⟩
    obtain ⟨k, rfl⟩ := Int.eq_ofNat_of_zero_le h1
    have h2' : k < m := by omega
    have hg := roundL_get q k (by omega) (by omega)
    obtain ⟨hk, e⟩ := List.getElem?_eq_some_iff.1 hg
    refine List.mem_map.2 ⟨_, List.getElem_mem hk, ?_⟩
    rw [e]; rfl
theorem drop_all {L : List Fl} {fr : Bool} {id : Int} {ok : Bool} {L' : List Fl} {fr' : Bool} (h : DropR L fr id ok L' fr') : L' = L.filter (keepP id) ∧ (ok = true ↔ id ∈ L.map (·.1)) := by
  rcases h with ⟨h1, h2, h3, _⟩ | ⟨h1, h2, h3, _⟩
  · refine ⟨?_, by rw [h2]; simpa using h1⟩
    rw [h3]
    refine (filt_none id L (fun j hj e => h1 ?_)).symm
    exact List.mem_map.2 ⟨_, List.getElem_mem hj, e⟩
  · exact ⟨h3, by rw [h2]; simpa using h1⟩
theorem filter_no (L : List Fl) (id : Int) : id ∉ (L.filter (keepP id)).map (·.1) := by
  intro h
  obtain ⟨f, hf, e⟩ := List.mem_map.1 h
  have := (List.mem_filter.1 hf).2
  simp [keepP, e] at this
theorem filter_gl (L : List Fl) (id : Int) : (L.filter (keepP id)).map gl = (L.map gl).filter (fun g : Gl => g.1 != id) := by
  rw [List.filter_map]; rfl
theorem filt_next {α : Type} (p : α → Bool) (G : List α) (i : Nat) (h : i < G.length) (hp : p (G[i]'h) = true) : ∃ h2 : ((G.take i).filter p).length < (G.filter p).length, (G.filter p)[((G.take i).filter p).length]'h2 = G[i]'h ∧ ((G.take (i + 1)).filter p).length = ((G.take i).filter p).length + 1 := by
  have e : G.filter p = (G.take i).filter p ++ (G[i]'h :: (G.drop (i + 1)).filter p) := by
    conv => lhs; rw [← List.take_append_drop i G, List.drop_eq_getElem_cons h]
    rw [List.filter_append, List.filter_cons_of_pos hp]
  refine ⟨by rw [e]; simp, ?_, ?_⟩
  · simp only [e]
    rw [List.getElem_append_right (Nat.le_refl _)]
    simp
  · rw [List.take_succ_eq_append_getElem h, List.filter_append, List.filter_cons_of_pos hp, List.filter_nil]; simp
theorem filt_skip {α : Type} (p : α → Bool) (G : List α) (i : Nat) (h : i < G.length) (hp : p (G[i]'h) = false) : ((G.take (i + 1)).filter p).length = ((G.take i).filter p).length := by
  rw [List.take_succ_eq_append_getElem h, List.filter_append, List.filter_cons_of_neg (by simp [hp]), List.filter_nil]; simp
theorem Own.three {w : World} {b : Nat} {g n c : Nat} {l : List Gl} (h : Own w b 48 3 rowG (.slice (some ⟨g, 0, none⟩) n c) l) (j : Nat) (hj : j < l.length) : w.cell? ⟨g, j * 3, none⟩ = some (.int .i64 (l[j]'hj).1) ∧ w.cell? ⟨g, j * 3 + 1, none⟩ = some (.int .i64 (l[j]'hj).2.1) ∧ w.cell? ⟨g, j * 3 + 2, none⟩ = some (.int .i64 (l[j]'hj).2.2) := by
  obtain ⟨g', hg, _, _, _, hc⟩ := h.cells (f := rowG) (k := 3) (fun _ => rfl) rfl (by omega)
  obtain rfl : g = g' := by simpa using hg
  exact ⟨hc j hj 0 _ rfl, hc j hj 1 _ rfl, hc j hj 2 _ rfl⟩
theorem find_last (l : List Gl) (id : Int) (g : Gl) (hg : g.1 = id) (h : ∀ x ∈ l, x.1 ≠ id) : findG (l ++ [g]) id = some g := by
  unfold findG
  rw [List.find?_append]
  have : l.find? (fun g => g.1 == id) = none := by
    rw [List.find?_eq_none]
    intro x hx
    simpa using h x hx
  rw [this]; simp [hg]
theorem many_eq (l : List UInt8) : ((min l.length 5 : Nat) : Int) = min (l.length : Int) 5 := by omega
end Go.Proofs.Ytckpecddglfjkaa
