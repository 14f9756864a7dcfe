/- Layer 12: what is known of nodes in no loop; GraphRanks. -/
import Derived.Test.YtinonfgehbjneaaGphX
namespace Go.Proofs.Ytinonfgehbjneaa
open Go.ChangeShapes Go.WideShapes Go.ChangeAt Go.RowKit Go.Maps
open Gr (Nd nmAt frAt Dist Loopy RankFull IsOrder)
set_option linter.unusedVariables false
set_option linter.unusedSimpArgs false

theorem nmO_inj {a b : Nat} (ha : a < 8) (hb : b < 8) (h : nmO a = nmO b) : a = b := by
  have : ∀ a b : Fin 8, nmO a.1 = nmO b.1 → a = b := by decide
  have := this ⟨a, ha⟩ ⟨b, hb⟩ h
  simpa using this
theorem down_mem {Ls : List Lk} {turn : Nat} {d : Nd} : ∀ i, d ∈ downU Ls turn i → ∃ j, j < i ∧ d = dn Ls j
  | 0, h => by cases h
  | i + 1, h => by
    have h' : d = dn Ls i ∨ d ∈ downU Ls turn i := by
      unfold downU at h
      split at h
      · exact List.mem_cons.1 h
      · rcases List.mem_append.1 h with h | h
        · exact Or.inr h
        · exact Or.inl (by simpa using h)
    rcases h' with rfl | h
    · exact ⟨i, by omega, rfl⟩
    · obtain ⟨j, hj, e⟩ := down_mem i h
      exact ⟨j, by omega, e⟩
theorem down_names {Ls : List Lk} {turn : Nat} : ∀ i, i ≤ 6 → ((downU Ls turn i).map (·.1)).Nodup
  | 0, _ => List.nodup_nil
  | i + 1, h => by
    have ih := down_names (Ls := Ls) (turn := turn) i (by omega)
    have hno : nmO i ∉ (downU Ls turn i).map (·.1) := fun hm => by
      obtain ⟨d, hd, e⟩ := List.mem_map.1 hm
      obtain ⟨j, hj, rfl⟩ := down_mem i hd
      have := nmO_inj (a := j) (b := i) (by omega) (by omega) e
      omega
    unfold downU
    split
    · rw [List.map_cons, List.nodup_cons]
      exact ⟨hno, ih⟩
    · rw [List.map_append, List.nodup_append]
      exact ⟨ih, by simp, fun a ha b hb e => hno (by simp at hb; rw [show nmO i = a by rw [e, hb]; rfl]; exact ha)⟩
theorem nm_get {N : List Nd} {k : Nat} (h : k < N.length) : nmAt N k = (N[k]'h).1 ∧ frAt N k = (N[k]'h).2 := by
  unfold nmAt frAt
  simp [List.getD, List.getElem?_eq_getElem h]
theorem dist_of {N : List Nd} (h : (N.map (·.1)).Nodup) : Dist N := fun i j hi hj e => by
  have hp := List.pairwise_iff_getElem.1 h
  rw [(nm_get hi).1, (nm_get hj).1] at e
  rcases Nat.lt_trichotomy i j with h1 | h1 | h1
  · exact absurd (by rw [List.getElem_map, List.getElem_map]; exact e) (hp i j (by simpa using hi) (by simpa using hj) h1)
  · exact h1
  · exact absurd (by rw [List.getElem_map, List.getElem_map]; exact e.symm) (hp j i (by simpa using hj) (by simpa using hi) h1)
/-- Of a node each name in From is none of a node's, or of one ahead. -/
theorem down_from {Ls : List Lk} {j : Nat} (hj : j < 6) {f : ByteArray} (hf : f ∈ (dn Ls j).2) : ∃ q, f = nmO q ∧ q < 8 ∧ (q < j ∨ 6 ≤ q) := by
  unfold dn at hf
  obtain ⟨b, _, rfl⟩ := List.mem_map.1 hf
  unfold dnF
  by_cases h : j = 0 ∨ b.toNat % 4 = 0
  · rw [if_pos h]
    exact ⟨_, rfl, by omega, Or.inr (by omega)⟩
  · rw [if_neg h]
    have := Nat.mod_lt b.toNat (show 0 < j by omega)
    exact ⟨_, rfl, by omega, Or.inl this⟩
theorem down_comes {Ls : List Lk} {turn i : Nat} (hi : i ≤ 6) {s : ByteArray} {k : Nat} (h : Gr.Comes (downU Ls turn i) s k) : ∃ j, j < i ∧ nmAt (downU Ls turn i) k = nmO j ∧ ∃ q, s = nmO q ∧ q < 8 ∧ (q < j ∨ 6 ≤ q) := by
  have hat : ∀ k, k < (downU Ls turn i).length → ∃ j, j < i ∧ nmAt (downU Ls turn i) k = nmO j ∧ frAt (downU Ls turn i) k = (dn Ls j).2 := fun k hk => by
    obtain ⟨j, hj, e⟩ := down_mem i (List.getElem_mem hk)
    obtain ⟨e1, e2⟩ := nm_get hk
    exact ⟨j, hj, by rw [e1, e]; rfl, by rw [e2, e]⟩
  induction h with
  | base h1 =>
    obtain ⟨j, hj, e1, e2⟩ := hat _ (Gr.fr_lt h1)
    rw [e2] at h1
    exact ⟨j, hj, e1, down_from (by omega) h1⟩
  | step h1 h2 ih =>
    obtain ⟨j, hj, e1, e2⟩ := hat _ (Gr.fr_lt h2)
    rw [e2] at h2
    obtain ⟨q, e3, q8, hq⟩ := down_from (by omega) h2
    obtain ⟨j', hj', e4, q', e5, q8', hq'⟩ := ih
    have := nmO_inj (a := j') (b := q) (by omega) q8 (e4.symm.trans e3)
    exact ⟨j, hj, e1, q', e5, q8', by omega⟩
theorem down_loop {Ls : List Lk} {turn i : Nat} (hi : i ≤ 6) : ¬ Loopy (downU Ls turn i) := by
  rintro ⟨k, hk, hc⟩
  obtain ⟨j, hj, e1, q, e2, q8, hq⟩ := down_comes hi hc
  have := nmO_inj (a := j) (b := q) (by omega) q8 (e1.symm.trans e2)
  omega
theorem down_dist {Ls : List Lk} {turn i : Nat} (hi : i ≤ 6) : Dist (downU Ls turn i) := dist_of (down_names i hi)
theorem down_fr {Ls : List Lk} {turn i k : Nat} : (frAt (downU Ls turn i) k).length ≤ 4 := by
  rcases Nat.lt_or_ge k (downU Ls turn i).length with hk | hk
  · obtain ⟨j, hj, e⟩ := down_mem i (List.getElem_mem hk)
    rw [(nm_get hk).2, e]
    unfold dn
    rw [List.length_map, List.length_take]; omega
  · rw [Gr.frAt_out hk]; simp
theorem down_tot {Ls : List Lk} {turn i : Nat} : ∀ j, tot (downU Ls turn i) j ≤ 4 * j
  | 0 => Nat.le_refl _
  | j + 1 => by
    have := down_tot (Ls := Ls) (turn := turn) (i := i) j
    have := down_fr (Ls := Ls) (turn := turn) (i := i) (k := j)
    simp only [tot]; omega
/-- Each rank up to a node's is some node's. -/
theorem rank_each {N : List Nd} {R : Nat → Nat} (h : RankFull N R) : ∀ (m k v : Nat), R k ≤ m → k < N.length → v ≤ R k → ∃ p, p < N.length ∧ R p = v
  | m, k, v, hm, hk, hv => by
    rcases Nat.lt_or_ge v (R k) with h1 | h1
    · rcases (h k hk).2 with h2 | ⟨p, h2, h3, h4⟩
      · omega
      · exact match m, hm with
          | 0, hm => by omega
          | m + 1, hm => rank_each h m p v (by omega) h2 (by omega)
    · exact ⟨k, hk, by omega⟩
theorem rank_small {N : List Nd} {R : Nat → Nat} (h : RankFull N R) {k : Nat} (hk : k < N.length) : R k < N.length := by
  have := Gr.len_sub (List.range (R k + 1)) ((List.range N.length).map R) List.nodup_range (fun v hv => by
    obtain ⟨p, hp, e⟩ := rank_each h (R k) k v (Nat.le_refl _) hk (by have := List.mem_range.1 hv; omega)
    exact List.mem_map.2 ⟨p, List.mem_range.2 hp, e⟩)
  simp at this
  omega
end Go.Proofs.Ytinonfgehbjneaa
