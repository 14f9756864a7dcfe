/- StreamAll: the mathematics. -/
import Derived.Test.YtdpgdpfalfiijaaDoorStrmD
namespace Go.Proofs.YtdpgdpfalfiijaaDoor
open Go.ChangeShapes Go.WideShapes Go.ChangeAt Go.RowKit
set_option linter.unusedVariables false
set_option linter.unusedSimpArgs false

def digT : List ByteArray := [⟨#[48]⟩, ⟨#[49]⟩, ⟨#[50]⟩, ⟨#[51]⟩, ⟨#[52]⟩, ⟨#[53]⟩, ⟨#[54]⟩, ⟨#[55]⟩, ⟨#[56]⟩, ⟨#[57]⟩]
def newN (c i : Nat) : ByteArray := if 127 < c then (ownN c).extract 0 (min (ownN c).size 15) ++ digT.getD i ⟨#[]⟩ else ownN c
def sfs (l : List UInt8) : List SF := (List.range (min 10 l.length)).map fun i => (newN (l.getD i 0).toNat i, ownF 0 (l.drop i))
theorem sfs_len (l : List UInt8) : (sfs l).length = min 10 l.length := by unfold sfs; simp
theorem sfs_snoc (l : List UInt8) (k : Nat) (h : k < l.length) (h10 : k < 10) : (sfs l).take (k + 1) = (sfs l).take k ++ [(newN (l[k]'h).toNat k, ownF 0 (l.drop k))] := by
  rw [List.take_succ_eq_append_getElem (by rw [sfs_len]; omega)]
  unfold sfs
  simp [h]
theorem new_names : ∀ a : Fin 8, ∀ i : Fin 10, nameD ((ownTab.getD a.1 ⟨#[]⟩).extract 0 (min (ownTab.getD a.1 ⟨#[]⟩).size 15) ++ digT.getD i.1 ⟨#[]⟩) = true := by decide +kernel
theorem newN_name (c i : Nat) (hi : i < 10) : nameB (newN c i) = true := by
  unfold newN
  split
  · rw [nameB_data]
    exact new_names ⟨c % 8, Nat.mod_lt _ (by decide)⟩ ⟨i, hi⟩
  · exact (right_ok (own_right c [])).1
theorem right_name {n m : ByteArray} {F : List Fld} (h : rightN n F = 0) (hm : nameB m = true) : rightN m F = 0 := by
  unfold rightN at h ⊢
  obtain ⟨h1, h2, _⟩ := right_ok (n := n) (l := F) (by unfold rightN; exact h)
  rw [if_neg (by rw [h1]; simp)] at h
  rw [if_neg (by rw [hm]; simp)]
  exact h
theorem sfs_right (l : List UInt8) : ∀ x ∈ sfs l, rightN x.1 x.2 = 0 := by
  intro x hx
  unfold sfs at hx
  obtain ⟨i, hi, rfl⟩ := List.mem_map.1 hx
  have : i < min 10 l.length := by simpa using hi
  exact right_name (own_right 0 (l.drop i)) (newN_name _ _ (by omega))
theorem right_by (F : List Fld) : rightN ⟨#[66, 89]⟩ F ≠ 0 := by
  have : nameB (⟨#[66, 89]⟩ : ByteArray) = false := by rw [nameB_data]; decide +kernel
  unfold rightN
  rw [if_pos this]; decide
theorem atS_mem (s : ByteArray) (ls : List SF) : 0 ≤ atS s ls ↔ ∃ y ∈ ls, y.1 = s := by
  unfold atS idxB
  constructor
  · intro h
    split at h
    · rename_i hlt
      have := List.findIdx_getElem (w := hlt)
      refine ⟨_, List.getElem_mem hlt, ?_⟩
      exact toList_inj (beq_iff_eq.1 this)
    · omega
  · rintro ⟨y, hy, rfl⟩
    have := List.findIdx_lt_length_of_exists (p := fun z : SF => isN y.1 z.1) ⟨y, hy, by unfold isN; simp⟩
    rw [if_pos this]; omega
/-- No two have one name. -/
def Unlike (ls : List SF) : Prop := ls.Pairwise (fun x y => x.1 ≠ y.1)
theorem errS_zero : ∀ (ls pre : List SF), errS pre ls = 0 ↔ (∀ x ∈ ls, rightN x.1 x.2 = 0) ∧ Unlike ls ∧ ∀ x ∈ ls, ∀ y ∈ pre, y.1 ≠ x.1
  | [], pre => by simp [errS, Unlike]
  | x :: r, pre => by
    unfold errS
    by_cases h1 : rightN x.1 x.2 ≠ 0
    · rw [if_pos h1]
      constructor
      · intro h; exact absurd h h1
      · rintro ⟨h, _⟩; exact absurd (h x (by simp)) h1
    · rw [if_neg h1]
      have h1' : rightN x.1 x.2 = 0 := by omega
      by_cases h2 : 0 ≤ atS x.1 pre
      · rw [if_pos h2]
        obtain ⟨y, hy, he⟩ := (atS_mem _ _).1 h2
        constructor
        · intro h; cases h
        · rintro ⟨_, _, h⟩; exact absurd he (h x (by simp) y hy)
      · rw [if_neg h2, errS_zero r]
        unfold Unlike
        rw [List.pairwise_cons]
        constructor
        · rintro ⟨a, b, c⟩
          refine ⟨fun z hz => ?_, ⟨fun z hz => c z hz x (by simp), b⟩, fun z hz y hy => ?_⟩
          · rcases List.mem_cons.1 hz with rfl | hz
            · exact h1'
            · exact a z hz
          · rcases List.mem_cons.1 hz with rfl | hz
            · intro he; exact h2 ((atS_mem _ _).2 ⟨y, hy, he⟩)
            · exact c z hz y (by simp [hy])
        · rintro ⟨a, ⟨b, b'⟩, c⟩
          refine ⟨fun z hz => a z (by simp [hz]), b', fun z hz y hy => ?_⟩
          rcases List.mem_append.1 hy with hy | hy
          · exact c z (by simp [hz]) y hy
          · obtain rfl : y = x := by simpa using hy
            exact b z hz
theorem all_zero {ls : List SF} (h8 : ls.length ≤ 8) : allN ls = 0 ↔ (∀ x ∈ ls, rightN x.1 x.2 = 0) ∧ Unlike ls := by
  unfold allN
  rw [if_neg (by omega), errS_zero]
  simp
/-- Each is found at its place. -/
theorem atS_place {ls : List SF} (h : Unlike ls) (i : Nat) (hi : i < ls.length) : atS (ls[i]'hi).1 ls = i := by
  unfold atS
  refine idxB_found (p := fun y : SF => isN (ls[i]'hi).1 y.1) hi (by unfold isN; simp) (fun j hj hji => ?_)
  have := List.pairwise_iff_getElem.1 h j i hj hi hji
  unfold isN
  have h2 : ¬ (ls[j]'hj).1.toList = (ls[i]'hi).1.toList := fun he => this (toList_inj he)
  simpa using h2
theorem unlike_step {ls : List SF} {i : Nat} (hi : i < ls.length) : Unlike (ls.take (i + 1)) ↔ Unlike (ls.take i) ∧ ∀ j (hj : j < ls.length), j < i → (ls[j]'hj).1 ≠ (ls[i]'hi).1 := by
  unfold Unlike
  rw [List.take_succ_eq_append_getElem hi, List.pairwise_append]
  constructor
  · rintro ⟨a, _, c⟩
    refine ⟨a, fun j hj hji => c _ ?_ _ (by simp)⟩
    exact List.mem_iff_getElem.2 ⟨j, by rw [List.length_take]; omega, by simp⟩
  · rintro ⟨a, c⟩
    refine ⟨a, by simp, fun x hx y hy => ?_⟩
    obtain rfl : y = ls[i]'hi := by simpa using hy
    obtain ⟨j, hj, rfl⟩ := List.getElem_of_mem hx
    rw [List.length_take] at hj
    rw [List.getElem_take]
    exact c j (by omega) (by omega)
end Go.Proofs.YtdpgdpfalfiijaaDoor
