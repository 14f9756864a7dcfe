/- Right streams: what is put of them, what is got, and the laws' own ones. -/
import Derived.Test.YtdpgdpfalfiijaaDoorStrmB
import Derived.Test.YtdpgdpfalfiijaaDoorStrmO
import Derived.Test.YtdpgdpfalfiijaaDoorEx03
import Derived.Test.YtdpgdpfalfiijaaDoorTabM
namespace Go.Proofs.YtdpgdpfalfiijaaDoor
open Go.ChangeShapes Go.WideShapes Go.ChangeAt Go.RowKit
set_option linter.unusedVariables false
set_option linter.unusedSimpArgs false

theorem fldTab_name : ∀ i : Fin 6, nameD (fldTab.getD i.1 ⟨#[]⟩) = true := by decide +kernel
theorem fldTab_apart : ∀ i j : Fin 6, i ≠ j → ((fldTab.getD i.1 ⟨#[]⟩).data.toList == (fldTab.getD j.1 ⟨#[]⟩).data.toList) = false := by decide +kernel
theorem ownTab_name : ∀ i : Fin 8, nameD (ownTab.getD i.1 ⟨#[]⟩) = true := by decide +kernel
theorem own_err : ∀ (l : List UInt8) (i : Nat) (met : List Fld), (∀ j, j < 6 → i ≤ j → hasB met (fldTab.getD j ⟨#[]⟩) = false) → errF met (ownF i l) = 0
  | [], i, met, _ => rfl
  | c :: r, i, met, h => by
    by_cases h6 : i < 6
    · have e : ownF i (c :: r) = ownX i c :: ownF (i + 1) r := by rw [ownF, if_pos h6]
      have hn : nameB (fldTab.getD i ⟨#[]⟩) = true := by rw [nameB_data]; exact fldTab_name ⟨i, h6⟩
      rw [e]
      show (if nameB (fldTab.getD i ⟨#[]⟩) = false then 5 else if ¬ (1 ≤ 1 + ((c.toNat % 3 : Nat) : Int) ∧ 1 + ((c.toNat % 3 : Nat) : Int) ≤ 3) then 6 else if hasB met (fldTab.getD i ⟨#[]⟩) = true then 11 else errF (ownX i c :: met) (ownF (i + 1) r)) = 0
      rw [if_neg (by rw [hn]; simp), if_neg (by simp; omega), if_neg (by rw [h i h6 (Nat.le_refl _)]; simp)]
      refine own_err r (i + 1) _ (fun j hj hij => ?_)
      have h1 := h j hj (by omega)
      have h2 := fldTab_apart ⟨i, h6⟩ ⟨j, hj⟩ (by simp; omega)
      unfold hasB at h1 ⊢
      rw [List.any_cons, h1, Bool.or_false]
      show isN (fldTab.getD j ⟨#[]⟩) (fldTab.getD i ⟨#[]⟩) = false
      rw [isN_data]
      exact h2
    · have e : ownF i (c :: r) = [] := by rw [ownF, if_neg h6]
      rw [e]; cases met <;> rfl
theorem own_right (c : Nat) (l : List UInt8) : rightN (ownN c) (ownF 0 l) = 0 := by
  unfold rightN
  have hn : nameB (ownN c) = true := by
    rw [nameB_data]; exact ownTab_name ⟨c % 8, Nat.mod_lt _ (by decide)⟩
  rw [if_neg (by rw [hn]; simp), if_neg (by rw [ownF_length l 0 (by omega)]; omega)]
  exact own_err l 0 [] (fun j _ _ => rfl)
theorem join_len (c : UInt8) (k : Nat) : ∀ xs : List (List UInt8), (∀ x ∈ xs, x.length ≤ k) → (Lib.join xs [c]).length ≤ xs.length * (k + 1)
  | [], _ => by rw [Lib.join_nil]; simp
  | [x], h => by rw [Lib.join_one]; have := h x (by simp); simp; omega
  | x :: y :: ys, h => by
    have h1 := h x (by simp)
    have h2 := join_len c k (y :: ys) (fun z hz => h z (by simp [hz]))
    rw [join_two, List.length_append, List.length_cons]
    simp only [List.length_cons, Nat.add_mul] at h2 ⊢
    omega
theorem name_size {s : ByteArray} (h : nameB s = true) : s.size ≤ 20 := by
  unfold nameB at h
  simp only [Bool.and_eq_true, decide_eq_true_eq] at h
  exact h.1.1.1.2
theorem putJ_len {l : List Fld} (h : OkR l) (h6 : l.length ≤ 6) : (putJ l).length ≤ 200 := by
  have h1 := join_len 44 25 ((l.map fldS).map (·.data.toList)) (fun x hx => by
    obtain ⟨y, hy, rfl⟩ := List.mem_map.1 hx
    obtain ⟨z, hz, rfl⟩ := List.mem_map.1 hy
    have h2 := name_size (h z hz).1
    have h3 := kindL_size z.2
    rw [fldS_data, List.length_append, List.length_cons, ← size_list, ← size_list]
    omega)
  unfold putJ
  simp only [List.length_map] at h1
  have : l.length * (25 + 1) ≤ 6 * 26 := Nat.mul_le_mul_right 26 h6
  omega
theorem putN_size {n : ByteArray} {l : List Fld} (h : rightN n l = 0) : (putN n l).size ≤ 300 := by
  obtain ⟨h1, h2, h3⟩ := right_ok h
  have := name_size h1
  have := putJ_len h3 h2
  rw [size_list, putN_data, List.length_append, List.length_cons, List.length_append, ← size_list]
  simp; omega
theorem right_okF {n : ByteArray} {l : List Fld} (h : rightN n l = 0) : OkF l := fun x hx => by
  obtain ⟨_, _, h3⟩ := right_ok h
  have := name_size (h3 x hx).1
  exact ⟨by unfold maxLen; omega, WalkArith.wf_i64 (by have := (h3 x hx).2; omega)⟩
theorem putR {n : ByteArray} {l : List Fld} (h : rightN n l = 0) (v : Value) (w : World) (hv : RowsAt rowF w v l) : Calls Tryd.prog 12 #[st n v] w fun e w' => e = .returned (.string (putN n l)) ∧ Below w.heap.size w w' := by
  obtain ⟨h1, h2, h3⟩ := right_ok h
  exact Put_anyS n v l w hv (by have := name_size h1; omega) (by omega) (fun x hx => by have := name_size (h3 x hx).1; omega) (by have := putJ_len h3 h2; omega)
theorem getR {n : ByteArray} {l : List Fld} (h : rightN n l = 0) (m : Int) (w : World) (hm : w.cell? ⟨0, 0, none⟩ = some (.int .i64 m)) : Calls Tryd.prog 13 #[.string (putN n l)] w fun e w' => ∃ v, (e = .returned (.tuple #[st n v, .bool true]) ∧ NewF w.heap.size w' v l) ∧ Below w.heap.size w w' :=
  (SGet_any _ m w (by have := putN_size h; omega) hm).mono fun e w' ⟨h0, hb⟩ => by
    rcases h0 with ⟨h1, _⟩ | ⟨n', l', v, h1, h2, h3⟩
    · rw [get_put h] at h1; cases h1
    · rw [get_put h] at h1; cases h1
      exact ⟨v, ⟨h2, h3⟩, hb⟩
theorem sameN_iff (n : ByteArray) (l : List Fld) (n' : ByteArray) (l' : List Fld) : sameN n l n' l' = true ↔ (n = n' ∧ l = l') := by
  unfold sameN
  rw [Bool.and_eq_true, sameF_iff]
  constructor
  · rintro ⟨h1, h2⟩; exact ⟨toList_inj (by simpa using h1), h2⟩
  · rintro ⟨rfl, rfl⟩; simp
theorem sameN_symm (n : ByteArray) (l : List Fld) (n' : ByteArray) (l' : List Fld) : sameN n' l' n l = sameN n l n' l' := by
  rw [Bool.eq_iff_iff, sameN_iff, sameN_iff]
  constructor <;> rintro ⟨rfl, rfl⟩ <;> exact ⟨rfl, rfl⟩
theorem put_same {n n' : ByteArray} {l l' : List Fld} (h : rightN n l = 0) (h' : rightN n' l' = 0) : ((putN n l).toList == (putN n' l').toList) = sameN n l n' l' := by
  rw [Bool.eq_iff_iff, sameN_iff, beq_iff_eq]
  constructor
  · intro e; exact put_inj h h' (toList_inj e)
  · rintro ⟨rfl, rfl⟩; rfl
end Go.Proofs.YtdpgdpfalfiijaaDoor
