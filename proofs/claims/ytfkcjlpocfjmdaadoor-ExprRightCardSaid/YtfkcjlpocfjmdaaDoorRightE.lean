/- ExprRight: a right node in which one field is filled, or one kid too many, is not right: mathematics; operations of two above it. -/
import Derived.Test.YtfkcjlpocfjmdaaDoorMadeV
import Derived.Test.YtfkcjlpocfjmdaaDoorEx07
namespace Go.Proofs.YtfkcjlpocfjmdaaDoor
open Go.ChangeShapes Go.WideShapes Go.ChangeAt Go.RowKit
open Rk (inR)
set_option linter.unusedVariables false
set_option linter.unusedSimpArgs false

theorem ne_empty {s : ByteArray} (h : ¬ s.toList = []) : s.toList.isEmpty = false := by
  cases hs : s.toList with
  | nil => exact absurd hs h
  | cons => rfl
theorem z5_op {op : ByteArray} (h : ¬ op.toList = []) (vk vn : Int) (vs va f : ByteArray) : z5 op vk vn vs va f = false := by unfold z5; rw [ne_empty h]; rfl
theorem z5_va {va : ByteArray} (h : ¬ va.toList = []) (op : ByteArray) (vk vn : Int) (vs f : ByteArray) : z5 op vk vn vs va f = false := by unfold z5; rw [ne_empty h]; simp
theorem z5_f {f : ByteArray} (h : ¬ f.toList = []) (op : ByteArray) (vk vn : Int) (vs va : ByteArray) : z5 op vk vn vs va f = false := by unfold z5; rw [ne_empty h]; simp
theorem z5_vk {vk : Int} (h : ¬ vk = 0) (op : ByteArray) (vn : Int) (vs va f : ByteArray) : z5 op vk vn vs va f = false := by unfold z5; rw [decide_eq_false h]; simp
theorem a_kids {k : Int} {op : ByteArray} {vk vn : Int} {vs va f : ByteArray} {n : Nat} (h : aloneB k op vk vn vs va f n = true) : aloneB k op vk vn vs va f (n + 1) = false := by
  unfold aloneB at h ⊢
  by_cases h0 : k = 0
  · rw [if_pos h0] at h ⊢; simp only [Bool.and_eq_true, decide_eq_true_eq] at h; simp
  rw [if_neg h0] at h ⊢
  by_cases h1 : k = 1
  · rw [if_pos h1] at h ⊢; simp
  rw [if_neg h1] at h ⊢
  by_cases h2 : k = 2
  · rw [if_pos h2] at h ⊢; simp
  rw [if_neg h2] at h ⊢
  by_cases h3 : k = 3
  · rw [if_pos h3] at h ⊢; simp only [Bool.and_eq_true, decide_eq_true_eq] at h; rw [h.1.2]; simp
  rw [if_neg h3] at h ⊢
  by_cases h4 : k = 4
  · rw [if_pos h4] at h ⊢; simp only [Bool.and_eq_true, decide_eq_true_eq] at h; rw [h.1.2]; simp
  rw [if_neg h4]
theorem a_op {k : Int} (hk : k < 3) {s : ByteArray} (h : ¬ s.toList = []) (vk vn : Int) (vs va f : ByteArray) (n : Nat) : aloneB k s vk vn vs va f n = false := by
  unfold aloneB
  rw [if_neg (show ¬ k = 3 by omega), if_neg (show ¬ k = 4 by omega), z5_op h, z5_op h, z5_op h]
  simp
theorem a_va {k : Int} (hk : ¬ k < 3) {s : ByteArray} (h : ¬ s.toList = []) (op : ByteArray) (vk vn : Int) (vs f : ByteArray) (n : Nat) : aloneB k op vk vn vs s f n = false := by
  unfold aloneB
  rw [if_neg (show ¬ k = 0 by omega), if_neg (show ¬ k = 1 by omega), if_neg (show ¬ k = 2 by omega), z5_va h]
  simp
theorem a_neg (op : ByteArray) (vk : Int) (vs va f : ByteArray) (n : Nat) : aloneB 0 op vk (-1) vs va f n = false := by
  unfold aloneB
  rw [if_pos rfl]
  have : litB vk (-1) vs = false := by
    by_cases h1 : vk = 1
    · subst h1; unfold litB Tr.ok; simp
    · refine Right_false _ _ _ ?_
      unfold Val.right
      by_cases h2 : vk = 2
      · subst h2; simp
      · by_cases h3 : vk = 3
        · subst h3; simp
        · simp [h1, h2, h3]
  rw [this]; rfl
theorem a_vk {k : Int} (hk : ¬ k = 0) (op : ByteArray) (va f : ByteArray) (n : Nat) : aloneB k op 1 0 e0 va f n = false := by
  unfold aloneB
  rw [if_neg hk, z5_vk (by decide), z5_vk (by decide), z5_vk (by decide)]
  simp
theorem a_f {k : Int} (hk : ¬ k = 1) {s : ByteArray} (h : ¬ s.toList = []) (op : ByteArray) (vk vn : Int) (vs va : ByteArray) (n : Nat) : aloneB k op vk vn vs va s n = false := by
  unfold aloneB
  rw [if_neg hk, z5_f h, z5_f h, z5_f h]
  simp
theorem nine_list (s : ByteArray) : (⟨#[57]⟩ ++ s : ByteArray).data.toList = 57 :: s.data.toList := by simp
theorem a_nine (s : ByteArray) (op : ByteArray) (vk vn : Int) (vs va : ByteArray) (n : Nat) : aloneB 1 op vk vn vs va (⟨#[57]⟩ ++ s) n = false := by
  unfold aloneB
  rw [if_neg (by decide), if_pos rfl]
  have : nameB (⟨#[57]⟩ ++ s) = false := by
    unfold nameB; rw [nine_list]
    have : digB ((57 :: s.data.toList).getD 0 0).toNat = true := by rw [List.getD_cons_zero]; kernel_rfl
    rw [this]; simp
  rw [this]; simp
theorem a_kind {k : Int} (hk : 0 ≤ k) (op : ByteArray) (vk vn : Int) (vs va f : ByteArray) (n : Nat) : aloneB (-1 - k) op vk vn vs va f n = false := by
  unfold aloneB
  rw [if_neg (by omega), if_neg (by omega), if_neg (by omega), if_neg (by omega), if_neg (by omega)]
theorem a_eq : aloneB 4 ⟨#[61]⟩ 0 0 e0 e0 e0 2 = false := by kernel_rfl
/-- What a right tree's node is. -/
theorem node_facts {t : Tr} (hf : t.few) {w : World} {K : Value} (hT : TrAt w t K) {k : Int} {op : ByteArray} {vk vn : Int} {vs va f : ByteArray} {A : Option Addr} {n c : Nat} (e : t.val K = ev k op vk vn vs va f (.slice A n c)) :
    aloneB k op vk vn vs va f n = true ∧ 0 ≤ k ∧ k ≤ 4 ∧ vs.size ≤ maxLen ∧ va.size ≤ maxLen ∧ f.size ≤ maxLen ∧ n ≤ 2 := by
  have ho := hf.1
  cases t with
  | lit k' n' s' =>
    obtain rfl : K = nilk := hT
    simp only [Tr.val, Tr.node, ev, Value.agg.injEq, Array.mk.injEq, List.cons.injEq, Value.int.injEq, Value.string.injEq, Value.slice.injEq, true_and, and_true] at e
    obtain ⟨rfl, rfl, rfl, rfl, rfl, rfl, rfl, rfl, rfl, rfl⟩ := e
    have hs : s'.size ≤ 64 := by unfold Tr.ok at ho; simp only [Bool.and_eq_true] at ho; exact right_size ho.1.1
    refine ⟨?_, by decide, by decide, by unfold maxLen; omega, by decide, by decide, by decide⟩
    unfold aloneB; rw [if_pos rfl]; unfold litB; rw [ho]; kernel_rfl
  | ref v' f' =>
    obtain rfl : K = nilk := hT
    simp only [Tr.val, Tr.node, ev, Value.agg.injEq, Array.mk.injEq, List.cons.injEq, Value.int.injEq, Value.string.injEq, Value.slice.injEq, true_and, and_true] at e
    obtain ⟨rfl, rfl, rfl, rfl, rfl, rfl, rfl, rfl, rfl, rfl⟩ := e
    have h' : (nameB v' && nameB f') = true := ho
    refine ⟨?_, by decide, by decide, by decide, ?_, ?_, by decide⟩
    · unfold aloneB; rw [if_neg (by decide), if_pos rfl, h']; kernel_rfl
    · simp only [Bool.and_eq_true] at h'; exact nameB_size h'.1
    · simp only [Bool.and_eq_true] at h'; exact nameB_size h'.2
  | cnt v' =>
    obtain rfl : K = nilk := hT
    simp only [Tr.val, Tr.node, ev, Value.agg.injEq, Array.mk.injEq, List.cons.injEq, Value.int.injEq, Value.string.injEq, Value.slice.injEq, true_and, and_true] at e
    obtain ⟨rfl, rfl, rfl, rfl, rfl, rfl, rfl, rfl, rfl, rfl⟩ := e
    have h' : nameB v' = true := ho
    refine ⟨?_, by decide, by decide, by decide, nameB_size h', by decide, by decide⟩
    unfold aloneB; rw [if_neg (by decide), if_neg (by decide), if_pos rfl, h']; kernel_rfl
  | un op' x =>
    obtain ⟨a, c', rfl, _⟩ := hT
    simp only [Tr.val, Tr.node, ev, Value.agg.injEq, Array.mk.injEq, List.cons.injEq, Value.int.injEq, Value.string.injEq, Value.slice.injEq, true_and, and_true] at e
    obtain ⟨rfl, rfl, rfl, rfl, rfl, rfl, rfl, rfl, rfl, rfl⟩ := e
    have h' : (unB op' && x.ok) = true := ho
    simp only [Bool.and_eq_true] at h'
    refine ⟨?_, by decide, by decide, by decide, by decide, by decide, by decide⟩
    unfold aloneB; rw [if_neg (by decide), if_neg (by decide), if_neg (by decide), if_pos rfl, h'.1]; kernel_rfl
  | bin op' x y =>
    obtain ⟨a, c', rfl, _⟩ := hT
    simp only [Tr.val, Tr.node, ev, Value.agg.injEq, Array.mk.injEq, List.cons.injEq, Value.int.injEq, Value.string.injEq, Value.slice.injEq, true_and, and_true] at e
    obtain ⟨rfl, rfl, rfl, rfl, rfl, rfl, rfl, rfl, rfl, rfl⟩ := e
    have h' : (decide (0 < lvl op') && x.ok && y.ok) = true := ho
    simp only [Bool.and_eq_true] at h'
    refine ⟨?_, by decide, by decide, by decide, by decide, by decide, by decide⟩
    unfold aloneB; rw [if_neg (by decide), if_neg (by decide), if_neg (by decide), if_neg (by decide), if_pos rfl, h'.1.1]; kernel_rfl
abbrev bPlus : ByteArray := ⟨#[43]⟩
abbrev rowU (k : Int) (op : ByteArray) (vk vn : Int) (vs va f : ByteArray) (A : Option Addr) (n c : Nat) : Array Value :=
  #[.int .i64 0, .string ⟨#[]⟩, .int .i64 1, .int .i64 0, .string ⟨#[]⟩, .string ⟨#[]⟩, .string ⟨#[]⟩, .slice none 0 0, .int .i64 k, .string op, .int .i64 vk, .int .i64 vn, .string vs, .string va, .string f, .slice A n c]
theorem two_up (k : Int) (op : ByteArray) (vk vn : Int) (vs va f : ByteArray) (A : Option Addr) (n c : Nat) (w : World) :
    Calls Tryd.prog 26 #[.string bPlus, ev 0 e0 1 0 e0 e0 e0 nilk, ev k op vk vn vs va f (.slice A n c)] w fun e w' => TwoAt bPlus (rowU k op vk vn vs va f A n c) w e w' := by
  refine (two_ev bPlus 0 e0 1 0 e0 e0 e0 none 0 0 k op vk vn vs va f A n c w).mono ?_
  rintro e w' ⟨rfl, hb, hB⟩
  exact ⟨_, by omega, rfl, hb, hB⟩
theorem Right_up {k : Int} {op : ByteArray} {vk vn : Int} {vs va f : ByteArray} {A : Option Addr} {n c g : Nat} (w : World) (h : aloneB k op vk vn vs va f n = false) (hvs : vs.size ≤ maxLen) (hva : va.size ≤ maxLen) (hf : f.size ≤ maxLen) (hn : n ≤ 9223372036854775807)
    (hB : Blk w g 26 (rowU k op vk vn vs va f A n c)) :
    Calls Tryd.prog 12 #[ev 4 bPlus 0 0 e0 e0 e0 (.slice (some ⟨g, 0, none⟩) 2 2)] w fun e w' => e = .returned (.bool false) ∧ Below w.heap.size w w' := by
  refine Right_res false _ _ _ _ _ _ _ _ _ _ w (fun W hW => ?_)
  have hB' := hB.later hW
  refine every_second bPlus ⟨g, 0, none⟩ 2 0 e0 1 0 e0 e0 e0 none 0 0 k op vk vn vs va f A n c W (of_decide_eq_true (by kernel_rfl)) (by decide) (row_lo hB') (row_hi hB') (fun X _ => ?_) (fun X _ => ?_)
  · exact every_gen 0 e0 1 0 e0 e0 e0 none 0 0 X (by decide) (fun Y => alone_lit 1 0 e0 Y (by kernel_rfl)) (fun i hi => absurd hi (by omega))
  · exact every_no _ _ _ _ _ _ _ _ _ _ X (fun Y => by have := alone_any k op vk vn vs va f A n c Y hvs hva hf hn; rw [h] at this; exact this)
end Go.Proofs.YtfkcjlpocfjmdaaDoor
