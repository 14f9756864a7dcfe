/- What a statement of expressions begins with: an expression of bytes, its node in full, of bounded size; rows of bytes that are the call's own. -/
import Derived.Test.YtfkcjlpocfjmdaaDoorMade
import Derived.Test.YtfkcjlpocfjmdaaDoorExpE
import Derived.Test.YtfkcjlpocfjmdaaDoorKeep
import Derived.Lib.ItoaLen
namespace Go.Proofs.YtfkcjlpocfjmdaaDoor
open Go.ChangeShapes Go.WideShapes Go.ChangeAt Go.RowKit
open Rk (inR)
set_option linter.unusedVariables false
set_option linter.unusedSimpArgs false

theorem lit_len (k n : Int) (s : ByteArray) (hs : s.size ≤ 64) (hn : inR n) : (Val.showL k n s).length ≤ 70 := by
  cases hr : Val.right k n s
  · rw [Val.show_no hr]; decide
  · rcases Val.right_kind hr with rfl | rfl | rfl
    · rw [Val.show_int hr]
      have hn' : -9223372036854775808 ≤ n ∧ n ≤ 9223372036854775807 := hn
      unfold Lib.itoa
      split
      · rw [List.length_cons, Lib.decDigits_length]; have := Lib.nDigits_le20 n.natAbs (by omega); omega
      · rw [Lib.decDigits_length]; have := Lib.nDigits_le20 n.toNat (by omega); omega
    · rw [Val.show_bool hr]
      rcases formatBool_cases (n == 1) with ⟨h, _⟩ | ⟨h, _⟩ <;> (rw [h]; decide)
    · rw [Val.show_text hr]; simp; omega
theorem lvl_size {op : ByteArray} (h : 0 < lvl op) : op.size ≤ 2 := by
  rw [← list_size]
  rcases op_or op with e | e | e | e | e | e | e | e | e | e | e | e | e | ⟨h0, h1, h2, h3, h4, h5, h6, h7, h8, h9, h10, h11, h12⟩
  all_goals first
    | (exact absurd h (by unfold lvl; rw [if_neg h0, if_neg h1, if_neg h2, if_neg h3, if_neg h4, if_neg h5, if_neg h6, if_neg h7, if_neg h8, if_neg h9, if_neg h10, if_neg h11, if_neg h12]; decide))
    | (rw [e]; decide)
theorem unB_size {op : ByteArray} (h : unB op = true) : op.size = 1 := by
  rw [← list_size]
  unfold unB at h
  simp only [Bool.or_eq_true, beq_iff_eq] at h
  rcases h with h | h <;> (rw [h]; rfl)
theorem nameB_20 {s : ByteArray} (h : nameB s = true) : s.size ≤ 20 := by
  unfold nameB at h; simp only [Bool.and_eq_true, decide_eq_true_eq] at h; omega
theorem len_dep : ∀ t : Tr, t.ok = true → t.small → t.len ≤ 100 * 5 ^ t.dep
  | .lit k n s, h, hs => by
    unfold Tr.ok at h
    simp only [Bool.and_eq_true] at h
    have := lit_len k n s (right_size h.1.1) hs
    rw [Tr.len, Tr.dep]; omega
  | .ref v f, h, _ => by
    have h' : (nameB v && nameB f) = true := h
    simp only [Bool.and_eq_true] at h'
    have := nameB_20 h'.1
    have := nameB_20 h'.2
    rw [Tr.len, Tr.dep]; omega
  | .cnt v, h, _ => by
    have := nameB_20 (show nameB v = true from h)
    rw [Tr.len, Tr.dep]; omega
  | .un op x, h, hs => by
    have h' : (unB op && x.ok) = true := h
    simp only [Bool.and_eq_true] at h'
    have h1 := unB_size h'.1
    have h2 := len_dep x h'.2 hs
    have h3 : 1 ≤ 5 ^ x.dep := Nat.one_le_pow _ _ (by decide)
    rw [Tr.len, Tr.dep, Nat.pow_succ]; omega
  | .bin op x y, h, hs => by
    have h' : (decide (0 < lvl op) && x.ok && y.ok) = true := h
    simp only [Bool.and_eq_true, decide_eq_true_eq] at h'
    have h1 := lvl_size h'.1.1
    have h2 := len_dep x h'.1.2 hs.1
    have h3 := len_dep y h'.2 hs.2
    have h4 : 5 ^ x.dep ≤ 5 ^ max x.dep y.dep := Nat.pow_le_pow_right (by decide) (by omega)
    have h5 : 5 ^ y.dep ≤ 5 ^ max x.dep y.dep := Nat.pow_le_pow_right (by decide) (by omega)
    have h6 : 1 ≤ 5 ^ max x.dep y.dep := Nat.one_le_pow _ _ (by decide)
    rw [Tr.len, Tr.dep, Nat.pow_succ]; omega
theorem nodes_dep : ∀ t : Tr, t.nodes ≤ 3 ^ t.dep
  | .lit .. => by rw [Tr.nodes, Tr.dep] <;> simp
  | .ref .. => by rw [Tr.nodes, Tr.dep] <;> simp
  | .cnt .. => by rw [Tr.nodes, Tr.dep] <;> simp
  | .un op x => by
    have h2 := nodes_dep x
    have h3 : 1 ≤ 3 ^ x.dep := Nat.one_le_pow _ _ (by decide)
    rw [Tr.nodes, Tr.dep, Nat.pow_succ]; omega
  | .bin op x y => by
    have h2 := nodes_dep x
    have h3 := nodes_dep y
    have h4 : 3 ^ x.dep ≤ 3 ^ max x.dep y.dep := Nat.pow_le_pow_right (by decide) (by omega)
    have h5 : 3 ^ y.dep ≤ 3 ^ max x.dep y.dep := Nat.pow_le_pow_right (by decide) (by omega)
    have h6 : 1 ≤ 3 ^ max x.dep y.dep := Nat.one_le_pow _ _ (by decide)
    rw [Tr.nodes, Tr.dep, Nat.pow_succ]; omega
/-- A right tree of few. -/
def Tr.few (t : Tr) : Prop := t.ok = true ∧ t.small ∧ t.len ≤ 400000 ∧ t.nodes ≤ 243
theorem few_of {t : Tr} (h : t.ok = true) (hs : t.smd 5) : t.few := by
  have h1 := len_dep t h hs.1
  have h2 := nodes_dep t
  have h3 : 5 ^ t.dep ≤ 5 ^ 5 := Nat.pow_le_pow_right (by decide) hs.2
  have h4 : 3 ^ t.dep ≤ 3 ^ 5 := Nat.pow_le_pow_right (by decide) hs.2
  exact ⟨h, hs.1, by omega, by omega⟩
/-- What is told is a right tree of few, its node in full. -/
def MadeV (e : Ending) (w : World) : Prop := ∃ (t : Tr) (k1 : Int) (o1 : ByteArray) (a1 b1 : Int) (s1 v1 f1 : ByteArray) (A1 : Option Addr) (n1 c1 : Nat) (A : Option Addr) (n c : Nat), e = .returned (ev k1 o1 a1 b1 s1 v1 f1 (.slice A1 n1 c1)) ∧ TrAt w t (.slice A n c) ∧ t.val (.slice A n c) = ev k1 o1 a1 b1 s1 v1 f1 (.slice A1 n1 c1) ∧ t.few
theorem made_v (lv : Value) (L : List UInt8) (w : World) (hv : BytesAt w lv L) (hL : L.length ≤ 140737488351232) :
    Calls Tryd.prog 10 #[lv] w fun e w' => MadeV e w' ∧ Below w.heap.size w w' := by
  refine (made_dep lv L w hv hL).mono ?_
  rintro e w' ⟨⟨t, K, rfl, hT, ho, hs⟩, hb⟩
  obtain ⟨A, n, c, rfl⟩ := hT.sl
  obtain ⟨k1, o1, a1, b1, s1, v1, f1, A1, n1, c1, e1, e2⟩ := Tr.val_ev t A n c w' hT
  exact ⟨⟨t, k1, o1, a1, b1, s1, v1, f1, A1, n1, c1, A, n, c, by rw [e1], hT, e1, few_of ho hs⟩, hb⟩
abbrev ub8 (b : UInt8) : List Value := [.int .u8 (b.toNat : Int)]
theorem bytes_slice {w : World} {v : Value} {l : List UInt8} (h : BytesAt w v l) : ∃ A c, v = .slice A l.length c := by
  rcases h with ⟨rfl, rfl⟩ | ⟨a, cap, rfl, _⟩ <;> exact ⟨_, _, rfl⟩
theorem flat_ub8 : ∀ (l : List UInt8) (j : Nat) (hj : j < l.length), (l.flatMap ub8)[j]? = some (.int .u8 ((l[j]'hj).toNat : Int))
  | [], j, hj => absurd hj (by simp)
  | x :: r, 0, _ => by simp
  | x :: r, j + 1, hj => by simpa using flat_ub8 r j (by simpa using hj)
theorem own_ub8 {w : World} {b : Nat} {e : TypeId} {v : Value} {l : List UInt8} (h : Own w b e 1 ub8 v l) : BytesAt w v l := by
  obtain ⟨A, c, rfl, h1, h2, h3⟩ := h.shape
  cases A with
  | none =>
    obtain ⟨h4, rfl⟩ := h1 rfl
    obtain rfl : l = [] := List.length_eq_zero_iff.1 h4
    exact Or.inl ⟨rfl, rfl⟩
  | some a =>
    refine Or.inr ⟨a, c, rfl, h2, h3, fun j hj => ?_⟩
    obtain ⟨g', hg, _, _, hfr, hc⟩ := h.cells (f := ub8) (l := l) (fun _ => rfl) rfl (Nat.lt_of_le_of_lt (Nat.zero_le _) hj)
    obtain rfl : a = ⟨g', 0, none⟩ := by simpa using hg
    have := hc j hj 0 (.int .u8 ((l[j]'hj).toNat : Int)) rfl
    rw [Nat.mul_one, Nat.add_zero] at this
    rw [addr_pl]; simpa using this
theorem bytes_at {w : World} {v : Value} {l : List UInt8} (h : BytesAt w v l) : At w 1 ub8 v l := by
  rcases h with ⟨rfl, rfl⟩ | ⟨a, cap, rfl, h1, h2, h3⟩
  · exact At.nil _ _ _
  · refine ⟨some a, cap, rfl, h1, h2, (fun h => by cases h), fun a' ha j hj i u hu => ?_⟩
    obtain rfl := Option.some.inj ha
    cases i with
    | zero => obtain rfl := Option.some.inj hu; rw [Nat.mul_one, Nat.add_zero]; exact h3 j hj
    | succ i => exact absurd hu (by simp)
theorem flat_set1 {α : Type} {f : α → List Value} (hf : ∀ x, (f x).length = 1) {u : Value} {x : α} (hx : f x = [u]) : ∀ (l : List α) (k : Nat), (l.flatMap f).set k u = (l.set k x).flatMap f
  | [], k => by simp
  | y :: r, 0 => by
    obtain ⟨z, hz⟩ : ∃ z, f y = [z] := List.length_eq_one_iff.1 (hf y)
    simp [hx, hz]
  | y :: r, k + 1 => by
    obtain ⟨z, hz⟩ : ∃ z, f y = [z] := List.length_eq_one_iff.1 (hf y)
    simp [hz, flat_set1 hf hx r k]
theorem own_put1 {α : Type} {f : α → List Value} (hf : ∀ x, (f x).length = 1) {w : World} {b : Nat} {e : TypeId} {g n c : Nat} {cs : List α} (h : Own w b e 1 f (.slice (some ⟨g, 0, none⟩) n c) cs) (k : Nat) {x : α} {u : Value} (hx : f x = [u]) :
    Own (w.setCell ⟨g, k, none⟩ u) b e 1 f (.slice (some ⟨g, 0, none⟩) n c) (cs.set k x) ∧ w.grownBy (w.setCell ⟨g, k, none⟩ u) (Value.slice (some ⟨g, 0, none⟩) n c).ownBlock := by
  obtain ⟨_, _, he, _, _, _⟩ := h.shape
  simp only [Value.slice.injEq] at he
  obtain ⟨_, rfl, rfl⟩ := he
  have := World.ownsRow.stored h k u
  refine ⟨?_, this.2⟩
  unfold Own
  rw [List.length_set, ← flat_set1 hf hx]
  exact this.1
theorem own_cell1 {α : Type} {f : α → List Value} (hf : ∀ x, (f x).length = 1) {w : World} {b : Nat} {e : TypeId} {g n c : Nat} {cs : List α} (h : Own w b e 1 f (.slice (some ⟨g, 0, none⟩) n c) cs) (k : Nat) (hk : k < cs.length) {u : Value} (hx : f (cs[k]'hk) = [u]) :
    w.cell? ⟨g, k, none⟩ = some u ∧ ∀ o, w.frozen? ⟨g, o, none⟩ = false := by
  obtain ⟨g', hg, _, _, hfr, hc⟩ := h.cells hf rfl (by omega)
  obtain rfl : g = g' := by simpa using hg
  have := hc k hk 0 u (by rw [hx]; rfl)
  rw [Nat.mul_one, Nat.add_zero] at this
  exact ⟨this, hfr⟩
theorem xor_u8 (a b : Int) : ∃ c : UInt8, bits .xor .u8 a b = (c.toNat : Int) := by
  have h : ∃ x : Int, bits .xor .u8 a b = IntKind.u8.wrap x := ⟨_, rfl⟩
  obtain ⟨x, h⟩ := h
  refine ⟨(x % 256).toNat.toUInt8, ?_⟩
  rw [h, IntKind.wrap_u8]
  simp; omega
end Go.Proofs.YtfkcjlpocfjmdaaDoor
