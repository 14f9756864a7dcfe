/- Texts that several proofs stand on, part 31. -/
import Derived.Deep.RegionHeld3
import Derived.Test.YtenmbahfgfmjjaaDoorQ20
import Derived.Test.YtenmbahfgfmjjaaDoorQ30
import Derived.Lib.ItoaLen
namespace Go.HeldLast
open Go
set_option linter.unusedVariables false
section
variable {P : Program} {ops : Array Oper} {Q : Exit → Act → World → Prop} {md : Region.Mode} {S : World → Prop}
/-- Whatever order is picked; S holds behind every operation but number 'last'. -/
def wpAnyL (P : Program) (md : Region.Mode) (ops : Array Oper) (Q : Exit → Act → World → Prop) (S : World → Prop) (last : Nat) : Nat → Array Bool → Act → World → Prop
  | 0, listed, a, w => Region.ready md ops listed = [] ∧ Q .normal a w
  | fuel + 1, listed, a, w =>
    (Region.ready md ops listed = [] → Q .normal a w) ∧
    ∀ i ∈ Region.ready md ops listed, wpOp P ops Q i (fun a' w' => (i ≠ last → S w') ∧ wpAnyL P md ops Q S last fuel (listed.setIfInBounds i true) a' w') a w
theorem wpAny_of_last {last : Nat} : ∀ (fuel : Nat) (listed : Array Bool) (a : Act) (w : World), wpAnyL P md ops Q S last fuel listed a w → wpAny P md ops Q fuel listed a w
  | 0, _, _, _, h => h
  | fuel + 1, _, _, _, h => ⟨h.1, fun i hi => wpOp_mono (fun a' w' h' => wpAny_of_last fuel _ a' w' h'.2) (h.2 i hi)⟩
theorem any_mem {α : Type} {l : Array α} {p : α → Bool} (h : l.any p = true) : ∃ e ∈ l, p e = true := by
  rw [← Array.any_toList, List.any_eq_true] at h
  obtain ⟨e, he, h⟩ := h
  exact ⟨e, by simpa using he, h⟩
/-- A chain of operations, each of which but i waits for one of it. -/
def chainOk (md : Region.Mode) (ops : Array Oper) (listed : Array Bool) (i last : Nat) (ch : List Nat) : Bool :=
  ch.contains last && ch.contains i && (i != last) && ch.all (fun p => !(listed.getD p true)) && ch.all (fun p => p == i || match ops[p]? with
    | some o => o.after.any (fun e => Region.binds md e && ch.contains e.on)
    | none => true)
theorem chain_off {i last : Nat} {ch : List Nat} {listed : Array Bool} (h : chainOk md ops listed i last ch = true) {j : Nat} (hj : j ∈ Region.ready md ops listed) (hji : j ≠ i) : j ∉ ch := by
  intro hc
  simp only [chainOk, Bool.and_eq_true, List.all_eq_true] at h
  obtain ⟨⟨⟨⟨h1, h2⟩, h3⟩, h4⟩, h5⟩ := h
  obtain ⟨_, o, ho, hall⟩ := mem_ready.1 hj
  have h6 := h5 j hc
  rw [ho] at h6
  simp only [Bool.or_eq_true, beq_iff_eq, hji, false_or] at h6
  obtain ⟨e, he, h7⟩ := any_mem h6
  simp only [Bool.and_eq_true, List.contains_iff_mem] at h7
  have h8 := hall e he h7.1
  have h9 := h4 e.on h7.2
  rw [Bool.not_eq_true'] at h9
  rcases Nat.lt_or_ge e.on listed.size with h' | h'
  · simp [h'] at h8 h9; rw [h8] at h9; cases h9
  · simp [Array.getElem?_eq_none h'] at h8
theorem chain_on {i last : Nat} {ch : List Nat} {listed : Array Bool} (h : chainOk md ops listed i last ch = true) {j : Nat} (hj : j ∉ ch) : chainOk md ops (listed.setIfInBounds j true) i last ch = true := by
  simp only [chainOk, Bool.and_eq_true, List.all_eq_true] at h ⊢
  obtain ⟨⟨⟨⟨h1, h2⟩, h3⟩, h4⟩, h5⟩ := h
  refine ⟨⟨⟨⟨h1, h2⟩, h3⟩, fun p hp => ?_⟩, h5⟩
  have hne : j ≠ p := fun e => hj (by rw [e]; exact hp)
  rw [getD_set_ne true hne]
  exact h4 p hp
theorem wpAnyL_first {i last : Nat} {ch : List Nat} {oi : Oper} {v : Value} (hi : ops[i]? = some oi) (hsel : ∀ (j : Nat) (o : Oper) cs b, ops[j]? = some o → o.op ≠ .select cs b)
    (hQ : ∀ c a w, Q (.panic c) (a.put oi.dst v) w → Q (.panic c) a w) :
    ∀ (fuel : Nat) (listed : Array Bool) (a : Act) (w : World),
      (∀ j oj, ops[j]? = some oj → j ≠ i → listed.getD j true = false → (∀ e ∈ oj.after, Region.binds md e = true → e.on ≠ i) → oi.apart ops oj = true) →
      chainOk md ops listed i last ch = true → i ∈ Region.ready md ops listed → YieldsIf P ops S oi v a → S w →
      wpAnyL P md ops Q S last fuel (listed.setIfInBounds i true) (a.put oi.dst v) w → wpAnyL P md ops Q S last (fuel + 1) listed a w := by
  intro fuel
  induction fuel with
  | zero =>
    intro listed a w _ hc hr hy hS H
    refine ⟨fun h => (by rw [h] at hr; cases hr), fun j hj => ?_⟩
    by_cases hji : j = i
    · subst hji; exact hy.wpOp hi hS ⟨fun _ => hS, H⟩
    · have := ready_mono hj hji
      rw [H.1] at this
      cases this
  | succ fuel ih =>
    intro listed a w hfree hc hr hy hS H
    refine ⟨fun h => (by rw [h] at hr; cases hr), fun j hj => ?_⟩
    by_cases hji : j = i
    · subst hji; exact hy.wpOp hi hS ⟨fun _ => hS, H⟩
    · have hjc := chain_off hc hj hji
      have hjl : j ≠ last := fun e => hjc (by
        simp only [chainOk, Bool.and_eq_true] at hc
        have := hc.1.1.1.1
        rw [e]; simpa using this)
      have h1 := H.2 j (ready_mono hj hji)
      obtain ⟨hjun, oj, hoj, hall⟩ := mem_ready.1 hj
      have hnot : ∀ e ∈ oj.after, Region.binds md e = true → e.on ≠ i := fun e he hb heq => by
        have h1 := hall e he hb
        have h0 := (mem_ready.1 hr).1
        rw [heq] at h1
        rcases Nat.lt_or_ge i listed.size with h' | h'
        · simp [h'] at h0 h1; rw [h0] at h1; cases h1
        · simp [Array.getElem?_eq_none h'] at h1
      have h2 := wpOp_putIf hoj (hfree j oj hoj hji hjun hnot) (fun cs b => hsel i oi cs b hi) (fun cs b => hsel j oj cs b hoj) hQ hy h1
      have hfree' : ∀ k ok, ops[k]? = some ok → k ≠ i → (listed.setIfInBounds j true).getD k true = false →
          (∀ e ∈ ok.after, Region.binds md e = true → e.on ≠ i) → oi.apart ops ok = true := fun k ok hk hki hun hno => by
        refine hfree k ok hk hki ?_ hno
        by_cases hjk : j = k
        · subst hjk; exact hjun
        · rw [getD_set_ne true hjk] at hun; exact hun
      refine wpOp_mono (fun a' w' h3 => ⟨fun _ => h3.2.1 hjl, ih (listed.setIfInBounds j true) a' w' hfree' (chain_on hc hjc) (ready_mono hr (Ne.symm hji)) h3.1 (h3.2.1 hjl) ?_⟩) h2
      rw [Array.setIfInBounds_comm _ _ hji]
      exact h3.2.2
/-- Take number i first: number 'last' waits for it, along ch. -/
theorem wpAnyL_take {last : Nat} {i : Nat} (ch : List Nat) {oi : Oper} {v : Value} {fuel : Nat} {listed : Array Bool} {a : Act} {w : World} (hi : ops[i]? = some oi)
    (hs : Region.noSelect ops = true) (hf : Region.free md ops listed i = true) (hr : (Region.ready md ops listed).contains i = true) (hc : chainOk md ops listed i last ch = true)
    (hQ : ∀ c a w, Q (.panic c) (a.put oi.dst v) w → Q (.panic c) a w) (hy : YieldsIf P ops S oi v a) (hS : S w)
    (h : wpAnyL P md ops Q S last fuel (listed.setIfInBounds i true) (a.put oi.dst v) w) : wpAnyL P md ops Q S last (fuel + 1) listed a w :=
  wpAnyL_first hi (Region.noSelect_spec hs) hQ fuel listed a w (Region.free_spec hi hf) hc (by simpa using hr) hy hS h
def AllReadyL (P : Program) (md : Region.Mode) (ops : Array Oper) (Q : Exit → Act → World → Prop) (S : World → Prop) (last fuel : Nat) (listed : Array Bool) (a : Act) (w : World) (rs : List Nat) : Prop :=
  ∀ i ∈ rs, wpOp P ops Q i (fun a' w' => (i ≠ last → S w') ∧ wpAnyL P md ops Q S last fuel (listed.setIfInBounds i true) a' w') a w
theorem AllReadyL.nil {last fuel : Nat} {listed : Array Bool} {a : Act} {w : World} : AllReadyL P md ops Q S last fuel listed a w [] := fun _ h => by cases h
theorem AllReadyL.cons {last fuel : Nat} {listed : Array Bool} {a : Act} {w : World} {i : Nat} {o : Oper} {rs : List Nat} (ho : ops[i]? = some o)
    (h : ∀ K' : Act → World → Prop, Shut (∀ a w, S w → (S w → wpAnyL P md ops Q S last fuel (listed.setIfInBounds i true) a w) → K' a w) → if Region.wanted o (yielded ops a.tmps) = true then Oper.wp P o a w K' Q else K' (a.put o.dst undef) w)
    (hs : AllReadyL P md ops Q S last fuel listed a w rs) : AllReadyL P md ops Q S last fuel listed a w (i :: rs) := fun j hj => by
  rcases List.mem_cons.1 hj with rfl | hj
  · exact wpOp_step ho (fun K' hK => h K' (fun a w hS hW => hK a w ⟨fun _ => hS, hW hS⟩))
  · exact hs j hj
/-- The last one comes up alone: of S nothing is asked behind it. -/
theorem AllReadyL.last {fuel : Nat} {listed : Array Bool} {a : Act} {w : World} {i : Nat} {o : Oper} (ho : ops[i]? = some o)
    (h : ∀ K' : Act → World → Prop, Shut (∀ a w, wpAnyL P md ops Q S i fuel (listed.setIfInBounds i true) a w → K' a w) → if Region.wanted o (yielded ops a.tmps) = true then Oper.wp P o a w K' Q else K' (a.put o.dst undef) w) : AllReadyL P md ops Q S i fuel listed a w [i] := fun j hj => by
  obtain rfl : j = i := by simpa using hj
  exact wpOp_step ho (fun K' hK => h K' (fun a w hW => hK a w ⟨fun e => absurd rfl e, hW⟩))
theorem wpAnyL_ready {last : Nat} {rs : List Nat} {fuel : Nat} {listed : Array Bool} {a : Act} {w : World} (hr : Region.ready md ops listed = rs) (hne : rs ≠ [])
    (h : AllReadyL P md ops Q S last fuel listed a w rs) : wpAnyL P md ops Q S last (fuel + 1) listed a w :=
  ⟨fun h0 => absurd (hr ▸ h0) hne, hr ▸ h⟩
theorem wpAnyL_done {last : Nat} {listed : Array Bool} {a : Act} {w : World} (hr : Region.ready md ops listed = []) (h : Q .normal a w) :
    ∀ fuel, wpAnyL P md ops Q S last fuel listed a w
  | 0 => ⟨hr, h⟩
  | _ + 1 => ⟨fun _ => h, by rw [hr]; simp⟩
theorem wp_region_last_drew (last : Nat) {id : Nat} {a : Act} {w : World} (hm : P.follows .mixedOrders = true) (hS : S w.drew)
    (h : S w.drew → wpAnyL P .any ops Q S last ops.size (Array.replicate ops.size false) a w.drew) : (Code.region id ops true).wp P Q a w :=
  wp_region_any hm (wpAny_of_last _ _ _ _ (h hS))
end
end Go.HeldLast
namespace Go.Proofs.YtenmbahfgfmjjaaDoor
open Go.ChangeShapes Go.WideShapes Go.ChangeAt Go.RowKit
open Rk (inR)
set_option linter.unusedVariables false
set_option linter.unusedSimpArgs false

theorem lit_len (k n : Int) (s : ByteArray) (hs : s.size ≤ 64) (hn : inR n) : (Val.showL k n s).length ≤ 70 := by
  cases hr : Val.right k n s
  · rw [Val.show_no hr]; decide
  · rcases Val.right_kind hr with rfl | rfl | rfl
    · rw [Val.show_int hr]
      have hn' : -9223372036854775808 ≤ n ∧ n ≤ 9223372036854775807 := hn
      unfold Lib.itoa
      split
      · rw [List.length_cons, Lib.decDigits_length]; have := Lib.nDigits_le20 n.natAbs (by omega); omega
      · rw [Lib.decDigits_length]; have := Lib.nDigits_le20 n.toNat (by omega); omega
    · rw [Val.show_bool hr]
      generalize (n == 1) = q
      cases q <;> decide +kernel
    · rw [Val.show_text hr]; simp; omega
theorem lvl_size {op : ByteArray} (h : 0 < lvl op) : op.size ≤ 2 := by
  rw [← list_size]
  rcases op_or op with e | e | e | e | e | e | e | e | e | e | e | e | e | ⟨h0, h1, h2, h3, h4, h5, h6, h7, h8, h9, h10, h11, h12⟩
  all_goals first
    | (exact absurd h (by unfold lvl; rw [if_neg h0, if_neg h1, if_neg h2, if_neg h3, if_neg h4, if_neg h5, if_neg h6, if_neg h7, if_neg h8, if_neg h9, if_neg h10, if_neg h11, if_neg h12]; decide))
    | (rw [e]; decide)
theorem unB_size {op : ByteArray} (h : unB op = true) : op.size = 1 := by
  rw [← list_size]
  unfold unB at h
  simp only [Bool.or_eq_true, beq_iff_eq] at h
  rcases h with h | h <;> (rw [h]; rfl)
theorem nameB_20 {s : ByteArray} (h : nameB s = true) : s.size ≤ 20 := by
  unfold nameB at h; simp only [Bool.and_eq_true, decide_eq_true_eq] at h; omega
theorem len_dep : ∀ t : Tr, t.ok = true → t.small → t.len ≤ 100 * 5 ^ t.dep
  | .lit k n s, h, hs => by
    unfold Tr.ok at h
    simp only [Bool.and_eq_true] at h
    have := lit_len k n s (right_size h.1.1) hs
    rw [Tr.len, Tr.dep]; omega
  | .ref v f, h, _ => by
    have h' : (nameB v && nameB f) = true := h
    simp only [Bool.and_eq_true] at h'
    have := nameB_20 h'.1
    have := nameB_20 h'.2
    rw [Tr.len, Tr.dep]; omega
  | .cnt v, h, _ => by
    have := nameB_20 (show nameB v = true from h)
    rw [Tr.len, Tr.dep]; omega
  | .un op x, h, hs => by
    have h' : (unB op && x.ok) = true := h
    simp only [Bool.and_eq_true] at h'
    have h1 := unB_size h'.1
    have h2 := len_dep x h'.2 hs
    have h3 : 1 ≤ 5 ^ x.dep := Nat.one_le_pow _ _ (by decide)
    rw [Tr.len, Tr.dep, Nat.pow_succ]; omega
  | .bin op x y, h, hs => by
    have h' : (decide (0 < lvl op) && x.ok && y.ok) = true := h
    simp only [Bool.and_eq_true, decide_eq_true_eq] at h'
    have h1 := lvl_size h'.1.1
    have h2 := len_dep x h'.1.2 hs.1
    have h3 := len_dep y h'.2 hs.2
    have h4 : 5 ^ x.dep ≤ 5 ^ max x.dep y.dep := Nat.pow_le_pow_right (by decide) (by omega)
    have h5 : 5 ^ y.dep ≤ 5 ^ max x.dep y.dep := Nat.pow_le_pow_right (by decide) (by omega)
    have h6 : 1 ≤ 5 ^ max x.dep y.dep := Nat.one_le_pow _ _ (by decide)
    rw [Tr.len, Tr.dep, Nat.pow_succ]; omega
theorem sm_of {D : Nat} (hD : D ≤ 5) {t : Tr} (ho : t.ok = true) (hs : t.smd D) : Sm t := by
  refine ⟨ho, hs.1, ?_⟩
  have h1 := len_dep t ho hs.1
  have h2 : 5 ^ t.dep ≤ 5 ^ 5 := Nat.pow_le_pow_right (by decide) (by have := hs.2; omega)
  have h3 : (5 : Nat) ^ 5 = 3125 := by decide
  omega
end Go.Proofs.YtenmbahfgfmjjaaDoor
