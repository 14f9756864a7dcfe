/- QueryWaits: one more Part: mathematics, and memory. -/
import Derived.Test.YtenmbahfgfmjjaaDoorQ36
import Derived.Test.YtenmbahfgfmjjaaDoorQ23
import Derived.Test.YtenmbahfgfmjjaaDoorCells3
import Derived.Deep.RegionHeld3
import Derived.BigGuard

namespace Go.Proofs.YtenmbahfgfmjjaaDoor
open Go.ChangeShapes Go.WideShapes Go.ChangeAt Go.RowKit Go.Maps
set_option linter.unusedVariables false
set_option linter.unusedSimpArgs false

abbrev qZ : ByteArray := ⟨#[90]⟩
abbrev qz : ByteArray := ⟨#[122]⟩
def wP (b : Bool) : Pt := ⟨b, false, [qZ], qz, []⟩
def qW (q : Qy) (b : Bool) : Qy := ⟨q.nm, q.st, q.ps ++ [wP b], q.wi, q.by_, q.os⟩
theorem wP_part (b : Bool) : partB (wP b) = true := by
  have h : namesB [qZ] = true := namesB_iff.2 ⟨fun s hs => by obtain rfl := List.mem_singleton.1 hs; decide +kernel, by simp⟩
  unfold partB wP
  simp only
  rw [h]
  cases b <;> rfl
theorem names_z (n : Nat) (h : n ≤ 8) : namesB ((List.range n).map nm8 ++ [qz]) = true := by
  have h8 := namesB_iff.1 (names_nm8 n h)
  refine namesB_iff.2 ⟨fun s hs => ?_, ?_⟩
  · rcases List.mem_append.1 hs with hs | hs
    · exact h8.1 s hs
    · obtain rfl := List.mem_singleton.1 hs; decide +kernel
  · rw [List.nodup_append]
    refine ⟨h8.2, by simp, fun a ha b hb e => ?_⟩
    obtain rfl := List.mem_singleton.1 hb
    subst e
    obtain ⟨i, hi, e⟩ := List.mem_map.1 ha
    have := nm8_mem i (by simp at hi; omega)
    rw [e] at this
    simp at this
theorem qW_waits (q : Qy) (b : Bool) : waits (qW q b).ps = b := by
  unfold waits qW
  simp [wP]
theorem qW_right {nm : ByteArray} {q : Qy} (h : AskQ nm 4 q) (hn : nameB nm = true) (b : Bool) : queryB (qW q b) = !(q.st && b) := by
  have ho := h.outs
  obtain ⟨rfl, h1, h2, h4, h5, _, h7, h8, h9, h10, _, _⟩ := h
  have hp : partsB q.st (q.ps ++ [wP b]) = !(q.st && b) := by
    unfold partsB
    have a0 : (q.ps ++ [wP b]).map (·.v) = (List.range q.ps.length).map nm8 ++ [qz] := by rw [List.map_append, h7]; rfl
    have a1 : ((q.ps ++ [wP b]).head?.map (·.nt)).getD false = false := by
      cases hp : q.ps with
      | nil => rw [hp] at h1; simp at h1
      | cons p r => exact h10 p (by rw [hp]; rfl)
    have a2 : (q.st && (q.ps ++ [wP b]).any (·.nt)) = (q.st && b) := by
      cases hs : q.st with
      | false => rfl
      | true =>
        have : q.ps.any (·.nt) = false := by
          rw [List.any_eq_false]; intro p hp; rw [h9 hs p hp]; decide
        rw [List.any_append, this]; simp [wP]
    have a3 : (q.ps ++ [wP b]).all partB = true := List.all_eq_true.2 (fun p hp => by
      rcases List.mem_append.1 hp with hp | hp
      · exact (h8 p hp).1
      · obtain rfl := List.mem_singleton.1 hp; exact wP_part b)
    have a4 : (q.ps ++ [wP b]).length = q.ps.length + 1 := by simp
    rw [a0, a1, a2, a3, a4, names_z _ (by omega), decide_eq_true (show 1 ≤ q.ps.length + 1 by omega), decide_eq_true (show q.ps.length + 1 ≤ 8 by omega)]
    cases q.st <;> cases b <;> rfl
  unfold queryB qW
  simp only
  rw [hp, ho, hn, decide_eq_true h5.1, decide_eq_true (show q.wi ≤ 1000000 by omega)]
  have hb : (decide (q.by_.size = 0) || nameB q.by_) = true := by rcases h4 with e | e <;> rw [e] <;> decide +kernel
  rw [hb]
  cases q.st <;> cases b <;> rfl
theorem qW_qok {nm : ByteArray} {q : Qy} (h : AskQ nm 4 q) (b : Bool) : QOk (qW q b) := by
  have o := h.qok (by omega)
  have h2 := h.2.2.1
  refine ⟨fun p hp t ht => ?_, o.ex, fun p hp => ?_, fun p hp => ?_, by show (q.ps ++ [wP b]).length ≤ 1000; rw [List.length_append]; simp; omega, o.no⟩
  all_goals (rcases List.mem_append.1 hp with hp | hp)
  · exact o.pd p hp t ht
  · obtain rfl := List.mem_singleton.1 hp; simp [wP] at ht
  · exact o.ns p hp
  · obtain rfl := List.mem_singleton.1 hp; simp [wP]
  · exact o.nd p hp
  · obtain rfl := List.mem_singleton.1 hp; simp [wP]
theorem inPuts_mem : ∀ (ss l : List ByteArray) (s : ByteArray), s ∈ ss.foldl inPut l → s ∈ l ∨ s ∈ ss
  | [], l, s, h => Or.inl h
  | t :: ss, l, s, h => by
    rw [List.foldl_cons] at h
    rcases inPuts_mem ss _ s h with h | h
    · unfold inPut at h
      split at h
      · exact Or.inl h
      · rcases List.mem_append.1 h with h | h
        · exact Or.inl h
        · obtain rfl := List.mem_singleton.1 h; exact Or.inr (by simp)
    · exact Or.inr (List.mem_cons_of_mem _ h)
theorem inputs_mem {ps : List Pt} {s : ByteArray} (h : s ∈ inputs ps) : ∃ p ∈ ps, s ∈ p.ss := by
  have H : ∀ (t : List Pt) (x : List ByteArray), s ∈ t.foldl (fun l p => p.ss.foldl inPut l) x → s ∈ x ∨ ∃ p ∈ t, s ∈ p.ss := by
    intro t
    induction t with
    | nil => intro x h; exact Or.inl h
    | cons p t ih =>
      intro x h
      rw [List.foldl_cons] at h
      rcases ih _ h with h | ⟨p', hp, hs⟩
      · rcases inPuts_mem _ _ _ h with h | h
        · exact Or.inl h
        · exact Or.inr ⟨p, by simp, h⟩
      · exact Or.inr ⟨p', List.mem_cons_of_mem _ hp, hs⟩
  rcases H ps [] h with h | h
  · simp at h
  · exact h
theorem qW_inputs {nm : ByteArray} {q : Qy} (h : AskQ nm 4 q) (b : Bool) : (inputs (qW q b).ps).length = (inputs q.ps).length + 1 := by
  have e : inputs (qW q b).ps = inPut (inputs q.ps) qZ := by
    unfold inputs qW
    rw [List.foldl_append]; rfl
  rw [e]
  unfold inPut
  rw [if_neg]
  · simp
  · intro hm
    obtain ⟨p, hp, hs⟩ := inputs_mem hm
    have := (h.2.2.2.2.2.2.2.1 p hp).2.1 _ hs
    simp at this
theorem inputs_few {nm : ByteArray} {q : Qy} (h : AskQ nm 4 q) : (inputs q.ps).length ≤ 16 := by
  have := inputs_len (ps := q.ps) (M := 4) (fun p hp => (partB_parts (h.2.2.2.2.2.2.2.1 p hp).1).2.1) q.ps.length (Nat.le_refl _)
  rw [List.take_of_length_le (Nat.le_refl _)] at this
  have := h.2.2.1
  omega
abbrev xW (b : Bool) (g : Nat) : Px := (wP b, (some ⟨g, 0, none⟩, 1, 1), (none, 0, 0))
theorem xW_at {w : World} {g : Nat} (b : Bool) (h : Blk w g 9 #[.string qZ]) : PxAt w (xW b g) :=
  ⟨at_of_blk (k := 1) (f := scV) (fun _ => rfl) [qZ] h rfl (by show (1 : Nat) ≤ maxLen; unfold maxLen; omega) rfl, ⟨[], At.nil _ _ _, rfl, fun x hx => by simp at hx⟩, by show (1 : Nat) ≤ maxLen; unfold maxLen; omega, fun s hs => by obtain rfl := List.mem_singleton.1 hs; show (1 : Nat) ≤ maxLen; unfold maxLen; omega⟩
theorem ptF_one (x : Px) : ∀ u ∈ ptF x, u.oneCell' = true := fun u hu => by
  simp at hu; rcases hu with rfl | rfl | rfl | rfl | rfl <;> rfl
theorem wpList_append_full {α : Type} {P : Program} (w : World) {ops : Array Oper} {rest : List Oper} {o : Oper} {a : Act} {Q : Exit → Act → World → Prop} (hgd : o.guard = none) (s x : Operand) (t : TypeId)
    (ho : o.op = .call { callee := .builtin .append, args := #[s, x], argTypes := #[t, t] })
    (e : TypeId) (i : TypeInfo) (z : Value) (size bytes : Nat) (h1 : P.underlying t = some (.slice e)) (h2 : P.info? e = some i) (h3 : i.zero = some z)
    (h4 : i.size = size) (h5 : i.bytes = bytes) (h6 : z.cells.size = size) (h7 : 0 < size)
    {f : α → List Value} (hf : ∀ x, (f x).length = size) (h1c : ∀ x, ∀ u ∈ f x, u.oneCell' = true)
    (A : Option Addr) (n : Nat) (l : List α) (hn : n = l.length) (hs : a.eval s = .slice A n n) (hat : At w size f (.slice A n n) l)
    (ad : Addr) (c : Nat) (y : α) (hx : a.eval x = .slice (some ad) 1 c) (hc : ∀ j u, (f y)[j]? = some u → w.cell? (ad.add j) = some u)
    (b1 : n + 1 ≤ maxLen) (b2 : (n + n / 4 + 1000) * bytes ≤ 281474976710656) (b3 : bytes ≤ 140737488355328)
    (hK : ∀ v' w', Own w' w.heap.size e size f v' (l ++ [y]) → w.grownBy w' none → wpList P ops Q rest (a.put o.dst v') w') : wpList P ops Q (o :: rest) a w := by
  have hw : Region.wanted o (yielded ops a.tmps) = true := by simp [Region.wanted, hgd]
  have h := step_append_full (ops := ops) (Q := Q) (K := wpList P ops Q rest) (E := True) hgd s x t ho e i z size bytes h1 h2 h3 h4 h5 h6 h7 hf h1c A n l hn hs hat ad c y hx hc b1 b2 b3 hK
  rw [if_pos hw] at h
  unfold wpList
  rw [if_pos hw]
  exact Or.inl h
theorem pts_more {w : World} {v : Value} {r : List Px} {ps : List Pt} {b : Bool} {g : Nat} (h : At w 5 ptF v (r ++ [xW b g])) (hr : r.map (·.1) = ps) (hx : ∀ x ∈ r, PxAt w x) (hg : Blk w g 9 #[.string qZ]) : PtsAt w v (ps ++ [wP b]) :=
  ⟨_, h, by rw [List.map_append, hr]; rfl, fun x hx' => by
    rcases List.mem_append.1 hx' with hx' | hx'
    · exact hx x hx'
    · obtain rfl := List.mem_singleton.1 hx'; exact xW_at b hg⟩
end Go.Proofs.YtenmbahfgfmjjaaDoor
