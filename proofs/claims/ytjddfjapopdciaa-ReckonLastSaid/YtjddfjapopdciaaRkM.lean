/- Contracts of package reckon: reckon at whatever tree. -/
import Derived.Test.YtjddfjapopdciaaRkI
import Derived.Test.YtjddfjapopdciaaRkJ
import Derived.Test.YtjddfjapopdciaaRkL
import Derived.Test.YtjddfjapopdciaaTreeR
namespace Go.Proofs.Ytjddfjapopdciaa
open Go.ChangeShapes Go.WideShapes Go.ChangeAt Go.RowKit
open Rk (inR)
set_option linter.unusedVariables false
set_option linter.unusedSimpArgs false

theorem Res.some_iff {v : V3} {e : Ending} (h : Res (some v) e) : e = .returned (v3 v) := h
/-- A tree's node, its kids as a slice. -/
theorem Tr.val_ev (t : Tr) (A : Option Addr) (n c : Nat) (w : World) (h : TrAt w t (.slice A n c)) :
    ∃ k op vk vn vs va f A' n' c', t.val (.slice A n c) = ev k op vk vn vs va f (.slice A' n' c') ∧ t.node (.slice A n c) = (k, op, vk, vn, vs, va, f, .slice A' n' c') := by
  cases t <;> exact ⟨_, _, _, _, _, _, _, _, _, _, rfl, rfl⟩
theorem BdsAt.sl {w : World} {v : Value} {l : List Bd} (h : BdsAt w v l) : ∃ A n c, v = .slice A n c := by
  obtain ⟨L, _, hA, _⟩ := h
  obtain ⟨A, c, rfl, _⟩ := hA.shape
  exact ⟨_, _, _, rfl⟩
theorem reckon_tr (t : Tr) : ∀ (v lv : Value) (l : List Bd) (w : World), TrAt w t v → t.ok = true → t.small → BdsAt w lv l → okBds l →
    Calls Try.prog 42 #[t.val v, lv] w fun e w' => Res (evalT l t) e ∧ Below w.heap.size w w' := by
  induction t with
  | lit k n s =>
    rintro v lv l w rfl ho hs hl hk
    obtain ⟨A, m, c, rfl⟩ := hl.sl
    exact rk_lit k n s A m c w
  | ref x f =>
    rintro v lv l w rfl ho hs hl hk
    obtain ⟨A, m, c, rfl⟩ := hl.sl
    rw [show evalT l (.ref x f) = (match findB l x with | some b => lastM b.2.1 b.2.2 f | none => none) from rfl]
    rcases bound_cases _ l x w hl with ⟨h1, h2⟩ | ⟨b, X, h1, hbl, hX, h2⟩
    · rw [h1]; exact rk_ref_bad x f A m c w h2
    · rw [h1]
      have hz : ∀ e ∈ b.2.2, ∀ v ∈ e.2, v.2.2.size ≤ maxLen := fun e he v hv => ((hk b hbl).2 e he v hv).2
      have hL := fun W (hW : Below w.heap.size w W) => last_any X b f W (hX.later hW) hz
      show Calls _ _ _ _ fun e w' => Res (lastM b.2.1 b.2.2 f) e ∧ _
      cases hm : lastM b.2.1 b.2.2 f with
      | none => rw [hm] at hL; exact rk_ref_none x f A m c X w h2 hL
      | some y => rw [hm] at hL; exact rk_ref x f A m c X y w h2 hL
  | cnt x =>
    rintro v lv l w rfl ho hs hl hk
    obtain ⟨A, m, c, rfl⟩ := hl.sl
    rw [show evalT l (.cnt x) = (match findB l x with | some b => some (1, (b.2.2.length : Int), mt) | none => none) from rfl]
    rcases bound_cases _ l x w hl with ⟨h1, h2⟩ | ⟨b, X, h1, hbl, hX, h2⟩
    · rw [h1]; exact rk_cnt_bad x A m c w h2
    · rw [h1]
      have hlen : X.2.2.2.1 = b.2.2.length := by
        obtain ⟨_, _, L, hL, hA, _⟩ := hX
        obtain ⟨A0, c0, hv, _⟩ := hA.shape
        simp only [sl, Value.slice.injEq] at hv
        omega
      have hb := (hk b hbl).1
      have := rk_cnt x A m c X w (by unfold maxLen at hb; omega) h2
      rw [hlen] at this
      exact this
  | un op x ih =>
    rintro v lv l w ⟨a, c, rfl, h1, h2, kx, hx, hr⟩ ho hs hl hk
    obtain ⟨A, m, cl, rfl⟩ := hl.sl
    unfold Tr.ok at ho
    simp only [Bool.and_eq_true] at ho
    obtain ⟨Ax, nx, cx, rfl⟩ := hx.sl
    obtain ⟨k', op', vk', vn', vs', va', f', A', n', c', e1, e2⟩ := Tr.val_ev x Ax nx cx w hx
    rw [e2] at hr
    have hK := fun W (hW : Below w.heap.size w W) => ih _ _ l W (hx.later hW) ho.2 hs (hl.later hW) hk
    rw [e1] at hK
    rw [show evalT l (.un op x) = (match evalT l x with | some v => unaryM op v | none => none) from rfl]
    cases hxv : evalT l x with
    | none => rw [hxv] at hK; exact rk_un_kid op a c A m cl k' op' vk' vn' vs' va' f' A' n' c' (0, 0, mt) (0, 0, mt) w hr hK
    | some y =>
      rw [hxv] at hK
      have hg := evalT_good hk ho.2 hs hxv
      have hU := fun W => unary_any op y W ho.1 hg
      show Calls _ _ _ _ fun e w' => Res (unaryM op y) e ∧ _
      cases hu : unaryM op y with
      | none => rw [hu] at hU; exact rk_un_op op a c A m cl k' op' vk' vn' vs' va' f' A' n' c' y (0, 0, mt) w hr hK hU
      | some z => rw [hu] at hU; exact rk_un op a c A m cl k' op' vk' vn' vs' va' f' A' n' c' y z w hr hK hU
  | bin op x y ihx ihy =>
    rintro v lv l w ⟨a, c, rfl, h1, h2, ⟨kx, hx, hr⟩, ky, hy, hq⟩ ho hs hl hk
    obtain ⟨A, m, cl, rfl⟩ := hl.sl
    unfold Tr.ok at ho
    simp only [Bool.and_eq_true, decide_eq_true_eq] at ho
    obtain ⟨Ax, nx, cx, rfl⟩ := hx.sl
    obtain ⟨Ay, ny, cy, rfl⟩ := hy.sl
    obtain ⟨k', op', vk', vn', vs', va', f', A', n', c', e1, e2⟩ := Tr.val_ev x Ax nx cx w hx
    obtain ⟨k2, op2, vk2, vn2, vs2, va2, f2, A2, n2, c2, g1, g2⟩ := Tr.val_ev y Ay ny cy w hy
    rw [e2] at hr
    rw [g2] at hq
    have hK := fun W (hW : Below w.heap.size w W) => ihx _ _ l W (hx.later hW) ho.1.2 hs.1 (hl.later hW) hk
    have hY := fun W (hW : Below w.heap.size w W) => ihy _ _ l W (hy.later hW) ho.2 hs.2 (hl.later hW) hk
    rw [e1] at hK
    rw [g1] at hY
    rw [show evalT l (.bin op x y) = (match evalT l x with
      | some a => if (op.toList = [38, 38] ∧ a = tv false) ∨ (op.toList = [124, 124] ∧ a = tv true) then some a else (match evalT l y with | some b => binaryM op a b | none => none)
      | none => none) from rfl]
    cases hxv : evalT l x with
    | none => rw [hxv] at hK; exact rk_bin_bad op a c A m cl k' op' vk' vn' vs' va' f' A' n' c' w hr hK
    | some u =>
      rw [hxv] at hK
      have hg := evalT_good hk ho.1.2 hs.1 hxv
      show Calls _ _ _ _ fun e w' => Res (if (op.toList = [38, 38] ∧ u = tv false) ∨ (op.toList = [124, 124] ∧ u = tv true) then some u else (match evalT l y with | some b => binaryM op u b | none => none)) e ∧ _
      by_cases hsc : (op.toList = [38, 38] ∧ u = tv false) ∨ (op.toList = [124, 124] ∧ u = tv true)
      · rw [if_pos hsc]
        exact rk_bin_short op a c A m cl k' op' vk' vn' vs' va' f' A' n' c' u w (decide_eq_true hsc) hr hK
      · rw [if_neg hsc]
        have hsb : scB op u = false := decide_eq_false hsc
        cases hyv : evalT l y with
        | none =>
          rw [hyv] at hY
          exact rk_bin_kid op a c A m cl k' op' vk' vn' vs' va' f' A' n' c' k2 op2 vk2 vn2 vs2 va2 f2 A2 n2 c2 u (0, 0, mt) (0, 0, mt) w hsb hr hq hK hY
        | some z =>
          rw [hyv] at hY
          have hgz := evalT_good hk ho.2 hs.2 hyv
          have hB := fun W => binary_any op u z W ho.1.1 hg hgz
          show Calls _ _ _ _ fun e w' => Res (binaryM op u z) e ∧ _
          cases hb : binaryM op u z with
          | none => rw [hb] at hB; exact rk_bin_op op a c A m cl k' op' vk' vn' vs' va' f' A' n' c' k2 op2 vk2 vn2 vs2 va2 f2 A2 n2 c2 u z (0, 0, mt) w hsb hr hq hK hY hB
          | some r => rw [hb] at hB; exact rk_bin_ok op a c A m cl k' op' vk' vn' vs' va' f' A' n' c' k2 op2 vk2 vn2 vs2 va2 f2 A2 n2 c2 u z r w hsb hr hq hK hY hB
end Go.Proofs.Ytjddfjapopdciaa
