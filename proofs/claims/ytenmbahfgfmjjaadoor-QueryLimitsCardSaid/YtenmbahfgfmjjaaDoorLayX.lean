/- Contracts of package expr: lay and Put at whatever right tree. -/
import Derived.Test.YtenmbahfgfmjjaaDoorLayW
namespace Go.Proofs.YtenmbahfgfmjjaaDoor
open Go.ChangeShapes Go.WideShapes Go.ChangeAt Go.RowKit
open Rk (inR)
set_option linter.unusedVariables false
set_option linter.unusedSimpArgs false

/-- The numbers in a tree are of 64 bits. -/
def Tr.small : Tr → Prop
  | .lit k n s => inR n
  | .ref v f => True
  | .cnt v => True
  | .un op x => x.small
  | .bin op x y => x.small ∧ y.small
/-- A bound of a tree's text. -/
def Tr.len : Tr → Nat
  | .lit k n s => (Val.showL k n s).length
  | .ref v f => v.size + (f.size + 1)
  | .cnt v => v.size + 1
  | .un op x => op.size + x.len + 2
  | .bin op x y => op.size + 2 * (x.len + y.len) + 12
theorem list_size (s : ByteArray) : s.toList.length = s.size := by rw [Lib.toList_data]; simp
theorem putT_len : ∀ t : Tr, (putT t).length ≤ t.len
  | .lit k n s => by rw [putT, Tr.len]; omega
  | .ref v f => by rw [putT, Tr.len]; simp [list_size]
  | .cnt v => by rw [putT, Tr.len]; simp [list_size]
  | .un op x => by
    have h1 := putT_len x
    have h2 := brk_len x.isBin (putT x)
    rw [putT, Tr.len, List.length_append, list_size]; omega
  | .bin op x y => by
    have h1 := putT_len x
    have h2 := putT_len y
    have h3 := brk_len (x.isBin && decide (lvl x.opOf < lvl op)) (putT x)
    have h4 := brk_len (y.isBin && decide (lvl y.opOf ≤ lvl op)) (putT y)
    rw [putT, Tr.len, List.length_append, List.length_append, List.length_cons, List.length_append, list_size, List.length_singleton]
    omega
theorem node_bin (x : Tr) (K : Value) : ((x.node K).1 == 4) = x.isBin := by cases x <;> rfl
theorem node_op (x : Tr) (K : Value) (h : x.isBin = true) : (x.node K).2.1 = x.opOf := by cases x <;> first | rfl | exact absurd h (by decide)
theorem bin_br (x : Tr) (K : Value) (p : Int → Bool) : (((x.node K).1 == 4) && p (lvl (x.node K).2.1)) = (x.isBin && p (lvl x.opOf)) := by
  rw [node_bin]
  cases h : x.isBin
  · rfl
  · rw [node_op x K h]
theorem node_sl {w : World} {x : Tr} {K : Value} (h : TrAt w x K) : ∃ A n c, (x.node K).2.2.2.2.2.2.2 = .slice A n c := by
  cases x with
  | lit => exact ⟨_, _, _, rfl⟩
  | ref => exact ⟨_, _, _, rfl⟩
  | cnt => exact ⟨_, _, _, rfl⟩
  | un => obtain ⟨a, c, rfl, _⟩ := h; exact ⟨_, _, _, rfl⟩
  | bin => obtain ⟨a, c, rfl, _⟩ := h; exact ⟨_, _, _, rfl⟩
/-- lay at whatever right tree. -/
theorem lay_tr (w0 : World) (hT : Tab w0) : ∀ (t : Tr) (K : Value), TrAt w0 t K → t.ok = true → t.small → ∀ (w : World) (v : Value) (l : List UInt8), Below w0.heap.size w0 w → OwnB w w0.heap.size v l → l.length + t.len ≤ 900000000 →
    Calls Tryd.prog 66 #[v, t.val K] w fun e w' => LayT w v w0.heap.size (l ++ putT t) e w'
  | .lit k n s, K, h, ho, hs, w, v, l, hb, hO, hl => by
    obtain rfl : K = nilk := h
    unfold Tr.ok at ho
    simp only [Bool.and_eq_true] at ho
    exact lay_lit k n s w v w0.heap.size l hO hb.size (hT.later hb) (right_size ho.1.1) hs (by rw [Tr.len] at hl; omega)
  | .ref x f, K, h, ho, hs, w, v, l, hb, hO, hl => by
    obtain rfl : K = nilk := h
    exact lay_ref x f w v w0.heap.size l hO hb.size (by rw [Tr.len] at hl; omega)
  | .cnt x, K, h, ho, hs, w, v, l, hb, hO, hl => by
    obtain rfl : K = nilk := h
    exact lay_cnt x w v w0.heap.size l hO hb.size (by rw [Tr.len] at hl; omega)
  | .un op x, K, h, ho, hs, w, v, l, hb, hO, hl => by
    obtain ⟨a, c, rfl, h1, h2, kx, hx, hr⟩ := h
    unfold Tr.ok at ho
    simp only [Bool.and_eq_true] at ho
    rw [Tr.len] at hl
    have hp := putT_len x
    have IH := lay_tr w0 hT x kx hx ho.2 hs
    have := lay_un op a c _ _ _ _ _ _ _ _ w0 w v (900000000 - x.len) l (putT x) hr hb hO (by omega) (by omega) h1 (fun W v' l' g1 g2 g3 => IH W v' l' g1 g2 (by omega)) (node_sl hx)
    rw [node_bin] at this
    rw [putT]
    exact this
  | .bin op x y, K, h, ho, hs, w, v, l, hb, hO, hl => by
    obtain ⟨a, c, rfl, h1, h2, ⟨kx, hx, hr⟩, ky, hy, hq⟩ := h
    unfold Tr.ok at ho
    simp only [Bool.and_eq_true] at ho
    rw [Tr.len] at hl
    have hp := putT_len x
    have hp2 := putT_len y
    have IH := lay_tr w0 hT x kx hx ho.1.2 hs.1
    have IH2 := lay_tr w0 hT y ky hy ho.2 hs.2
    obtain ⟨A1, n1, c1, e1⟩ := node_sl hx
    obtain ⟨A2, n2, c2, e2⟩ := node_sl hy
    unfold Tr.val at IH IH2
    rw [e1] at hr IH
    rw [e2] at hq IH2
    have := lay_bin op a c _ _ _ _ _ _ _ _ _ _ _ _ _ _ _ _ _ _ _ _ w0 w v (900000000 - (x.len + y.len)) l (putT x) (putT y) hr hq h1 hb hO (by omega) (by omega) (fun W v' l' g1 g2 g3 => IH W v' l' g1 g2 (by omega)) (fun W v' l' g1 g2 g3 => IH2 W v' l' g1 g2 (by omega))
    rw [bin_br x kx (fun z => decide (z < lvl op)), bin_br y ky (fun z => decide (z ≤ lvl op))] at this
    rw [putT]
    exact this
end Go.Proofs.YtenmbahfgfmjjaaDoor
