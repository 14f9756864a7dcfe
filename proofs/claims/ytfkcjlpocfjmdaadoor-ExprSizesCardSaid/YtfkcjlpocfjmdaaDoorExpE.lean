/- What the statements of expr begin with: contracts at nodes in full. -/
import Derived.Test.YtfkcjlpocfjmdaaDoorPut
import Derived.Test.YtfkcjlpocfjmdaaDoorRightW
import Derived.Test.YtfkcjlpocfjmdaaDoorVars
import Derived.Test.YtfkcjlpocfjmdaaDoorSame
import Derived.Test.YtfkcjlpocfjmdaaDoorTrB
import Derived.Test.YtfkcjlpocfjmdaaDoorKeep
namespace Go.Proofs.YtfkcjlpocfjmdaaDoor
open Go.ChangeShapes Go.WideShapes Go.ChangeAt Go.RowKit
open Rk (inR)
set_option linter.unusedVariables false
set_option linter.unusedSimpArgs false

/-- What is told is an operation of two, a tree. -/
def IsN (op : ByteArray) (T : Tr) (e : Ending) (w : World) : Prop := ∃ A n c, e = .returned (ev 4 op 0 0 e0 e0 e0 (.slice A n c)) ∧ TrAt w T (.slice A n c)
theorem two_isN (op : ByteArray) (x y : Tr) (vx vy kx ky : Value) (w : World) (ex : x.val kx = vx) (ey : y.val ky = vy) (hx : TrAt w x kx) (hy : TrAt w y ky) :
    Calls Tryd.prog 26 #[.string op, vx, vy] w fun e w' => IsN op (.bin op x y) e w' ∧ Below w.heap.size w w' := by
  subst ex; subst ey
  refine (two_tr op x y kx ky w hx hy).mono ?_
  rintro e w' ⟨⟨K, rfl, hT⟩, hb⟩
  obtain ⟨A, n, c, rfl⟩ := hT.sl
  exact ⟨⟨A, n, c, rfl, hT⟩, hb⟩
/-- Contracts at a tree's value, however that is written. -/
theorem Right_v {t : Tr} {K v : Value} (ev_ : t.val K = v) (w : World) (h : TrAt w t K) (ho : t.ok = true) :
    Calls Tryd.prog 12 #[v] w fun e w' => e = .returned (.bool true) ∧ Below w.heap.size w w' := by
  subst ev_; exact Right_tr t K w h ho
theorem Put_v {t : Tr} {K v : Value} {s : ByteArray} (ev_ : t.val K = v) (es : ⟨(putT t).toArray⟩ = s) (w : World) (h : TrAt w t K) (ho : t.ok = true) (hs : t.small) (hl : t.len ≤ 900000000) (hT : Tab w) :
    Calls Tryd.prog 13 #[v] w fun e w' => e = .returned (.string s) ∧ Below w.heap.size w w' := by
  subst ev_; subst es; exact Put_tr t K w h ho hs hl hT
theorem Size_v {t : Tr} {K v : Value} {n : Int} (ev_ : t.val K = v) (en : wrap64 (t.nodes : Int) = n) (w : World) (h : TrAt w t K) :
    Calls Tryd.prog 24 #[v] w fun e w' => e = .returned (.int .i64 n) ∧ Below w.heap.size w w' := by
  subst ev_; subst en; exact Size_tr t K w h
theorem Vars_v {t : Tr} {K v : Value} (ev_ : t.val K = v) (w : World) (h : TrAt w t K) (hf : t.fits) (hN : t.nodes * 16 ≤ 140737488355328) :
    Calls Tryd.prog 15 #[v] w fun e w' => VarsT w t e w' ∧ Below w.heap.size w w' := by
  subst ev_; exact Vars_tr t K w h hf hN
theorem Same_v {t u : Tr} {K L v v' : Value} {b : Bool} (ev_ : t.val K = v) (eu : u.val L = v') (eb : sameT t u = b) (w : World) (h : TrAt w t K) (h' : TrAt w u L) :
    Calls Tryd.prog 22 #[v, v'] w fun e w' => e = .returned (.bool b) ∧ Below w.heap.size w w' := by
  subst ev_; subst eu; subst eb; exact Same_tr w t u K L h h' w (Below.refl _ _)
abbrev opsC : Array Value := #[.string ⟨#[124, 124]⟩, .string ⟨#[38, 38]⟩, .string ⟨#[61, 61]⟩, .string ⟨#[33, 61]⟩, .string ⟨#[60]⟩, .string ⟨#[60, 61]⟩, .string ⟨#[62]⟩, .string ⟨#[62, 61]⟩, .string ⟨#[43]⟩, .string ⟨#[45]⟩, .string ⟨#[42]⟩, .string ⟨#[47]⟩, .string ⟨#[37]⟩]
theorem Ops_any (w : World) : Calls Tryd.prog 17 #[] w fun e w' => e = .returned (.slice (some ⟨w.heap.size, 0, none⟩) 13 13) ∧ w' = w.alloc (.cells opsC 9) := by
  go_enter Tryd.func17, Tryd.ntmps17
  go_wp2
  go_ret
  exact ⟨rfl, rfl⟩
/-- How many names there are. -/
theorem sorted1_two {a b : ByteArray} {l r : List ByteArray} (h : Sorted1 l r) (hab : a ≠ b) (hl : ∀ s, s ∈ l ↔ s = a ∨ s = b) : r.length = 2 := by
  have hn : r.Nodup := h.1.imp fun {x y} hxy e => by subst e; exact List.lt_irrefl _ hxy
  have hp : r.Perm [a, b] := (List.perm_ext_iff_of_nodup hn (by simp [hab])).2 fun s => by rw [h.2 s, hl s]; simp
  exact hp.length_eq
theorem sorted1_one {a : ByteArray} {l r : List ByteArray} (h : Sorted1 l r) (hl : ∀ s, s ∈ l ↔ s = a) : r = [a] := by
  have hn : r.Nodup := h.1.imp fun {x y} hxy e => by subst e; exact List.lt_irrefl _ hxy
  have hp : r.Perm [a] := (List.perm_ext_iff_of_nodup hn (by simp)).2 fun s => by rw [h.2 s, hl s]; simp
  exact List.perm_singleton.1 hp
end Go.Proofs.YtfkcjlpocfjmdaaDoor
