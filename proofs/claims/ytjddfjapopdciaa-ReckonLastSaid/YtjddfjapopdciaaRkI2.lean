/- Contracts of package reckon: reckon at a field. -/
import Derived.Test.YtjddfjapopdciaaRkH
import Derived.Deep.RegionHeld3
namespace Go.Proofs.Ytjddfjapopdciaa
open Go.ChangeShapes Go.WideShapes Go.ChangeAt Go.RowKit
open Rk (inR)
set_option linter.unusedVariables false
set_option linter.unusedSimpArgs false

/-- A call's own two rows: the first that is handed in, the second that is told. -/
def K2 (t u : TypeId) (w W : World) (c d : Array Value) : Prop := Below w.heap.size w W ∧ Blk W w.heap.size t c ∧ Blk W (w.heap.size + 1) u d
theorem K2.new (t u : TypeId) (w : World) (c d : Array Value) : K2 t u w ((w.alloc (.cells c t)).alloc (.cells d u)) c d :=
  ⟨bt (ba _ _) (ba _ _), (Blk.new w _ c).alloc _, by have := Blk.new (w.alloc (.cells c t)) u d; simpa using this⟩
theorem K2.go {t u : TypeId} {w W w1 : World} {c d : Array Value} (h : K2 t u w W c d) (hb : Below W.heap.size W w1) : K2 t u w w1 c d := ⟨bt h.1 hb, h.2.1.later hb, h.2.2.later hb⟩
theorem K2.drw {t u : TypeId} {w W : World} {c d : Array Value} (h : K2 t u w W c d) : K2 t u w W.drew c d := ⟨h.1.drew, h.2.1, h.2.2⟩
theorem K2.bel {t u : TypeId} {w W : World} {c d : Array Value} (h : K2 t u w W c d) : Below w.heap.size w W := h.1
theorem K2.facts {t u : TypeId} {w W : World} {c d : Array Value} (h : K2 t u w W c d) : (∀ j, W.cell? ⟨w.heap.size, j, none⟩ = c[j]?) ∧ (∀ j, W.cell? ⟨w.heap.size + 1, j, none⟩ = d[j]?) ∧ (∀ j, W.frozen? ⟨w.heap.size + 1, j, none⟩ = false) ∧ (∀ j, W.frozen? ⟨w.heap.size, j, none⟩ = false) :=
  ⟨fun j => h.2.1.cell j, fun j => h.2.2.cell j, fun j => h.2.2.frozen j, fun j => h.2.1.frozen j⟩
theorem K2.put {t u : TypeId} {w W : World} {c d : Array Value} (h : K2 t u w W c d) (x' y' z' : Value) : Below w.heap.size w (((W.setCell ⟨w.heap.size + 1, 0, none⟩ x').setCell ⟨w.heap.size + 1, 1, none⟩ y').setCell ⟨w.heap.size + 1, 2, none⟩ z') :=
  ((h.1.setCell (Nat.le_succ _) _).setCell (Nat.le_succ _) _).setCell (Nat.le_succ _) _

set_option maxHeartbeats 2000000 in
theorem rk_ref (x f : ByteArray) (A : Option Addr) (m c : Nat) (X : Bv) (v : V3) (w : World)
    (hB : ∀ W, Below w.heap.size w W → Calls Try.prog 50 #[.slice A m c, .string x] W fun e w' => e = .returned (.agg #[.string X.1, sl X.2.1, sl X.2.2]) ∧ Below W.heap.size W w')
    (hL : ∀ W, Below w.heap.size w W → Calls Try.prog 49 #[.agg #[.string X.1, sl X.2.1, sl X.2.2], .string f] W fun e w' => e = .returned (v3 v) ∧ Below W.heap.size W w') :
    Calls Try.prog 42 #[ev 1 e0 0 0 e0 x f nilk, .slice A m c] w fun e w' => Res (some v) e ∧ Below w.heap.size w w' := by
  have K := Lib.hid (K2.new 26 23 w #[.int .i64 1, .string e0, .int .i64 0, .int .i64 0, .string e0, .string x, .string f, nilk] zv)
  have C := Lib.hid (And.intro hB hL); clear hB hL
  obtain ⟨X1, ⟨F1, F2, F3⟩, E1, E2, E3⟩ := X
  obtain ⟨v1, v2, v4⟩ := v
  go_enter Try.func42, Try.ntmps42
  go_wp2_with fail
  generalize hW : (World.alloc (w.alloc _) _) = W at *
  clear hW
  go_region_held3 (fun w' => ∀ j, w'.cell? ⟨w.heap.size, j, none⟩ = #[Value.int .i64 1, .string e0, .int .i64 0, .int .i64 0, .string e0, .string x, .string f, nilk][j]?) (first | exact K.out.facts.1 | exact K.out.drw.facts.1 | go_keep) (first
    | (go_at_call 50; ((with_reducible refine (C.out.1 _ ?_).mono ?_); first | exact K.out.bel | exact K.out.drw.bel); rintro e w1 ⟨rfl, hb⟩; (first | replace K := Lib.hid (K.out.go hb) | replace K := Lib.hid (K.out.drw.go hb)); clear hb; obtain ⟨p0, p1, p2, p3⟩ := K.out.facts)
    | (go_at_call 49; ((with_reducible refine (C.out.2 _ ?_).mono ?_); first | exact K.out.bel | exact K.out.drw.bel); rintro e w1 ⟨rfl, hb⟩; (first | replace K := Lib.hid (K.out.go hb) | replace K := Lib.hid (K.out.drw.go hb)); clear hb; obtain ⟨p0, p1, p2, p3⟩ := K.out.facts))
  go_wp2
  exact bodyPost_ret (v := v3 (v1, v2, v4)) (by simp [results, Try.results42, go_sem, p1]) rfl ⟨rfl, K.out.put _ _ _⟩
end Go.Proofs.Ytjddfjapopdciaa
