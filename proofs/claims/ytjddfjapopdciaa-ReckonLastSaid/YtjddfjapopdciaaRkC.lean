/- Contracts of package reckon: operations of one and of two. -/
import Derived.Test.YtjddfjapopdciaaRkB
import Derived.Deep.QuietTactic
import Derived.Deep.RegionWith
namespace Go.Proofs.Ytjddfjapopdciaa
open Go.ChangeShapes Go.WideShapes Go.ChangeAt Go.RowKit
open Rk (inR)
set_option linter.unusedVariables false
set_option linter.unusedSimpArgs false

abbrev right3 (v : V3) : Bool := Val.right v.1 v.2.1 v.2.2
def unaryM (op : ByteArray) (v : V3) : Option V3 :=
  if op.toList = [33] then (if v.1 = 2 then some (tv (decide (v.2.1 = 0))) else none) else (if v.1 = 1 ∧ inR (-v.2.1) then some (1, -v.2.1, mt) else none)
theorem bool_or {n : Int} {s : ByteArray} (h : Val.right 2 n s = true) : (n = 0 ∨ n = 1) ∧ s = mt := by
  unfold Val.right at h
  rw [if_neg (by decide), if_pos rfl] at h
  simp only [Bool.and_eq_true, Bool.or_eq_true, decide_eq_true_eq] at h
  exact ⟨h.2, size0_eq h.1 rfl⟩
/-- A call's own two rows of three: one that is read, one that is the result's. -/
def KB (w W : World) (c : Array Value) (x y z : Value) : Prop :=
  Below w.heap.size w W ∧ Blk W w.heap.size 23 c ∧ Blk W (w.heap.size + 1) 23 #[x, y, z]
theorem KB.new (w : World) (c : Array Value) (x y z : Value) : KB w ((w.alloc (.cells c 23)).alloc (.cells #[x, y, z] 23)) c x y z :=
  ⟨bt (ba _ _) (ba _ _), (Blk.new w _ c).alloc _, by have := Blk.new (w.alloc (.cells c 23)) 23 #[x, y, z]; simpa using this⟩
theorem KB.go {w W w1 : World} {c : Array Value} {x y z : Value} (h : KB w W c x y z) (hb : Below W.heap.size W w1) : KB w w1 c x y z := ⟨bt h.1 hb, h.2.1.later hb, h.2.2.later hb⟩
theorem KB.drw {w W : World} {c : Array Value} {x y z : Value} (h : KB w W c x y z) : KB w W.drew c x y z := ⟨h.1.drew, h.2.1, h.2.2⟩
theorem KB.facts {w W : World} {c : Array Value} {x y z : Value} (h : KB w W c x y z) : (∀ j, W.cell? ⟨w.heap.size, j, none⟩ = c[j]?) ∧ (∀ j, W.cell? ⟨w.heap.size + 1, j, none⟩ = #[x, y, z][j]?) ∧ (∀ j, W.frozen? ⟨w.heap.size + 1, j, none⟩ = false) ∧ (∀ j, W.frozen? ⟨w.heap.size, j, none⟩ = false) :=
  ⟨fun j => h.2.1.cell j, fun j => h.2.2.cell j, fun j => h.2.2.frozen j, fun j => h.2.1.frozen j⟩
theorem KB.put {w W : World} {c : Array Value} {x y z : Value} (h : KB w W c x y z) (x' y' z' : Value) : Below w.heap.size w (((W.setCell ⟨w.heap.size + 1, 0, none⟩ x').setCell ⟨w.heap.size + 1, 1, none⟩ y').setCell ⟨w.heap.size + 1, 2, none⟩ z') :=
  ((h.1.setCell (Nat.le_succ _) _).setCell (Nat.le_succ _) _).setCell (Nat.le_succ _) _
set_option maxHeartbeats 1000000 in
theorem unary_not (op : ByteArray) (k n : Int) (s : ByteArray) (w : World) (ho : op.toList = [33]) (hr : Val.right k n s = true) :
    Calls Try.prog 52 #[.string op, vv k n s] w fun e w' => Res (unaryM op (k, n, s)) e ∧ Below w.heap.size w w' := by
  have C := Lib.hid (fun W b => truth_any b W)
  by_cases hk : k = 2
  · subst hk
    rw [show unaryM op (2, n, s) = some (tv (decide (n = 0))) by unfold unaryM; rw [if_pos ho]; rfl]
    obtain ⟨hn, rfl⟩ := bool_or hr
    have H := Lib.hid hr; clear hr
    have K := Lib.hid (KB.new w #[.int .i64 2, .int .i64 n, .string mt] (.int .i64 0) (.int .i64 0) (.string mt))
    rcases hn with rfl | rfl
    all_goals
      go_enter Try.func52, Try.ntmps52
      go_wp2_with (go_at_call 67; ((with_reducible refine (need_yes _).mono ?_); rintro e w1 ⟨rfl, rfl⟩))
      have hfacts := K.out.facts
      generalize hW : (World.alloc (w.alloc _) _) = W at *
      clear hW
      obtain ⟨q0, q1, q2, q3⟩ := hfacts
      go_region_with (go_at_call 45; ((with_reducible refine (C.out _ _).mono ?_); rintro e w1 ⟨rfl, hb⟩; (first | replace K := Lib.hid (K.out.go hb) | replace K := Lib.hid (K.out.drw.go hb)); clear hb; obtain ⟨p0, p1, p2, p3⟩ := K.out.facts))
      all_goals
        go_wp2
        exact bodyPost_ret (v := v3 (tv _)) (by simp [results, Try.results52, go_sem, p1]) rfl ⟨rfl, K.out.put _ _ _⟩
  · rw [show unaryM op (k, n, s) = none by unfold unaryM; rw [if_pos ho, if_neg hk]]
    have hkb : (k == 2) = false := by simpa using hk
    go_enter Try.func52, Try.ntmps52
    go_wp2_with (go_at_call 67; ((with_reducible refine (need_no _).mono ?_); rintro e w1 ⟨rfl, rfl⟩))
    exact ⟨rfl, Res.no, bt (ba _ _) (ba _ _)⟩
theorem unary_minus (op : ByteArray) (k n : Int) (s : ByteArray) (w : World) (ho : op.toList = [45]) (hn : inR n) :
    Calls Try.prog 52 #[.string op, vv k n s] w fun e w' => Res (unaryM op (k, n, s)) e ∧ Below w.heap.size w w' := by
  by_cases hk : k = 1
  · subst hk
    by_cases hr : inR (-n)
    · rw [show unaryM op (1, n, s) = some (1, -n, mt) by unfold unaryM; rw [if_neg (by rw [ho]; decide), if_pos ⟨rfl, hr⟩]]
      have C := Lib.hid (And.intro (fun W => Neg_ok n W hn hr) (fun W => number_any (-n) W)); clear hr hn
      generalize -n = x at *
      go_enter Try.func52, Try.ntmps52
      go_wp2_with (first
        | (go_at_call 20; ((with_reducible refine (C.out.1 _).mono ?_); rintro e w1 ⟨rfl, rfl⟩))
        | (go_at_call 51; ((with_reducible refine (C.out.2 _).mono ?_); rintro e w1 ⟨rfl, hb⟩; have hc := (bcell hb).1; have hf := (bcell hb).2; have B := Lib.hid hb; clear hb))
        | (go_at_call 67; ((with_reducible refine (need_yes _).mono ?_); rintro e w1 ⟨rfl, rfl⟩)))
      exact bodyPost_ret (v := v3 (1, x, mt)) (by simp [results, Try.results52, go_sem, hc]) rfl ⟨rfl, (((bt (bt (ba _ _) (ba _ _)) B.out).setCell (Nat.le_succ _) _).setCell (Nat.le_succ _) _).setCell (Nat.le_succ _) _⟩
    · rw [show unaryM op (1, n, s) = none by unfold unaryM; rw [if_neg (by rw [ho]; decide), if_neg (fun h => hr h.2)]]
      have C := Lib.hid (fun W => Neg_no n W hn hr); clear hr hn
      go_enter Try.func52, Try.ntmps52
      go_wp2_with (first
        | (go_at_call 20; ((with_reducible refine (C.out _).mono ?_); rintro e w1 ⟨rfl, rfl⟩))
        | (go_at_call 67; ((with_reducible refine (need_yes _).mono ?_); rintro e w1 ⟨rfl, rfl⟩))
        | (go_at_call 67; ((with_reducible refine (need_no _).mono ?_); rintro e w1 ⟨rfl, rfl⟩)))
      exact ⟨rfl, Res.no, bt (ba _ _) (ba _ _)⟩
  · rw [show unaryM op (k, n, s) = none by unfold unaryM; rw [if_neg (by rw [ho]; decide), if_neg (fun h => hk h.1)]]
    have hkb : (k == 1) = false := by simpa using hk
    go_enter Try.func52, Try.ntmps52
    go_wp2_with (go_at_call 67; ((with_reducible refine (need_no _).mono ?_); rintro e w1 ⟨rfl, rfl⟩))
    exact ⟨rfl, Res.no, bt (ba _ _) (ba _ _)⟩
end Go.Proofs.Ytjddfjapopdciaa
