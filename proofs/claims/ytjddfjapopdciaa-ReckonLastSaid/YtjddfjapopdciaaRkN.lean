/- Contracts of package reckon: Reckon. -/
import Derived.Test.YtjddfjapopdciaaRkM
import Derived.Defers
import Derived.Recover
namespace Go.Proofs.Ytjddfjapopdciaa
open Go.ChangeShapes Go.WideShapes Go.ChangeAt Go.RowKit
open Rk (inR)
set_option linter.unusedVariables false
set_option linter.unusedSimpArgs false

/-- The world behind a panic that was caught. -/
abbrev caught (w : World) (p q : Nat) : World := (((w.setCell ⟨p, 0, none⟩ (.int .i64 0)).setCell ⟨p, 1, none⟩ (.int .i64 0)).setCell ⟨p, 2, none⟩ (.string ⟨#[]⟩)).setCell ⟨q, 0, none⟩ (.bool false)
theorem catch_panicking (p q : Nat) (u : TypeId) (pv : Value) (w : World) (x y z b : Value) (h0 : w.cell? ⟨p, 0, none⟩ = some x) (h1 : w.cell? ⟨p, 1, none⟩ = some y) (h2 : w.cell? ⟨p, 2, none⟩ = some z) (h3 : w.cell? ⟨q, 0, none⟩ = some b)
    (hx : x.oneCell' = true) (hy : y.oneCell' = true) (hz : z.oneCell' = true) (hb : b.oneCell' = true)
    (f0 : w.frozen? ⟨p, 0, none⟩ = false) (f1 : w.frozen? ⟨p, 1, none⟩ = false) (f2 : w.frozen? ⟨p, 2, none⟩ = false) (f3 : w.frozen? ⟨q, 0, none⟩ = false) (hpq : p ≠ q) :
    CallsD Try.prog 41 #[.pointer (some ⟨p, 0, none⟩), .pointer (some ⟨q, 0, none⟩)] (.panicking [{ v := .iface u pv, recovered := false }]) w fun e u' w' =>
      e = .returned (.tuple #[]) ∧ u' = .panicking [{ v := .iface u pv, recovered := true }] ∧ w' = caught w p q := by
  refine callsD_of_wpS Try.func41 rfl fun c₀ cs hu => ?_
  apply wpS_seq
  apply wpS_region
  simp [wpOpsS, go_sem, recoverD, hu, Try.ntmps41, Exit.thenS]
  refine wpS_cond (t := true) (by simp [Act.eval, Array.replicate]) ?_
  simp only [if_true]
  apply wpS_region
  simp [wpOpsS, go_sem, h0, h1, h2, h3, f0, f1, f2, f3, hpq, bodyPostS, results, Try.results41]
theorem catch_idle (p q : Addr) (w : World) :
    CallsD Try.prog 41 #[.pointer (some p), .pointer (some q)] .returning w fun e u' w' => e = .returned (.tuple #[]) ∧ u' = .returning ∧ w' = w := by
  refine callsD_of_wpS Try.func41 rfl fun c₀ cs hu => ?_
  apply wpS_seq
  apply wpS_region
  simp [wpOpsS, go_sem, recoverD, hu, Try.ntmps41, Exit.thenS]
  refine wpS_cond (t := false) (by simp [Act.eval, Array.replicate]) ?_
  simp only [Bool.false_eq_true, if_false]
  refine wpS_of_wp (wp_skip ?_)
  cases c₀
  simp_all [bodyPostS, results, Try.results41]

/-- What Reckon tells. -/
def toldV (r : Option V3) : Ending := match r with | some v => .returned (.tuple #[v3 v, .bool true]) | none => .returned (.tuple #[v3 (0, 0, mt), .bool false])
/-- Reckon's own three rows. -/
def KD (w W : World) (c d f : Array Value) : Prop := Below w.heap.size w W ∧ Blk W w.heap.size 26 c ∧ Blk W (w.heap.size + 1) 23 d ∧ Blk W (w.heap.size + 1 + 1) 4 f
theorem KD.new (w : World) (c d f : Array Value) : KD w (((w.alloc (.cells c 26)).alloc (.cells d 23)).alloc (.cells f 4)) c d f :=
  ⟨bt (bt (ba _ _) (ba _ _)) (ba _ _), ((Blk.new w _ c).alloc _).alloc _, by have := (Blk.new (w.alloc (.cells c 26)) 23 d).alloc (.cells f 4); simpa using this, by have := Blk.new ((w.alloc (.cells c 26)).alloc (.cells d 23)) 4 f; simpa using this⟩
theorem KD.go {w W w1 : World} {c d f : Array Value} (h : KD w W c d f) (hb : Below W.heap.size W w1) : KD w w1 c d f := ⟨bt h.1 hb, h.2.1.later hb, h.2.2.1.later hb, h.2.2.2.later hb⟩
theorem KD.bel {w W : World} {c d f : Array Value} (h : KD w W c d f) : Below w.heap.size w W := h.1
theorem KD.facts {w W : World} {c d f : Array Value} (h : KD w W c d f) : (∀ j, W.cell? ⟨w.heap.size, j, none⟩ = c[j]?) ∧ (∀ j, W.cell? ⟨w.heap.size + 1, j, none⟩ = d[j]?) ∧ (∀ j, W.cell? ⟨w.heap.size + 1 + 1, j, none⟩ = f[j]?) ∧ (∀ j, W.frozen? ⟨w.heap.size + 1, j, none⟩ = false) ∧ (∀ j, W.frozen? ⟨w.heap.size + 1 + 1, j, none⟩ = false) :=
  ⟨fun j => h.2.1.cell j, fun j => h.2.2.1.cell j, fun j => h.2.2.2.cell j, fun j => h.2.2.1.frozen j, fun j => h.2.2.2.frozen j⟩
theorem KD.put {w W : World} {c d f : Array Value} (h : KD w W c d f) (x y z b : Value) : Below w.heap.size w ((((W.setCell ⟨w.heap.size + 1, 0, none⟩ x).setCell ⟨w.heap.size + 1, 1, none⟩ y).setCell ⟨w.heap.size + 1, 2, none⟩ z).setCell ⟨w.heap.size + 1 + 1, 0, none⟩ b) :=
  (((h.1.setCell (Nat.le_add_right _ _) _).setCell (Nat.le_add_right _ _) _).setCell (Nat.le_add_right _ _) _).setCell (by show w.heap.size ≤ w.heap.size + 1 + 1; omega) _

theorem Reckon_ok (k : Int) (op : ByteArray) (vk vn : Int) (vs va f : ByteArray) (B : Option Addr) (n' c' : Nat) (A : Option Addr) (m c : Nat) (v : V3) (w : World)
    (hR : ∀ W, Below w.heap.size w W → Calls Try.prog 40 #[ev k op vk vn vs va f (.slice B n' c')] W fun e w' => e = .returned (.bool true) ∧ Below W.heap.size W w')
    (hK : ∀ W, Below w.heap.size w W → Calls Try.prog 42 #[ev k op vk vn vs va f (.slice B n' c'), .slice A m c] W fun e w' => (e = .returned (v3 v)) ∧ Below W.heap.size W w') :
    Calls Try.prog 14 #[ev k op vk vn vs va f (.slice B n' c'), .slice A m c] w fun e w' => e = toldV (some v) ∧ Below w.heap.size w w' := by
  have hmf : ∀ (fn : Fn) (first cap : Array Value) (w : World), (Instr.makeFunc fn first cap).run Try.prog w = .ok (.func fn first cap) w := fun _ _ _ _ => rfl
  have K := Lib.hid (KD.new w #[.int .i64 k, .string op, .int .i64 vk, .int .i64 vn, .string vs, .string va, .string f, .slice B n' c'] zv #[.bool false])
  have C := Lib.hid (And.intro hR hK); clear hR hK
  obtain ⟨v1, v2, v4⟩ := v
  go_enter_defers Try.func14, Try.ntmps14
  go_wp2_with (first
    | (go_at_call 40; ((with_reducible refine (C.out.1 _ K.out.bel).mono ?_); rintro e w1 ⟨rfl, hb⟩; replace K := Lib.hid (K.out.go hb); clear hb; obtain ⟨p0, p1, p2, p3, p4⟩ := K.out.facts))
    | (go_at_call 42; ((with_reducible refine (C.out.2 _ K.out.bel).mono ?_); rintro e w2 ⟨rfl, hb⟩; replace K := Lib.hid (K.out.go hb); clear hb p0 p1 p2 p3 p4; obtain ⟨p0, p1, p2, p3, p4⟩ := K.out.facts)))
  refine leaves_cons (f := 41) (args := #[.pointer (some ⟨w.heap.size + 1, 0, none⟩), .pointer (some ⟨w.heap.size + 1 + 1, 0, none⟩)]) (by simp) (by simp [go_sem]) ?_
  refine (catch_idle _ _ _).mono ?_
  rintro e u' w'' ⟨rfl, rfl, rfl⟩
  simp [Leaves, settle, results, Try.results14, go_sem, p1, p2, toldV]
  exact K.out.put _ _ _ _
set_option maxHeartbeats 1000000 in
theorem Reckon_bad (k : Int) (op : ByteArray) (vk vn : Int) (vs va f : ByteArray) (B : Option Addr) (n' c' : Nat) (A : Option Addr) (m c : Nat) (w : World)
    (hR : ∀ W, Below w.heap.size w W → Calls Try.prog 40 #[ev k op vk vn vs va f (.slice B n' c')] W fun e w' => e = .returned (.bool true) ∧ Below W.heap.size W w')
    (hK : ∀ W, Below w.heap.size w W → Calls Try.prog 42 #[ev k op vk vn vs va f (.slice B n' c'), .slice A m c] W fun e w' => Res none e ∧ Below W.heap.size W w') :
    Calls Try.prog 14 #[ev k op vk vn vs va f (.slice B n' c'), .slice A m c] w fun e w' => e = toldV none ∧ Below w.heap.size w w' := by
  have hmf : ∀ (fn : Fn) (first cap : Array Value) (w : World), (Instr.makeFunc fn first cap).run Try.prog w = .ok (.func fn first cap) w := fun _ _ _ _ => rfl
  have K := Lib.hid (KD.new w #[.int .i64 k, .string op, .int .i64 vk, .int .i64 vn, .string vs, .string va, .string f, .slice B n' c'] zv #[.bool false])
  have C := Lib.hid (And.intro hR hK); clear hR hK
  go_enter_defers Try.func14, Try.ntmps14
  go_wp2_with (first
    | (go_at_call 40; ((with_reducible refine (C.out.1 _ K.out.bel).mono ?_); rintro e w1 ⟨rfl, hb⟩; replace K := Lib.hid (K.out.go hb); clear hb; obtain ⟨p0, p1, p2, p3, p4⟩ := K.out.facts))
    | (go_at_call 42; ((with_reducible refine (C.out.2 _ K.out.bel).mono ?_); rintro e w2 ⟨⟨u, pv, rfl⟩, hb⟩; replace K := Lib.hid (K.out.go hb); clear hb p0 p1 p2 p3 p4; obtain ⟨p0, p1, p2, p3, p4⟩ := K.out.facts)))
  refine leaves_cons (f := 41) (args := #[.pointer (some ⟨w.heap.size + 1, 0, none⟩), .pointer (some ⟨w.heap.size + 1 + 1, 0, none⟩)]) (by simp) (by simp [go_sem]) ?_
  refine (catch_panicking (w.heap.size + 1) (w.heap.size + 1 + 1) u pv w2 _ _ _ _ (p1 0) (p1 1) (p1 2) (p2 0) rfl rfl rfl rfl (p3 0) (p3 1) (p3 2) (p4 0) (by omega)).mono ?_
  rintro e u' w'' ⟨rfl, rfl, rfl⟩
  simp [Leaves, settle, results, Try.results14, go_sem, p1, p2, toldV, caught]
  exact K.out.put _ _ _ _
theorem Reckon_tr (t : Tr) (v lv : Value) (l : List Bd) (w : World) (h : TrAt w t v) (ho : t.ok = true) (hs : t.small) (hl : BdsAt w lv l) (hk : okBds l) :
    Calls Try.prog 14 #[t.val v, lv] w fun e w' => e = toldV (evalT l t) ∧ Below w.heap.size w w' := by
  obtain ⟨A0, n, c, rfl⟩ := h.sl
  obtain ⟨A, m, cl, rfl⟩ := hl.sl
  have hR := fun W (hW : Below w.heap.size w W) => Right_tr t _ W (h.later hW) ho
  have hK := fun W (hW : Below w.heap.size w W) => reckon_tr t _ _ l W (h.later hW) ho hs (hl.later hW) hk
  obtain ⟨k', op', vk', vn', vs', va', f', A', n', c', e1, e2⟩ := Tr.val_ev t A0 n c w h
  rw [e1] at hR hK ⊢
  cases he : evalT l t with
  | none => rw [he] at hK; exact Reckon_bad _ _ _ _ _ _ _ _ _ _ _ _ _ w hR hK
  | some v => rw [he] at hK; exact Reckon_ok _ _ _ _ _ _ _ _ _ _ _ _ _ v w hR hK
end Go.Proofs.Ytjddfjapopdciaa
