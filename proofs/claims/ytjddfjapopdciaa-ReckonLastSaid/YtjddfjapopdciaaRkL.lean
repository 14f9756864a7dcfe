/- Contracts of package reckon: reckon at an operation of two. -/
import Derived.Test.YtjddfjapopdciaaRkK
import Derived.Deep.RegionHeld2
namespace Go.Proofs.Ytjddfjapopdciaa
open Go.ChangeShapes Go.WideShapes Go.ChangeAt Go.RowKit
open Rk (inR)
set_option linter.unusedVariables false
set_option linter.unusedSimpArgs false

/-- A call's own three rows: what is handed in, what is told, and one more. -/
def K3 (t u : TypeId) (w W : World) (p : Nat) (c d f : Array Value) : Prop := K2 t u w W c d ∧ Blk W p u f ∧ p ≠ w.heap.size + 1
theorem K3.new {t u : TypeId} {w W : World} {c d : Array Value} (h : K2 t u w W c d) (x : Value) (hd : d[0]? = some x) (f : Array Value) : K3 t u w (W.alloc (.cells f u)) W.heap.size c d f :=
  ⟨⟨bt h.1 (ba _ _), h.2.1.alloc _, h.2.2.alloc _⟩, Blk.new W u f, by
    have := World.block_lt_of_cell? W _ ((h.2.2.cell 0).trans hd)
    have h2 : w.heap.size + 1 < W.heap.size := this
    omega⟩
theorem K3.go {t u : TypeId} {w W w1 : World} {p : Nat} {c d f : Array Value} (h : K3 t u w W p c d f) (hb : Below W.heap.size W w1) : K3 t u w w1 p c d f := ⟨h.1.go hb, h.2.1.later hb, h.2.2⟩
theorem K3.drw {t u : TypeId} {w W : World} {p : Nat} {c d f : Array Value} (h : K3 t u w W p c d f) : K3 t u w W.drew p c d f := ⟨h.1.drw, h.2.1, h.2.2⟩
theorem K3.put3 {t u : TypeId} {w W : World} {p : Nat} {c d f : Array Value} (h : K3 t u w W p c d f) (x y z : Value) : ∀ j, (((W.setCell ⟨w.heap.size + 1, 0, none⟩ x).setCell ⟨w.heap.size + 1, 1, none⟩ y).setCell ⟨w.heap.size + 1, 2, none⟩ z).cell? ⟨p, j, none⟩ = f[j]? := fun j => (((h.2.1.far h.2.2 _).far h.2.2 _).far h.2.2 _).cell j
theorem K3.fst {t u : TypeId} {w W : World} {p : Nat} {c d f : Array Value} (h : K3 t u w W p c d f) : ∀ j, W.cell? ⟨p, j, none⟩ = f[j]? := fun j => h.2.1.cell j

theorem rk_bin_bad (op : ByteArray) (a : Addr) (cc : Nat) (A : Option Addr) (m c : Nat) (kx : Int) (opx : ByteArray) (vkx vnx : Int) (vsx vax fx : ByteArray) (Ax : Option Addr) (nx cx : Nat) (w : World)
    (hr : Row8 w a kx opx vkx vnx vsx vax fx (.slice Ax nx cx))
    (hx : ∀ W, Below w.heap.size w W → Calls Try.prog 42 #[ev kx opx vkx vnx vsx vax fx (.slice Ax nx cx), .slice A m c] W fun e w' => Res none e ∧ Below W.heap.size W w') :
    Calls Try.prog 42 #[ev 4 op 0 0 e0 e0 e0 (.slice (some a) 2 cc), .slice A m c] w fun e w' => Res none e ∧ Below w.heap.size w w' := by
  have K := Lib.hid (K2.new 26 23 w #[.int .i64 4, .string op, .int .i64 0, .int .i64 0, .string e0, .string e0, .string e0, .slice (some a) 2 cc] zv)
  have C := Lib.hid (And.intro hr (hx _ K.out.1)); clear hr hx
  obtain ⟨c0, c1, c2, c3, c4, c5, c6, c7⟩ := C.out.1.later K.out.bel
  go_enter Try.func42, Try.ntmps42
  go_wp2_with (go_at_call 42; ((with_reducible refine (C.out.2).mono ?_); rintro e w1 ⟨⟨u, pv, rfl⟩, hb⟩; exact ⟨rfl, ⟨_, _, rfl⟩, (K.out.go hb).bel⟩))
set_option maxHeartbeats 4000000 in
theorem rk_bin_short (op : ByteArray) (a : Addr) (cc : Nat) (A : Option Addr) (m c : Nat) (kx : Int) (opx : ByteArray) (vkx vnx : Int) (vsx vax fx : ByteArray) (Ax : Option Addr) (nx cx : Nat) (x : V3) (w : World) (hs : scB op x = true)
    (hr : Row8 w a kx opx vkx vnx vsx vax fx (.slice Ax nx cx))
    (hx : ∀ W, Below w.heap.size w W → Calls Try.prog 42 #[ev kx opx vkx vnx vsx vax fx (.slice Ax nx cx), .slice A m c] W fun e w' => (e = .returned (v3 x)) ∧ Below W.heap.size W w') :
    Calls Try.prog 42 #[ev 4 op 0 0 e0 e0 e0 (.slice (some a) 2 cc), .slice A m c] w fun e w' => Res (some x) e ∧ Below w.heap.size w w' := by
  have K := Lib.hid (K2.new 26 23 w #[.int .i64 4, .string op, .int .i64 0, .int .i64 0, .string e0, .string e0, .string e0, .slice (some a) 2 cc] zv)
  have C := Lib.hid (And.intro hr (And.intro (hx _ K.out.1) trivial)); clear hr hx
  obtain ⟨x1, x2, x3⟩ := x
  obtain ⟨c0, c1, c2, c3, c4, c5, c6, c7⟩ := C.out.1.later K.out.bel
  go_enter Try.func42, Try.ntmps42
  go_wp2_with (go_at_call 42; ((with_reducible refine (C.out.2.1).mono ?_); rintro e w1 ⟨rfl, hb⟩; replace K := Lib.hid (K.out.go hb); clear hb c0 c1 c2 c3 c4 c5 c6 c7))
  have K := Lib.hid (K3.new K.out _ rfl #[.int .i64 x1, .int .i64 x2, .string x3])
  have hp : w1.heap.size = w1.heap.size := rfl
  generalize w1.alloc _ = W3 at *
  generalize w1.heap.size = p at *
  clear hp
  refine wp_of_eq (c' := ((Try.f42.body.bind (regionN 11)).getD .skip)) ?_ (by kernel_rfl)
  refine test_any _ _ _ _ _ _ _ _ _ _ _ _ _ _ _ _ _ _ _ _ _ _ _ _ _ _ _ _ _ _ _ _ _ _ _ _ _ _ _ _ _ _ _ _ _ _ _ _ _ _ _ _ _ _ _ _ _ _ _ _ _ _ _ _ _ _ _ _ _ _ _ _ _ _ (K.out.1.facts.1 1) (K.out.fst 0) (K.out.fst 1) (K.out.fst 2) (fun _ _ _ _ _ _ _ _ _ _ _ _ _ _ _ _ _ wx hbx => ?_)
  replace K := Lib.hid (K.out.go hbx)
  clear hbx
  rw [hs]
  obtain ⟨p0, p1, p2, p3⟩ := K.out.1.facts
  have q1 := K.out.fst
  go_wp2
  exact bodyPost_ret (v := v3 (x1, x2, x3)) (by simp [results, Try.results42, go_sem, p1]) rfl ⟨rfl, K.out.1.put _ _ _⟩
set_option maxHeartbeats 4000000 in
theorem rk_bin_ok (op : ByteArray) (a : Addr) (cc : Nat) (A : Option Addr) (m c : Nat) (kx : Int) (opx : ByteArray) (vkx vnx : Int) (vsx vax fx : ByteArray) (Ax : Option Addr) (nx cx : Nat) (ky : Int) (opy : ByteArray) (vky vny : Int) (vsy vay fy : ByteArray) (Ay : Option Addr) (ny cy : Nat) (x y v : V3) (w : World) (hs : scB op x = false)
    (hr : Row8 w a kx opx vkx vnx vsx vax fx (.slice Ax nx cx))
    (hq : Row8 w (a.add 8) ky opy vky vny vsy vay fy (.slice Ay ny cy))
    (hx : ∀ W, Below w.heap.size w W → Calls Try.prog 42 #[ev kx opx vkx vnx vsx vax fx (.slice Ax nx cx), .slice A m c] W fun e w' => (e = .returned (v3 x)) ∧ Below W.heap.size W w')
    (hy : ∀ W, Below w.heap.size w W → Calls Try.prog 42 #[ev ky opy vky vny vsy vay fy (.slice Ay ny cy), .slice A m c] W fun e w' => (e = .returned (v3 y)) ∧ Below W.heap.size W w')
    (hb : ∀ W, Calls Try.prog 53 #[.string op, v3 x, v3 y] W fun e w' => (e = .returned (v3 v)) ∧ Below W.heap.size W w') :
    Calls Try.prog 42 #[ev 4 op 0 0 e0 e0 e0 (.slice (some a) 2 cc), .slice A m c] w fun e w' => Res (some v) e ∧ Below w.heap.size w w' := by
  have K := Lib.hid (K2.new 26 23 w #[.int .i64 4, .string op, .int .i64 0, .int .i64 0, .string e0, .string e0, .string e0, .slice (some a) 2 cc] zv)
  have C := Lib.hid (And.intro (And.intro hr hq) (And.intro (hx _ K.out.1) (And.intro hy hb))); clear hr hq hx hy hb
  obtain ⟨y1, y2, y3⟩ := y
  obtain ⟨v1, v2, v4⟩ := v
  obtain ⟨x1, x2, x3⟩ := x
  obtain ⟨c0, c1, c2, c3, c4, c5, c6, c7⟩ := C.out.1.1.later K.out.bel
  go_enter Try.func42, Try.ntmps42
  go_wp2_with (go_at_call 42; ((with_reducible refine (C.out.2.1).mono ?_); rintro e w1 ⟨rfl, hb⟩; replace K := Lib.hid (K.out.go hb); clear hb c0 c1 c2 c3 c4 c5 c6 c7))
  have K := Lib.hid (K3.new K.out _ rfl #[.int .i64 x1, .int .i64 x2, .string x3])
  have hp : w1.heap.size = w1.heap.size := rfl
  generalize w1.alloc _ = W3 at *
  generalize w1.heap.size = p at *
  clear hp
  refine wp_of_eq (c' := ((Try.f42.body.bind (regionN 11)).getD .skip)) ?_ (by kernel_rfl)
  refine test_any _ _ _ _ _ _ _ _ _ _ _ _ _ _ _ _ _ _ _ _ _ _ _ _ _ _ _ _ _ _ _ _ _ _ _ _ _ _ _ _ _ _ _ _ _ _ _ _ _ _ _ _ _ _ _ _ _ _ _ _ _ _ _ _ _ _ _ _ _ _ _ _ _ _ (K.out.1.facts.1 1) (K.out.fst 0) (K.out.fst 1) (K.out.fst 2) (fun _ _ _ _ _ _ _ _ _ _ _ _ _ _ _ _ _ wx hbx => ?_)
  replace K := Lib.hid (K.out.go hbx)
  clear hbx
  rw [hs]
  have hpne := K.out.2.2
  go_wp2_with fail
  go_region_held2 (fun w' => (∀ j, w'.cell? ⟨w.heap.size, j, none⟩ = #[Value.int .i64 4, .string op, .int .i64 0, .int .i64 0, .string e0, .string e0, .string e0, .slice (some a) 2 cc][j]?) ∧ (∀ j, w'.cell? ⟨p, j, none⟩ = #[Value.int .i64 x1, .int .i64 x2, .string x3][j]?) ∧ w'.cell? ⟨a.block, a.off + 8, none⟩ = some (.int .i64 ky) ∧ w'.cell? ⟨a.block, a.off + 8 + 1, none⟩ = some (.string opy) ∧ w'.cell? ⟨a.block, a.off + 8 + 2, none⟩ = some (.int .i64 vky) ∧ w'.cell? ⟨a.block, a.off + 8 + 3, none⟩ = some (.int .i64 vny) ∧ w'.cell? ⟨a.block, a.off + 8 + 4, none⟩ = some (.string vsy) ∧ w'.cell? ⟨a.block, a.off + 8 + 5, none⟩ = some (.string vay) ∧ w'.cell? ⟨a.block, a.off + 8 + 6, none⟩ = some (.string fy) ∧ w'.cell? ⟨a.block, a.off + 8 + 7, none⟩ = some (.slice Ay ny cy)) (first | exact ⟨K.out.1.facts.1, K.out.fst, C.out.1.2.later K.out.1.bel⟩ | exact ⟨K.out.drw.1.facts.1, K.out.drw.fst, C.out.1.2.later K.out.drw.1.bel⟩ | exact ⟨by go_keep, K.out.put3 _ _ _, C.out.1.2.later (K.out.1.put _ _ _)⟩ | go_keep) (first
    | (go_at_call 42; ((with_reducible refine (C.out.2.2.1 _ ?_).mono ?_); first | exact K.out.1.bel | exact K.out.drw.1.bel); rintro e w1 ⟨rfl, hb⟩; (first | replace K := Lib.hid (K.out.go hb) | replace K := Lib.hid (K.out.drw.go hb)); clear hb; obtain ⟨p0, p1, p2, p3⟩ := K.out.1.facts)
    | (go_at_call 53; ((with_reducible refine (C.out.2.2.2 _).mono ?_); rintro e w1 ⟨rfl, hb⟩; (first | replace K := Lib.hid (K.out.go hb) | replace K := Lib.hid (K.out.drw.go hb)); clear hb; obtain ⟨p0, p1, p2, p3⟩ := K.out.1.facts)))
  go_wp2
  exact bodyPost_ret (v := v3 (v1, v2, v4)) (by simp [results, Try.results42, go_sem, p1]) rfl ⟨rfl, K.out.1.put _ _ _⟩
set_option maxHeartbeats 4000000 in
theorem rk_bin_kid (op : ByteArray) (a : Addr) (cc : Nat) (A : Option Addr) (m c : Nat) (kx : Int) (opx : ByteArray) (vkx vnx : Int) (vsx vax fx : ByteArray) (Ax : Option Addr) (nx cx : Nat) (ky : Int) (opy : ByteArray) (vky vny : Int) (vsy vay fy : ByteArray) (Ay : Option Addr) (ny cy : Nat) (x y v : V3) (w : World) (hs : scB op x = false)
    (hr : Row8 w a kx opx vkx vnx vsx vax fx (.slice Ax nx cx))
    (hq : Row8 w (a.add 8) ky opy vky vny vsy vay fy (.slice Ay ny cy))
    (hx : ∀ W, Below w.heap.size w W → Calls Try.prog 42 #[ev kx opx vkx vnx vsx vax fx (.slice Ax nx cx), .slice A m c] W fun e w' => (e = .returned (v3 x)) ∧ Below W.heap.size W w')
    (hy : ∀ W, Below w.heap.size w W → Calls Try.prog 42 #[ev ky opy vky vny vsy vay fy (.slice Ay ny cy), .slice A m c] W fun e w' => Res none e ∧ Below W.heap.size W w') :
    Calls Try.prog 42 #[ev 4 op 0 0 e0 e0 e0 (.slice (some a) 2 cc), .slice A m c] w fun e w' => Res (none) e ∧ Below w.heap.size w w' := by
  have K := Lib.hid (K2.new 26 23 w #[.int .i64 4, .string op, .int .i64 0, .int .i64 0, .string e0, .string e0, .string e0, .slice (some a) 2 cc] zv)
  have C := Lib.hid (And.intro (And.intro hr hq) (And.intro (hx _ K.out.1) (And.intro hy trivial))); clear hr hq hx hy 
  obtain ⟨y1, y2, y3⟩ := y
  obtain ⟨v1, v2, v4⟩ := v
  obtain ⟨x1, x2, x3⟩ := x
  obtain ⟨c0, c1, c2, c3, c4, c5, c6, c7⟩ := C.out.1.1.later K.out.bel
  go_enter Try.func42, Try.ntmps42
  go_wp2_with (go_at_call 42; ((with_reducible refine (C.out.2.1).mono ?_); rintro e w1 ⟨rfl, hb⟩; replace K := Lib.hid (K.out.go hb); clear hb c0 c1 c2 c3 c4 c5 c6 c7))
  have K := Lib.hid (K3.new K.out _ rfl #[.int .i64 x1, .int .i64 x2, .string x3])
  have hp : w1.heap.size = w1.heap.size := rfl
  generalize w1.alloc _ = W3 at *
  generalize w1.heap.size = p at *
  clear hp
  refine wp_of_eq (c' := ((Try.f42.body.bind (regionN 11)).getD .skip)) ?_ (by kernel_rfl)
  refine test_any _ _ _ _ _ _ _ _ _ _ _ _ _ _ _ _ _ _ _ _ _ _ _ _ _ _ _ _ _ _ _ _ _ _ _ _ _ _ _ _ _ _ _ _ _ _ _ _ _ _ _ _ _ _ _ _ _ _ _ _ _ _ _ _ _ _ _ _ _ _ _ _ _ _ (K.out.1.facts.1 1) (K.out.fst 0) (K.out.fst 1) (K.out.fst 2) (fun _ _ _ _ _ _ _ _ _ _ _ _ _ _ _ _ _ wx hbx => ?_)
  replace K := Lib.hid (K.out.go hbx)
  clear hbx
  rw [hs]
  have hpne := K.out.2.2
  go_wp2_with fail
  refine wp_region_held_drew (S := (fun w' => (∀ j, w'.cell? ⟨w.heap.size, j, none⟩ = #[Value.int .i64 4, .string op, .int .i64 0, .int .i64 0, .string e0, .string e0, .string e0, .slice (some a) 2 cc][j]?) ∧ (∀ j, w'.cell? ⟨p, j, none⟩ = #[Value.int .i64 x1, .int .i64 x2, .string x3][j]?) ∧ w'.cell? ⟨a.block, a.off + 8, none⟩ = some (.int .i64 ky) ∧ w'.cell? ⟨a.block, a.off + 8 + 1, none⟩ = some (.string opy) ∧ w'.cell? ⟨a.block, a.off + 8 + 2, none⟩ = some (.int .i64 vky) ∧ w'.cell? ⟨a.block, a.off + 8 + 3, none⟩ = some (.int .i64 vny) ∧ w'.cell? ⟨a.block, a.off + 8 + 4, none⟩ = some (.string vsy) ∧ w'.cell? ⟨a.block, a.off + 8 + 5, none⟩ = some (.string vay) ∧ w'.cell? ⟨a.block, a.off + 8 + 6, none⟩ = some (.string fy) ∧ w'.cell? ⟨a.block, a.off + 8 + 7, none⟩ = some (.slice Ay ny cy))) (by kernel_rfl) ?_ (fun hHeld => ?_)
  · exact ⟨K.out.drw.1.facts.1, K.out.drw.fst, C.out.1.2.later K.out.drw.1.bel⟩
  refine wpAnyH_take (i := 0) (v := ?v0) rfl (by kernel_rfl) (by kernel_rfl) (by kernel_rfl) (fun _ _ _ h => h) (Or.inl ⟨by rfl, ?hy0⟩) (by assumption) ?rest0
  case hy0 => (intro w hSw; (try dsimp only at hSw); go_simp; try with_reducible rfl)
  try simp only [Act.put, List.setIfInBounds_toArray, List.set_cons_zero, List.set_cons_succ]
  refine wpAnyH_take (i := 1) (v := ?v1) rfl (by kernel_rfl) (by kernel_rfl) (by kernel_rfl) (fun _ _ _ h => h) (Or.inl ⟨by rfl, ?hy1⟩) (by assumption) ?rest1
  case hy1 => (intro w hSw; (try dsimp only at hSw); go_simp; try with_reducible rfl)
  try simp only [Act.put, List.setIfInBounds_toArray, List.set_cons_zero, List.set_cons_succ]
  refine wpAnyH_take (i := 2) (v := ?v2) rfl (by kernel_rfl) (by kernel_rfl) (by kernel_rfl) (fun _ _ _ h => h) (Or.inl ⟨by rfl, ?hy2⟩) (by assumption) ?rest2
  case hy2 => (intro w hSw; (try dsimp only at hSw); go_simp; try with_reducible rfl)
  try simp only [Act.put, List.setIfInBounds_toArray, List.set_cons_zero, List.set_cons_succ]
  refine wpAnyH_take (i := 3) (v := ?v3) rfl (by kernel_rfl) (by kernel_rfl) (by kernel_rfl) (fun _ _ _ h => h) (Or.inl ⟨by rfl, ?hy3⟩) (by assumption) ?rest3
  case hy3 => (intro w hSw; (try dsimp only at hSw); go_simp; try with_reducible rfl)
  try simp only [Act.put, List.setIfInBounds_toArray, List.set_cons_zero, List.set_cons_succ]
  refine wpAnyH_take (i := 4) (v := ?v4) rfl (by kernel_rfl) (by kernel_rfl) (by kernel_rfl) (fun _ _ _ h => h) (Or.inl ⟨by rfl, ?hy4⟩) (by assumption) ?rest4
  case hy4 => (intro w hSw; (try dsimp only at hSw); go_simp; try with_reducible rfl)
  try simp only [Act.put, List.setIfInBounds_toArray, List.set_cons_zero, List.set_cons_succ]
  refine wpAnyH_take (i := 5) (v := ?v5) rfl (by kernel_rfl) (by kernel_rfl) (by kernel_rfl) (fun _ _ _ h => h) (Or.inl ⟨by rfl, ?hy5⟩) (by assumption) ?rest5
  case hy5 => (intro w hSw; (try dsimp only at hSw); go_simp; try with_reducible rfl)
  try simp only [Act.put, List.setIfInBounds_toArray, List.set_cons_zero, List.set_cons_succ]
  refine wpAnyH_take (i := 6) (v := ?v6) rfl (by kernel_rfl) (by kernel_rfl) (by kernel_rfl) (fun _ _ _ h => h) (Or.inl ⟨by rfl, ?hy6⟩) (by assumption) ?rest6
  case hy6 => (intro w hSw; (try dsimp only at hSw); go_simp; try with_reducible rfl)
  try simp only [Act.put, List.setIfInBounds_toArray, List.set_cons_zero, List.set_cons_succ]
  refine wpAnyH_take (i := 7) (v := ?v7) rfl (by kernel_rfl) (by kernel_rfl) (by kernel_rfl) (fun _ _ _ h => h) (Or.inl ⟨by rfl, ?hy7⟩) (by assumption) ?rest7
  case hy7 => (intro w hSw; (try dsimp only at hSw); go_simp; try with_reducible rfl)
  try simp only [Act.put, List.setIfInBounds_toArray, List.set_cons_zero, List.set_cons_succ]
  refine wpAnyH_ready (rs := [8]) (by kernel_rfl) (by simp) ?_
  refine AllReadyH.cons rfl (fun K' hK => ?_) AllReadyH.nil
  go_simp
  go_at_call 42
  refine (C.out.2.2.1 _ ?_).mono ?_
  · exact K.out.drw.1.bel
  rintro e w1 ⟨⟨u, pv, rfl⟩, hb⟩
  exact ⟨rfl, ⟨_, _, rfl⟩, (K.out.drw.go hb).1.bel⟩
set_option maxHeartbeats 4000000 in
theorem rk_bin_op (op : ByteArray) (a : Addr) (cc : Nat) (A : Option Addr) (m c : Nat) (kx : Int) (opx : ByteArray) (vkx vnx : Int) (vsx vax fx : ByteArray) (Ax : Option Addr) (nx cx : Nat) (ky : Int) (opy : ByteArray) (vky vny : Int) (vsy vay fy : ByteArray) (Ay : Option Addr) (ny cy : Nat) (x y v : V3) (w : World) (hs : scB op x = false)
    (hr : Row8 w a kx opx vkx vnx vsx vax fx (.slice Ax nx cx))
    (hq : Row8 w (a.add 8) ky opy vky vny vsy vay fy (.slice Ay ny cy))
    (hx : ∀ W, Below w.heap.size w W → Calls Try.prog 42 #[ev kx opx vkx vnx vsx vax fx (.slice Ax nx cx), .slice A m c] W fun e w' => (e = .returned (v3 x)) ∧ Below W.heap.size W w')
    (hy : ∀ W, Below w.heap.size w W → Calls Try.prog 42 #[ev ky opy vky vny vsy vay fy (.slice Ay ny cy), .slice A m c] W fun e w' => (e = .returned (v3 y)) ∧ Below W.heap.size W w')
    (hb : ∀ W, Calls Try.prog 53 #[.string op, v3 x, v3 y] W fun e w' => Res none e ∧ Below W.heap.size W w') :
    Calls Try.prog 42 #[ev 4 op 0 0 e0 e0 e0 (.slice (some a) 2 cc), .slice A m c] w fun e w' => Res (none) e ∧ Below w.heap.size w w' := by
  have K := Lib.hid (K2.new 26 23 w #[.int .i64 4, .string op, .int .i64 0, .int .i64 0, .string e0, .string e0, .string e0, .slice (some a) 2 cc] zv)
  have C := Lib.hid (And.intro (And.intro hr hq) (And.intro (hx _ K.out.1) (And.intro hy hb))); clear hr hq hx hy hb
  obtain ⟨y1, y2, y3⟩ := y
  obtain ⟨v1, v2, v4⟩ := v
  obtain ⟨x1, x2, x3⟩ := x
  obtain ⟨c0, c1, c2, c3, c4, c5, c6, c7⟩ := C.out.1.1.later K.out.bel
  go_enter Try.func42, Try.ntmps42
  go_wp2_with (go_at_call 42; ((with_reducible refine (C.out.2.1).mono ?_); rintro e w1 ⟨rfl, hb⟩; replace K := Lib.hid (K.out.go hb); clear hb c0 c1 c2 c3 c4 c5 c6 c7))
  have K := Lib.hid (K3.new K.out _ rfl #[.int .i64 x1, .int .i64 x2, .string x3])
  have hp : w1.heap.size = w1.heap.size := rfl
  generalize w1.alloc _ = W3 at *
  generalize w1.heap.size = p at *
  clear hp
  refine wp_of_eq (c' := ((Try.f42.body.bind (regionN 11)).getD .skip)) ?_ (by kernel_rfl)
  refine test_any _ _ _ _ _ _ _ _ _ _ _ _ _ _ _ _ _ _ _ _ _ _ _ _ _ _ _ _ _ _ _ _ _ _ _ _ _ _ _ _ _ _ _ _ _ _ _ _ _ _ _ _ _ _ _ _ _ _ _ _ _ _ _ _ _ _ _ _ _ _ _ _ _ _ (K.out.1.facts.1 1) (K.out.fst 0) (K.out.fst 1) (K.out.fst 2) (fun _ _ _ _ _ _ _ _ _ _ _ _ _ _ _ _ _ wx hbx => ?_)
  replace K := Lib.hid (K.out.go hbx)
  clear hbx
  rw [hs]
  have hpne := K.out.2.2
  go_wp2_with fail
  refine wp_region_held_drew (S := (fun w' => (∀ j, w'.cell? ⟨w.heap.size, j, none⟩ = #[Value.int .i64 4, .string op, .int .i64 0, .int .i64 0, .string e0, .string e0, .string e0, .slice (some a) 2 cc][j]?) ∧ (∀ j, w'.cell? ⟨p, j, none⟩ = #[Value.int .i64 x1, .int .i64 x2, .string x3][j]?) ∧ w'.cell? ⟨a.block, a.off + 8, none⟩ = some (.int .i64 ky) ∧ w'.cell? ⟨a.block, a.off + 8 + 1, none⟩ = some (.string opy) ∧ w'.cell? ⟨a.block, a.off + 8 + 2, none⟩ = some (.int .i64 vky) ∧ w'.cell? ⟨a.block, a.off + 8 + 3, none⟩ = some (.int .i64 vny) ∧ w'.cell? ⟨a.block, a.off + 8 + 4, none⟩ = some (.string vsy) ∧ w'.cell? ⟨a.block, a.off + 8 + 5, none⟩ = some (.string vay) ∧ w'.cell? ⟨a.block, a.off + 8 + 6, none⟩ = some (.string fy) ∧ w'.cell? ⟨a.block, a.off + 8 + 7, none⟩ = some (.slice Ay ny cy))) (by kernel_rfl) ?_ (fun hHeld => ?_)
  · exact ⟨K.out.drw.1.facts.1, K.out.drw.fst, C.out.1.2.later K.out.drw.1.bel⟩
  refine wpAnyH_take (i := 0) (v := ?v0) rfl (by kernel_rfl) (by kernel_rfl) (by kernel_rfl) (fun _ _ _ h => h) (Or.inl ⟨by rfl, ?hy0⟩) (by assumption) ?rest0
  case hy0 => (intro w hSw; (try dsimp only at hSw); go_simp; try with_reducible rfl)
  try simp only [Act.put, List.setIfInBounds_toArray, List.set_cons_zero, List.set_cons_succ]
  refine wpAnyH_take (i := 1) (v := ?v1) rfl (by kernel_rfl) (by kernel_rfl) (by kernel_rfl) (fun _ _ _ h => h) (Or.inl ⟨by rfl, ?hy1⟩) (by assumption) ?rest1
  case hy1 => (intro w hSw; (try dsimp only at hSw); go_simp; try with_reducible rfl)
  try simp only [Act.put, List.setIfInBounds_toArray, List.set_cons_zero, List.set_cons_succ]
  refine wpAnyH_take (i := 2) (v := ?v2) rfl (by kernel_rfl) (by kernel_rfl) (by kernel_rfl) (fun _ _ _ h => h) (Or.inl ⟨by rfl, ?hy2⟩) (by assumption) ?rest2
  case hy2 => (intro w hSw; (try dsimp only at hSw); go_simp; try with_reducible rfl)
  try simp only [Act.put, List.setIfInBounds_toArray, List.set_cons_zero, List.set_cons_succ]
  refine wpAnyH_take (i := 3) (v := ?v3) rfl (by kernel_rfl) (by kernel_rfl) (by kernel_rfl) (fun _ _ _ h => h) (Or.inl ⟨by rfl, ?hy3⟩) (by assumption) ?rest3
  case hy3 => (intro w hSw; (try dsimp only at hSw); go_simp; try with_reducible rfl)
  try simp only [Act.put, List.setIfInBounds_toArray, List.set_cons_zero, List.set_cons_succ]
  refine wpAnyH_take (i := 4) (v := ?v4) rfl (by kernel_rfl) (by kernel_rfl) (by kernel_rfl) (fun _ _ _ h => h) (Or.inl ⟨by rfl, ?hy4⟩) (by assumption) ?rest4
  case hy4 => (intro w hSw; (try dsimp only at hSw); go_simp; try with_reducible rfl)
  try simp only [Act.put, List.setIfInBounds_toArray, List.set_cons_zero, List.set_cons_succ]
  refine wpAnyH_take (i := 5) (v := ?v5) rfl (by kernel_rfl) (by kernel_rfl) (by kernel_rfl) (fun _ _ _ h => h) (Or.inl ⟨by rfl, ?hy5⟩) (by assumption) ?rest5
  case hy5 => (intro w hSw; (try dsimp only at hSw); go_simp; try with_reducible rfl)
  try simp only [Act.put, List.setIfInBounds_toArray, List.set_cons_zero, List.set_cons_succ]
  refine wpAnyH_take (i := 6) (v := ?v6) rfl (by kernel_rfl) (by kernel_rfl) (by kernel_rfl) (fun _ _ _ h => h) (Or.inl ⟨by rfl, ?hy6⟩) (by assumption) ?rest6
  case hy6 => (intro w hSw; (try dsimp only at hSw); go_simp; try with_reducible rfl)
  try simp only [Act.put, List.setIfInBounds_toArray, List.set_cons_zero, List.set_cons_succ]
  refine wpAnyH_take (i := 7) (v := ?v7) rfl (by kernel_rfl) (by kernel_rfl) (by kernel_rfl) (fun _ _ _ h => h) (Or.inl ⟨by rfl, ?hy7⟩) (by assumption) ?rest7
  case hy7 => (intro w hSw; (try dsimp only at hSw); go_simp; try with_reducible rfl)
  try simp only [Act.put, List.setIfInBounds_toArray, List.set_cons_zero, List.set_cons_succ]
  refine wpAnyH_ready (rs := [8]) (by kernel_rfl) (by simp) ?_
  refine AllReadyH.cons rfl (fun K' hK => ?_) AllReadyH.nil
  go_simp
  go_at_call 42
  refine (C.out.2.2.1 _ ?_).mono ?_
  · exact K.out.drw.1.bel
  rintro e w1 ⟨rfl, hb⟩
  replace K := Lib.hid (K.out.drw.go hb)
  clear hb
  refine hK.out _ _ ?_ (fun hHeld => ?_)
  · exact ⟨K.out.1.facts.1, K.out.fst, C.out.1.2.later K.out.1.bel⟩
  clear hK K'
  try simp only [Act.put, List.setIfInBounds_toArray, List.set_cons_zero, List.set_cons_succ]
  refine wpAnyH_ready (rs := [9]) (by kernel_rfl) (by simp) ?_
  refine AllReadyH.cons rfl (fun K' hK => ?_) AllReadyH.nil
  go_simp
  go_at_call 53
  refine (C.out.2.2.2 _).mono ?_
  rintro e w2 ⟨⟨u, pv, rfl⟩, hb⟩
  exact ⟨rfl, ⟨_, _, rfl⟩, (K.out.go hb).1.bel⟩
end Go.Proofs.Ytjddfjapopdciaa
