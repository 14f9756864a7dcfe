/- Contracts of package reckon: reckon, kind by kind. -/
import Derived.Test.YtjddfjapopdciaaRkI2
import Derived.Deep.RegionHeld3
namespace Go.Proofs.Ytjddfjapopdciaa
open Go.ChangeShapes Go.WideShapes Go.ChangeAt Go.RowKit
open Rk (inR)
set_option linter.unusedVariables false
set_option linter.unusedSimpArgs false

theorem rk_lit (k n : Int) (s : ByteArray) (A : Option Addr) (m c : Nat) (w : World) :
    Calls Try.prog 42 #[ev 0 e0 k n s e0 e0 nilk, .slice A m c] w fun e w' => Res (some (k, n, s)) e ∧ Below w.heap.size w w' := by
  go_enter Try.func42, Try.ntmps42
  go_wp2_with fail
  exact bodyPost_ret (v := v3 (k, n, s)) (by simp [results, Try.results42, go_sem]) rfl ⟨rfl, bt (ba _ _) (ba _ _)⟩
theorem rk_cnt_bad (x : ByteArray) (A : Option Addr) (m c : Nat) (w : World)
    (hB : ∀ W, Below w.heap.size w W → Calls Try.prog 50 #[.slice A m c, .string x] W fun e w' => e = .panicked pMissing ∧ Below W.heap.size W w') :
    Calls Try.prog 42 #[ev 2 e0 0 0 e0 x e0 nilk, .slice A m c] w fun e w' => Res none e ∧ Below w.heap.size w w' := by
  have K := Lib.hid (K2.new 26 23 w #[.int .i64 2, .string e0, .int .i64 0, .int .i64 0, .string e0, .string x, .string e0, nilk] zv)
  have C := Lib.hid (hB _ K.out.1); clear hB
  go_enter Try.func42, Try.ntmps42
  go_wp2_with (go_at_call 50; ((with_reducible refine (C.out).mono ?_); rintro e w1 ⟨rfl, hb⟩; (first | replace K := Lib.hid (K.out.go hb) | replace K := Lib.hid (K.out.drw.go hb)); clear hb; obtain ⟨p0, p1, p2, p3⟩ := K.out.facts))
  exact ⟨rfl, Res.no, K.out.1⟩
set_option maxRecDepth 20000 in
theorem rk_cnt (x : ByteArray) (A : Option Addr) (m c : Nat) (X : Bv) (w : World) (hE : X.2.2.2.1 ≤ 9223372036854775807)
    (hB : ∀ W, Below w.heap.size w W → Calls Try.prog 50 #[.slice A m c, .string x] W fun e w' => e = .returned (.agg #[.string X.1, sl X.2.1, sl X.2.2]) ∧ Below W.heap.size W w') :
    Calls Try.prog 42 #[ev 2 e0 0 0 e0 x e0 nilk, .slice A m c] w fun e w' => Res (some (1, (X.2.2.2.1 : Int), mt)) e ∧ Below w.heap.size w w' := by
  have hE2 := hE
  have K := Lib.hid (K2.new 26 23 w #[.int .i64 2, .string e0, .int .i64 0, .int .i64 0, .string e0, .string x, .string e0, nilk] zv)
  have C := Lib.hid (hB _ K.out.1); clear hB
  obtain ⟨X1, ⟨F1, F2, F3⟩, E1, E2, E3⟩ := X
  have hfd : ∀ w : World, (Instr.field 59 (.agg #[.string X1, .slice F1 F2 F3, .slice E1 E2 E3]) 2).run Try.prog w = .ok (.slice E1 E2 E3) w := fun _ => by kernel_rfl
  go_enter Try.func42, Try.ntmps42
  go_wp2_with (first | (go_at_call 50; ((with_reducible refine (C.out).mono ?_); rintro e w1 ⟨rfl, hb⟩; (first | replace K := Lib.hid (K.out.go hb) | replace K := Lib.hid (K.out.drw.go hb)); clear hb; obtain ⟨p0, p1, p2, p3⟩ := K.out.facts)) | (go_at_call 51; ((with_reducible refine (number_any _ _).mono ?_); rintro e w1 ⟨rfl, hb⟩; (first | replace K := Lib.hid (K.out.go hb) | replace K := Lib.hid (K.out.drw.go hb)); clear hb; obtain ⟨p0, p1, p2, p3⟩ := K.out.facts)))
  exact bodyPost_ret (v := v3 (1, (E2 : Int), mt)) (by simp [results, Try.results42, go_sem, p1]) rfl ⟨rfl, K.out.put _ _ _⟩
set_option maxHeartbeats 2000000 in
theorem rk_ref_bad (x f : ByteArray) (A : Option Addr) (m c : Nat) (w : World)
    (hB : ∀ W, Below w.heap.size w W → Calls Try.prog 50 #[.slice A m c, .string x] W fun e w' => e = .panicked pMissing ∧ Below W.heap.size W w') :
    Calls Try.prog 42 #[ev 1 e0 0 0 e0 x f nilk, .slice A m c] w fun e w' => Res none e ∧ Below w.heap.size w w' := by
  have K := Lib.hid (K2.new 26 23 w #[.int .i64 1, .string e0, .int .i64 0, .int .i64 0, .string e0, .string x, .string f, nilk] zv)
  have C := Lib.hid hB; clear hB
  go_enter Try.func42, Try.ntmps42
  go_wp2_with fail
  generalize hW : (World.alloc (w.alloc _) _) = W at *
  clear hW
  refine wp_region_held_drew (S := (fun w' => ∀ j, w'.cell? ⟨w.heap.size, j, none⟩ = #[Value.int .i64 1, .string e0, .int .i64 0, .int .i64 0, .string e0, .string x, .string f, nilk][j]?)) (by kernel_rfl) ?_ (fun hHeld => ?_)
  · exact K.out.drw.facts.1
  refine wpAnyH_take (i := 0) (v := ?v0) rfl (by kernel_rfl) (by kernel_rfl) (by kernel_rfl) (fun _ _ _ h => h) (Or.inl ⟨by rfl, ?hy0⟩) (by assumption) ?rest0
  case hy0 => (intro w hSw; (try dsimp only at hSw); go_simp; try with_reducible rfl)
  try simp only [Act.put, List.setIfInBounds_toArray, List.set_cons_zero, List.set_cons_succ]
  refine wpAnyH_take (i := 1) (v := ?v1) rfl (by kernel_rfl) (by kernel_rfl) (by kernel_rfl) (fun _ _ _ h => h) (Or.inl ⟨by rfl, ?hy1⟩) (by assumption) ?rest1
  case hy1 => (intro w hSw; (try dsimp only at hSw); go_simp; try with_reducible rfl)
  try simp only [Act.put, List.setIfInBounds_toArray, List.set_cons_zero, List.set_cons_succ]
  refine wpAnyH_take (i := 4) (v := ?v4) rfl (by kernel_rfl) (by kernel_rfl) (by kernel_rfl) (fun _ _ _ h => h) (Or.inl ⟨by rfl, ?hy4⟩) (by assumption) ?rest4
  case hy4 => (intro w hSw; (try dsimp only at hSw); go_simp; try with_reducible rfl)
  try simp only [Act.put, List.setIfInBounds_toArray, List.set_cons_zero, List.set_cons_succ]
  refine wpAnyH_take (i := 2) (v := ?v2) rfl (by kernel_rfl) (by kernel_rfl) (by kernel_rfl) (fun _ _ _ h => h) (Or.inl ⟨by rfl, ?hy2⟩) (by assumption) ?rest2
  case hy2 => (intro w hSw; (try dsimp only at hSw); go_simp; try with_reducible rfl)
  try simp only [Act.put, List.setIfInBounds_toArray, List.set_cons_zero, List.set_cons_succ]
  refine wpAnyH_take (i := 5) (v := ?v5) rfl (by kernel_rfl) (by kernel_rfl) (by kernel_rfl) (fun _ _ _ h => h) (Or.inl ⟨by rfl, ?hy5⟩) (by assumption) ?rest5
  case hy5 => (intro w hSw; (try dsimp only at hSw); go_simp; try with_reducible rfl)
  try simp only [Act.put, List.setIfInBounds_toArray, List.set_cons_zero, List.set_cons_succ]
  refine wpAnyH_ready (rs := [3]) (by kernel_rfl) (by simp) ?_
  refine AllReadyH.cons rfl (fun K' hK => ?_) AllReadyH.nil
  go_simp
  go_at_call 50
  refine (C.out _ ?_).mono ?_
  · exact K.out.drw.bel
  rintro e w1 ⟨rfl, hb⟩
  exact ⟨rfl, Res.no, (K.out.drw.go hb).bel⟩
set_option maxHeartbeats 2000000 in
theorem rk_ref_none (x f : ByteArray) (A : Option Addr) (m c : Nat) (X : Bv) (w : World)
    (hB : ∀ W, Below w.heap.size w W → Calls Try.prog 50 #[.slice A m c, .string x] W fun e w' => e = .returned (.agg #[.string X.1, sl X.2.1, sl X.2.2]) ∧ Below W.heap.size W w')
    (hL : ∀ W, Below w.heap.size w W → Calls Try.prog 49 #[.agg #[.string X.1, sl X.2.1, sl X.2.2], .string f] W fun e w' => Res none e ∧ Below W.heap.size W w') :
    Calls Try.prog 42 #[ev 1 e0 0 0 e0 x f nilk, .slice A m c] w fun e w' => Res none e ∧ Below w.heap.size w w' := by
  have K := Lib.hid (K2.new 26 23 w #[.int .i64 1, .string e0, .int .i64 0, .int .i64 0, .string e0, .string x, .string f, nilk] zv)
  have C := Lib.hid (And.intro hB hL); clear hB hL
  obtain ⟨X1, ⟨F1, F2, F3⟩, E1, E2, E3⟩ := X
  go_enter Try.func42, Try.ntmps42
  go_wp2_with fail
  generalize hW : (World.alloc (w.alloc _) _) = W at *
  clear hW
  refine wp_region_held_drew (S := (fun w' => ∀ j, w'.cell? ⟨w.heap.size, j, none⟩ = #[Value.int .i64 1, .string e0, .int .i64 0, .int .i64 0, .string e0, .string x, .string f, nilk][j]?)) (by kernel_rfl) ?_ (fun hHeld => ?_)
  · exact K.out.drw.facts.1
  refine wpAnyH_take (i := 0) (v := ?v0) rfl (by kernel_rfl) (by kernel_rfl) (by kernel_rfl) (fun _ _ _ h => h) (Or.inl ⟨by rfl, ?hy0⟩) (by assumption) ?rest0
  case hy0 => (intro w hSw; (try dsimp only at hSw); go_simp; try with_reducible rfl)
  try simp only [Act.put, List.setIfInBounds_toArray, List.set_cons_zero, List.set_cons_succ]
  refine wpAnyH_take (i := 1) (v := ?v1) rfl (by kernel_rfl) (by kernel_rfl) (by kernel_rfl) (fun _ _ _ h => h) (Or.inl ⟨by rfl, ?hy1⟩) (by assumption) ?rest1
  case hy1 => (intro w hSw; (try dsimp only at hSw); go_simp; try with_reducible rfl)
  try simp only [Act.put, List.setIfInBounds_toArray, List.set_cons_zero, List.set_cons_succ]
  refine wpAnyH_take (i := 4) (v := ?v4) rfl (by kernel_rfl) (by kernel_rfl) (by kernel_rfl) (fun _ _ _ h => h) (Or.inl ⟨by rfl, ?hy4⟩) (by assumption) ?rest4
  case hy4 => (intro w hSw; (try dsimp only at hSw); go_simp; try with_reducible rfl)
  try simp only [Act.put, List.setIfInBounds_toArray, List.set_cons_zero, List.set_cons_succ]
  refine wpAnyH_take (i := 2) (v := ?v2) rfl (by kernel_rfl) (by kernel_rfl) (by kernel_rfl) (fun _ _ _ h => h) (Or.inl ⟨by rfl, ?hy2⟩) (by assumption) ?rest2
  case hy2 => (intro w hSw; (try dsimp only at hSw); go_simp; try with_reducible rfl)
  try simp only [Act.put, List.setIfInBounds_toArray, List.set_cons_zero, List.set_cons_succ]
  refine wpAnyH_take (i := 5) (v := ?v5) rfl (by kernel_rfl) (by kernel_rfl) (by kernel_rfl) (fun _ _ _ h => h) (Or.inl ⟨by rfl, ?hy5⟩) (by assumption) ?rest5
  case hy5 => (intro w hSw; (try dsimp only at hSw); go_simp; try with_reducible rfl)
  try simp only [Act.put, List.setIfInBounds_toArray, List.set_cons_zero, List.set_cons_succ]
  refine wpAnyH_ready (rs := [3]) (by kernel_rfl) (by simp) ?_
  refine AllReadyH.cons rfl (fun K' hK => ?_) AllReadyH.nil
  go_simp
  go_at_call 50
  refine (C.out.1 _ ?_).mono ?_
  · exact K.out.drw.bel
  rintro e w1 ⟨rfl, hb⟩
  replace K := Lib.hid (K.out.drw.go hb)
  clear hb
  refine hK.out _ _ ?_ (fun hHeld => ?_)
  · exact K.out.facts.1
  clear hK K'
  try simp only [Act.put, List.setIfInBounds_toArray, List.set_cons_zero, List.set_cons_succ]
  refine wpAnyH_ready (rs := [6]) (by kernel_rfl) (by simp) ?_
  refine AllReadyH.cons rfl (fun K' hK => ?_) AllReadyH.nil
  go_simp
  go_at_call 49
  refine (C.out.2 _ ?_).mono ?_
  · exact K.out.bel
  rintro e w2 ⟨⟨u, pv, rfl⟩, hb⟩
  exact ⟨rfl, ⟨_, _, rfl⟩, (K.out.go hb).bel⟩
end Go.Proofs.Ytjddfjapopdciaa
