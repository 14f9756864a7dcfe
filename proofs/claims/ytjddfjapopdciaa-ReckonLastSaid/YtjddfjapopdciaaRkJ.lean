/- Contracts of package reckon: reckon at an operation of one. -/
import Derived.Test.YtjddfjapopdciaaRkI2
import Derived.Deep.RegionHeld2
namespace Go.Proofs.Ytjddfjapopdciaa
open Go.ChangeShapes Go.WideShapes Go.ChangeAt Go.RowKit
open Rk (inR)
set_option linter.unusedVariables false
set_option linter.unusedSimpArgs false

set_option maxHeartbeats 4000000 in
theorem rk_un (op : ByteArray) (a : Addr) (cc : Nat) (A : Option Addr) (m c : Nat) (k' : Int) (op' : ByteArray) (vk' vn' : Int) (vs' va' f' : ByteArray) (A' : Option Addr) (n' c' : Nat) (x v : V3) (w : World)
    (hr : Row8 w a k' op' vk' vn' vs' va' f' (.slice A' n' c'))
    (hK : ∀ W, Below w.heap.size w W → Calls Try.prog 42 #[ev k' op' vk' vn' vs' va' f' (.slice A' n' c'), .slice A m c] W fun e w' => (e = .returned (v3 x)) ∧ Below W.heap.size W w')
    (hU : ∀ W, Calls Try.prog 52 #[.string op, v3 x] W fun e w' => (e = .returned (v3 v)) ∧ Below W.heap.size W w') :
    Calls Try.prog 42 #[ev 3 op 0 0 e0 e0 e0 (.slice (some a) 1 cc), .slice A m c] w fun e w' => Res (some v) e ∧ Below w.heap.size w w' := by
  have K := Lib.hid (K2.new 26 23 w #[.int .i64 3, .string op, .int .i64 0, .int .i64 0, .string e0, .string e0, .string e0, .slice (some a) 1 cc] zv)
  have C := Lib.hid (And.intro hr (And.intro hK hU)); clear hr hK hU
  obtain ⟨x1, x2, x3⟩ := x
  obtain ⟨v1, v2, v4⟩ := v
  go_enter Try.func42, Try.ntmps42
  go_wp2_with fail
  generalize hW : (World.alloc (w.alloc _) _) = W at *
  clear hW
  go_region_held3 (fun w' => (∀ j, w'.cell? ⟨w.heap.size, j, none⟩ = #[Value.int .i64 3, .string op, .int .i64 0, .int .i64 0, .string e0, .string e0, .string e0, .slice (some a) 1 cc][j]?) ∧ w'.cell? a = some (.int .i64 k') ∧ w'.cell? ⟨a.block, a.off + 1, none⟩ = some (.string op') ∧ w'.cell? ⟨a.block, a.off + 2, none⟩ = some (.int .i64 vk') ∧ w'.cell? ⟨a.block, a.off + 3, none⟩ = some (.int .i64 vn') ∧ w'.cell? ⟨a.block, a.off + 4, none⟩ = some (.string vs') ∧ w'.cell? ⟨a.block, a.off + 5, none⟩ = some (.string va') ∧ w'.cell? ⟨a.block, a.off + 6, none⟩ = some (.string f') ∧ w'.cell? ⟨a.block, a.off + 7, none⟩ = some (.slice A' n' c')) (first | exact ⟨K.out.facts.1, C.out.1.later K.out.bel⟩ | exact ⟨K.out.drw.facts.1, C.out.1.later K.out.drw.bel⟩ | exact ⟨by go_keep, C.out.1.later (K.out.put _ _ _)⟩ | go_keep) (first
    | (go_at_call 42; ((with_reducible refine (C.out.2.1 _ ?_).mono ?_); first | exact K.out.bel | exact K.out.drw.bel); rintro e w1 ⟨rfl, hb⟩; (first | replace K := Lib.hid (K.out.go hb) | replace K := Lib.hid (K.out.drw.go hb)); clear hb; obtain ⟨p0, p1, p2, p3⟩ := K.out.facts)
    | (go_at_call 52; ((with_reducible refine (C.out.2.2 _).mono ?_); rintro e w1 ⟨rfl, hb⟩; (first | replace K := Lib.hid (K.out.go hb) | replace K := Lib.hid (K.out.drw.go hb)); clear hb; obtain ⟨p0, p1, p2, p3⟩ := K.out.facts)))
  go_wp2
  exact bodyPost_ret (v := v3 (v1, v2, v4)) (by simp [results, Try.results42, go_sem, p1]) rfl ⟨rfl, K.out.put _ _ _⟩
set_option maxHeartbeats 4000000 in
theorem rk_un_kid (op : ByteArray) (a : Addr) (cc : Nat) (A : Option Addr) (m c : Nat) (k' : Int) (op' : ByteArray) (vk' vn' : Int) (vs' va' f' : ByteArray) (A' : Option Addr) (n' c' : Nat) (x v : V3) (w : World)
    (hr : Row8 w a k' op' vk' vn' vs' va' f' (.slice A' n' c'))
    (hK : ∀ W, Below w.heap.size w W → Calls Try.prog 42 #[ev k' op' vk' vn' vs' va' f' (.slice A' n' c'), .slice A m c] W fun e w' => Res none e ∧ Below W.heap.size W w') :
    Calls Try.prog 42 #[ev 3 op 0 0 e0 e0 e0 (.slice (some a) 1 cc), .slice A m c] w fun e w' => Res (none) e ∧ Below w.heap.size w w' := by
  have K := Lib.hid (K2.new 26 23 w #[.int .i64 3, .string op, .int .i64 0, .int .i64 0, .string e0, .string e0, .string e0, .slice (some a) 1 cc] zv)
  have C := Lib.hid (And.intro hr (And.intro hK trivial)); clear hr hK 
  obtain ⟨x1, x2, x3⟩ := x
  obtain ⟨v1, v2, v4⟩ := v
  go_enter Try.func42, Try.ntmps42
  go_wp2_with fail
  generalize hW : (World.alloc (w.alloc _) _) = W at *
  clear hW
  refine wp_region_held_drew (S := (fun w' => (∀ j, w'.cell? ⟨w.heap.size, j, none⟩ = #[Value.int .i64 3, .string op, .int .i64 0, .int .i64 0, .string e0, .string e0, .string e0, .slice (some a) 1 cc][j]?) ∧ w'.cell? a = some (.int .i64 k') ∧ w'.cell? ⟨a.block, a.off + 1, none⟩ = some (.string op') ∧ w'.cell? ⟨a.block, a.off + 2, none⟩ = some (.int .i64 vk') ∧ w'.cell? ⟨a.block, a.off + 3, none⟩ = some (.int .i64 vn') ∧ w'.cell? ⟨a.block, a.off + 4, none⟩ = some (.string vs') ∧ w'.cell? ⟨a.block, a.off + 5, none⟩ = some (.string va') ∧ w'.cell? ⟨a.block, a.off + 6, none⟩ = some (.string f') ∧ w'.cell? ⟨a.block, a.off + 7, none⟩ = some (.slice A' n' c'))) (by kernel_rfl) ?_ (fun hHeld => ?_)
  · exact ⟨K.out.drw.facts.1, C.out.1.later K.out.drw.bel⟩
  refine wpAnyH_take (i := 0) (v := ?v0) rfl (by kernel_rfl) (by kernel_rfl) (by kernel_rfl) (fun _ _ _ h => h) (Or.inl ⟨by rfl, ?hy0⟩) (by assumption) ?rest0
  case hy0 => (intro w hSw; (try dsimp only at hSw); go_simp; try with_reducible rfl)
  try simp only [Act.put, List.setIfInBounds_toArray, List.set_cons_zero, List.set_cons_succ]
  refine wpAnyH_take (i := 1) (v := ?v1) rfl (by kernel_rfl) (by kernel_rfl) (by kernel_rfl) (fun _ _ _ h => h) (Or.inl ⟨by rfl, ?hy1⟩) (by assumption) ?rest1
  case hy1 => (intro w hSw; (try dsimp only at hSw); go_simp; try with_reducible rfl)
  try simp only [Act.put, List.setIfInBounds_toArray, List.set_cons_zero, List.set_cons_succ]
  refine wpAnyH_take (i := 2) (v := ?v2) rfl (by kernel_rfl) (by kernel_rfl) (by kernel_rfl) (fun _ _ _ h => h) (Or.inl ⟨by rfl, ?hy2⟩) (by assumption) ?rest2
  case hy2 => (intro w hSw; (try dsimp only at hSw); go_simp; try with_reducible rfl)
  try simp only [Act.put, List.setIfInBounds_toArray, List.set_cons_zero, List.set_cons_succ]
  refine wpAnyH_take (i := 3) (v := ?v3) rfl (by kernel_rfl) (by kernel_rfl) (by kernel_rfl) (fun _ _ _ h => h) (Or.inl ⟨by rfl, ?hy3⟩) (by assumption) ?rest3
  case hy3 => (intro w hSw; (try dsimp only at hSw); go_simp; try with_reducible rfl)
  try simp only [Act.put, List.setIfInBounds_toArray, List.set_cons_zero, List.set_cons_succ]
  refine wpAnyH_take (i := 4) (v := ?v4) rfl (by kernel_rfl) (by kernel_rfl) (by kernel_rfl) (fun _ _ _ h => h) (Or.inl ⟨by rfl, ?hy4⟩) (by assumption) ?rest4
  case hy4 => (intro w hSw; (try dsimp only at hSw); go_simp; try with_reducible rfl)
  try simp only [Act.put, List.setIfInBounds_toArray, List.set_cons_zero, List.set_cons_succ]
  refine wpAnyH_take (i := 5) (v := ?v5) rfl (by kernel_rfl) (by kernel_rfl) (by kernel_rfl) (fun _ _ _ h => h) (Or.inl ⟨by rfl, ?hy5⟩) (by assumption) ?rest5
  case hy5 => (intro w hSw; (try dsimp only at hSw); go_simp; try with_reducible rfl)
  try simp only [Act.put, List.setIfInBounds_toArray, List.set_cons_zero, List.set_cons_succ]
  refine wpAnyH_take (i := 6) (v := ?v6) rfl (by kernel_rfl) (by kernel_rfl) (by kernel_rfl) (fun _ _ _ h => h) (Or.inl ⟨by rfl, ?hy6⟩) (by assumption) ?rest6
  case hy6 => (intro w hSw; (try dsimp only at hSw); go_simp; try with_reducible rfl)
  try simp only [Act.put, List.setIfInBounds_toArray, List.set_cons_zero, List.set_cons_succ]
  refine wpAnyH_ready (rs := [7]) (by kernel_rfl) (by simp) ?_
  refine AllReadyH.cons rfl (fun K' hK => ?_) AllReadyH.nil
  go_simp
  go_at_call 42
  refine (C.out.2.1 _ ?_).mono ?_
  · exact K.out.drw.bel
  rintro e w1 ⟨⟨u, pv, rfl⟩, hb⟩
  exact ⟨rfl, ⟨_, _, rfl⟩, (K.out.drw.go hb).bel⟩
set_option maxHeartbeats 4000000 in
theorem rk_un_op (op : ByteArray) (a : Addr) (cc : Nat) (A : Option Addr) (m c : Nat) (k' : Int) (op' : ByteArray) (vk' vn' : Int) (vs' va' f' : ByteArray) (A' : Option Addr) (n' c' : Nat) (x v : V3) (w : World)
    (hr : Row8 w a k' op' vk' vn' vs' va' f' (.slice A' n' c'))
    (hK : ∀ W, Below w.heap.size w W → Calls Try.prog 42 #[ev k' op' vk' vn' vs' va' f' (.slice A' n' c'), .slice A m c] W fun e w' => (e = .returned (v3 x)) ∧ Below W.heap.size W w')
    (hU : ∀ W, Calls Try.prog 52 #[.string op, v3 x] W fun e w' => Res none e ∧ Below W.heap.size W w') :
    Calls Try.prog 42 #[ev 3 op 0 0 e0 e0 e0 (.slice (some a) 1 cc), .slice A m c] w fun e w' => Res (none) e ∧ Below w.heap.size w w' := by
  have K := Lib.hid (K2.new 26 23 w #[.int .i64 3, .string op, .int .i64 0, .int .i64 0, .string e0, .string e0, .string e0, .slice (some a) 1 cc] zv)
  have C := Lib.hid (And.intro hr (And.intro hK hU)); clear hr hK hU
  obtain ⟨x1, x2, x3⟩ := x
  obtain ⟨v1, v2, v4⟩ := v
  go_enter Try.func42, Try.ntmps42
  go_wp2_with fail
  generalize hW : (World.alloc (w.alloc _) _) = W at *
  clear hW
  refine wp_region_held_drew (S := (fun w' => (∀ j, w'.cell? ⟨w.heap.size, j, none⟩ = #[Value.int .i64 3, .string op, .int .i64 0, .int .i64 0, .string e0, .string e0, .string e0, .slice (some a) 1 cc][j]?) ∧ w'.cell? a = some (.int .i64 k') ∧ w'.cell? ⟨a.block, a.off + 1, none⟩ = some (.string op') ∧ w'.cell? ⟨a.block, a.off + 2, none⟩ = some (.int .i64 vk') ∧ w'.cell? ⟨a.block, a.off + 3, none⟩ = some (.int .i64 vn') ∧ w'.cell? ⟨a.block, a.off + 4, none⟩ = some (.string vs') ∧ w'.cell? ⟨a.block, a.off + 5, none⟩ = some (.string va') ∧ w'.cell? ⟨a.block, a.off + 6, none⟩ = some (.string f') ∧ w'.cell? ⟨a.block, a.off + 7, none⟩ = some (.slice A' n' c'))) (by kernel_rfl) ?_ (fun hHeld => ?_)
  · exact ⟨K.out.drw.facts.1, C.out.1.later K.out.drw.bel⟩
  refine wpAnyH_take (i := 0) (v := ?v0) rfl (by kernel_rfl) (by kernel_rfl) (by kernel_rfl) (fun _ _ _ h => h) (Or.inl ⟨by rfl, ?hy0⟩) (by assumption) ?rest0
  case hy0 => (intro w hSw; (try dsimp only at hSw); go_simp; try with_reducible rfl)
  try simp only [Act.put, List.setIfInBounds_toArray, List.set_cons_zero, List.set_cons_succ]
  refine wpAnyH_take (i := 1) (v := ?v1) rfl (by kernel_rfl) (by kernel_rfl) (by kernel_rfl) (fun _ _ _ h => h) (Or.inl ⟨by rfl, ?hy1⟩) (by assumption) ?rest1
  case hy1 => (intro w hSw; (try dsimp only at hSw); go_simp; try with_reducible rfl)
  try simp only [Act.put, List.setIfInBounds_toArray, List.set_cons_zero, List.set_cons_succ]
  refine wpAnyH_take (i := 2) (v := ?v2) rfl (by kernel_rfl) (by kernel_rfl) (by kernel_rfl) (fun _ _ _ h => h) (Or.inl ⟨by rfl, ?hy2⟩) (by assumption) ?rest2
  case hy2 => (intro w hSw; (try dsimp only at hSw); go_simp; try with_reducible rfl)
  try simp only [Act.put, List.setIfInBounds_toArray, List.set_cons_zero, List.set_cons_succ]
  refine wpAnyH_take (i := 3) (v := ?v3) rfl (by kernel_rfl) (by kernel_rfl) (by kernel_rfl) (fun _ _ _ h => h) (Or.inl ⟨by rfl, ?hy3⟩) (by assumption) ?rest3
  case hy3 => (intro w hSw; (try dsimp only at hSw); go_simp; try with_reducible rfl)
  try simp only [Act.put, List.setIfInBounds_toArray, List.set_cons_zero, List.set_cons_succ]
  refine wpAnyH_take (i := 4) (v := ?v4) rfl (by kernel_rfl) (by kernel_rfl) (by kernel_rfl) (fun _ _ _ h => h) (Or.inl ⟨by rfl, ?hy4⟩) (by assumption) ?rest4
  case hy4 => (intro w hSw; (try dsimp only at hSw); go_simp; try with_reducible rfl)
  try simp only [Act.put, List.setIfInBounds_toArray, List.set_cons_zero, List.set_cons_succ]
  refine wpAnyH_take (i := 5) (v := ?v5) rfl (by kernel_rfl) (by kernel_rfl) (by kernel_rfl) (fun _ _ _ h => h) (Or.inl ⟨by rfl, ?hy5⟩) (by assumption) ?rest5
  case hy5 => (intro w hSw; (try dsimp only at hSw); go_simp; try with_reducible rfl)
  try simp only [Act.put, List.setIfInBounds_toArray, List.set_cons_zero, List.set_cons_succ]
  refine wpAnyH_take (i := 6) (v := ?v6) rfl (by kernel_rfl) (by kernel_rfl) (by kernel_rfl) (fun _ _ _ h => h) (Or.inl ⟨by rfl, ?hy6⟩) (by assumption) ?rest6
  case hy6 => (intro w hSw; (try dsimp only at hSw); go_simp; try with_reducible rfl)
  try simp only [Act.put, List.setIfInBounds_toArray, List.set_cons_zero, List.set_cons_succ]
  refine wpAnyH_ready (rs := [7]) (by kernel_rfl) (by simp) ?_
  refine AllReadyH.cons rfl (fun K' hK => ?_) AllReadyH.nil
  go_simp
  go_at_call 42
  refine (C.out.2.1 _ ?_).mono ?_
  · exact K.out.drw.bel
  rintro e w1 ⟨rfl, hb⟩
  replace K := Lib.hid (K.out.drw.go hb)
  clear hb
  refine hK.out _ _ ?_ (fun hHeld => ?_)
  · exact ⟨K.out.facts.1, C.out.1.later K.out.bel⟩
  clear hK K'
  try simp only [Act.put, List.setIfInBounds_toArray, List.set_cons_zero, List.set_cons_succ]
  refine wpAnyH_ready (rs := [8]) (by kernel_rfl) (by simp) ?_
  refine AllReadyH.cons rfl (fun K' hK => ?_) AllReadyH.nil
  go_simp
  go_at_call 52
  refine (C.out.2.2 _).mono ?_
  rintro e w2 ⟨⟨u, pv, rfl⟩, hb⟩
  exact ⟨rfl, ⟨_, _, rfl⟩, (K.out.go hb).bel⟩
end Go.Proofs.Ytjddfjapopdciaa
