/- Layer 12: sorting of places; Above. -/
import Derived.Test.YtinonfgehbjneaaGphE
import Derived.Test.YtinonfgehbjneaaShelf
import Derived.Sort.OwnSortedInts
import Derived.Lib.OwnBridge
namespace Go.Proofs.Ytinonfgehbjneaa
open Go.ChangeShapes Go.WideShapes Go.ChangeAt Go.RowKit Go.Maps
open Gr (Nd nmAt frAt cn leadsU leadsL)
set_option linter.unusedVariables false
set_option linter.unusedSimpArgs false

theorem flat_int : ∀ F : List Nat, F.flatMap rowP = (F.map (fun k : Nat => (k : Int))).map (Value.int .i64)
  | [] => rfl
  | k :: F => by rw [List.flatMap_cons, flat_int F]; rfl
/-- Sorted, as natural numbers. -/
theorem sorted_nat (F : List Nat) (hF : F.Nodup) : ∃ L : List Nat, (F.map (fun k : Nat => (k : Int))).mergeSort (fun x y => decide (x ≤ y)) = L.map (fun k : Nat => (k : Int)) ∧ L.length = F.length ∧ L.Pairwise (· < ·) ∧ ∀ k, k ∈ L ↔ k ∈ F := by
  have hp := List.mergeSort_perm (F.map (fun k : Nat => (k : Int))) (fun x y => decide (x ≤ y))
  have hs := List.pairwise_mergeSort (le := fun x y : Int => decide (x ≤ y)) (fun a b c h1 h2 => by simp at *; omega) (fun a b => by simp; omega) (F.map (fun k : Nat => (k : Int)))
  generalize (F.map (fun k : Nat => (k : Int))).mergeSort (fun x y => decide (x ≤ y)) = ys at *
  have hnat : ∀ y ∈ ys, ∃ k : Nat, y = (k : Int) ∧ k ∈ F := fun y hy => by
    obtain ⟨k, hk, rfl⟩ := List.mem_map.1 (hp.mem_iff.1 hy)
    exact ⟨k, rfl, hk⟩
  have he : ys = (ys.map Int.toNat).map (fun k : Nat => (k : Int)) := by
    rw [List.map_map]
    conv => lhs; rw [← List.map_id ys]
    apply List.map_congr_left
    intro y hy
    obtain ⟨k, rfl, _⟩ := hnat y hy
    simp
  have hnd : ys.Nodup := hp.nodup_iff.2 (by
    refine List.pairwise_map.2 (hF.imp fun {a b} h e => h (by omega)))
  refine ⟨ys.map Int.toNat, he, by rw [List.length_map, hp.length_eq, List.length_map], ?_, fun k => ?_⟩
  · refine List.pairwise_map.2 ((hs.and hnd).imp_of_mem fun {a b} ha hb h => ?_)
    obtain ⟨i, rfl, _⟩ := hnat a ha
    obtain ⟨j, rfl, _⟩ := hnat b hb
    obtain ⟨h1, h2⟩ := h
    have h1' : (i : Int) ≤ (j : Int) := by simpa using h1
    simp only [Int.toNat_natCast]
    have : ¬ (i : Int) = (j : Int) := h2
    omega
  · constructor
    · intro hk
      obtain ⟨y, hy, rfl⟩ := List.mem_map.1 hk
      obtain ⟨i, rfl, hi⟩ := hnat y hy
      simpa using hi
    · intro hk
      exact List.mem_map.2 ⟨(k : Int), hp.mem_iff.2 (List.mem_map.2 ⟨k, hk, rfl⟩), by simp⟩
def SortP (r : Value) (F : List Nat) (B : Nat) (w : World) (e : Ending) (w' : World) : Prop :=
  ∃ L, (e = .returned (.tuple #[]) ∧ Own w' B 3 1 rowP r L ∧ L.Pairwise (· < ·) ∧ ∀ k, k ∈ L ↔ k ∈ F) ∧ Below B w w'
theorem sort_any (r : Value) (F : List Nat) (B : Nat) (w : World) (h : Own w B 3 1 rowP r F) (hn : F.Nodup) (hl : F.length ≤ 1000) (hB : B ≤ w.heap.size) :
    Calls Try.prog 31 #[r] w (SortP r F B w) := by
  rcases h.2 with ⟨rfl, h0⟩ | ⟨g, cap, cur, rfl, g1, g2, g3, g4, g5, g6⟩
  · obtain rfl : F = [] := List.eq_nil_of_length_eq_zero h0
    refine (Try.slices_Sort_int_none none 0 w).mono ?_
    rintro e w' ⟨rfl, rfl⟩
    exact ⟨[], ⟨rfl, Own.nil _ _ _ _ _, List.Pairwise.nil, fun k => Iff.rfl⟩, Below.refl _ _⟩
  · obtain ⟨L, e1, e2, e3, e4⟩ := sorted_nat F hn
    have ho : w.ownsRow B 3 1 (.slice (some ⟨g, 0, none⟩) F.length cap) F.length ((F.map (fun k : Nat => (k : Int))).map (Value.int .i64)) := by
      rw [← flat_int]; exact h
    obtain ⟨g', cap', hv, _, hlt, _, _, _, hH⟩ := Lib.holds_of_ownsRow ho (by simp)
    simp only [Value.slice.injEq, Option.some.injEq, Addr.mk.injEq, and_true, true_and] at hv
    obtain ⟨rfl, rfl⟩ := hv
    have hc := Try.slices_Sort_int g 0 cap (F.map (fun k : Nat => (k : Int))) w hH hlt (by rw [List.length_map]; omega)
    rw [List.length_map] at hc
    refine hc.mono ?_
    rintro e w' ⟨rfl, n, os, rfl⟩
    rw [e1]
    have hr := Go.ownsRow_sortedI (w := w) (base := B) (g := g) (cap := cap) (n := n) (e := 3) (os := os) (cur := cur) (ss := F.map (fun k : Nat => (k : Int))) (ts := L.map (fun k : Nat => (k : Int))) (by rw [List.length_map, List.length_map, e2]) g1 g2 (by rw [List.length_map]; exact g3) g4 g5
    have hg := Go.grownBy_sortedI (w := w) (g := g) (n := n) (os := os) (L.map (fun k : Nat => (k : Int))).toArray
    refine ⟨L, ⟨rfl, ?_, e3, e4⟩, grownBy_below hg hB (fun k hk => by cases hk; exact g1)⟩
    unfold Own
    rw [flat_int, e2]
    rw [List.length_map] at hr
    exact hr
/-- Who comes of a name, rising. -/
def AboveP (N : List Nd) (s : ByteArray) (w : World) (e : Ending) (w' : World) : Prop :=
  ∃ r L, (e = .returned r ∧ Own w' w.heap.size 3 1 rowP r L ∧ Rise (Gr.Comes N s) L) ∧ Below w.heap.size w w'
set_option maxHeartbeats 2000000 in
theorem Above_any (v : Value) (N : List Nd) (s : ByteArray) (w : World) (h : NdsAt w v N) (hs : s.size ≤ maxLen) (hn : N.length ≤ 1000) (ht : tot N N.length ≤ 26388279066700) :
    Calls Try.prog 21 #[v, .string s] w (AboveP N s w) := by
  have hw := h
  have cLd := leads_any v N w h hn ht
  obtain ⟨l, h1, h2, h3⟩ := h
  obtain ⟨A, c, rfl, a1, a2, _⟩ := h1.shape
  have H := Lib.hid (And.intro hw cLd); clear h1 h2 h3 hw cLd a1 ht
  go_enter Try.func21, Try.ntmps21
  go_wp2_with (first
    | (go_at_call 29; refine H.out.2.mono ?_; rintro e w1 ⟨m, ⟨rfl, hL⟩, hb1⟩; have K := Lib.hid (And.intro hL hb1); clear hL hb1)
    | (go_at_call 30; refine (climb_any _ N w.heap.size m s w1 (H.out.1.later K.out.2) K.out.1 hs hn).mono ?_; rintro e w2 ⟨r, F, ⟨rfl, oF, nF, cF⟩, hb2⟩; obtain ⟨rA, rn, rc, rfl⟩ := own_shape oF; have K2 := Lib.hid (And.intro (oF.lift K.out.2.size) (And.intro nF (And.intro cF (bt K.out.2 hb2)))); clear oF nF cF hb2)
    | (go_at_call 31; refine (sort_any _ F w.heap.size w2 K2.out.1 K2.out.2.1 (Nat.le_trans (Gr.nodup_len K2.out.2.1 (fun k hk => ((K2.out.2.2.1 k).1 hk).lt)) hn) K2.out.2.2.2.size).mono ?_; rintro e w3 ⟨L, ⟨rfl, oL, pL, mL⟩, hb3⟩; have K3 := Lib.hid (And.intro oL (And.intro pL (And.intro mL hb3))); clear oL pL mL hb3))
  go_ret
  exact ⟨_, L, ⟨rfl, K3.out.1, K3.out.2.1, fun k => (K3.out.2.2.1 k).trans (K2.out.2.2.1 k)⟩, K2.out.2.2.2.trans K3.out.2.2.2⟩
end Go.Proofs.Ytinonfgehbjneaa
