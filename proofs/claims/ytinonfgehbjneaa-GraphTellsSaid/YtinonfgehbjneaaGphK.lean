/- Layer 12: Order. -/
import Derived.Test.YtinonfgehbjneaaGphJ
namespace Go.Proofs.Ytinonfgehbjneaa
open Go.ChangeShapes Go.WideShapes Go.ChangeAt Go.RowKit Go.Maps
open Gr (Nd nmAt frAt cn leadsU leadsL IsOrder Dist Loopy RankFull)
set_option linter.unusedVariables false
set_option linter.unusedSimpArgs false

set_option maxHeartbeats 2000000 in
theorem stable_any (gd n c g : Nat) (R : List Nat) (w : World) (h : Own w gd 3 1 rowP (.slice (some ⟨gd, 0, none⟩) n c) (List.range n)) (hn : n < 20)
    (cF : ∀ X (a b : Nat), Below gd w X → a < n → b < n → Calls Try.prog 27 #[.int .i64 (a : Int), .int .i64 (b : Int), .pointer (some ⟨g, 0, none⟩)] X fun e w' => e = .returned (.int .i64 (cmpN (R.getD a 0) (R.getD b 0))) ∧ Below X.heap.size X w') :
    Calls Try.prog 33 #[.slice (some ⟨gd, 0, none⟩) n c, .int .i64 (n : Int), .func (.func 27) #[] #[.pointer (some ⟨g, 0, none⟩)]] w (SortedP gd n c R w) := by
  have cI := isort_any gd n c g R w h (by omega) cF
  have H := Lib.hid cI; clear cI h cF
  have h1 : ¬ (20 : Int) ≤ (n : Int) := by omega
  have h2 : ¬ (20 : Int) < (n : Int) := by omega
  go_enter Try.func33, Try.ntmps33
  go_wp2_with fail
  go_loopw [7, 8] (fun av bv wr => av = .int .i64 0 ∧ bv = .int .i64 20 ∧ wr = w) (fun av bv _ => 0)
  case atStart => exact ⟨rfl, rfl, rfl⟩
  case round =>
    obtain ⟨rfl, rfl, rfl⟩ := hrel
    go_wp2_with fail
    try go_at_call 38
    refine H.out.mono ?_
    rintro e w1 ⟨rfl, hS, hb⟩
    have K := Lib.hid (And.intro hS hb); clear hS hb
    go_wp2_with fail
    go_loopw [6] (fun bv wr => bv = .int .i64 20 ∧ wr = w1) (fun bv _ => 0)
    case atStart => exact ⟨rfl, rfl⟩
    case round =>
      obtain ⟨rfl, rfl⟩ := hrel
      go_wp2_with fail
      refine bodyPost_end (v := .tuple #[]) (by simp only [results, Try.results33]; simp [go_sem]) rfl ?_
      exact ⟨rfl, K.out.1, K.out.2⟩
theorem stab_any (gd n c g : Nat) (R : List Nat) (w : World) (h : Own w gd 3 1 rowP (.slice (some ⟨gd, 0, none⟩) n c) (List.range n)) (hn : n < 20)
    (cF : ∀ X (a b : Nat), Below gd w X → a < n → b < n → Calls Try.prog 27 #[.int .i64 (a : Int), .int .i64 (b : Int), .pointer (some ⟨g, 0, none⟩)] X fun e w' => e = .returned (.int .i64 (cmpN (R.getD a 0) (R.getD b 0))) ∧ Below X.heap.size X w') :
    Calls Try.prog 26 #[.slice (some ⟨gd, 0, none⟩) n c, .func (.func 27) #[] #[.pointer (some ⟨g, 0, none⟩)]] w (SortedP gd n c R w) := by
  have cI := stable_any gd n c g R w h hn cF
  have H := Lib.hid cI; clear cI h cF
  go_enter Try.func26, Try.ntmps26
  go_wp2_with (go_at_call 33; refine H.out.mono ?_; rintro e w1 ⟨rfl, hS, hb⟩; have K := Lib.hid (And.intro hS hb); clear hS hb)
  refine bodyPost_end (v := .tuple #[]) (by simp only [results, Try.results26]; simp [go_sem]) rfl ?_
  exact ⟨rfl, K.out.1, K.out.2⟩
/-- What Order answers. -/
def OrderA (N : List Nd) (B : Nat) (w' : World) (r : Value) (k : Int) : Prop :=
  (¬ Dist N ∧ r = .slice none 0 0 ∧ k = 11) ∨ (Dist N ∧ Loopy N ∧ r = .slice none 0 0 ∧ k = 12) ∨
  (Dist N ∧ k = 0 ∧ ∃ (R : Nat → Nat) (L : List Nat), RankFull N R ∧ IsOrder R N.length L ∧ Own w' B 3 1 rowP r L)
def OrderP (N : List Nd) (w : World) (e : Ending) (w' : World) : Prop :=
  ∃ (r : Value) (k : Int), (e = .returned (.tuple #[r, .int .i64 k]) ∧ OrderA N w.heap.size w' r k) ∧ Below w.heap.size w w'
theorem upto_set {i n : Nat} (h : i < n) : (List.range i ++ List.replicate (n - i) 0).set i i = List.range (i + 1) ++ List.replicate (n - (i + 1)) 0 := by
  apply List.ext_getElem
  · simp; omega
  · intro j h1 h2
    rw [List.getElem_set]
    rcases (by omega : j < i ∨ j = i ∨ i < j) with h3 | rfl | h3
    · rw [if_neg (by omega), List.getElem_append_left (by simpa using h3), List.getElem_append_left (by simp; omega)]; simp
    · rw [if_pos rfl, List.getElem_append_left (by simp)]; simp
    · rw [if_neg (by omega), List.getElem_append_right (by simp; omega), List.getElem_append_right (by simp; omega)]; simp
set_option maxRecDepth 20000 in
set_option maxHeartbeats 4000000 in
theorem Order_any (v : Value) (N : List Nd) (w : World) (h : NdsAt w v N) (hn : N.length < 20) (ht : tot N N.length ≤ 26388279066700) :
    Calls Try.prog 16 #[v] w (OrderP N w) := by
  obtain ⟨j0, hj, hy0, hy1, hy2⟩ := info_parts (P := Try.prog) (e := 3) (z := .int .i64 0) (size := 1) (bytes := 8) (by kernel_rfl)
  have cR := Ranks_any v N w h (by omega) ht
  obtain ⟨l, h1, h2, h3⟩ := h
  obtain ⟨A, c, rfl, a1, a2, _⟩ := h1.shape
  obtain ⟨n, hnl⟩ : ∃ n, n = l.length := ⟨_, rfl⟩
  have hN : N.length = n := by rw [hnl, ← h2, List.length_map]
  rw [← hnl] at h1 a1 cR ⊢
  rw [hN] at hn
  have H := Lib.hid (And.intro cR hN); clear h1 h2 h3 hnl hN cR a1 ht
  go_enter Try.func16, Try.ntmps16
  go_wp2_with fail
  try go_at_call 14
  refine H.out.1.mono ?_
  rintro e w1 ⟨r, k, ⟨rfl, hA⟩, hb1⟩
  rcases hA with ⟨hA, rfl, rfl⟩ | ⟨hA, hA2, rfl, rfl⟩ | ⟨hA, rfl, R, hO, hl, hF⟩
  · have U := Lib.hid (And.intro hA hb1); clear hA hb1
    go_wp2_with fail
    go_ret2
    exact ⟨_, _, ⟨rfl, Or.inl ⟨U.out.1, rfl, rfl⟩⟩, bt U.out.2 (ba _ _)⟩
  · have U := Lib.hid (And.intro hA (And.intro hA2 hb1)); clear hA hA2 hb1
    go_wp2_with fail
    go_ret2
    exact ⟨_, _, ⟨rfl, Or.inr (Or.inl ⟨U.out.1, U.out.2.1, rfl, rfl⟩)⟩, bt U.out.2.2 (ba _ _)⟩
  · obtain ⟨rA, rn, rc, rfl⟩ := own_shape hO
    obtain ⟨w2, hw2⟩ : ∃ w2, w2 = w1.alloc (.cells #[.slice rA rn rc] 31) := ⟨_, rfl⟩
    have hb2 : Below w1.heap.size w1 w2 := by rw [hw2]; exact ba _ _
    have hB2 : Blk w2 w1.heap.size 31 #[.slice rA rn rc] := by rw [hw2]; exact Blk.new _ _ _
    have U := Lib.hid (And.intro hA (And.intro (hO.later hb2) (And.intro hl (And.intro hF (And.intro (bt hb1 hb2) hB2))))); clear hA hO hl hF hb1 hb2 hB2
    go_wp2_with (refine wpList_make_row _ rfl _ _ 31 rfl 3 j0 (.int .i64 0) Try.underlying31 hj hy0 hy1 rfl .i64 .i64 n rfl rfl (by rw [hy2]; omega) (by omega) ?_)
    obtain ⟨g, hg⟩ : ∃ g, g = w1.heap.size := ⟨_, rfl⟩
    have hs2 : w2.heap.size = g + 1 := by rw [hw2, hg]; simp
    rw [← hg] at U
    rw [← hw2, ← hg]
    clear hw2 hg
    have hM := own_madeI w2 n (by unfold maxLen; omega)
    have hb3 := ba w2 (.cells (madeCells #[.int .i64 0] n) 3)
    rw [hs2] at hM hb3
    generalize w2.alloc (.cells (madeCells #[.int .i64 0] n) 3) = w3 at *
    have U3 := Lib.hid (And.intro hM (And.intro hb3 hs2)); clear hM hb3 hs2
    go_loopw [21] (fun iv wr => ∃ i : Nat, i ≤ n ∧ iv = .int .i64 (i : Int) ∧ Own wr (g + 1) 3 1 rowP (.slice (some ⟨g + 1, 0, none⟩) n n) (List.range i ++ List.replicate (n - i) 0) ∧ Below (g + 1) w2 wr) (fun iv _ => n - (intOf iv).toNat)
    case atStart => exact ⟨0, Nat.zero_le _, rfl, by simpa using U3.out.1, U3.out.2.1⟩
    case round =>
      rename World => wr0
      obtain ⟨i, hi, rfl, hO, hb⟩ := hrel
      by_cases hlt : i < n
      · obtain ⟨g', hg', _, gl, gf, gc⟩ := hO.cells (f := rowP) (k := 1) (fun _ => rfl) rfl (by simp; omega)
        obtain rfl : g + 1 = g' := by simpa using hg'
        have c0 := gc i (by simp; omega) 0 _ rfl
        simp only [Nat.mul_one, Nat.add_zero] at c0
        have s1 := Own.put (f := rowP) (k := 1) (fun _ => rfl) hO i (by simp; omega) (i := 0) (by omega) (x := i) (u := .int .i64 (i : Int)) rfl
        simp only [Nat.mul_one, Nat.add_zero, upto_set hlt] at s1
        have s2 := hb.setCell (p := ⟨g + 1, i, none⟩) (Nat.le_refl _) (.int .i64 (i : Int))
        have Z := Lib.hid (And.intro s1 s2); clear s1 s2 hO hb gc hg'
        go_wp2_with fail
        go_roundw
        case rel => exact ⟨i + 1, by omega, by go_num, Z.out.1, Z.out.2⟩
        case measure => simp [intOf]; omega
      · obtain rfl : i = n := by omega
        rw [Nat.sub_self, List.replicate_zero, List.append_nil] at hO
        have hRl : R.length = i := U.out.2.2.1.trans H.out.2
        have hs2 := U3.out.2.2
        have hgl : g + 1 < wr0.heap.size := by
          obtain ⟨_, cs, hc⟩ := Own.block hO rfl
          exact (Array.getElem?_eq_some_iff.1 hc).1
        have hbw : Below w2.heap.size w2 wr0 := by rw [hs2]; exact hb
        have hB := U.out.2.2.2.2.2.later hbw
        have hRO := (U.out.2.1.later hbw).at_ (f := rowP) (k := 1) (fun _ => rfl)
        have hRblk : ∀ X, Below (g + 1) wr0 X → Blk X g 31 #[.slice rA rn rc] ∧ At X 1 rowP (.slice rA rn rc) R := fun X hX => by
          have hX2 : Below w2.heap.size w2 X := by rw [hs2]; exact hb.trans hX
          exact ⟨U.out.2.2.2.2.2.later hX2, (U.out.2.1.later hX2).at_ (f := rowP) (k := 1) (fun _ => rfl)⟩
        have cS := stab_any (g + 1) i i g R wr0 hO (by omega) (fun X a b hX ha hb => less_any g _ R a b X (hRblk X hX).1 (hRblk X hX).2 (by omega) (by omega))
        have hbe : Below w.heap.size w wr0 := bt U.out.2.2.2.2.1 hbw
        have hle : w.heap.size ≤ g + 1 := by have := U.out.2.2.2.2.1.size; omega
        have Z := Lib.hid (And.intro cS (And.intro hbe hle)); clear cS hbe hle hO hb hRl hs2 hbw hB hRO hRblk hgl
        go_wp2_with fail
        try go_at_call 26
        refine Z.out.1.mono ?_
        rintro e w5 ⟨rfl, ⟨L, hL, hO5⟩, hb5⟩
        have Y := Lib.hid (And.intro hL (And.intro (hO5.lift Z.out.2.2) (Z.out.2.1.trans (hb5.mono Z.out.2.2)))); clear hL hO5 hb5
        go_wp2_with fail
        go_ret2
        exact ⟨_, _, ⟨rfl, Or.inr (Or.inr ⟨U.out.1, rfl, _, L, U.out.2.2.2.1, by rw [H.out.2]; exact Y.out.1, Y.out.2.1⟩)⟩, Y.out.2.2⟩
end Go.Proofs.Ytinonfgehbjneaa
