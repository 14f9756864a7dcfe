/- Layer 12: sorting by rank. -/
import Derived.Test.YtinonfgehbjneaaGphI
import Derived.Deep.DeepCutAuto
import Derived.Deep.CutBlock
import Derived.Deep.RegionLaw
namespace Go.Proofs.Ytinonfgehbjneaa
open Go.ChangeShapes Go.WideShapes Go.ChangeAt Go.RowKit Go.Maps
open Gr (Nd nmAt frAt cn leadsU leadsL SortTo SortAt IsOrder)
set_option linter.unusedVariables false
set_option linter.unusedSimpArgs false

/-- How two numbers stand. -/
def cmpN (a b : Nat) : Int := if a < b then -1 else if b < a then 1 else 0
theorem nan_any (x : Int) (w : World) : Calls Try.prog 34 #[.int .i64 x] w fun e w' => e = .returned (.bool false) ∧ Below w.heap.size w w' := by
  go_enter Try.func34, Try.ntmps34
  go_wp2
  go_ret
  exact ⟨rfl, Below.refl _ _⟩
theorem cmp_any (a b : Nat) (w : World) : Calls Try.prog 28 #[.int .i64 (a : Int), .int .i64 (b : Int)] w fun e w' => e = .returned (.int .i64 (cmpN a b)) ∧ Below w.heap.size w w' := by
  have hc : ((a : Int) < (b : Int) ∧ cmpN a b = -1) ∨ (¬ (a : Int) < (b : Int) ∧ (b : Int) < (a : Int) ∧ cmpN a b = 1) ∨ (¬ (a : Int) < (b : Int) ∧ ¬ (b : Int) < (a : Int) ∧ cmpN a b = 0) := by
    unfold cmpN; repeat' split
    all_goals omega
  rcases hc with ⟨h1, e⟩ | ⟨h1, h2, e⟩ | ⟨h1, h2, e⟩
  all_goals
    rw [e]
    go_enter Try.func28, Try.ntmps28
    go_wp2_with (go_at_call 34; ((with_reducible refine (nan_any _ _).mono ?_); rintro e w1 ⟨rfl, b1⟩; have K := Lib.hid b1; clear b1; go_wp2_with (go_at_call 34; ((with_reducible refine (nan_any _ _).mono ?_); rintro e w2 ⟨rfl, b2⟩; replace K := Lib.hid (bt K.out b2); clear b2))))
    go_ret
    exact ⟨rfl, K.out⟩
set_option maxHeartbeats 1000000 in
theorem less_any (g : Nat) (rv : Value) (R : List Nat) (a b : Nat) (w : World) (hB : Blk w g 31 #[rv]) (hA : At w 1 rowP rv R) (ha : a < R.length) (hb : b < R.length) :
    Calls Try.prog 27 #[.int .i64 (a : Int), .int .i64 (b : Int), .pointer (some ⟨g, 0, none⟩)] w fun e w' => e = .returned (.int .i64 (cmpN (R.getD a 0) (R.getD b 0))) ∧ Below w.heap.size w w' := by
  obtain ⟨A, c, rfl, a1, a2, _⟩ := hA.shape
  obtain ⟨n, hn⟩ : ∃ n, n = R.length := ⟨_, rfl⟩
  obtain ⟨p, rfl, hc⟩ := hA.cells rfl (by omega)
  have x0 := hc.row1 a ha rfl
  have x1 := hc.row1 b hb rfl
  rw [Nat.mul_one] at x0 x1
  have q0 := hB.cell 0
  simp only [List.getElem?_toArray, List.getElem?_cons_zero] at q0
  rw [getD_at ha, getD_at hb]
  have hnb : n ≤ 9223372036854775807 := by unfold maxLen at a2; omega
  rw [← hn] at q0 ha hb
  generalize R[a] = x at *
  generalize R[b] = y at *
  have H := Lib.hid (And.intro hB hn); clear hB hA hc hn a1
  go_enter Try.func27, Try.ntmps27
  go_wp2_with fail
  refine wp_region_quiet_below (by kernel_rfl) (by kernel_rfl) ?_
  have h0 := fun d os => cell_regrown q0 d os
  have h1 := fun d os => cell_regrown x0 d os
  have h2 := fun d os => cell_regrown x1 d os
  repeat (go_big_quiet_step ((go_at_call 28; with_reducible exact Calls.regrown_of (cmp_any x y _))))
  refine wpQuiet_nil ?_
  intro wq hw'
  have bq : Below w.heap.size w wq := by obtain ⟨p, rfl⟩ := hw'; exact below_regrown _ _ _
  clear hw'
  go_wp2
  go_ret
  exact ⟨rfl, bq⟩
def SortedP (gd n : Nat) (c : Nat) (R : List Nat) (w : World) (e : Ending) (w' : World) : Prop :=
  e = .returned (.tuple #[]) ∧ (∃ L, IsOrder (fun j => R.getD j 0) n L ∧ Own w' gd 3 1 rowP (.slice (some ⟨gd, 0, none⟩) n c) L) ∧ Below gd w w'
theorem sort_len {R : Nat → Nat} {n i j : Nat} {l : List Nat} (h : SortAt R n i j l) (hi : i < n) : l.length = n := by
  obtain ⟨A, B, h1, h2, h3, _⟩ := h.srt
  rw [h1]
  simp at h3 ⊢; omega
set_option maxRecDepth 20000 in
set_option maxHeartbeats 4000000 in
theorem isort_any (gd n c g : Nat) (R : List Nat) (w : World) (h : Own w gd 3 1 rowP (.slice (some ⟨gd, 0, none⟩) n c) (List.range n)) (hn : n ≤ 1000)
    (cF : ∀ X (a b : Nat), Below gd w X → a < n → b < n → Calls Try.prog 27 #[.int .i64 (a : Int), .int .i64 (b : Int), .pointer (some ⟨g, 0, none⟩)] X fun e w' => e = .returned (.int .i64 (cmpN (R.getD a 0) (R.getD b 0))) ∧ Below X.heap.size X w') :
    Calls Try.prog 38 #[.slice (some ⟨gd, 0, none⟩) n c, .int .i64 0, .int .i64 (n : Int), .func (.func 27) #[] #[.pointer (some ⟨g, 0, none⟩)]] w (SortedP gd n c R w) := by
  have hgl : gd < w.heap.size := by
    obtain ⟨_, cs, hc⟩ := Own.block h rfl
    exact (Array.getElem?_eq_some_iff.1 hc).1
  have H := Lib.hid (And.intro h (And.intro cF hgl)); clear h cF hgl
  go_enter Try.func38, Try.ntmps38
  go_wp2_with fail
  rcases (by omega : n = 0 ∨ 1 ≤ n) with rfl | h1
  · go_loopw [8] (fun iv wr => iv = .int .i64 1 ∧ wr = w) (fun iv _ => 0)
    case atStart => exact ⟨rfl, rfl⟩
    case round =>
      obtain ⟨rfl, rfl⟩ := hrel
      go_wp2_with fail
      refine bodyPost_end (v := .tuple #[]) (by simp only [results, Try.results38]; simp [go_sem]) rfl ?_
      exact ⟨rfl, ⟨[], ⟨List.Pairwise.nil, fun k => by simp⟩, H.out.1⟩, Below.refl _ _⟩
  · go_loopw [8] (fun iv wr => ∃ (i : Nat) (L : List Nat), 1 ≤ i ∧ i ≤ n ∧ iv = .int .i64 (i : Int) ∧ SortTo (fun j => R.getD j 0) n i L ∧ Own wr gd 3 1 rowP (.slice (some ⟨gd, 0, none⟩) n c) L ∧ Below gd w wr) (fun iv _ => n - (intOf iv).toNat)
    case atStart => exact ⟨1, _, Nat.le_refl _, h1, rfl, SortTo.start _ n h1, H.out.1, Below.refl _ _⟩
    case round =>
      rename World => wr0
      obtain ⟨i, L, hi1, hi, rfl, hS, hO, hb⟩ := hrel
      by_cases hlt : i < n
      · have M := Lib.hid (And.intro (hS.at hlt) (And.intro hO hb)); clear hS hO hb
        go_wp2_with fail
        go_loopw [9] (fun jv wr => ∃ (j : Nat) (L : List Nat), j ≤ i ∧ jv = .int .i64 (j : Int) ∧ SortAt (fun j => R.getD j 0) n i j L ∧ Own wr gd 3 1 rowP (.slice (some ⟨gd, 0, none⟩) n c) L ∧ Below gd w wr) (fun jv _ => (intOf jv).toNat)
        case atStart => exact ⟨i, L, Nat.le_refl _, rfl, M.out.1, M.out.2.1, M.out.2.2⟩
        case round =>
          rename World => wr1
          obtain ⟨j, L, hji, rfl, hS, hO, hb⟩ := hrel
          have hLn := sort_len hS hlt
          obtain ⟨g', hg', _, gl, gf, gc⟩ := hO.cells (f := rowP) (k := 1) (fun _ => rfl) rfl (by omega)
          obtain rfl : gd = g' := by simpa using hg'
          clear hg'
          rcases (by omega : j = 0 ∨ 1 ≤ j) with rfl | hj1
          · have U := Lib.hid (And.intro (hS.done hlt (Or.inl rfl)) (And.intro hO hb)); clear hS hO hb gc
            go_wp2_with fail
            go_quiet (fail)
            go_wp2
            go_roundw
            case rel => exact ⟨i + 1, L, by omega, by omega, by go_num, U.out.1, U.out.2.1, below_drewN U.out.2.2 _⟩
            case measure => simp [intOf]; omega
          · obtain ⟨jm, rfl⟩ : ∃ jm, j = jm + 1 := ⟨j - 1, by omega⟩
            obtain ⟨y, hy, hyi⟩ := hS.low hj1
            simp only [Nat.add_sub_cancel] at hy
            have hg := hS.get
            have x0 : wr1.cell? ⟨gd, jm + 1, none⟩ = some (.int .i64 (i : Int)) := by
              have hj2 := (List.getElem?_eq_some_iff.1 hg).1
              have := gc (jm + 1) hj2 0 _ rfl
              simp only [Nat.mul_one, Nat.add_zero, (List.getElem?_eq_some_iff.1 hg).2] at this
              exact this
            have x1 : wr1.cell? ⟨gd, jm, none⟩ = some (.int .i64 (y : Int)) := by
              have hj2 := (List.getElem?_eq_some_iff.1 hy).1
              have := gc jm hj2 0 _ rfl
              simp only [Nat.mul_one, Nat.add_zero, (List.getElem?_eq_some_iff.1 hy).2] at this
              exact this
            have cC := fun X (hX : Below gd w X) => H.out.2.1 X i y hX hlt (by omega)
            have hs63 : ((jm : Int) + 1) - 1 = (jm : Int) := by omega
            have hgt : (0 : Int) < (jm : Int) + 1 := by omega
            have hwj : IntKind.i64.wrap (jm : Int) = (jm : Int) := IntWalk.i64_in _ (by omega)
            have hjn : (jm : Int) < (n : Int) := by omega
            have hjn1 : (jm : Int) + 1 < (n : Int) := by omega
            have hj0 : (0 : Int) ≤ (jm : Int) + 1 := by omega
            have hgd : decide ((0 : Int) < (jm : Int) + 1) = true := decide_eq_true hgt
            by_cases hR : R.getD i 0 < R.getD y 0
            · rw [show cmpN (R.getD i 0) (R.getD y 0) = -1 by unfold cmpN; rw [if_pos hR]] at cC
              have hsw := hS.swap hy hR
              have U := Lib.hid (And.intro hsw (And.intro hO (And.intro hb (And.intro cC hLn)))); clear hsw hS hO hb cC hg hy hR hLn gc
              go_wp2_with fail
              refine wp_region_quiet_below (by kernel_rfl) (by kernel_rfl) ?_
              have h0 := fun d os => cell_regrown x0 d os
              have h2 := fun d os => cell_regrown x1 d os
              have hC := fun d os => U.out.2.2.2.1 _ (U.out.2.2.1.trans ((below_regrown wr1 d os).mono (Nat.le_of_lt gl)))
              repeat (go_big_quiet_step ((go_at_call 27; with_reducible exact Calls.regrown_of (hC _ _))))
              refine wpQuiet_nil ?_
              intro wq hw'
              have bq : Below wr1.heap.size wr1 wq := by obtain ⟨p, rfl⟩ := hw'; exact below_regrown _ _ _
              clear hw' h0 h2 hC
              have x0' : wq.cell? ⟨gd, jm + 1, none⟩ = some (.int .i64 (i : Int)) := by rw [bq.cell (World.block_lt_of_cell? wr1 _ x0)]; exact x0
              have x1' : wq.cell? ⟨gd, jm, none⟩ = some (.int .i64 (y : Int)) := by rw [bq.cell (World.block_lt_of_cell? wr1 _ x1)]; exact x1
              have hOq := U.out.2.1.later bq
              obtain ⟨g2, hg2, _, gl2, gf2, _⟩ := hOq.cells (f := rowP) (k := 1) (fun _ => rfl) rfl (by have := U.out.2.2.2.2; omega)
              obtain rfl : gd = g2 := by simpa using hg2
              have bw : Below gd w wq := U.out.2.2.1.trans (bq.mono (Nat.le_of_lt gl))
              have s1 := Own.put (f := rowP) (k := 1) (fun _ => rfl) hOq (jm + 1) (by have := U.out.2.2.2.2; omega) (i := 0) (by omega) (x := y) (u := .int .i64 (y : Int)) rfl
              have s2 := Own.put (f := rowP) (k := 1) (fun _ => rfl) s1 jm (by have := U.out.2.2.2.2; rw [List.length_set]; omega) (i := 0) (by omega) (x := i) (u := .int .i64 (i : Int)) rfl
              simp only [Nat.mul_one, Nat.add_zero] at s2
              have bw2 := (bw.setCell (p := ⟨gd, jm + 1, none⟩) (Nat.le_refl gd) (.int .i64 (y : Int))).setCell (p := ⟨gd, jm, none⟩) (Nat.le_refl gd) (.int .i64 (i : Int))
              have Z := Lib.hid (And.intro s2 bw2); clear s1 s2 bw bw2 hOq hg2 bq x0 x1 gl gf
              go_upto_region 6 with fail
              go_region_law (fail)
              all_goals go_wp2
              all_goals go_roundw
              all_goals first
                | exact ⟨jm, _, by omega, by go_num, U.out.1, Z.out.1.later (below_drew (Below.refl _ _)), below_drew Z.out.2⟩
                | simp [intOf]
            · have hv : ¬ cmpN (R.getD i 0) (R.getD y 0) < 0 := by
                unfold cmpN; rw [if_neg hR]; split <;> omega
              obtain ⟨cv, hcv⟩ : ∃ cv, cv = cmpN (R.getD i 0) (R.getD y 0) := ⟨_, rfl⟩
              rw [← hcv] at cC hv
              have hvb : decide (cv < 0) = false := decide_eq_false hv
              have hsw := hS.done hlt (Or.inr ⟨y, by simpa using hy, by omega⟩)
              have U := Lib.hid (And.intro hsw (And.intro hO (And.intro hb (And.intro cC hLn)))); clear hsw hS hO hb cC hg hy hR hLn gc hcv
              go_wp2_with fail
              refine wp_region_quiet_below (by kernel_rfl) (by kernel_rfl) ?_
              have h0 := fun d os => cell_regrown x0 d os
              have h2 := fun d os => cell_regrown x1 d os
              have hC := fun d os => U.out.2.2.2.1 _ (U.out.2.2.1.trans ((below_regrown wr1 d os).mono (Nat.le_of_lt gl)))
              repeat (go_big_quiet_step ((go_at_call 27; with_reducible exact Calls.regrown_of (hC _ _))))
              refine wpQuiet_nil ?_
              intro wq hw'
              have bq : Below wr1.heap.size wr1 wq := by obtain ⟨p, rfl⟩ := hw'; exact below_regrown _ _ _
              clear hw' h0 h2 hC
              go_wp2
              go_roundw
              case rel => exact ⟨i + 1, L, by omega, by omega, by go_num, U.out.1, U.out.2.1.later bq, U.out.2.2.1.trans (bq.mono (Nat.le_of_lt gl))⟩
              case measure => simp [intOf]; omega
      · obtain rfl : i = n := by omega
        have U := Lib.hid (And.intro hS.all (And.intro hO hb)); clear hS hO hb
        go_wp2_with fail
        refine bodyPost_end (v := .tuple #[]) (by simp only [results, Try.results38]; simp [go_sem]) rfl ?_
        exact ⟨rfl, ⟨L, U.out.1, U.out.2.1⟩, U.out.2.2⟩
end Go.Proofs.Ytinonfgehbjneaa
