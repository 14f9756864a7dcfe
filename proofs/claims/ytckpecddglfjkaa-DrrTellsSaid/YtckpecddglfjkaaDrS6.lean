/- The document's own round: Turn whole. The law's costs. -/
import Derived.Test.YtckpecddglfjkaaDrS5
import Derived.Test.YtckpecddglfjkaaDrQ
import Derived.Test.YtckpecddglfjkaaLists
namespace Go.Proofs.Ytckpecddglfjkaa
open Go.ChangeShapes Go.WideShapes Go.ChangeAt Go.RowKit
open Dr
set_option linter.unusedVariables false
set_option linter.unusedSimpArgs false

theorem rTurn_any (B m : Nat) (cs : List (Int × Int)) (L : List Fl) (fr : Bool) (lv : Value) (w : World) (h : RmS w B m (L.map gl) fr) (hS : OkS L fr) (hl : ∀ W, ChR B w W → At W 2 rowC lv cs) :
    Calls Try.prog 17 #[.pointer (some ⟨m, 0, none⟩), lv] w (RTurnP B m cs L fr w) := by
  have hSP := priced_ok (cs := cs) hS
  have hmg : (priced cs L).map gl = L.map gl := by unfold priced; rw [List.map_map]; rfl
  have hcP : ∀ f ∈ priced cs L, f.2.2.2 = costOf cs f.1 := fun f hf => by
    obtain ⟨x, _, rfl⟩ := List.mem_map.1 hf
    rfl
  rw [← hmg] at h
  rcases hr : ready (priced cs L) with _ | _
  · refine (rTurn_no B m (priced cs L) fr cs lv w h hcP hr hl hSP.2.2.2).mono ?_
    rintro e w' ⟨⟨rfl, h1⟩, h2⟩
    exact ⟨0, false, _, _, ⟨rfl, Or.inl ⟨hr, rfl, rfl, rfl, rfl⟩, h1⟩, h2⟩
  · obtain ⟨n0, RES, hT⟩ := turns (priced cs L) fr hSP.1 hr
    refine (rTurn_yes B m n0 (priced cs L) fr RES cs lv w h hcP hr hl hT hSP).mono ?_
    rintro e w' ⟨⟨f, r, h1, rfl, h2⟩, h3⟩
    obtain ⟨R1, R2⟩ := RES
    simp only at h1 h2
    subst h1
    exact ⟨f.1, true, _, _, ⟨rfl, Or.inr ⟨hr, rfl, n0, f, r, hT, rfl, rfl⟩, h2⟩, h3⟩
def moreC (b : UInt8) : Int × Int := ((b.toNat : Int) % 6, (b.toNat : Int) / 6 - 3)
def allC (cs : List (Int × Int)) (bs : List UInt8) : List (Int × Int) := cs ++ (bs.take 8).map moreC
def CostsP (cs : List (Int × Int)) (bs : List UInt8) (w : World) (e : Ending) (w' : World) : Prop :=
  ∃ v, (e = .returned v ∧ Own w' w.heap.size 55 2 rowC v (allC cs bs)) ∧ Below w.heap.size w w'
theorem one_rowC (c : Int × Int) : ∀ u ∈ rowC c, u.oneCell' = true := by simp [Value.oneCell']
set_option maxHeartbeats 2000000 in
theorem costs_any (k x n : Int) (s b : SV) (cs : List (Int × Int)) (bs : List UInt8) (w : World) (hs : At w 2 rowC (sl s) cs) (hb : At w 1 rowB (sl b) bs) (hlen : cs.length * 16 ≤ 140737488351232) :
    Calls Try.prog 16 #[.agg #[.int .u8 k, .int .i64 x, .int .i64 n, sl s, sl b]] w (CostsP cs bs w) := by
  obtain ⟨j0, hj, hy0, hy1, hy2⟩ := info_parts (P := Try.prog) (e := 55) (z := .agg #[.int .i64 0, .int .i64 0]) (size := 2) (bytes := 16) (by kernel_rfl)
  obtain ⟨sA, sn, sc⟩ := s
  obtain ⟨bA, bn, bc⟩ := b
  obtain ⟨_, _, hsv, a1, a2, _⟩ := hs.shape
  obtain ⟨_, _, hbv, b1, b2, _⟩ := hb.shape
  simp only [sl, Value.slice.injEq] at hsv hbv
  obtain ⟨rfl, rfl, rfl⟩ := hsv
  obtain ⟨rfl, rfl, rfl⟩ := hbv
  replace hs : At w 2 rowC (.slice sA cs.length sc) cs := hs
  replace hb : At w 1 rowB (.slice bA bs.length bc) bs := hb
  have hbl : bs.length ≤ 9223372036854775807 := by unfold maxLen at b2; omega
  obtain ⟨ln, hln⟩ : ∃ ln, ln = cs.length := ⟨_, rfl⟩
  obtain ⟨W1, hW1⟩ : ∃ W1, W1 = w.alloc (.cells #[.int .u8 k, .int .i64 x, .int .i64 n, .slice sA cs.length sc, .slice bA bs.length bc] 33) := ⟨_, rfl⟩
  have hW0 : Below w.heap.size w W1 := by rw [hW1]; exact ba _ _
  have hBx : Blk W1 w.heap.size 33 #[.int .u8 k, .int .i64 x, .int .i64 n, .slice sA cs.length sc, .slice bA bs.length bc] := by rw [hW1]; exact Blk.new _ _ _
  have hsz : W1.heap.size = w.heap.size + 1 := by rw [hW1, World.size_alloc]
  have hs1 := hs.later hW0
  obtain ⟨bA', bc', he, _, _, hbc⟩ := bytes_cell (at_bytes (hb.later hW0))
  simp only [Value.slice.injEq, true_and] at he
  obtain ⟨rfl, rfl⟩ := he
  have c3 := hBx.cell 3
  have c4 := hBx.cell 4
  simp only [List.getElem?_toArray, Array.getElem?_toList, List.getElem?_cons_succ, List.getElem?_cons_zero] at c3 c4
  have H := Lib.hid (And.intro hs1 (And.intro hbc (And.intro hBx (And.intro hsz (And.intro hln hW0))))); clear hs hb hs1 hbc hBx hW0 a1 b1
  go_enter Try.func16, Try.ntmps16
  go_upto_region 1 with fail
  rw [← hW1]; clear hW1
  go_wp2_with (at_builtin; refine wpList_append_at _ rfl (.const (.slice none 0 0)) (.tmp 6) 30 rfl W1.heap.size 55 j0 (.agg #[.int .i64 0, .int .i64 0]) 2 16 Try.underlying30 hj hy0 hy1 hy2 rfl (by decide) (f := rowC) (fun _ => rfl) one_rowC (.slice none 0 0) [] rfl (Own.nil _ _ _ _ _) sA cs.length sc cs rfl rfl H.out.1 (by unfold maxLen; simp; omega) (by simp; omega) (Nat.le_refl _) ?_; intro v5 w5 hO5 hg5; rw [List.nil_append] at hO5; have K := Lib.hid (And.intro hO5 (grown_none hg5)); clear hO5 hg5)
  clear c3 c4
  go_loopw [3, 4] (fun lv iv wr => ∃ j : Nat, j ≤ bs.length ∧ j ≤ 8 ∧ iv = .int .i64 j ∧ Own wr W1.heap.size 55 2 rowC lv (cs ++ (bs.take j).map moreC) ∧ Below W1.heap.size W1 wr) (fun _ i _ => bs.length - (intOf i).toNat)
  case atStart => exact ⟨0, Nat.zero_le _, Nat.zero_le _, rfl, by simpa using K.out.1, K.out.2⟩
  case round =>
    clear K
    rename World => wr0
    obtain ⟨j, hjl, hj8, rfl, hO, hbw⟩ := hrel
    obtain ⟨vA, vn, vc, rfl⟩ := own_shape hO
    have c4 : wr0.cell? ⟨w.heap.size, 4, none⟩ = some (.slice bA bs.length bc) := (H.out.2.2.1.later hbw).cell 4
    by_cases hlt : j < bs.length
    · by_cases h8 : j < 8
      · obtain ⟨ba0, rfl, hc⟩ := H.out.2.1 j hlt
        have xb : wr0.cell? (ba0.add j) = some (.int .u8 ((bs[j]'hlt).toNat : Int)) := by rw [hbw.cell (World.block_lt_of_cell? _ _ hc)]; exact hc
        have hsn : (cs ++ (bs.take j).map moreC) ++ [moreC (bs[j]'hlt)] = cs ++ (bs.take (j + 1)).map moreC := by
          rw [List.take_succ_eq_append_getElem hlt, List.map_append, List.append_assoc]; rfl
        have hll : (cs ++ (bs.take j).map moreC).length = cs.length + j := by rw [List.length_append, List.length_map, List.length_take]; omega
        have hcb : (bs[j]'hlt).toNat < 256 := (bs[j]'hlt).toNat_lt
        obtain ⟨mc, hmc⟩ : ∃ mc, mc = moreC (bs[j]'hlt) := ⟨_, rfl⟩
        rw [← hmc] at hsn
        unfold moreC at hmc
        generalize (bs[j]'hlt).toNat = cv at *
        have hj8i : (j : Int) < 8 := by omega
        obtain ⟨r, hr⟩ : ∃ r, r = (cv : Int) % 6 := ⟨_, rfl⟩
        obtain ⟨q6, hq6⟩ : ∃ q6, q6 = (cv : Int) / 6 := ⟨_, rfl⟩
        obtain ⟨q, hq⟩ : ∃ q, q = q6 - 3 := ⟨_, rfl⟩
        have hm1 : IntKind.i64.wrap ((cv : Int).tmod 6) = r := by rw [Int.tmod_eq_emod_of_nonneg (by omega), ← hr]; exact IntWalk.i64_in _ (by omega)
        have hd1 : IntKind.u8.wrap ((cv : Int) / 6) = q6 := by rw [← hq6]; exact IntWalk.u8_in _ (by omega)
        have hd2 : IntKind.i64.wrap q6 = q6 := IntWalk.i64_in _ (by omega)
        have hd3 : IntKind.i64.wrap (q6 - 3) = q := by rw [← hq]; exact IntWalk.i64_in _ (by omega)
        rw [← hr, ← hq6, ← hq] at hmc
        rw [hmc] at hsn
        clear hr hq6 hq hmc
        have K := Lib.hid (And.intro hO (And.intro hbw (And.intro hsn hll))); clear hO hbw hsn hll hc
        go_wp2_with fail
        go_region_law (first
          | (refine step_append_own rfl (.tmp 19) (.tmp 36) 30 rfl W1.heap.size 55 j0 (.agg #[.int .i64 0, .int .i64 0]) 2 16 Try.underlying30 hj hy0 hy1 hy2 rfl (by decide) (.slice vA vn vc) (cs.length + j) _ (by simp [Act.eval, Act.put]) (World.ownsRow.drew (by have := K.out.1.later (ba wr0 (.cells #[.int .i64 r, .int .i64 q] 55)); unfold Own at this; rw [K.out.2.2.2] at this; exact this)) ⟨wr0.heap.size, 0, none⟩ 1 1 (rowC (r, q)) (by simp [Act.eval, Act.put]) rfl (fun j u hu => new_cells (w := wr0) rfl 55 #[.int .i64 r, .int .i64 q] j u hu) (by simp [Value.oneCell']) (by unfold maxLen; omega) (by omega) (by have := K.out.2.1.size; simp only [World.size_alloc, World.size_drew]; omega) ?_; intro v5 w5 hO5 hg5 _; have Z := Lib.hid (And.intro hO5 hg5); clear hO5 hg5))
        all_goals go_wp2
        all_goals go_roundw
        all_goals first
          | (simp [intOf]; omega)
          | (have hO6 : Own w5 W1.heap.size 55 2 rowC v5 (cs ++ (bs.take (j + 1)).map moreC) := (by rw [← K.out.2.2.1]; exact Own.more (f := rowC) K.out.2.2.2.symm Z.out.1); exact ⟨j + 1, by omega, by omega, by go_num, hO6, own_past (bt (bt K.out.2.1 (below_drew (Below.refl _ _))) (ba _ _)) Z.out.2 K.out.1⟩)
      · obtain rfl : j = 8 := by omega
        have K := Lib.hid (And.intro hO hbw); clear hO hbw
        go_wp2
        go_ret
        exact ⟨_, ⟨rfl, K.out.1.lift (by have := H.out.2.2.2.1; omega)⟩, H.out.2.2.2.2.2.trans (K.out.2.mono (by have := H.out.2.2.2.1; omega))⟩
    · obtain rfl : j = bs.length := by omega
      have e8 : bs.take 8 = bs := List.take_of_length_le hj8
      rw [List.take_length] at hO
      have K := Lib.hid (And.intro hO hbw); clear hO hbw
      go_wp2
      go_ret
      exact ⟨_, ⟨rfl, by unfold allC; rw [e8]; exact K.out.1.lift (by have := H.out.2.2.2.1; omega)⟩, H.out.2.2.2.2.2.trans (K.out.2.mono (by have := H.out.2.2.2.1; omega))⟩
def RCostsP (cs : List (Int × Int)) (w : World) (e : Ending) (w' : World) : Prop :=
  ∃ v, (e = .returned v ∧ Own w' w.heap.size 75 2 rowC v cs) ∧ Below w.heap.size w w'
set_option maxHeartbeats 2000000 in
theorem refCosts_any (v : Value) (cs : List (Int × Int)) (w : World) (hs : At w 2 rowC v cs) (hlen : cs.length * 16 ≤ 140737488355328) :
    Calls Try.prog 18 #[v] w (RCostsP cs w) := by
  obtain ⟨j0, hj, hy0, hy1, hy2⟩ := info_parts (P := Try.prog) (e := 75) (z := .agg #[.int .i64 0, .int .i64 0]) (size := 2) (bytes := 16) (by kernel_rfl)
  obtain ⟨A, c, rfl, a1, a2, _⟩ := hs.shape
  have hm : cs.length ≤ 9223372036854775807 := by omega
  have H := Lib.hid hs; clear hs
  go_enter Try.func18, Try.ntmps18
  go_wp2
  go_loopw [3, 4] (fun lv iv wr => ∃ j : Nat, j ≤ cs.length ∧ iv = .int .i64 j ∧ Own wr w.heap.size 75 2 rowC lv (cs.take j) ∧ Below w.heap.size w wr) (fun _ i _ => cs.length - (intOf i).toNat)
  case atStart => exact ⟨0, Nat.zero_le _, rfl, Own.nil _ _ _ _ _, Below.refl _ _⟩
  case round =>
    rename World => wr0
    obtain ⟨j, hjl, rfl, hO, hbw⟩ := hrel
    obtain ⟨vA, vn, vc, rfl⟩ := own_shape hO
    by_cases hlt : j < cs.length
    · obtain ⟨a, rfl, hc⟩ := H.out.cells rfl (by omega)
      obtain ⟨x0, x1⟩ := (hc.later hbw).row2 j hlt rfl
      have hsn : cs.take j ++ [cs[j]'hlt] = cs.take (j + 1) := (List.take_succ_eq_append_getElem hlt).symm
      have hll : (cs.take j).length = j := by rw [List.length_take]; omega
      generalize cs[j]'hlt = y at *
      obtain ⟨r, q⟩ := y
      simp only at x0 x1
      have K := Lib.hid (And.intro hO (And.intro hbw (And.intro hsn hll))); clear hO hbw hsn hll hc
      go_wp2_with fail
      go_region_law (first
        | (refine step_append_own rfl (.tmp 11) (.tmp 23) 43 rfl w.heap.size 75 j0 (.agg #[.int .i64 0, .int .i64 0]) 2 16 Try.underlying43 hj hy0 hy1 hy2 rfl (by decide) (.slice vA vn vc) j _ (by simp [Act.eval, Act.put]) (World.ownsRow.drew (by have := K.out.1.later (ba wr0 (.cells #[.int .i64 r, .int .i64 q] 75)); unfold Own at this; rw [K.out.2.2.2] at this; exact this)) ⟨wr0.heap.size, 0, none⟩ 1 1 (rowC (r, q)) (by simp [Act.eval, Act.put]) rfl (fun j u hu => new_cells (w := wr0) rfl 75 #[.int .i64 r, .int .i64 q] j u hu) (by simp [Value.oneCell']) (by unfold maxLen; omega) (by omega) (by have := K.out.2.1.size; simp only [World.size_alloc, World.size_drew]; omega) ?_; intro v5 w5 hO5 hg5 _; have Z := Lib.hid (And.intro hO5 hg5); clear hO5 hg5))
      all_goals go_wp2
      all_goals go_roundw
      all_goals first
        | (simp [intOf]; omega)
        | (have hO6 : Own w5 w.heap.size 75 2 rowC v5 (cs.take (j + 1)) := (by rw [← K.out.2.2.1]; exact Own.more (f := rowC) K.out.2.2.2.symm Z.out.1); exact ⟨j + 1, by omega, by go_num, hO6, own_past (bt (bt K.out.2.1 (below_drew (Below.refl _ _))) (ba _ _)) Z.out.2 K.out.1⟩)
    · obtain rfl : j = cs.length := by omega
      rw [List.take_length] at hO
      have K := Lib.hid (And.intro hO hbw); clear hO hbw
      go_wp2
      go_ret
      exact ⟨_, ⟨rfl, K.out.1⟩, K.out.2⟩
end Go.Proofs.Ytckpecddglfjkaa
