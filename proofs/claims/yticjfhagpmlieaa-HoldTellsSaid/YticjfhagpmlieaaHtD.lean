/- The document's own hold: Add. -/
import Derived.Test.YticjfhagpmlieaaHtC
import Derived.Deep.DeepCutAuto
import Derived.Deep.CutBlock
namespace Go.Proofs.Yticjfhagpmlieaa
open Go.ChangeShapes Go.WideShapes Go.ChangeAt Go.RowKit
open Ho
set_option linter.unusedVariables false
set_option linter.unusedSimpArgs false

set_option maxRecDepth 20000 in
set_option maxHeartbeats 4000000 in
theorem rhAdd_any (w0 : World) (m : Nat) (T : List D) (u : Int) (s : SV) (x : Int) (p : List (List Int)) (w : World) (h : RhS w0 w m T) (hS : Sorted T) (hp : PtsAt w0 (sl s) p) (hn : T.length < 1000) :
    Calls Try.prog 12 #[.pointer (some ⟨m, 0, none⟩), waitV u s x] w fun e w' => e = .returned (.tuple #[]) ∧ RhS w0 w' m (ins T (u, p, x)) ∧ ChQ w0.heap.size w w' := by
  obtain ⟨i0, hi, hz0, hz1, hz2⟩ := info_parts (P := Try.prog) (e := 38) (z := .agg #[.int .i64 0, .slice none 0 0, .int .i64 0]) (size := 3) (bytes := 40) (by kernel_rfl)
  obtain ⟨v, l, h, rfl⟩ := h
  rw [List.length_map] at hn
  obtain ⟨A, c, rfl, _, a1, a2⟩ := h.row.shape
  obtain ⟨sA, sn, sc⟩ := s
  obtain ⟨n, hnn⟩ : ∃ n, n = l.length := ⟨_, rfl⟩
  rw [← hnn] at h hn
  obtain ⟨W1, hW1⟩ : ∃ W1, W1 = w.alloc (.cells #[.int .i64 u, .slice sA sn sc, .int .i64 x] 38) := ⟨_, rfl⟩
  have hb1 : Below w.heap.size w W1 := by rw [hW1]; exact ba _ _
  have hB1 : Blk W1 w.heap.size 38 #[.int .i64 u, .slice sA sn sc, .int .i64 x] := by rw [hW1]; exact Blk.new _ _ _
  have h1 := h.later hb1
  obtain ⟨d0, dl, df⟩ := h1.cells
  have H := Lib.hid (And.intro h1 (And.intro hB1 (And.intro hp (And.intro hS (And.intro hnn (And.intro hb1 h.low')))))); clear h h1 hB1 hp hS hnn hb1 a1 a2
  go_enter Try.func12, Try.ntmps12
  go_upto_region 1 with fail
  rw [← hW1]; clear hW1
  go_wp2_with fail
  clear d0 dl df
  go_loopw [4] (fun iv wr => ∃ k : Nat, k ≤ n ∧ iv = .int .i64 k ∧ (∀ j (hj : j < l.length), k ≤ j → kc (u, p, x) (l[j]'hj).1 < 0) ∧ Below W1.heap.size W1 wr) (fun i _ => (intOf i).toNat)
  case atStart => exact ⟨n, Nat.le_refl _, rfl, fun j hj h => by have := H.out.2.2.2.2.1; omega, Below.refl _ _⟩
  case round =>
    rename World => wr0
    obtain ⟨k, hk, rfl, hall, hbw⟩ := hrel
    have hBx := H.out.2.1.later hbw
    obtain ⟨b0, b1, b2⟩ : wr0.cell? ⟨w.heap.size, 0, none⟩ = some (.int .i64 u) ∧ wr0.cell? ⟨w.heap.size, 1, none⟩ = some (.slice sA sn sc) ∧ wr0.cell? ⟨w.heap.size, 2, none⟩ = some (.int .i64 x) := ⟨hBx.cell 0, hBx.cell 1, hBx.cell 2⟩
    have hr := H.out.1.later hbw
    obtain ⟨d0, dl, df⟩ := hr.cells
    clear hBx
    by_cases hk0 : 0 < k
    · obtain ⟨k1, rfl⟩ : ∃ k1, k = k1 + 1 := ⟨k - 1, by omega⟩
      have hkl : k1 < l.length := by have := H.out.2.2.2.2.1; omega
      obtain ⟨a, rfl, hc⟩ := (Own.at_ (f := rowW) (k := 3) (fun _ => rfl) hr.row).cells rfl (by have := H.out.2.2.2.2.1; omega)
      obtain ⟨e0, e1, e2⟩ := hc.row3 k1 hkl rfl
      have hpe := hr.pts _ (List.getElem_mem hkl)
      have hall' : kc (u, p, x) (l[k1]'hkl).1 < 0 → ∀ j (hj : j < l.length), k1 ≤ j → kc (u, p, x) (l[j]'hj).1 < 0 := fun h j hj hle => by
        rcases Nat.lt_or_eq_of_le hle with h2 | rfl
        · exact hall j hj (by omega)
        · exact h
      have hpos : ¬ kc (u, p, x) (l[k1]'hkl).1 < 0 → pos (u, p, x) (l.map (·.1)) = k1 + 1 := fun h => by
        refine pos_from H.out.2.2.2.1 _ _ (by simp; omega) (fun j hj hle => ?_) (fun hh _ => ?_)
        · simp only [List.getElem_map]; exact hall j (by simpa using hj) hle
        · simp only [List.getElem_map, Nat.add_sub_cancel]; exact h
      have cL : ∀ W, Below wr0.heap.size wr0 W → Calls Try.prog 33 #[waitV u (sA, sn, sc) x, waitV (l[k1]'hkl).1.1 (l[k1]'hkl).2 (l[k1]'hkl).1.2.2] W fun e w' => e = .returned (.bool (decide (kc (u, p, x) (l[k1]'hkl).1 < 0))) ∧ Below W.heap.size W w' := fun W hW => rless_any (u, p, x) (l[k1]'hkl).1 (sA, sn, sc) (l[k1]'hkl).2 W (H.out.2.2.1.later (bt hr.bel hW)) (hpe.later (bt hr.bel hW))
      generalize hy : l[k1]'hkl = y at *
      obtain ⟨⟨yu, yp, yx⟩, yA, yn, yc⟩ := y
      simp only at e0 e1 e2 cL hall' hpos
      replace e1 : wr0.cell? ⟨(a.add (k1 * 3)).block, (a.add (k1 * 3)).off + 1, none⟩ = some (.slice yA yn yc) := e1
      have hw1 : IntKind.i64.wrap (k1 : Int) = (k1 : Int) := IntWalk.i64_in _ (by omega)
      have hki : (0 : Int) < ((k1 : Int) + 1) := by omega
      have hk1n : (k1 : Int) < (n : Int) := by omega
      rcases hlt : decide (kc (u, p, x) (yu, yp, yx) < 0) with _ | _
      · rw [hlt] at cL
        have hpk := hpos (of_decide_eq_false hlt)
        have K := Lib.hid (And.intro cL (And.intro hpk hbw)); clear cL hpk hpos hall hall' hr hbw hlt hpe hc hy
        go_wp2_with fail
        have C := Lib.hid (fun (X : World) (hb : Below wr0.heap.size wr0 X) => (show X.cell? ⟨m, 0, none⟩ = some (.slice (some a) n c) ∧ X.cell? ⟨w.heap.size, 0, none⟩ = some (.int .i64 u) ∧ X.cell? ⟨w.heap.size, 1, none⟩ = some (.slice sA sn sc) ∧ X.cell? ⟨w.heap.size, 2, none⟩ = some (.int .i64 x) ∧ X.cell? (a.add (k1 * 3)) = some (.int .i64 yu) ∧ X.cell? ⟨(a.add (k1 * 3)).block, (a.add (k1 * 3)).off + 1, none⟩ = some (.slice yA yn yc) ∧ X.cell? ⟨(a.add (k1 * 3)).block, (a.add (k1 * 3)).off + 2, none⟩ = some (.int .i64 yx) from ⟨by rw [hb.cell (World.block_lt_of_cell? wr0 _ d0)]; exact d0, by rw [hb.cell (World.block_lt_of_cell? wr0 _ b0)]; exact b0, by rw [hb.cell (World.block_lt_of_cell? wr0 _ b1)]; exact b1, by rw [hb.cell (World.block_lt_of_cell? wr0 _ b2)]; exact b2, by rw [hb.cell (World.block_lt_of_cell? wr0 _ e0)]; exact e0, by rw [hb.cell (World.block_lt_of_cell? wr0 _ e1)]; exact e1, by rw [hb.cell (World.block_lt_of_cell? wr0 _ e2)]; exact e2⟩))
        have K1 := Lib.hid (Below.refl wr0.heap.size wr0)
        go_region_held3 (fun X => X.cell? ⟨m, 0, none⟩ = some (.slice (some a) n c) ∧ X.cell? ⟨w.heap.size, 0, none⟩ = some (.int .i64 u) ∧ X.cell? ⟨w.heap.size, 1, none⟩ = some (.slice sA sn sc) ∧ X.cell? ⟨w.heap.size, 2, none⟩ = some (.int .i64 x) ∧ X.cell? (a.add (k1 * 3)) = some (.int .i64 yu) ∧ X.cell? ⟨(a.add (k1 * 3)).block, (a.add (k1 * 3)).off + 1, none⟩ = some (.slice yA yn yc) ∧ X.cell? ⟨(a.add (k1 * 3)).block, (a.add (k1 * 3)).off + 2, none⟩ = some (.int .i64 yx)) (exact C.out _ (by first | exact K1.out | exact below_drew K1.out)) (first | (go_at_call 33; refine (K.out.1 _ (by first | exact K1.out | exact below_drew K1.out)).mono ?_; rintro e wz ⟨rfl, hb⟩; (first | replace K1 := Lib.hid (K1.out.trans (hb.mono K1.out.size)) | replace K1 := Lib.hid ((below_drew K1.out).trans (hb.mono K1.out.size))); clear hb))
        have Z := Lib.hid (And.intro K.out.2.1 (bt K.out.2.2 K1.out)); clear d0 dl df b0 b1 b2 e0 e1 e2 K K1 C
        generalize hkz : k1 + 1 = kz at *
        rw [show ((k1 : Int) + 1) = (kz : Int) by omega]
        have hr := H.out.1.later Z.out.2
        have hBx := H.out.2.1.later Z.out.2
        obtain ⟨d0, dl, df⟩ := hr.cells
        obtain ⟨b0, b1, b2⟩ : wz.cell? ⟨w.heap.size, 0, none⟩ = some (.int .i64 u) ∧ wz.cell? ⟨w.heap.size, 1, none⟩ = some (.slice sA sn sc) ∧ wz.cell? ⟨w.heap.size, 2, none⟩ = some (.int .i64 x) := ⟨hBx.cell 0, hBx.cell 1, hBx.cell 2⟩
        have bl : w.heap.size < wz.heap.size := hBx.lt
        have hat := Own.at_ (f := rowW) (k := 3) (fun _ => rfl) hr.row
        obtain ⟨m2, hm2⟩ : ∃ m2, m2 = n - kz := ⟨_, rfl⟩
        have hnl := H.out.2.2.2.2.1
        obtain ⟨A1, c1, hr1, hat1⟩ := At.upto (P := Try.prog) undQ szQ hat kz (by omega)
        obtain ⟨A2, c3, hr2, hat2⟩ := At.from_ (P := Try.prog) undQ szQ hat kz (by omega)
        rw [← hnl, ← hm2] at hr2 hat2
        have hl1 : (l.take kz).length = kz := by rw [List.length_take]; omega
        have hl2 : (l.drop kz).length = m2 := by rw [List.length_drop]; omega
        have hmn : m2 ≤ 1000 := by omega
        have hkn : kz ≤ 1000 := by omega
        have KM := Lib.hid (And.intro hat1 (And.intro hat2 (And.intro hl1 hl2)))
        have KN := Lib.hid hr
        clear hat hat1 hat2 hl1 hl2 hm2 hnl hBx hr
        go_wp2_with fail
        go_region_law (first
          | (refine step_append_at rfl (.tmp 36) (.tmp 42) 27 rfl wz.heap.size 38 i0 (.agg #[.int .i64 0, .slice none 0 0, .int .i64 0]) 3 40 Try.underlying27 hi hz0 hz1 hz2 rfl (by decide) (f := rowW) (fun _ => rfl) one_rowW _ (l.take kz ++ [((u, p, x), (sA, sn, sc))]) rfl hO7 A2 m2 c3 (l.drop kz) KM.out.2.2.2.symm rfl (KM.out.2.1.later b7) (by have := KM.out.2.2.1; rw [List.length_append, this]; unfold maxLen; simp; omega) (by have := KM.out.2.2.1; rw [List.length_append, this]; simp; omega) b7.size ?_; intro v8 w8 hO8 hg8; have b8 := own_past b7 hg8 hO7; obtain ⟨A8, n8, c8, rfl⟩ := own_shape hO8; have y0 : w8.cell? ⟨m, 0, none⟩ = some (.slice (some a) n c) := (by rw [b8.cell dl]; exact d0); have u0 : w8.cell? ⟨w.heap.size, 0, none⟩ = some (.int .i64 u) := (by rw [b8.cell bl]; exact b0); have u1 : w8.cell? ⟨w.heap.size, 1, none⟩ = some (.slice sA sn sc) := (by rw [b8.cell bl]; exact b1); have u2 : w8.cell? ⟨w.heap.size, 2, none⟩ = some (.int .i64 x) := (by rw [b8.cell bl]; exact b2); have yl8 : m < w8.heap.size := Nat.lt_of_lt_of_le dl b8.size; have ub : w.heap.size < w8.heap.size := Nat.lt_of_lt_of_le bl b8.size; have yf8 : w8.frozen? ⟨m, 0, none⟩ = false := (by rw [b8.frozen dl]; exact df 0); have K8 := Lib.hid (And.intro hO8 b8); clear hg8 hO8 b8)
          | (refine step_append_own rfl (.tmp 33) (.tmp 35) 27 rfl wz.heap.size 38 i0 (.agg #[.int .i64 0, .slice none 0 0, .int .i64 0]) 3 40 Try.underlying27 hi hz0 hz1 hz2 rfl (by decide) (.slice A5 n5 c5) kz ((l.take kz).flatMap rowW) (by simp [Act.eval, Act.put]) (by have := hO6.later (ba w6 (.cells #[.int .i64 u, .slice sA sn sc, .int .i64 x] 38)); unfold Own at this; rw [KM.out.2.2.1] at this; exact this) ⟨w6.heap.size, 0, none⟩ 1 1 (rowW ((u, p, x), (sA, sn, sc))) (by simp [Act.eval, Act.put]) rfl (new_cells rfl _ _) (by simp [Value.oneCell']) (by unfold maxLen; omega) (by omega) (by have := b6.size; (try simp only [World.size_alloc]); omega) ?_; intro v7 w7 hO7 hg7 _; replace hO7 : Own w7 wz.heap.size 38 3 rowW v7 (l.take kz ++ [((u, p, x), (sA, sn, sc))]) := Own.more KM.out.2.2.1.symm hO7; have b7 := own_past (bt b6 (ba w6 (.cells #[.int .i64 u, .slice sA sn sc, .int .i64 x] 38))) hg7 hO6; obtain ⟨A7, n7, c7, rfl⟩ := own_shape hO7; have y0 : w7.cell? ⟨m, 0, none⟩ = some (.slice (some a) n c) := (by rw [b7.cell dl]; exact d0); have u0 : w7.cell? ⟨w.heap.size, 0, none⟩ = some (.int .i64 u) := (by rw [b7.cell bl]; exact b0); have u1 : w7.cell? ⟨w.heap.size, 1, none⟩ = some (.slice sA sn sc) := (by rw [b7.cell bl]; exact b1); have u2 : w7.cell? ⟨w.heap.size, 2, none⟩ = some (.int .i64 x) := (by rw [b7.cell bl]; exact b2); have yl : m < w7.heap.size := Nat.lt_of_lt_of_le dl b7.size; have ub : w.heap.size < w7.heap.size := Nat.lt_of_lt_of_le bl b7.size; have yf : w7.frozen? ⟨m, 0, none⟩ = false := (by rw [b7.frozen dl]; exact df 0); clear hg7)
          | (refine step_append_own rfl (.tmp 33) (.tmp 35) 27 rfl wz.heap.size 38 i0 (.agg #[.int .i64 0, .slice none 0 0, .int .i64 0]) 3 40 Try.underlying27 hi hz0 hz1 hz2 rfl (by decide) (.slice A5 n5 c5) kz ((l.take kz).flatMap rowW) (by simp [Act.eval, Act.put]) (by have := hO6; unfold Own at this; rw [KM.out.2.2.1] at this; exact this) ⟨wz.heap.size, 0, none⟩ 1 1 (rowW ((u, p, x), (sA, sn, sc))) (by simp [Act.eval, Act.put]) rfl nc6 (by simp [Value.oneCell']) (by unfold maxLen; omega) (by omega) (by have := b6.size; (try simp only [World.size_alloc]); omega) ?_; intro v7 w7 hO7 hg7 _; replace hO7 : Own w7 wz.heap.size 38 3 rowW v7 (l.take kz ++ [((u, p, x), (sA, sn, sc))]) := Own.more KM.out.2.2.1.symm hO7; have b7 := own_past b6 hg7 hO6; obtain ⟨A7, n7, c7, rfl⟩ := own_shape hO7; have y0 : w7.cell? ⟨m, 0, none⟩ = some (.slice (some a) n c) := (by rw [b7.cell dl]; exact d0); have u0 : w7.cell? ⟨w.heap.size, 0, none⟩ = some (.int .i64 u) := (by rw [b7.cell bl]; exact b0); have u1 : w7.cell? ⟨w.heap.size, 1, none⟩ = some (.slice sA sn sc) := (by rw [b7.cell bl]; exact b1); have u2 : w7.cell? ⟨w.heap.size, 2, none⟩ = some (.int .i64 x) := (by rw [b7.cell bl]; exact b2); have yl : m < w7.heap.size := Nat.lt_of_lt_of_le dl b7.size; have ub : w.heap.size < w7.heap.size := Nat.lt_of_lt_of_le bl b7.size; have yf : w7.frozen? ⟨m, 0, none⟩ = false := (by rw [b7.frozen dl]; exact df 0); clear hg7)
          | (refine step_append_at rfl (.const (.slice none 0 0)) (.tmp 32) 27 rfl wz.heap.size 38 i0 (.agg #[.int .i64 0, .slice none 0 0, .int .i64 0]) 3 40 Try.underlying27 hi hz0 hz1 hz2 rfl (by decide) (f := rowW) (fun _ => rfl) one_rowW _ [] rfl (Own.nil _ _ _ _ _) A1 kz c1 (l.take kz) KM.out.2.2.1.symm rfl (KM.out.1.later (below_drew (Below.refl _ _))) (by unfold maxLen; simp only [List.length_nil]; omega) (by simp only [List.length_nil]; omega) (Nat.le_refl _) ?_; intro v5 w6 hO6 hg6; rw [List.nil_append] at hO6; have b6 : Below wz.heap.size wz w6 := own_past (w1 := wz.drew) (below_drew (Below.refl _ _)) hg6 (Own.nil wz _ 38 3 rowW);  obtain ⟨A5, n5, c5, rfl⟩ := own_shape hO6; have y0 : w6.cell? ⟨m, 0, none⟩ = some (.slice (some a) n c) := (by rw [b6.cell dl]; exact d0); have u0 : w6.cell? ⟨w.heap.size, 0, none⟩ = some (.int .i64 u) := (by rw [b6.cell bl]; exact b0); have u1 : w6.cell? ⟨w.heap.size, 1, none⟩ = some (.slice sA sn sc) := (by rw [b6.cell bl]; exact b1); have u2 : w6.cell? ⟨w.heap.size, 2, none⟩ = some (.int .i64 x) := (by rw [b6.cell bl]; exact b2); have yl : m < w6.heap.size := Nat.lt_of_lt_of_le dl b6.size; have ub : w.heap.size < w6.heap.size := Nat.lt_of_lt_of_le bl b6.size; have yf : w6.frozen? ⟨m, 0, none⟩ = false := (by rw [b6.frozen dl]; exact df 0); clear hg6)
          | (refine step_append_at rfl (.const (.slice none 0 0)) (.tmp 32) 27 rfl wz.heap.size 38 i0 (.agg #[.int .i64 0, .slice none 0 0, .int .i64 0]) 3 40 Try.underlying27 hi hz0 hz1 hz2 rfl (by decide) (f := rowW) (fun _ => rfl) one_rowW _ [] rfl (Own.nil _ _ _ _ _) A1 kz c1 (l.take kz) KM.out.2.2.1.symm rfl (KM.out.1.later (bt (below_drew (Below.refl _ _)) (ba wz.drew (.cells #[.int .i64 u, .slice sA sn sc, .int .i64 x] 38)))) (by unfold maxLen; simp only [List.length_nil]; omega) (by simp only [List.length_nil]; omega) (by simp only [World.size_alloc, World.size_drew]; omega) ?_; intro v5 w6 hO6 hg6; rw [List.nil_append] at hO6; have b6 : Below wz.heap.size wz w6 := own_past (w1 := wz.drew.alloc (.cells #[.int .i64 u, .slice sA sn sc, .int .i64 x] 38)) (bt (below_drew (Below.refl _ _)) (ba wz.drew (.cells #[.int .i64 u, .slice sA sn sc, .int .i64 x] 38))) hg6 (Own.nil wz _ 38 3 rowW); have nc6 := new_in (W := wz) (Wa := wz.drew) rfl (t := 38) (cs := #[.int .i64 u, .slice sA sn sc, .int .i64 x]) (own_past (w := wz.drew.alloc (.cells #[.int .i64 u, .slice sA sn sc, .int .i64 x] 38)) (Below.refl _ _) hg6 (Own.nil wz _ 38 3 rowW)); obtain ⟨A5, n5, c5, rfl⟩ := own_shape hO6; have y0 : w6.cell? ⟨m, 0, none⟩ = some (.slice (some a) n c) := (by rw [b6.cell dl]; exact d0); have u0 : w6.cell? ⟨w.heap.size, 0, none⟩ = some (.int .i64 u) := (by rw [b6.cell bl]; exact b0); have u1 : w6.cell? ⟨w.heap.size, 1, none⟩ = some (.slice sA sn sc) := (by rw [b6.cell bl]; exact b1); have u2 : w6.cell? ⟨w.heap.size, 2, none⟩ = some (.int .i64 x) := (by rw [b6.cell bl]; exact b2); have yl : m < w6.heap.size := Nat.lt_of_lt_of_le dl b6.size; have ub : w.heap.size < w6.heap.size := Nat.lt_of_lt_of_le bl b6.size; have yf : w6.frozen? ⟨m, 0, none⟩ = false := (by rw [b6.frozen dl]; exact df 0); clear hg6))
        all_goals go_wp2
        all_goals refine bodyPost_end (v := .tuple #[]) (by simp only [results, Try.results12]; simp [go_sem]) rfl ?_
        all_goals
          obtain ⟨s1, s2⟩ := (KN.out.later K8.out.2).rowto KN.out.low' K8.out.1 (fun y hy => by
            rcases List.mem_append.1 hy with hy | hy
            · rcases List.mem_append.1 hy with hy | hy
              · exact KN.out.pts y (List.mem_of_mem_take hy)
              · obtain rfl : y = _ := by simpa using hy
                exact H.out.2.2.1
            · exact KN.out.pts y (List.mem_of_mem_drop hy))
          refine ⟨rfl, ⟨_, _, s1, ?_⟩, (ChQ.later H.out.2.2.2.2.2.2 (bt H.out.2.2.2.2.2.1 (bt Z.out.2 K8.out.2))).trans s2⟩
          rw [List.append_assoc]
          exact map_ins l ((u, p, x), (sA, sn, sc)) kz Z.out.1
      · rw [hlt] at cL
        have hal2 := hall' (of_decide_eq_true hlt)
        have K := Lib.hid (And.intro cL (And.intro hal2 hbw)); clear cL hal2 hpos hall hall' hr hbw hlt hpe hc hy
        go_wp2_with fail
        have C := Lib.hid (fun (X : World) (hb : Below wr0.heap.size wr0 X) => (show X.cell? ⟨m, 0, none⟩ = some (.slice (some a) n c) ∧ X.cell? ⟨w.heap.size, 0, none⟩ = some (.int .i64 u) ∧ X.cell? ⟨w.heap.size, 1, none⟩ = some (.slice sA sn sc) ∧ X.cell? ⟨w.heap.size, 2, none⟩ = some (.int .i64 x) ∧ X.cell? (a.add (k1 * 3)) = some (.int .i64 yu) ∧ X.cell? ⟨(a.add (k1 * 3)).block, (a.add (k1 * 3)).off + 1, none⟩ = some (.slice yA yn yc) ∧ X.cell? ⟨(a.add (k1 * 3)).block, (a.add (k1 * 3)).off + 2, none⟩ = some (.int .i64 yx) from ⟨by rw [hb.cell (World.block_lt_of_cell? wr0 _ d0)]; exact d0, by rw [hb.cell (World.block_lt_of_cell? wr0 _ b0)]; exact b0, by rw [hb.cell (World.block_lt_of_cell? wr0 _ b1)]; exact b1, by rw [hb.cell (World.block_lt_of_cell? wr0 _ b2)]; exact b2, by rw [hb.cell (World.block_lt_of_cell? wr0 _ e0)]; exact e0, by rw [hb.cell (World.block_lt_of_cell? wr0 _ e1)]; exact e1, by rw [hb.cell (World.block_lt_of_cell? wr0 _ e2)]; exact e2⟩))
        have K1 := Lib.hid (Below.refl wr0.heap.size wr0)
        go_region_held3 (fun X => X.cell? ⟨m, 0, none⟩ = some (.slice (some a) n c) ∧ X.cell? ⟨w.heap.size, 0, none⟩ = some (.int .i64 u) ∧ X.cell? ⟨w.heap.size, 1, none⟩ = some (.slice sA sn sc) ∧ X.cell? ⟨w.heap.size, 2, none⟩ = some (.int .i64 x) ∧ X.cell? (a.add (k1 * 3)) = some (.int .i64 yu) ∧ X.cell? ⟨(a.add (k1 * 3)).block, (a.add (k1 * 3)).off + 1, none⟩ = some (.slice yA yn yc) ∧ X.cell? ⟨(a.add (k1 * 3)).block, (a.add (k1 * 3)).off + 2, none⟩ = some (.int .i64 yx)) (exact C.out _ (by first | exact K1.out | exact below_drew K1.out)) (first | (go_at_call 33; refine (K.out.1 _ (by first | exact K1.out | exact below_drew K1.out)).mono ?_; rintro e wz ⟨rfl, hb⟩; (first | replace K1 := Lib.hid (K1.out.trans (hb.mono K1.out.size)) | replace K1 := Lib.hid ((below_drew K1.out).trans (hb.mono K1.out.size))); clear hb))
        have Z := Lib.hid (bt K.out.2.2 K1.out)
        go_wp2
        go_roundw
        case rel => exact ⟨k1, by omega, by go_num, K.out.2.1, Z.out⟩
        case measure => simp [intOf]
    · have hpk : pos (u, p, x) (l.map (·.1)) = k := pos_from H.out.2.2.2.1 _ _ (by have := H.out.2.2.2.2.1; simp; omega) (fun j hj hle => by simp only [List.getElem_map]; exact hall j (by simpa using hj) hle) (fun hh h => absurd h hk0)
      have hkf : ¬ (0 : Int) < (k : Int) := by omega
      have hkd : decide ((0 : Int) < (k : Int)) = false := decide_eq_false hkf
      have hkd2 : decide (0 < k) = false := decide_eq_false hk0
      have Z0 := Lib.hid (And.intro hpk hbw); clear hpk hbw hr hall
      go_wp2_with fail
      go_quiet (fail)
      clear d0 dl df b0 b1 b2
      have Z := Lib.hid (And.intro Z0.out.1 (below_drewN Z0.out.2 nq))
      clear Z0
      generalize wr0.drewN nq = wz at *
      have hr := H.out.1.later Z.out.2
      have hBx := H.out.2.1.later Z.out.2
      obtain ⟨d0, dl, df⟩ := hr.cells
      obtain ⟨b0, b1, b2⟩ : wz.cell? ⟨w.heap.size, 0, none⟩ = some (.int .i64 u) ∧ wz.cell? ⟨w.heap.size, 1, none⟩ = some (.slice sA sn sc) ∧ wz.cell? ⟨w.heap.size, 2, none⟩ = some (.int .i64 x) := ⟨hBx.cell 0, hBx.cell 1, hBx.cell 2⟩
      have bl : w.heap.size < wz.heap.size := hBx.lt
      have hat := Own.at_ (f := rowW) (k := 3) (fun _ => rfl) hr.row
      obtain ⟨m2, hm2⟩ : ∃ m2, m2 = n - k := ⟨_, rfl⟩
      have hnl := H.out.2.2.2.2.1
      obtain ⟨A1, c1, hr1, hat1⟩ := At.upto (P := Try.prog) undQ szQ hat k (by omega)
      obtain ⟨A2, c3, hr2, hat2⟩ := At.from_ (P := Try.prog) undQ szQ hat k (by omega)
      rw [← hnl, ← hm2] at hr2 hat2
      have hl1 : (l.take k).length = k := by rw [List.length_take]; omega
      have hl2 : (l.drop k).length = m2 := by rw [List.length_drop]; omega
      have hmn : m2 ≤ 1000 := by omega
      have hkn : k ≤ 1000 := by omega
      have KM := Lib.hid (And.intro hat1 (And.intro hat2 (And.intro hl1 hl2)))
      have KN := Lib.hid hr
      clear hat hat1 hat2 hl1 hl2 hm2 hnl hBx hr
      go_wp2_with fail
      go_region_law (first
        | (refine step_append_at rfl (.tmp 36) (.tmp 42) 27 rfl wz.heap.size 38 i0 (.agg #[.int .i64 0, .slice none 0 0, .int .i64 0]) 3 40 Try.underlying27 hi hz0 hz1 hz2 rfl (by decide) (f := rowW) (fun _ => rfl) one_rowW _ (l.take k ++ [((u, p, x), (sA, sn, sc))]) rfl hO7 A2 m2 c3 (l.drop k) KM.out.2.2.2.symm rfl (KM.out.2.1.later b7) (by have := KM.out.2.2.1; rw [List.length_append, this]; unfold maxLen; simp; omega) (by have := KM.out.2.2.1; rw [List.length_append, this]; simp; omega) b7.size ?_; intro v8 w8 hO8 hg8; have b8 := own_past b7 hg8 hO7; obtain ⟨A8, n8, c8, rfl⟩ := own_shape hO8; have y0 : w8.cell? ⟨m, 0, none⟩ = some (.slice A n c) := (by rw [b8.cell dl]; exact d0); have u0 : w8.cell? ⟨w.heap.size, 0, none⟩ = some (.int .i64 u) := (by rw [b8.cell bl]; exact b0); have u1 : w8.cell? ⟨w.heap.size, 1, none⟩ = some (.slice sA sn sc) := (by rw [b8.cell bl]; exact b1); have u2 : w8.cell? ⟨w.heap.size, 2, none⟩ = some (.int .i64 x) := (by rw [b8.cell bl]; exact b2); have yl8 : m < w8.heap.size := Nat.lt_of_lt_of_le dl b8.size; have ub : w.heap.size < w8.heap.size := Nat.lt_of_lt_of_le bl b8.size; have yf8 : w8.frozen? ⟨m, 0, none⟩ = false := (by rw [b8.frozen dl]; exact df 0); have K8 := Lib.hid (And.intro hO8 b8); clear hg8 hO8 b8)
        | (refine step_append_own rfl (.tmp 33) (.tmp 35) 27 rfl wz.heap.size 38 i0 (.agg #[.int .i64 0, .slice none 0 0, .int .i64 0]) 3 40 Try.underlying27 hi hz0 hz1 hz2 rfl (by decide) (.slice A5 n5 c5) k ((l.take k).flatMap rowW) (by simp [Act.eval, Act.put]) (by have := hO6.later (ba w6 (.cells #[.int .i64 u, .slice sA sn sc, .int .i64 x] 38)); unfold Own at this; rw [KM.out.2.2.1] at this; exact this) ⟨w6.heap.size, 0, none⟩ 1 1 (rowW ((u, p, x), (sA, sn, sc))) (by simp [Act.eval, Act.put]) rfl (new_cells rfl _ _) (by simp [Value.oneCell']) (by unfold maxLen; omega) (by omega) (by have := b6.size; (try simp only [World.size_alloc]); omega) ?_; intro v7 w7 hO7 hg7 _; replace hO7 : Own w7 wz.heap.size 38 3 rowW v7 (l.take k ++ [((u, p, x), (sA, sn, sc))]) := Own.more KM.out.2.2.1.symm hO7; have b7 := own_past (bt b6 (ba w6 (.cells #[.int .i64 u, .slice sA sn sc, .int .i64 x] 38))) hg7 hO6; obtain ⟨A7, n7, c7, rfl⟩ := own_shape hO7; have y0 : w7.cell? ⟨m, 0, none⟩ = some (.slice A n c) := (by rw [b7.cell dl]; exact d0); have u0 : w7.cell? ⟨w.heap.size, 0, none⟩ = some (.int .i64 u) := (by rw [b7.cell bl]; exact b0); have u1 : w7.cell? ⟨w.heap.size, 1, none⟩ = some (.slice sA sn sc) := (by rw [b7.cell bl]; exact b1); have u2 : w7.cell? ⟨w.heap.size, 2, none⟩ = some (.int .i64 x) := (by rw [b7.cell bl]; exact b2); have yl : m < w7.heap.size := Nat.lt_of_lt_of_le dl b7.size; have ub : w.heap.size < w7.heap.size := Nat.lt_of_lt_of_le bl b7.size; have yf : w7.frozen? ⟨m, 0, none⟩ = false := (by rw [b7.frozen dl]; exact df 0); clear hg7)
        | (refine step_append_own rfl (.tmp 33) (.tmp 35) 27 rfl wz.heap.size 38 i0 (.agg #[.int .i64 0, .slice none 0 0, .int .i64 0]) 3 40 Try.underlying27 hi hz0 hz1 hz2 rfl (by decide) (.slice A5 n5 c5) k ((l.take k).flatMap rowW) (by simp [Act.eval, Act.put]) (by have := hO6; unfold Own at this; rw [KM.out.2.2.1] at this; exact this) ⟨wz.heap.size, 0, none⟩ 1 1 (rowW ((u, p, x), (sA, sn, sc))) (by simp [Act.eval, Act.put]) rfl nc6 (by simp [Value.oneCell']) (by unfold maxLen; omega) (by omega) (by have := b6.size; (try simp only [World.size_alloc]); omega) ?_; intro v7 w7 hO7 hg7 _; replace hO7 : Own w7 wz.heap.size 38 3 rowW v7 (l.take k ++ [((u, p, x), (sA, sn, sc))]) := Own.more KM.out.2.2.1.symm hO7; have b7 := own_past b6 hg7 hO6; obtain ⟨A7, n7, c7, rfl⟩ := own_shape hO7; have y0 : w7.cell? ⟨m, 0, none⟩ = some (.slice A n c) := (by rw [b7.cell dl]; exact d0); have u0 : w7.cell? ⟨w.heap.size, 0, none⟩ = some (.int .i64 u) := (by rw [b7.cell bl]; exact b0); have u1 : w7.cell? ⟨w.heap.size, 1, none⟩ = some (.slice sA sn sc) := (by rw [b7.cell bl]; exact b1); have u2 : w7.cell? ⟨w.heap.size, 2, none⟩ = some (.int .i64 x) := (by rw [b7.cell bl]; exact b2); have yl : m < w7.heap.size := Nat.lt_of_lt_of_le dl b7.size; have ub : w.heap.size < w7.heap.size := Nat.lt_of_lt_of_le bl b7.size; have yf : w7.frozen? ⟨m, 0, none⟩ = false := (by rw [b7.frozen dl]; exact df 0); clear hg7)
        | (refine step_append_at rfl (.const (.slice none 0 0)) (.tmp 32) 27 rfl wz.heap.size 38 i0 (.agg #[.int .i64 0, .slice none 0 0, .int .i64 0]) 3 40 Try.underlying27 hi hz0 hz1 hz2 rfl (by decide) (f := rowW) (fun _ => rfl) one_rowW _ [] rfl (Own.nil _ _ _ _ _) A1 k c1 (l.take k) KM.out.2.2.1.symm rfl (KM.out.1.later (below_drew (Below.refl _ _))) (by unfold maxLen; simp only [List.length_nil]; omega) (by simp only [List.length_nil]; omega) (Nat.le_refl _) ?_; intro v5 w6 hO6 hg6; rw [List.nil_append] at hO6; have b6 : Below wz.heap.size wz w6 := own_past (w1 := wz.drew) (below_drew (Below.refl _ _)) hg6 (Own.nil wz _ 38 3 rowW);  obtain ⟨A5, n5, c5, rfl⟩ := own_shape hO6; have y0 : w6.cell? ⟨m, 0, none⟩ = some (.slice A n c) := (by rw [b6.cell dl]; exact d0); have u0 : w6.cell? ⟨w.heap.size, 0, none⟩ = some (.int .i64 u) := (by rw [b6.cell bl]; exact b0); have u1 : w6.cell? ⟨w.heap.size, 1, none⟩ = some (.slice sA sn sc) := (by rw [b6.cell bl]; exact b1); have u2 : w6.cell? ⟨w.heap.size, 2, none⟩ = some (.int .i64 x) := (by rw [b6.cell bl]; exact b2); have yl : m < w6.heap.size := Nat.lt_of_lt_of_le dl b6.size; have ub : w.heap.size < w6.heap.size := Nat.lt_of_lt_of_le bl b6.size; have yf : w6.frozen? ⟨m, 0, none⟩ = false := (by rw [b6.frozen dl]; exact df 0); clear hg6)
        | (refine step_append_at rfl (.const (.slice none 0 0)) (.tmp 32) 27 rfl wz.heap.size 38 i0 (.agg #[.int .i64 0, .slice none 0 0, .int .i64 0]) 3 40 Try.underlying27 hi hz0 hz1 hz2 rfl (by decide) (f := rowW) (fun _ => rfl) one_rowW _ [] rfl (Own.nil _ _ _ _ _) A1 k c1 (l.take k) KM.out.2.2.1.symm rfl (KM.out.1.later (bt (below_drew (Below.refl _ _)) (ba wz.drew (.cells #[.int .i64 u, .slice sA sn sc, .int .i64 x] 38)))) (by unfold maxLen; simp only [List.length_nil]; omega) (by simp only [List.length_nil]; omega) (by simp only [World.size_alloc, World.size_drew]; omega) ?_; intro v5 w6 hO6 hg6; rw [List.nil_append] at hO6; have b6 : Below wz.heap.size wz w6 := own_past (w1 := wz.drew.alloc (.cells #[.int .i64 u, .slice sA sn sc, .int .i64 x] 38)) (bt (below_drew (Below.refl _ _)) (ba wz.drew (.cells #[.int .i64 u, .slice sA sn sc, .int .i64 x] 38))) hg6 (Own.nil wz _ 38 3 rowW); have nc6 := new_in (W := wz) (Wa := wz.drew) rfl (t := 38) (cs := #[.int .i64 u, .slice sA sn sc, .int .i64 x]) (own_past (w := wz.drew.alloc (.cells #[.int .i64 u, .slice sA sn sc, .int .i64 x] 38)) (Below.refl _ _) hg6 (Own.nil wz _ 38 3 rowW)); obtain ⟨A5, n5, c5, rfl⟩ := own_shape hO6; have y0 : w6.cell? ⟨m, 0, none⟩ = some (.slice A n c) := (by rw [b6.cell dl]; exact d0); have u0 : w6.cell? ⟨w.heap.size, 0, none⟩ = some (.int .i64 u) := (by rw [b6.cell bl]; exact b0); have u1 : w6.cell? ⟨w.heap.size, 1, none⟩ = some (.slice sA sn sc) := (by rw [b6.cell bl]; exact b1); have u2 : w6.cell? ⟨w.heap.size, 2, none⟩ = some (.int .i64 x) := (by rw [b6.cell bl]; exact b2); have yl : m < w6.heap.size := Nat.lt_of_lt_of_le dl b6.size; have ub : w.heap.size < w6.heap.size := Nat.lt_of_lt_of_le bl b6.size; have yf : w6.frozen? ⟨m, 0, none⟩ = false := (by rw [b6.frozen dl]; exact df 0); clear hg6))
      all_goals go_wp2
      all_goals refine bodyPost_end (v := .tuple #[]) (by simp only [results, Try.results12]; simp [go_sem]) rfl ?_
      all_goals
        obtain ⟨s1, s2⟩ := (KN.out.later K8.out.2).rowto KN.out.low' K8.out.1 (fun y hy => by
          rcases List.mem_append.1 hy with hy | hy
          · rcases List.mem_append.1 hy with hy | hy
            · exact KN.out.pts y (List.mem_of_mem_take hy)
            · obtain rfl : y = _ := by simpa using hy
              exact H.out.2.2.1
          · exact KN.out.pts y (List.mem_of_mem_drop hy))
        refine ⟨rfl, ⟨_, _, s1, ?_⟩, (ChQ.later H.out.2.2.2.2.2.2 (bt H.out.2.2.2.2.2.1 (bt Z.out.2 K8.out.2))).trans s2⟩
        rw [List.append_assoc]
        exact map_ins l ((u, p, x), (sA, sn, sc)) k Z.out.1
end Go.Proofs.Yticjfhagpmlieaa
