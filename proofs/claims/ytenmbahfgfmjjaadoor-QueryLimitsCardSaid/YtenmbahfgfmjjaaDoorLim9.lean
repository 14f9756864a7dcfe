/- QueryLimits: the regions that append a Part, an Output. -/
import Derived.Test.YtenmbahfgfmjjaaDoorEx09
import Derived.Test.YtenmbahfgfmjjaaDoorHeldL
namespace Go.Proofs.YtenmbahfgfmjjaaDoor
open Go.ChangeShapes Go.WideShapes Go.ChangeAt Go.RowKit Go.Maps
set_option linter.unusedVariables false
set_option linter.unusedSimpArgs false

theorem ptF_one (x : Px) : ∀ u ∈ ptF x, u.oneCell' = true := fun u hu => by
  simp at hu
  rcases hu with rfl | rfl | rfl | rfl | rfl <;> rfl
/-- An Output in a row: where what stands below it lies. -/
abbrev Oy := Ot × SV
abbrev otS (x : Oy) : List Value := otF (x.1, sl x.2)
theorem otS_one (x : Oy) : ∀ u ∈ otS x, u.oneCell' = true := fun u hu => by
  obtain ⟨⟨f, t⟩, K⟩ := x
  cases t <;> (simp [Tr.node] at hu; rcases hu with rfl | rfl | rfl | rfl | rfl | rfl | rfl | rfl | rfl <;> rfl)
theorem at_map {α β : Type} {w : World} {k : Nat} {f : β → List Value} {g : α → β} {v : Value} {l : List α} (h : At w k (fun x => f (g x)) v l) : At w k f v (l.map g) := by
  obtain ⟨A, c, hv, h1, h2, h3, h4⟩ := h
  refine ⟨A, c, by rw [List.length_map]; exact hv, by rw [List.length_map]; exact h1, h2, h3, fun b hb j hj i u hu => ?_⟩
  rw [List.length_map] at hj
  rw [List.getElem_map] at hu
  exact h4 b hb j hj i u hu
theorem at_newPt (w : World) (x : Px) : At (w.alloc (.cells #[.bool x.1.nt, .bool x.1.pl, sl x.2.1, .string x.1.v, sl x.2.2] 37)) 5 ptF (.slice (some ⟨w.heap.size, 0, none⟩) 1 1) [x] :=
  at_blk (k := 5) (f := ptF) (fun _ => rfl) [x] (Blk.new _ _ _) rfl (by unfold maxLen; omega) rfl
theorem at_newOt (w : World) (nm : ByteArray) (n : Int) : At (w.alloc (.cells #[.string nm, .int .i64 0, .string e0, .int .i64 1, .int .i64 n, .string e0, .string e0, .string e0, nilk] 45)) 9 otS (.slice (some ⟨w.heap.size, 0, none⟩) 1 1) [((⟨nm, .lit 1 n e0⟩ : Ot), ((none, 0, 0) : SV))] :=
  at_blk (k := 9) (f := otS) (fun _ => rfl) [((⟨nm, .lit 1 n e0⟩ : Ot), ((none, 0, 0) : SV))] (Blk.new _ _ _) rfl (by unfold maxLen; omega) rfl
set_option maxRecDepth 20000 in
set_option maxHeartbeats 4000000 in
theorem lim12 (u0 u1 u2 u3 u4 u5 u6 u7 u10 u12 u14 u15 u16 u17 u18 u19 u20 u21 u22 u23 u24 u25 u26 u27 u28 u29 u30 u31 u32 u33 u34 u35 u36 u37 u38 u39 u40 u41 u42 u43 u44 u45 u46 u47 u48 u49 u50 u51 u52 u53 u54 u55 u56 u57 u58 u59 u60 u61 u62 u63 u64 u65 u66 u67 u68 u69 u70 u71 u72 u73 u74 u75 u76 u77 u78 u79 u80 u81 u82 u83 u84 u85 u86 u87 : Value) {wb w : World} {g nb i m sc pn pc : Nat} {pA sA : Option Addr} {ov : Value} {nmi : ByteArray} {ss : List ByteArray} {l : List Px} (hB : Blk w g 27 #[.string xq, .bool false, .slice pA pn pc, .int .i64 0, .string e0, ov]) (hO : Own w (g + 1) 37 5 ptF (.slice pA pn pc) l) (hb : Below wb.heap.size wb w) (hg : wb.heap.size ≤ g) (hl : l.length ≤ 20) (hi : i < 11) (hz : wb.cell? ⟨nb, i, none⟩ = some (.string nmi)) (hrun : ∀ W, (Instr.slice 33 (.slice (some ⟨nb, 0, none⟩) 11 11) none (some (.int .i64 (m : Int))) none).run Tryd.prog W = .ok (.slice sA m sc) W) {Q : Exit → Act → World → Prop}
    (hQ : ∀ (x34 x35 x36 x37 x38 x39 x40 x41 x42 x43 x44 x45 x46 : Value) (v : Value) (wx : World), Blk wx g 27 #[.string xq, .bool false, v, .int .i64 0, .string e0, ov] ∧ Own wx (g + 1) 37 5 ptF v (l ++ [((⟨false, false, ss, nmi, []⟩ : Pt), (sA, m, sc), ((none, 0, 0) : SV))]) ∧ Below wb.heap.size wb wx → Q .normal ⟨#[u0, u1, u2, u3, u4, u5, u6, u7, .slice (some ⟨nb, 0, none⟩) 11 11, .pointer (some ⟨g, 0, none⟩), u10, .int .i64 (m : Nat), u12, .int .i64 (i : Nat), u14, u15, u16, u17, u18, u19, u20, u21, u22, u23, u24, u25, u26, u27, u28, u29, u30, u31, u32, u33, x34, x35, x36, x37, x38, x39, x40, x41, x42, x43, x44, x45, x46, u47, u48, u49, u50, u51, u52, u53, u54, u55, u56, u57, u58, u59, u60, u61, u62, u63, u64, u65, u66, u67, u68, u69, u70, u71, u72, u73, u74, u75, u76, u77, u78, u79, u80, u81, u82, u83, u84, u85, u86, u87], []⟩ wx) :
    Code.wp Tryd.prog ((Tryd.f6.body.bind (regionN 12)).getD .skip) Q ⟨#[u0, u1, u2, u3, u4, u5, u6, u7, .slice (some ⟨nb, 0, none⟩) 11 11, .pointer (some ⟨g, 0, none⟩), u10, .int .i64 (m : Nat), u12, .int .i64 (i : Nat), u14, u15, u16, u17, u18, u19, u20, u21, u22, u23, u24, u25, u26, u27, u28, u29, u30, u31, u32, u33, u34, u35, u36, u37, u38, u39, u40, u41, u42, u43, u44, u45, u46, u47, u48, u49, u50, u51, u52, u53, u54, u55, u56, u57, u58, u59, u60, u61, u62, u63, u64, u65, u66, u67, u68, u69, u70, u71, u72, u73, u74, u75, u76, u77, u78, u79, u80, u81, u82, u83, u84, u85, u86, u87], []⟩ w := by
  have HQ := Lib.hid hQ; clear hQ
  conv => arg 2; whnf
  obtain ⟨js, sj, sy0, sy1, sy2⟩ := info_parts (P := Tryd.prog) (e := 37) (z := .agg #[.bool false, .bool false, .slice none 0 0, .string ⟨#[]⟩, .slice none 0 0]) (size := 5) (bytes := 72) (by kernel_rfl)
  have hgl := hB.lt
  have c2 := hB.cell 2
  simp only [List.getElem?_toArray, List.getElem?_cons_succ, List.getElem?_cons_zero] at c2
  have hzl := World.block_lt_of_cell? wb _ hz
  have hz0 : w.cell? ⟨nb, i, none⟩ = some (.string nmi) := by rw [hb.cell hzl]; exact hz
  have hzw := World.block_lt_of_cell? w _ hz0
  have hiI : (i : Int) < 11 := by omega
  have keepS : ∀ X, Below w.heap.size w X → X.cell? ⟨g, 2, none⟩ = some (.slice pA pn pc) ∧ X.cell? ⟨nb, i, none⟩ = some (.string nmi) := fun X hX => ⟨by rw [hX.cell hgl]; exact c2, by rw [hX.cell hzw]; exact hz0⟩
  have H := Lib.hid (And.intro hB (And.intro hO (And.intro hb (And.intro hg hl)))); clear hB hO hb hg hl
  refine wp_region_noPanic ?_
  refine HeldLast.wp_region_last_drew 13 (S := (fun w' => w'.cell? ⟨g, 2, none⟩ = some (.slice pA pn pc) ∧ w'.cell? ⟨nb, i, none⟩ = some (.string nmi))) (by kernel_rfl) ?_ (fun hHeld => ?_)
  · exact ⟨c2, hz0⟩
  refine HeldLast.wpAnyL_take (i := 0) (v := ?v0) [0, 1, 11, 13] rfl (by kernel_rfl) (by kernel_rfl) (by kernel_rfl) (by kernel_rfl) (fun _ _ _ h => h) (Or.inl ⟨by rfl, ?hy0⟩) (by assumption) ?rest0
  case hy0 => (intro w hSw; (try dsimp only at hSw); go_simp; try with_reducible rfl)
  try simp only [Act.put, List.setIfInBounds_toArray, List.set_cons_zero, List.set_cons_succ]
  refine HeldLast.wpAnyL_take (i := 1) (v := ?v1) [1, 11, 13] rfl (by kernel_rfl) (by kernel_rfl) (by kernel_rfl) (by kernel_rfl) (fun _ _ _ h => h) (Or.inl ⟨by rfl, ?hy1⟩) (by assumption) ?rest1
  case hy1 => (intro w hSw; (try dsimp only at hSw); go_simp; try with_reducible rfl)
  try simp only [Act.put, List.setIfInBounds_toArray, List.set_cons_zero, List.set_cons_succ]
  refine HeldLast.wpAnyL_take (i := 2) (v := ?v2) [2, 4, 9, 10, 11, 13] rfl (by kernel_rfl) (by kernel_rfl) (by kernel_rfl) (by kernel_rfl) (fun _ _ _ h => h) (Or.inl ⟨by rfl, ?hy2⟩) (by assumption) ?rest2
  case hy2 => (intro w hSw; (try dsimp only at hSw); go_simp; try with_reducible rfl)
  try simp only [Act.put, List.setIfInBounds_toArray, List.set_cons_zero, List.set_cons_succ]
  refine HeldLast.wpAnyL_take (i := 3) (v := ?v3) [3, 4, 9, 10, 11, 13] rfl (by kernel_rfl) (by kernel_rfl) (by kernel_rfl) (by kernel_rfl) (fun _ _ _ h => h) (Or.inl ⟨by rfl, ?hy3⟩) (by assumption) ?rest3
  case hy3 => (intro w hSw; (try dsimp only at hSw); go_simp; try with_reducible rfl)
  try simp only [Act.put, List.setIfInBounds_toArray, List.set_cons_zero, List.set_cons_succ]
  refine HeldLast.wpAnyL_take (i := 4) (v := ?v4) [4, 9, 10, 11, 13] rfl (by kernel_rfl) (by kernel_rfl) (by kernel_rfl) (by kernel_rfl) (fun _ _ _ h => h) (Or.inl ⟨by rfl, ?hy4⟩) (by assumption) ?rest4
  case hy4 => (intro w hSw; (try dsimp only at hSw); go_simp; try with_reducible rfl)
  try simp only [Act.put, List.setIfInBounds_toArray, List.set_cons_zero, List.set_cons_succ]
  refine HeldLast.wpAnyL_take (i := 5) (v := ?v5) [5, 7, 8, 9, 10, 11, 13] rfl (by kernel_rfl) (by kernel_rfl) (by kernel_rfl) (by kernel_rfl) (fun _ _ _ h => h) (Or.inl ⟨by rfl, ?hy5⟩) (by assumption) ?rest5
  case hy5 => (intro w hSw; (try dsimp only at hSw); go_simp; try with_reducible rfl)
  try simp only [Act.put, List.setIfInBounds_toArray, List.set_cons_zero, List.set_cons_succ]
  refine HeldLast.wpAnyL_take (i := 6) (v := ?v6) [6, 7, 8, 9, 10, 11, 13] rfl (by kernel_rfl) (by kernel_rfl) (by kernel_rfl) (by kernel_rfl) (fun _ _ _ h => h) (Or.inl ⟨by rfl, ?hy6⟩) (by assumption) ?rest6
  case hy6 => (intro w hSw; (try dsimp only at hSw); go_simp; try with_reducible rfl)
  try simp only [Act.put, List.setIfInBounds_toArray, List.set_cons_zero, List.set_cons_succ]
  refine HeldLast.wpAnyL_take (i := 7) (v := ?v7) [7, 8, 9, 10, 11, 13] rfl (by kernel_rfl) (by kernel_rfl) (by kernel_rfl) (by kernel_rfl) (fun _ _ _ h => h) (Or.inl ⟨by rfl, ?hy7⟩) (by assumption) ?rest7
  case hy7 => (intro w hSw; (try dsimp only at hSw); go_simp; try with_reducible rfl)
  try simp only [Act.put, List.setIfInBounds_toArray, List.set_cons_zero, List.set_cons_succ]
  refine HeldLast.wpAnyL_take (i := 8) (v := ?v8) [8, 9, 10, 11, 13] rfl (by kernel_rfl) (by kernel_rfl) (by kernel_rfl) (by kernel_rfl) (fun _ _ _ h => h) (Or.inl ⟨by rfl, ?hy8⟩) (by assumption) ?rest8
  case hy8 => (intro w hSw; (try dsimp only at hSw); go_simp; try with_reducible rfl)
  try simp only [Act.put, List.setIfInBounds_toArray, List.set_cons_zero, List.set_cons_succ]
  refine HeldLast.wpAnyL_take (i := 9) (v := ?v9) [9, 10, 11, 13] rfl (by kernel_rfl) (by kernel_rfl) (by kernel_rfl) (by kernel_rfl) (fun _ _ _ h => h) (Or.inl ⟨by rfl, ?hy9⟩) (by assumption) ?rest9
  case hy9 => (intro w hSw; (try dsimp only at hSw); go_simp; try with_reducible rfl)
  try simp only [Act.put, List.setIfInBounds_toArray, List.set_cons_zero, List.set_cons_succ]
  refine HeldLast.wpAnyL_ready (rs := [10]) (by kernel_rfl) (by simp) ?_
  refine HeldLast.AllReadyL.cons rfl (fun K' hK => ?_) HeldLast.AllReadyL.nil
  go_simp
  refine hK.out _ _ ?_ (fun hHeld => ?_)
  · exact keepS _ (bt (below_drew (Below.refl _ _)) (ba _ _))
  clear hK K'
  try simp only [Act.put, List.setIfInBounds_toArray, List.set_cons_zero, List.set_cons_succ]
  refine HeldLast.wpAnyL_ready (rs := [11]) (by kernel_rfl) (by simp) ?_
  refine HeldLast.AllReadyL.cons rfl (fun K' hK => ?_) HeldLast.AllReadyL.nil
  refine step_append_at rfl (.tmp 35) (.tmp 44) 24 rfl (g + 1) 37 js (.agg #[.bool false, .bool false, .slice none 0 0, .string ⟨#[]⟩, .slice none 0 0]) 5 72 Tryd.underlying24 sj sy0 sy1 sy2 rfl (by decide) (f := ptF) (fun _ => rfl) ptF_one (.slice pA pn pc) l rfl (H.out.2.1.later (bt (below_drew (Below.refl w.heap.size w)) (ba w.drew (.cells #[.bool false, .bool false, .slice sA m sc, .string nmi, .slice none 0 0] 37)))) (some ⟨w.heap.size, 0, none⟩) 1 1 [((⟨false, false, ss, nmi, []⟩ : Pt), (sA, m, sc), ((none, 0, 0) : SV))] rfl rfl (at_newPt w.drew _) (by have := H.out.2.2.2.2; unfold maxLen; simp; omega) (by have := H.out.2.2.2.2; simp; omega) (by simp only [World.size_alloc, World.size_drew]; omega) ?_
  intro v7 w7 hO7 hg7
  obtain ⟨vA, vn, vc, rfl⟩ := own_shape hO7
  have x1 : Blk w7 g 27 #[.string xq, .bool false, .slice pA pn pc, .int .i64 0, .string e0, ov] := Blk.grown (H.out.1.later (bt (below_drew (Below.refl w.heap.size w)) (ba w.drew (.cells #[.bool false, .bool false, .slice sA m sc, .string nmi, .slice none 0 0] 37)))) hg7 (fun e => (by have := (ownBI H.out.2.1 e.symm).1; omega))
  have y1 : w7.cell? ⟨g, 2, none⟩ = some (.slice pA pn pc) := x1.cell 2
  have y2 := x1.lt
  have y3 := x1.frozen
  have hb7 : Below wb.heap.size wb w7 := (bt H.out.2.2.1 (bt (below_drew (Below.refl w.heap.size w)) (ba w.drew (.cells #[.bool false, .bool false, .slice sA m sc, .string nmi, .slice none 0 0] 37)))).trans (grownBy_below hg7 (bt H.out.2.2.1 (bt (below_drew (Below.refl w.heap.size w)) (ba w.drew (.cells #[.bool false, .bool false, .slice sA m sc, .string nmi, .slice none 0 0] 37)))).size (fun x hx => (by have := (ownBI H.out.2.1 hx).1; have := H.out.2.2.2.1; omega)))
  have z7 : w7.cell? ⟨nb, i, none⟩ = some (.string nmi) := by rw [hb7.cell hzl]; exact hz
  refine hK.out _ _ ?_ (fun hHeld => ?_)
  · exact ⟨y1, z7⟩
  clear hK K'
  try simp only [Act.put, List.setIfInBounds_toArray, List.set_cons_zero, List.set_cons_succ]
  refine HeldLast.wpAnyL_take (i := 12) (v := ?v12) [12, 13] rfl (by kernel_rfl) (by kernel_rfl) (by kernel_rfl) (by kernel_rfl) (fun _ _ _ h => h) (Or.inl ⟨by rfl, ?hy12⟩) (by assumption) ?rest12
  case hy12 => (intro w hSw; (try dsimp only at hSw); go_simp; try with_reducible rfl)
  try simp only [Act.put, List.setIfInBounds_toArray, List.set_cons_zero, List.set_cons_succ]
  refine HeldLast.wpAnyL_ready (rs := [13]) (by kernel_rfl) (by simp) ?_
  refine HeldLast.AllReadyL.last rfl (fun K' hK => ?_)
  go_simp
  refine hK.out _ _ ?_
  clear hK K'
  try simp only [Act.put, List.setIfInBounds_toArray, List.set_cons_zero, List.set_cons_succ]
  refine HeldLast.wpAnyL_done (by kernel_rfl) ?_ _
  refine NoPanic.normal ?_
  refine HQ.out _ _ _ _ _ _ _ _ _ _ _ _ _ (.slice vA vn vc) _ ⟨?_, ?_, ?_⟩
  · have := x1.set_ 2 (.slice vA vn vc)
    simpa using this
  · exact hO7.far (p := ⟨g, 2, none⟩) (Nat.lt_succ_self g) _
  · exact hb7.setCell (p := ⟨g, 2, none⟩) H.out.2.2.2.1 _
set_option maxRecDepth 20000 in
set_option maxHeartbeats 4000000 in
theorem lim16 (u0 u1 u2 u3 u4 u5 u6 u7 u10 u11 u12 u13 u15 u16 u17 u18 u19 u20 u21 u22 u23 u24 u25 u26 u27 u28 u29 u30 u31 u32 u33 u34 u35 u36 u37 u38 u39 u40 u41 u42 u43 u44 u45 u46 u47 u48 u49 u50 u51 u52 u53 u54 u55 u56 u57 u58 u59 u60 u61 u62 u63 u64 u65 u66 u67 u68 u69 u70 u71 u72 u73 u74 u75 u76 u77 u78 u79 u80 u81 u82 u83 u84 u85 u86 u87 : Value) {wb w : World} {g nb i pn pc : Nat} {pA : Option Addr} {pv : Value} {nmi : ByteArray} {l : List Oy} {lp : List Px} (hB : Blk w g 27 #[.string xq, .bool false, pv, .int .i64 0, .string e0, .slice pA pn pc]) (hO : Own w (g + 1) 45 9 otS (.slice pA pn pc) l) (hb : Below wb.heap.size wb w) (hg : wb.heap.size ≤ g) (hl : l.length ≤ 20) (hO2 : Own w (g + 1) 37 5 ptF pv lp) (hi : i < 11) (hz : wb.cell? ⟨nb, i, none⟩ = some (.string nmi)) {Q : Exit → Act → World → Prop}
    (hQ : ∀ (x52 x53 x54 x55 x56 x57 x58 x59 x60 x61 x62 x63 : Value) (v : Value) (wx : World), Blk wx g 27 #[.string xq, .bool false, pv, .int .i64 0, .string e0, v] ∧ Own wx (g + 1) 45 9 otS v (l ++ [((⟨nmi, .lit 1 (i : Int) e0⟩ : Ot), ((none, 0, 0) : SV))]) ∧ Below wb.heap.size wb wx ∧ Own wx (g + 1) 37 5 ptF pv lp → Q .normal ⟨#[u0, u1, u2, u3, u4, u5, u6, u7, .slice (some ⟨nb, 0, none⟩) 11 11, .pointer (some ⟨g, 0, none⟩), u10, u11, u12, u13, .int .i64 (i : Nat), u15, u16, u17, u18, u19, u20, u21, u22, u23, u24, u25, u26, u27, u28, u29, u30, u31, u32, u33, u34, u35, u36, u37, u38, u39, u40, u41, u42, u43, u44, u45, u46, u47, u48, u49, u50, u51, x52, x53, x54, x55, x56, x57, x58, x59, x60, x61, x62, x63, u64, u65, u66, u67, u68, u69, u70, u71, u72, u73, u74, u75, u76, u77, u78, u79, u80, u81, u82, u83, u84, u85, u86, u87], []⟩ wx) :
    Code.wp Tryd.prog ((Tryd.f6.body.bind (regionN 16)).getD .skip) Q ⟨#[u0, u1, u2, u3, u4, u5, u6, u7, .slice (some ⟨nb, 0, none⟩) 11 11, .pointer (some ⟨g, 0, none⟩), u10, u11, u12, u13, .int .i64 (i : Nat), u15, u16, u17, u18, u19, u20, u21, u22, u23, u24, u25, u26, u27, u28, u29, u30, u31, u32, u33, u34, u35, u36, u37, u38, u39, u40, u41, u42, u43, u44, u45, u46, u47, u48, u49, u50, u51, u52, u53, u54, u55, u56, u57, u58, u59, u60, u61, u62, u63, u64, u65, u66, u67, u68, u69, u70, u71, u72, u73, u74, u75, u76, u77, u78, u79, u80, u81, u82, u83, u84, u85, u86, u87], []⟩ w := by
  have HQ := Lib.hid hQ; clear hQ
  conv => arg 2; whnf
  obtain ⟨js, sj, sy0, sy1, sy2⟩ := info_parts (P := Tryd.prog) (e := 45) (z := .agg #[.string ⟨#[]⟩, .int .i64 0, .string ⟨#[]⟩, .int .i64 0, .int .i64 0, .string ⟨#[]⟩, .string ⟨#[]⟩, .string ⟨#[]⟩, .slice none 0 0]) (size := 9) (bytes := 128) (by kernel_rfl)
  have hgl := hB.lt
  have c2 := hB.cell 5
  simp only [List.getElem?_toArray, List.getElem?_cons_succ, List.getElem?_cons_zero] at c2
  have hzl := World.block_lt_of_cell? wb _ hz
  have hz0 : w.cell? ⟨nb, i, none⟩ = some (.string nmi) := by rw [hb.cell hzl]; exact hz
  have hzw := World.block_lt_of_cell? w _ hz0
  have hiI : (i : Int) < 11 := by omega
  have keepS : ∀ X, Below w.heap.size w X → X.cell? ⟨g, 5, none⟩ = some (.slice pA pn pc) ∧ X.cell? ⟨nb, i, none⟩ = some (.string nmi) := fun X hX => ⟨by rw [hX.cell hgl]; exact c2, by rw [hX.cell hzw]; exact hz0⟩
  have H := Lib.hid (And.intro hB (And.intro hO (And.intro hb (And.intro hg (And.intro hl hO2))))); clear hB hO hb hg hl hO2
  refine wp_region_noPanic ?_
  refine HeldLast.wp_region_last_drew 12 (S := (fun w' => w'.cell? ⟨g, 5, none⟩ = some (.slice pA pn pc) ∧ w'.cell? ⟨nb, i, none⟩ = some (.string nmi))) (by kernel_rfl) ?_ (fun hHeld => ?_)
  · exact ⟨c2, hz0⟩
  refine HeldLast.wpAnyL_take (i := 0) (v := ?v0) [0, 1, 10, 12] rfl (by kernel_rfl) (by kernel_rfl) (by kernel_rfl) (by kernel_rfl) (fun _ _ _ h => h) (Or.inl ⟨by rfl, ?hy0⟩) (by assumption) ?rest0
  case hy0 => (intro w hSw; (try dsimp only at hSw); go_simp; try with_reducible rfl)
  try simp only [Act.put, List.setIfInBounds_toArray, List.set_cons_zero, List.set_cons_succ]
  refine HeldLast.wpAnyL_take (i := 1) (v := ?v1) [1, 10, 12] rfl (by kernel_rfl) (by kernel_rfl) (by kernel_rfl) (by kernel_rfl) (fun _ _ _ h => h) (Or.inl ⟨by rfl, ?hy1⟩) (by assumption) ?rest1
  case hy1 => (intro w hSw; (try dsimp only at hSw); go_simp; try with_reducible rfl)
  try simp only [Act.put, List.setIfInBounds_toArray, List.set_cons_zero, List.set_cons_succ]
  refine HeldLast.wpAnyL_take (i := 2) (v := ?v2) [2, 4, 5, 8, 9, 10, 12] rfl (by kernel_rfl) (by kernel_rfl) (by kernel_rfl) (by kernel_rfl) (fun _ _ _ h => h) (Or.inl ⟨by rfl, ?hy2⟩) (by assumption) ?rest2
  case hy2 => (intro w hSw; (try dsimp only at hSw); go_simp; try with_reducible rfl)
  try simp only [Act.put, List.setIfInBounds_toArray, List.set_cons_zero, List.set_cons_succ]
  refine HeldLast.wpAnyL_take (i := 3) (v := ?v3) [3, 4, 5, 8, 9, 10, 12] rfl (by kernel_rfl) (by kernel_rfl) (by kernel_rfl) (by kernel_rfl) (fun _ _ _ h => h) (Or.inl ⟨by rfl, ?hy3⟩) (by assumption) ?rest3
  case hy3 => (intro w hSw; (try dsimp only at hSw); go_simp; try with_reducible rfl)
  try simp only [Act.put, List.setIfInBounds_toArray, List.set_cons_zero, List.set_cons_succ]
  refine HeldLast.wpAnyL_take (i := 4) (v := ?v4) [4, 5, 8, 9, 10, 12] rfl (by kernel_rfl) (by kernel_rfl) (by kernel_rfl) (by kernel_rfl) (fun _ _ _ h => h) (Or.inl ⟨by rfl, ?hy4⟩) (by assumption) ?rest4
  case hy4 => (intro w hSw; (try dsimp only at hSw); go_simp; try with_reducible rfl)
  try simp only [Act.put, List.setIfInBounds_toArray, List.set_cons_zero, List.set_cons_succ]
  refine HeldLast.wpAnyL_take (i := 5) (v := ?v5) [5, 8, 9, 10, 12] rfl (by kernel_rfl) (by kernel_rfl) (by kernel_rfl) (by kernel_rfl) (fun _ _ _ h => h) (Or.inl ⟨by rfl, ?hy5⟩) (by assumption) ?rest5
  case hy5 => (intro w hSw; (try dsimp only at hSw); go_simp; try with_reducible rfl)
  try simp only [Act.put, List.setIfInBounds_toArray, List.set_cons_zero, List.set_cons_succ]
  refine HeldLast.wpAnyL_take (i := 6) (v := ?v6) [6, 7, 8, 9, 10, 12] rfl (by kernel_rfl) (by kernel_rfl) (by kernel_rfl) (by kernel_rfl) (fun _ _ _ h => h) (Or.inl ⟨by rfl, ?hy6⟩) (by assumption) ?rest6
  case hy6 => (intro w hSw; (try dsimp only at hSw); go_simp; try with_reducible rfl)
  try simp only [Act.put, List.setIfInBounds_toArray, List.set_cons_zero, List.set_cons_succ]
  refine HeldLast.wpAnyL_ready (rs := [7]) (by kernel_rfl) (by simp) ?_
  refine HeldLast.AllReadyL.cons rfl (fun K' hK => ?_) HeldLast.AllReadyL.nil
  go_simp
  go_at_call 14
  refine (lit_any (i : Int) _).mono ?_
  rintro e w5 ⟨rfl, b5⟩
  have B5 : Below w.heap.size w w5 := bt (below_drew (Below.refl _ _)) b5
  refine hK.out _ _ ?_ (fun hHeld => ?_)
  · exact keepS w5 B5
  clear hK K'
  try simp only [Act.put, List.setIfInBounds_toArray, List.set_cons_zero, List.set_cons_succ]
  refine HeldLast.wpAnyL_take (i := 8) (v := ?v8) [8, 9, 10, 12] rfl (by kernel_rfl) (by kernel_rfl) (by kernel_rfl) (by kernel_rfl) (fun _ _ _ h => h) (Or.inl ⟨by rfl, ?hy8⟩) (by assumption) ?rest8
  case hy8 => (intro w hSw; (try dsimp only at hSw); go_simp; try with_reducible rfl)
  try simp only [Act.put, List.setIfInBounds_toArray, List.set_cons_zero, List.set_cons_succ]
  refine HeldLast.wpAnyL_ready (rs := [9]) (by kernel_rfl) (by simp) ?_
  refine HeldLast.AllReadyL.cons rfl (fun K' hK => ?_) HeldLast.AllReadyL.nil
  go_simp
  refine hK.out _ _ ?_ (fun hHeld => ?_)
  · exact keepS _ (bt B5 (ba _ _))
  clear hK K'
  try simp only [Act.put, List.setIfInBounds_toArray, List.set_cons_zero, List.set_cons_succ]
  refine HeldLast.wpAnyL_ready (rs := [10]) (by kernel_rfl) (by simp) ?_
  refine HeldLast.AllReadyL.cons rfl (fun K' hK => ?_) HeldLast.AllReadyL.nil
  refine step_append_at rfl (.tmp 53) (.tmp 61) 25 rfl (g + 1) 45 js (.agg #[.string ⟨#[]⟩, .int .i64 0, .string ⟨#[]⟩, .int .i64 0, .int .i64 0, .string ⟨#[]⟩, .string ⟨#[]⟩, .string ⟨#[]⟩, .slice none 0 0]) 9 128 Tryd.underlying25 sj sy0 sy1 sy2 rfl (by decide) (f := otS) (fun _ => rfl) otS_one (.slice pA pn pc) l rfl (H.out.2.1.later (bt B5 (ba w5 (.cells #[.string nmi, .int .i64 0, .string e0, .int .i64 1, .int .i64 (i : Int), .string e0, .string e0, .string e0, nilk] 45)))) (some ⟨w5.heap.size, 0, none⟩) 1 1 [((⟨nmi, .lit 1 (i : Int) e0⟩ : Ot), ((none, 0, 0) : SV))] rfl rfl (at_newOt w5 _ _) (by have := H.out.2.2.2.2.1; unfold maxLen; simp; omega) (by have := H.out.2.2.2.2.1; simp; omega) (by have := B5.size; simp only [World.size_alloc]; omega) ?_
  intro v7 w7 hO7 hg7
  obtain ⟨vA, vn, vc, rfl⟩ := own_shape hO7
  have x1 : Blk w7 g 27 #[.string xq, .bool false, pv, .int .i64 0, .string e0, .slice pA pn pc] := Blk.grown (H.out.1.later (bt B5 (ba w5 (.cells #[.string nmi, .int .i64 0, .string e0, .int .i64 1, .int .i64 (i : Int), .string e0, .string e0, .string e0, nilk] 45)))) hg7 (fun e => (by have := (ownBI H.out.2.1 e.symm).1; omega))
  have y1 : w7.cell? ⟨g, 5, none⟩ = some (.slice pA pn pc) := x1.cell 5
  have y2 := x1.lt
  have y3 := x1.frozen
  have hb7 : Below wb.heap.size wb w7 := (bt H.out.2.2.1 (bt B5 (ba w5 (.cells #[.string nmi, .int .i64 0, .string e0, .int .i64 1, .int .i64 (i : Int), .string e0, .string e0, .string e0, nilk] 45)))).trans (grownBy_below hg7 (bt H.out.2.2.1 (bt B5 (ba w5 (.cells #[.string nmi, .int .i64 0, .string e0, .int .i64 1, .int .i64 (i : Int), .string e0, .string e0, .string e0, nilk] 45)))).size (fun x hx => (by have := (ownBI H.out.2.1 hx).1; have := H.out.2.2.2.1; omega)))
  have hP7 : Own w7 (g + 1) 37 5 ptF pv lp := (H.out.2.2.2.2.2.later (bt B5 (ba w5 (.cells #[.string nmi, .int .i64 0, .string e0, .int .i64 1, .int .i64 (i : Int), .string e0, .string e0, .string e0, nilk] 45)))).grown hg7 (fun b hb e => by obtain ⟨_, cs, hc⟩ := ownBI (H.out.2.2.2.2.2.later (bt B5 (ba w5 (.cells #[.string nmi, .int .i64 0, .string e0, .int .i64 1, .int .i64 (i : Int), .string e0, .string e0, .string e0, nilk] 45)))) e; obtain ⟨_, cs', hc'⟩ := ownBI (H.out.2.1.later (bt B5 (ba w5 (.cells #[.string nmi, .int .i64 0, .string e0, .int .i64 1, .int .i64 (i : Int), .string e0, .string e0, .string e0, nilk] 45)))) hb; rw [hc] at hc'; simp at hc')
  have z7 : w7.cell? ⟨nb, i, none⟩ = some (.string nmi) := by rw [hb7.cell hzl]; exact hz
  refine hK.out _ _ ?_ (fun hHeld => ?_)
  · exact ⟨y1, z7⟩
  clear hK K'
  try simp only [Act.put, List.setIfInBounds_toArray, List.set_cons_zero, List.set_cons_succ]
  refine HeldLast.wpAnyL_take (i := 11) (v := ?v11) [11, 12] rfl (by kernel_rfl) (by kernel_rfl) (by kernel_rfl) (by kernel_rfl) (fun _ _ _ h => h) (Or.inl ⟨by rfl, ?hy11⟩) (by assumption) ?rest11
  case hy11 => (intro w hSw; (try dsimp only at hSw); go_simp; try with_reducible rfl)
  try simp only [Act.put, List.setIfInBounds_toArray, List.set_cons_zero, List.set_cons_succ]
  refine HeldLast.wpAnyL_ready (rs := [12]) (by kernel_rfl) (by simp) ?_
  refine HeldLast.AllReadyL.last rfl (fun K' hK => ?_)
  go_simp
  refine hK.out _ _ ?_
  clear hK K'
  try simp only [Act.put, List.setIfInBounds_toArray, List.set_cons_zero, List.set_cons_succ]
  refine HeldLast.wpAnyL_done (by kernel_rfl) ?_ _
  refine NoPanic.normal ?_
  refine HQ.out _ _ _ _ _ _ _ _ _ _ _ _ (.slice vA vn vc) _ ⟨?_, ?_, ?_, ?_⟩
  · have := x1.set_ 5 (.slice vA vn vc)
    simpa using this
  · exact hO7.far (p := ⟨g, 5, none⟩) (Nat.lt_succ_self g) _
  · exact hb7.setCell (p := ⟨g, 5, none⟩) H.out.2.2.2.1 _
  · exact hP7.far (p := ⟨g, 5, none⟩) (Nat.lt_succ_self g) _
end Go.Proofs.YtenmbahfgfmjjaaDoor
