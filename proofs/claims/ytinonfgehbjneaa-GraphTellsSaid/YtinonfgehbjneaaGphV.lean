/- GraphAdds: the region that puts the node behind the others. -/
import Derived.Test.YtinonfgehbjneaaGphR
import Derived.Test.YtinonfgehbjneaaPiece
import Derived.Deep.RegionHeld3
namespace Go.Proofs.Ytinonfgehbjneaa
open Go.ChangeShapes Go.WideShapes Go.ChangeAt Go.RowKit Go.Maps
set_option linter.unusedVariables false
set_option linter.unusedSimpArgs false
theorem szNd (W : World) : (sizeOf (Try.prog.elem 23)).run Try.prog W = .ok 2 W := by kernel_rfl
theorem undNd : Try.prog.underlying 23 = some (.slice (Try.prog.elem 23)) := by kernel_rfl
set_option maxRecDepth 20000 in
set_option maxHeartbeats 4000000 in
theorem adds10 (u0 u1 u2 u3 u4 u5 u6 u7 u8 u9 u12 u13 u14 u15 u16 u17 u18 u19 u20 u21 u22 u23 u24 u25 u26 u27 u28 u29 u30 u31 u32 u33 u34 u35 u36 u37 u38 u39 u40 u41 u42 u43 u44 u45 u46 u47 u48 u49 u50 u51 u52 u53 u54 u55 u56 u57 u58 u59 u60 u61 u62 u63 u64 u65 u66 u67 u68 u69 u70 u71 u72 u73 u74 u75 u76 u77 u78 u79 u80 u81 u82 u83 u84 u85 u86 u87 u88 u89 u90 u91 u92 u93 u94 u95 u96 u97 u98 u99 u100 u101 u102 u103 u104 u105 u106 u107 u108 u109 u110 u111 u112 u113 u114 u115 u116 u117 u118 u119 u120 u121 u122 u123 u124 u125 u126 u127 u128 u129 u130 u131 u132 u133 u134 u135 u136 u137 u138 u139 u140 u141 u142 u143 u144 u145 u146 u147 u148 u149 u150 : Value) {w : World} {g n fn fc c1 : Nat} {nm : ByteArray} {A1 fA : Option Addr} {l : List Ny} {F : List ByteArray} (hB : Blk w g 45 #[.string nm, .slice fA fn fc]) (hA : At w 2 rowN (.slice A1 n c1) l) (hn : n ≤ 6) {Q : Exit → Act → World → Prop}
    (hQ : ∀ (x57 x58 x59 x60 x61 x62 x63 x64 x65 : Value) (v : Value) (wx : World), Own wx w.heap.size 45 2 rowN v (l ++ [((nm, F), (fA, fn, fc))]) ∧ Below w.heap.size w wx → Q .normal ⟨#[u0, u1, u2, u3, u4, u5, u6, u7, u8, u9, .slice A1 n c1, .pointer (some ⟨g, 0, none⟩), u12, v, u14, u15, u16, u17, u18, u19, u20, u21, u22, u23, u24, u25, u26, u27, u28, u29, u30, u31, u32, u33, u34, u35, u36, u37, u38, u39, u40, u41, u42, u43, u44, u45, u46, u47, u48, u49, u50, u51, u52, u53, u54, u55, u56, x57, x58, x59, x60, x61, x62, x63, x64, x65, u66, u67, u68, u69, u70, u71, u72, u73, u74, u75, u76, u77, u78, u79, u80, u81, u82, u83, u84, u85, u86, u87, u88, u89, u90, u91, u92, u93, u94, u95, u96, u97, u98, u99, u100, u101, u102, u103, u104, u105, u106, u107, u108, u109, u110, u111, u112, u113, u114, u115, u116, u117, u118, u119, u120, u121, u122, u123, u124, u125, u126, u127, u128, u129, u130, u131, u132, u133, u134, u135, u136, u137, u138, u139, u140, u141, u142, u143, u144, u145, u146, u147, u148, u149, u150], []⟩ wx) :
    Code.wp Try.prog ((Try.f7.body.bind (regionN 10)).getD .skip) Q ⟨#[u0, u1, u2, u3, u4, u5, u6, u7, u8, u9, .slice A1 n c1, .pointer (some ⟨g, 0, none⟩), u12, u13, u14, u15, u16, u17, u18, u19, u20, u21, u22, u23, u24, u25, u26, u27, u28, u29, u30, u31, u32, u33, u34, u35, u36, u37, u38, u39, u40, u41, u42, u43, u44, u45, u46, u47, u48, u49, u50, u51, u52, u53, u54, u55, u56, u57, u58, u59, u60, u61, u62, u63, u64, u65, u66, u67, u68, u69, u70, u71, u72, u73, u74, u75, u76, u77, u78, u79, u80, u81, u82, u83, u84, u85, u86, u87, u88, u89, u90, u91, u92, u93, u94, u95, u96, u97, u98, u99, u100, u101, u102, u103, u104, u105, u106, u107, u108, u109, u110, u111, u112, u113, u114, u115, u116, u117, u118, u119, u120, u121, u122, u123, u124, u125, u126, u127, u128, u129, u130, u131, u132, u133, u134, u135, u136, u137, u138, u139, u140, u141, u142, u143, u144, u145, u146, u147, u148, u149, u150], []⟩ w := by
  have HQ := Lib.hid hQ; clear hQ
  conv => arg 2; whnf
  obtain ⟨js, sj, sy0, sy1, sy2⟩ := info_parts (P := Try.prog) (e := 45) (z := .agg #[.string ⟨#[]⟩, .slice none 0 0]) (size := 2) (bytes := 40) (by kernel_rfl)
  have hc0 := hB.cell 0
  have hc1 := hB.cell 1
  simp only [List.getElem?_toArray, List.getElem?_cons_succ, List.getElem?_cons_zero] at hc0 hc1
  have hgl := hB.lt
  have keepS : ∀ X, Below w.heap.size w X → X.cell? ⟨g, 0, none⟩ = some (.string nm) ∧ X.cell? ⟨g, 1, none⟩ = some (.slice fA fn fc) := fun X hX => ⟨by rw [hX.cell hgl]; exact hc0, by rw [hX.cell hgl]; exact hc1⟩
  obtain ⟨B', hrun, hat⟩ := At.full (P := Try.prog) undNd szNd hA
  obtain ⟨c9, hcap, hln⟩ : ∃ c9, c9 = c1 ∧ n = l.length := by
    obtain ⟨_, _, e, _⟩ := hA
    simp only [Value.slice.injEq] at e
    exact ⟨_, rfl, e.2.1⟩
  have H := Lib.hid (And.intro hB (And.intro hat (And.intro hln hn))); clear hB hA hat hcap hln
  refine wp_region_noPanic ?_
  refine wp_region_held_drew (S := (fun w' => w'.cell? ⟨g, 0, none⟩ = some (.string nm) ∧ w'.cell? ⟨g, 1, none⟩ = some (.slice fA fn fc))) (by kernel_rfl) ?_ (fun hHeld => ?_)
  · exact ⟨hc0, hc1⟩
  refine wpAnyH_take (i := 0) (v := ?v0) rfl (by kernel_rfl) (by kernel_rfl) (by kernel_rfl) (fun _ _ _ h => h) (Or.inl ⟨by rfl, ?hy0⟩) (by assumption) ?rest0
  case hy0 => (intro w hSw; (try dsimp only at hSw); go_simp; try with_reducible rfl)
  try simp only [Act.put, List.setIfInBounds_toArray, List.set_cons_zero, List.set_cons_succ]
  refine wpAnyH_take (i := 1) (v := ?v1) rfl (by kernel_rfl) (by kernel_rfl) (by kernel_rfl) (fun _ _ _ h => h) (Or.inl ⟨by rfl, ?hy1⟩) (by assumption) ?rest1
  case hy1 => (intro w hSw; (try dsimp only at hSw); go_simp; try with_reducible rfl)
  try simp only [Act.put, List.setIfInBounds_toArray, List.set_cons_zero, List.set_cons_succ]
  refine wpAnyH_take (i := 2) (v := ?v2) rfl (by kernel_rfl) (by kernel_rfl) (by kernel_rfl) (fun _ _ _ h => h) (Or.inl ⟨by rfl, ?hy2⟩) (by assumption) ?rest2
  case hy2 => (intro w hSw; (try dsimp only at hSw); go_simp; try with_reducible rfl)
  try simp only [Act.put, List.setIfInBounds_toArray, List.set_cons_zero, List.set_cons_succ]
  refine wpAnyH_take (i := 3) (v := ?v3) rfl (by kernel_rfl) (by kernel_rfl) (by kernel_rfl) (fun _ _ _ h => h) (Or.inl ⟨by rfl, ?hy3⟩) (by assumption) ?rest3
  case hy3 => (intro w hSw; (try dsimp only at hSw); go_simp; try with_reducible rfl)
  try simp only [Act.put, List.setIfInBounds_toArray, List.set_cons_zero, List.set_cons_succ]
  refine wpAnyH_take (i := 4) (v := ?v4) rfl (by kernel_rfl) (by kernel_rfl) (by kernel_rfl) (fun _ _ _ h => h) (Or.inl ⟨by rfl, ?hy4⟩) (by assumption) ?rest4
  case hy4 => (intro w hSw; (try dsimp only at hSw); go_simp; try with_reducible rfl)
  try simp only [Act.put, List.setIfInBounds_toArray, List.set_cons_zero, List.set_cons_succ]
  refine wpAnyH_take (i := 5) (v := ?v5) rfl (by kernel_rfl) (by kernel_rfl) (by kernel_rfl) (fun _ _ _ h => h) (Or.inl ⟨by rfl, ?hy5⟩) (by assumption) ?rest5
  case hy5 => (intro w hSw; (try dsimp only at hSw); go_simp; try with_reducible rfl)
  try simp only [Act.put, List.setIfInBounds_toArray, List.set_cons_zero, List.set_cons_succ]
  refine wpAnyH_take (i := 6) (v := ?v6) rfl (by kernel_rfl) (by kernel_rfl) (by kernel_rfl) (fun _ _ _ h => h) (Or.inl ⟨by rfl, ?hy6⟩) (by assumption) ?rest6
  case hy6 => (intro w hSw; (try dsimp only at hSw); go_simp; try with_reducible rfl)
  try simp only [Act.put, List.setIfInBounds_toArray, List.set_cons_zero, List.set_cons_succ]
  refine wpAnyH_ready (rs := [7]) (by kernel_rfl) (by simp) ?_
  refine AllReadyH.cons rfl (fun K' hK => ?_) AllReadyH.nil
  go_simp
  refine hK.out _ _ ?_ (fun hHeld => ?_)
  · exact keepS _ (bt (below_drew (Below.refl _ _)) (ba _ _))
  clear hK K'
  try simp only [Act.put, List.setIfInBounds_toArray, List.set_cons_zero, List.set_cons_succ]
  refine wpAnyH_ready (rs := [8]) (by kernel_rfl) (by simp) ?_
  refine AllReadyH.cons rfl (fun K' hK => ?_) AllReadyH.nil
  refine step_append_full rfl (.tmp 62) (.tmp 64) 23 rfl 45 js (.agg #[.string ⟨#[]⟩, .slice none 0 0]) 2 40 Try.underlying23 sj sy0 sy1 sy2 rfl (by decide) (f := rowN) (fun _ => rfl) one_rowN B' n l H.out.2.2.1 rfl (H.out.2.1.later (bt (below_drew (Below.refl _ _)) (ba _ _))) ⟨_, 0, none⟩ 1 ((nm, F), (fA, fn, fc)) rfl (new_cells rfl _ _) (by have := H.out.2.2.2; unfold maxLen; omega) (by have := H.out.2.2.2; omega) (by decide) ?_
  intro v5 w5 hO5 hg5
  have b5 : Below w.heap.size w w5 := (bt (below_drew (Below.refl _ _)) (ba w.drew (.cells #[.string nm, .slice fA fn fc] 45))).trans (grownBy_below hg5 (by simp only [World.size_drew, World.size_alloc]; omega) (fun k hk => by simp at hk))
  obtain ⟨A5, n5, c5, rfl⟩ := own_shape hO5
  refine hK.out _ _ ?_ (fun hHeld => ?_)
  · exact keepS w5 b5
  clear hK K'
  try simp only [Act.put, List.setIfInBounds_toArray, List.set_cons_zero, List.set_cons_succ]
  refine wpAnyH_ready (rs := [9]) (by kernel_rfl) (by simp) ?_
  refine AllReadyH.cons rfl (fun K' hK => ?_) AllReadyH.nil
  go_simp
  refine hK.out _ _ ?_ (fun hHeld => ?_)
  · exact keepS w5 b5
  clear hK K'
  try simp only [Act.put, List.setIfInBounds_toArray, List.set_cons_zero, List.set_cons_succ]
  refine wpAnyH_done (by kernel_rfl) ?_ _
  refine NoPanic.normal ?_
  refine HQ.out _ _ _ _ _ _ _ _ _ (.slice A5 n5 c5) _ ⟨hO5.lift (by simp only [World.size_drew, World.size_alloc]; omega), b5⟩
end Go.Proofs.Ytinonfgehbjneaa
