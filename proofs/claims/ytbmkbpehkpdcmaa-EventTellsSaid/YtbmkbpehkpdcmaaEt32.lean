/- EventTells: the region that appends a field of the document's. -/
import Derived.Test.YtbmkbpehkpdcmaaEt13
namespace Go.Proofs.Ytbmkbpehkpdcmaa
open Go.ChangeShapes Go.WideShapes Go.ChangeAt Go.RowKit
open Ev (V3 OkV)
set_option linter.unusedVariables false
set_option linter.unusedSimpArgs false

theorem at_newR4 (w : World) (y : ByteArray × Int) : At (w.alloc (.cells (rowF4 y).toArray 54)) 2 rowF4 (.slice (some ⟨w.heap.size, 0, none⟩) 1 1) [y] := by
  refine ⟨some ⟨w.heap.size, 0, none⟩, 1, rfl, Nat.le_refl _, by unfold maxLen; omega, fun h => by simp at h, fun b hb j hj i u hu => ?_⟩
  obtain rfl : (⟨w.heap.size, 0, none⟩ : Addr) = b := by simpa using hb
  obtain rfl : j = 0 := by simpa using hj
  rw [addr_pl, World.cell?_alloc_new]
  simpa using hu
set_option maxRecDepth 20000 in
set_option maxHeartbeats 4000000 in
theorem tells32 (u0 u1 u2 u3 u4 u5 u6 u7 u8 u9 u10 u11 u12 u13 u14 u16 u17 u18 u19 u20 u21 u22 u23 u24 u25 u26 u27 u28 u29 u32 u33 u34 u35 u36 u37 u38 u39 u40 u41 u42 u43 u44 u45 u46 u47 u48 u49 u50 u51 u52 u53 u54 u55 u56 u57 u58 u59 u60 u61 u62 u63 u64 u65 u66 u67 u68 u69 u70 u71 u72 u73 u74 u75 u76 u77 u78 u79 u80 u81 u82 u83 u84 u85 u86 u87 u88 u89 u90 u91 u92 u93 u94 u95 u96 u97 u98 u99 u100 u101 u102 u103 u104 u105 u106 u107 u108 u109 u110 u111 u112 u113 u114 u115 u116 u117 u118 u119 u120 u121 u122 u123 u124 u125 u126 u127 u128 u129 u130 u131 u132 u133 u134 u135 u136 u137 u138 u139 u140 u141 u142 u143 u144 u145 u146 u147 u148 u149 u150 u151 u152 u153 u154 u155 u156 u157 u158 u159 u160 u161 u162 u163 u164 u165 u166 u167 u168 u169 u170 u171 u172 u173 u174 u175 u176 u177 u178 u179 u180 u181 u182 u183 u184 u185 u186 u187 u188 u189 u190 u191 u192 u193 u194 u195 u196 u197 u198 u199 u200 u201 u202 u203 u204 u205 u206 u207 u208 u209 u210 u211 u212 u213 u214 u215 u216 u217 u218 u219 u220 u221 u222 u223 u224 u225 u226 u227 u228 u229 u230 u231 u232 u233 u234 u235 u236 u237 u238 u239 u240 u241 u242 u243 u244 u245 u246 u247 u248 u249 u250 u251 u252 u253 u254 u255 u256 u257 u258 u259 u260 u261 u262 u263 u264 u265 u266 u267 u268 u269 u270 u271 u272 u273 : Value) {w : World} {va : Addr} {G N i fn fc : Nat} {kd : Int} {qn nm : ByteArray} {gA : Option Addr} {gn gc : Nat} {L : List (ByteArray × Int)} (hB : Blk w G 30 #[.string qn, .slice (some va) fn fc]) (hO : Own w N 54 2 rowF4 (.slice gA gn gc) L) (hL : (L.length + 1) * 24 ≤ 140737488355328) (hG : G < N) (hNw : N ≤ w.heap.size) (hi : i < fn) (hva : w.cell? (va.add (i * 2)) = some (.string nm)) (hvk : w.cell? ⟨(va.add (i * 2)).block, (va.add (i * 2)).off + 1, none⟩ = some (.int .i64 kd)) (hvb : (va.add (i * 2)).block < N) {Q : Exit → Act → World → Prop}
    (hQ : ∀ (x158 x159 x160 x161 x162 x163 x164 x165 x166 x167 x168 x169 x170 x171 x172 x173 : Value) (v : Value) (wx : World), Own wx N 54 2 rowF4 v (L ++ [(nm, kd)]) ∧ Below N w wx → Q .normal ⟨#[u0, u1, u2, u3, u4, u5, u6, u7, u8, u9, u10, u11, u12, u13, u14, .pointer (some ⟨G, 0, none⟩), u16, u17, u18, u19, u20, u21, u22, u23, u24, u25, u26, u27, u28, u29, v, .int .i64 (i : Nat), u32, u33, u34, u35, u36, u37, u38, u39, u40, u41, u42, u43, u44, u45, u46, u47, u48, u49, u50, u51, u52, u53, u54, u55, u56, u57, u58, u59, u60, u61, u62, u63, u64, u65, u66, u67, u68, u69, u70, u71, u72, u73, u74, u75, u76, u77, u78, u79, u80, u81, u82, u83, u84, u85, u86, u87, u88, u89, u90, u91, u92, u93, u94, u95, u96, u97, u98, u99, u100, u101, u102, u103, u104, u105, u106, u107, u108, u109, u110, u111, u112, u113, u114, u115, u116, u117, u118, u119, u120, u121, u122, u123, u124, u125, u126, u127, u128, u129, u130, u131, u132, u133, u134, u135, u136, u137, u138, u139, u140, u141, u142, u143, u144, u145, u146, u147, u148, u149, u150, u151, u152, u153, u154, u155, u156, u157, x158, x159, x160, x161, x162, x163, x164, x165, x166, x167, x168, x169, x170, x171, x172, x173, u174, u175, u176, u177, u178, u179, u180, u181, u182, u183, u184, u185, u186, u187, u188, u189, u190, u191, u192, u193, u194, u195, u196, u197, u198, u199, u200, u201, u202, u203, u204, u205, u206, u207, u208, u209, u210, u211, u212, u213, u214, u215, u216, u217, u218, u219, u220, u221, u222, u223, u224, u225, u226, u227, u228, u229, u230, u231, u232, u233, u234, u235, u236, u237, u238, u239, u240, u241, u242, u243, u244, u245, u246, u247, u248, u249, u250, u251, u252, u253, u254, u255, u256, u257, u258, u259, u260, u261, u262, u263, u264, u265, u266, u267, u268, u269, u270, u271, u272, u273], []⟩ wx) :
    Code.wp Try.prog ((Try.f3.body.bind (regionN 32)).getD .skip) Q ⟨#[u0, u1, u2, u3, u4, u5, u6, u7, u8, u9, u10, u11, u12, u13, u14, .pointer (some ⟨G, 0, none⟩), u16, u17, u18, u19, u20, u21, u22, u23, u24, u25, u26, u27, u28, u29, .slice gA gn gc, .int .i64 (i : Nat), u32, u33, u34, u35, u36, u37, u38, u39, u40, u41, u42, u43, u44, u45, u46, u47, u48, u49, u50, u51, u52, u53, u54, u55, u56, u57, u58, u59, u60, u61, u62, u63, u64, u65, u66, u67, u68, u69, u70, u71, u72, u73, u74, u75, u76, u77, u78, u79, u80, u81, u82, u83, u84, u85, u86, u87, u88, u89, u90, u91, u92, u93, u94, u95, u96, u97, u98, u99, u100, u101, u102, u103, u104, u105, u106, u107, u108, u109, u110, u111, u112, u113, u114, u115, u116, u117, u118, u119, u120, u121, u122, u123, u124, u125, u126, u127, u128, u129, u130, u131, u132, u133, u134, u135, u136, u137, u138, u139, u140, u141, u142, u143, u144, u145, u146, u147, u148, u149, u150, u151, u152, u153, u154, u155, u156, u157, u158, u159, u160, u161, u162, u163, u164, u165, u166, u167, u168, u169, u170, u171, u172, u173, u174, u175, u176, u177, u178, u179, u180, u181, u182, u183, u184, u185, u186, u187, u188, u189, u190, u191, u192, u193, u194, u195, u196, u197, u198, u199, u200, u201, u202, u203, u204, u205, u206, u207, u208, u209, u210, u211, u212, u213, u214, u215, u216, u217, u218, u219, u220, u221, u222, u223, u224, u225, u226, u227, u228, u229, u230, u231, u232, u233, u234, u235, u236, u237, u238, u239, u240, u241, u242, u243, u244, u245, u246, u247, u248, u249, u250, u251, u252, u253, u254, u255, u256, u257, u258, u259, u260, u261, u262, u263, u264, u265, u266, u267, u268, u269, u270, u271, u272, u273], []⟩ w := by
  have HQ := Lib.hid hQ; clear hQ
  conv => arg 2; whnf
  obtain ⟨js, sj, sy0, sy1, sy2⟩ := info_parts (P := Try.prog) (e := 54) (z := .agg #[.string ⟨#[]⟩, .int .i64 0]) (size := 2) (bytes := 24) (by kernel_rfl)
  have hiv : (i : Int) < (fn : Int) := by omega
  have keepN : ∀ X, Below N w X → (∀ j, X.cell? ⟨G, j, none⟩ = (#[.string qn, .slice (some va) fn fc] : Array Value)[j]?) ∧ X.cell? (va.add (i * 2)) = some (.string nm) ∧ X.cell? ⟨(va.add (i * 2)).block, (va.add (i * 2)).off + 1, none⟩ = some (.int .i64 kd) := fun X hX => ⟨fun j => by rw [cell_same (hX.block _ hG)]; exact hB.cell j, by rw [cell_same (hX.block _ hvb)]; exact hva, by rw [cell_same (p := ⟨(va.add (i * 2)).block, (va.add (i * 2)).off + 1, none⟩) (hX.block _ hvb)]; exact hvk⟩
  have keepS := fun X (hX : Below w.heap.size w X) => keepN X (hX.mono hNw)
  have c1 := keepS _ (Below.refl _ _)
  have H := Lib.hid (And.intro hO (And.intro hB (And.intro hL hNw))); clear hB hO hL hNw
  refine wp_region_noPanic ?_
  refine HeldLast.wp_region_last_drew 16 (S := (fun w' => (∀ j, w'.cell? ⟨G, j, none⟩ = (#[.string qn, .slice (some va) fn fc] : Array Value)[j]?) ∧ w'.cell? (va.add (i * 2)) = some (.string nm) ∧ w'.cell? ⟨(va.add (i * 2)).block, (va.add (i * 2)).off + 1, none⟩ = some (.int .i64 kd))) (by kernel_rfl) ?_ (fun hHeld => ?_)
  · exact c1
  clear c1
  refine HeldLast.wpAnyL_take (i := 0) (v := ?v0) [0, 15, 16] rfl (by kernel_rfl) (by kernel_rfl) (by kernel_rfl) (by kernel_rfl) (fun _ _ _ h => h) (Or.inl ⟨by rfl, ?hy0⟩) (by assumption) ?rest0
  case hy0 => (intro w hSw; (try dsimp only at hSw); go_simp; try with_reducible rfl)
  try simp only [Act.put, List.setIfInBounds_toArray, List.set_cons_zero, List.set_cons_succ]
  refine HeldLast.wpAnyL_take (i := 1) (v := ?v1) [1, 2, 4, 5, 6, 13, 14, 15, 16] rfl (by kernel_rfl) (by kernel_rfl) (by kernel_rfl) (by kernel_rfl) (fun _ _ _ h => h) (Or.inl ⟨by rfl, ?hy1⟩) (by assumption) ?rest1
  case hy1 => (intro w hSw; (try dsimp only at hSw); go_simp; try with_reducible rfl)
  try simp only [Act.put, List.setIfInBounds_toArray, List.set_cons_zero, List.set_cons_succ]
  refine HeldLast.wpAnyL_take (i := 2) (v := ?v2) [2, 4, 5, 6, 13, 14, 15, 16] rfl (by kernel_rfl) (by kernel_rfl) (by kernel_rfl) (by kernel_rfl) (fun _ _ _ h => h) (Or.inl ⟨by rfl, ?hy2⟩) (by assumption) ?rest2
  case hy2 => (intro w hSw; (try dsimp only at hSw); go_simp; try with_reducible rfl)
  try simp only [Act.put, List.setIfInBounds_toArray, List.set_cons_zero, List.set_cons_succ]
  refine HeldLast.wpAnyL_take (i := 3) (v := ?v3) [3, 4, 5, 6, 13, 14, 15, 16] rfl (by kernel_rfl) (by kernel_rfl) (by kernel_rfl) (by kernel_rfl) (fun _ _ _ h => h) (Or.inl ⟨by rfl, ?hy3⟩) (by assumption) ?rest3
  case hy3 => (intro w hSw; (try dsimp only at hSw); go_simp; try with_reducible rfl)
  try simp only [Act.put, List.setIfInBounds_toArray, List.set_cons_zero, List.set_cons_succ]
  refine HeldLast.wpAnyL_take (i := 4) (v := ?v4) [4, 5, 6, 13, 14, 15, 16] rfl (by kernel_rfl) (by kernel_rfl) (by kernel_rfl) (by kernel_rfl) (fun _ _ _ h => h) (Or.inl ⟨by rfl, ?hy4⟩) (by assumption) ?rest4
  case hy4 => (intro w hSw; (try dsimp only at hSw); go_simp; try with_reducible rfl)
  try simp only [Act.put, List.setIfInBounds_toArray, List.set_cons_zero, List.set_cons_succ]
  refine HeldLast.wpAnyL_take (i := 5) (v := ?v5) [5, 6, 13, 14, 15, 16] rfl (by kernel_rfl) (by kernel_rfl) (by kernel_rfl) (by kernel_rfl) (fun _ _ _ h => h) (Or.inl ⟨by rfl, ?hy5⟩) (by assumption) ?rest5
  case hy5 => (intro w hSw; (try dsimp only at hSw); go_simp; try with_reducible rfl)
  try simp only [Act.put, List.setIfInBounds_toArray, List.set_cons_zero, List.set_cons_succ]
  refine HeldLast.wpAnyL_take (i := 6) (v := ?v6) [6, 13, 14, 15, 16] rfl (by kernel_rfl) (by kernel_rfl) (by kernel_rfl) (by kernel_rfl) (fun _ _ _ h => h) (Or.inl ⟨by rfl, ?hy6⟩) (by assumption) ?rest6
  case hy6 => (intro w hSw; (try dsimp only at hSw); go_simp; try with_reducible rfl)
  try simp only [Act.put, List.setIfInBounds_toArray, List.set_cons_zero, List.set_cons_succ]
  refine HeldLast.wpAnyL_take (i := 7) (v := ?v7) [7, 8, 10, 11, 12, 13, 14, 15, 16] rfl (by kernel_rfl) (by kernel_rfl) (by kernel_rfl) (by kernel_rfl) (fun _ _ _ h => h) (Or.inl ⟨by rfl, ?hy7⟩) (by assumption) ?rest7
  case hy7 => (intro w hSw; (try dsimp only at hSw); go_simp; try with_reducible rfl)
  try simp only [Act.put, List.setIfInBounds_toArray, List.set_cons_zero, List.set_cons_succ]
  refine HeldLast.wpAnyL_take (i := 8) (v := ?v8) [8, 10, 11, 12, 13, 14, 15, 16] rfl (by kernel_rfl) (by kernel_rfl) (by kernel_rfl) (by kernel_rfl) (fun _ _ _ h => h) (Or.inl ⟨by rfl, ?hy8⟩) (by assumption) ?rest8
  case hy8 => (intro w hSw; (try dsimp only at hSw); go_simp; try with_reducible rfl)
  try simp only [Act.put, List.setIfInBounds_toArray, List.set_cons_zero, List.set_cons_succ]
  refine HeldLast.wpAnyL_take (i := 9) (v := ?v9) [9, 10, 11, 12, 13, 14, 15, 16] rfl (by kernel_rfl) (by kernel_rfl) (by kernel_rfl) (by kernel_rfl) (fun _ _ _ h => h) (Or.inl ⟨by rfl, ?hy9⟩) (by assumption) ?rest9
  case hy9 => (intro w hSw; (try dsimp only at hSw); go_simp; try with_reducible rfl)
  try simp only [Act.put, List.setIfInBounds_toArray, List.set_cons_zero, List.set_cons_succ]
  refine HeldLast.wpAnyL_take (i := 10) (v := ?v10) [10, 11, 12, 13, 14, 15, 16] rfl (by kernel_rfl) (by kernel_rfl) (by kernel_rfl) (by kernel_rfl) (fun _ _ _ h => h) (Or.inl ⟨by rfl, ?hy10⟩) (by assumption) ?rest10
  case hy10 => (intro w hSw; (try dsimp only at hSw); go_simp; try with_reducible rfl)
  try simp only [Act.put, List.setIfInBounds_toArray, List.set_cons_zero, List.set_cons_succ]
  refine HeldLast.wpAnyL_take (i := 11) (v := ?v11) [11, 12, 13, 14, 15, 16] rfl (by kernel_rfl) (by kernel_rfl) (by kernel_rfl) (by kernel_rfl) (fun _ _ _ h => h) (Or.inl ⟨by rfl, ?hy11⟩) (by assumption) ?rest11
  case hy11 => (intro w hSw; (try dsimp only at hSw); go_simp; try with_reducible rfl)
  try simp only [Act.put, List.setIfInBounds_toArray, List.set_cons_zero, List.set_cons_succ]
  refine HeldLast.wpAnyL_take (i := 12) (v := ?v12) [12, 13, 14, 15, 16] rfl (by kernel_rfl) (by kernel_rfl) (by kernel_rfl) (by kernel_rfl) (fun _ _ _ h => h) (Or.inl ⟨by rfl, ?hy12⟩) (by assumption) ?rest12
  case hy12 => (intro w hSw; (try dsimp only at hSw); go_simp; try with_reducible rfl)
  try simp only [Act.put, List.setIfInBounds_toArray, List.set_cons_zero, List.set_cons_succ]
  refine HeldLast.wpAnyL_take (i := 13) (v := ?v13) [13, 14, 15, 16] rfl (by kernel_rfl) (by kernel_rfl) (by kernel_rfl) (by kernel_rfl) (fun _ _ _ h => h) (Or.inl ⟨by rfl, ?hy13⟩) (by assumption) ?rest13
  case hy13 => (intro w hSw; (try dsimp only at hSw); go_simp; try with_reducible rfl)
  try simp only [Act.put, List.setIfInBounds_toArray, List.set_cons_zero, List.set_cons_succ]
  refine HeldLast.wpAnyL_ready (rs := [14]) (by kernel_rfl) (by simp) ?_
  refine HeldLast.AllReadyL.cons rfl (fun K' hK => ?_) HeldLast.AllReadyL.nil
  go_simp
  have b8 := below_drew (ba w (.cells (rowF4 (nm, kd)).toArray 54))
  refine hK.out _ _ ?_ (fun hHeld => ?_)
  · exact keepS _ (b8)
  clear hK K'
  try simp only [Act.put, List.setIfInBounds_toArray, List.set_cons_zero, List.set_cons_succ]
  refine HeldLast.wpAnyL_ready (rs := [15]) (by kernel_rfl) (by simp) ?_
  refine HeldLast.AllReadyL.cons rfl (fun K' hK => ?_) HeldLast.AllReadyL.nil
  refine step_append_at rfl (.tmp 158) (.tmp 172) 53 rfl N 54 js (.agg #[.string ⟨#[]⟩, .int .i64 0]) 2 24 Try.underlying53 sj sy0 sy1 sy2 rfl (by decide) (f := rowF4) (fun _ => rfl) rowF4_one (.slice gA gn gc) L rfl (H.out.1.later b8) (some ⟨w.heap.size, 0, none⟩) 1 1 [(nm, kd)] rfl rfl ((at_newR4 w (nm, kd)).later (below_drew (Below.refl _ _))) (by have := H.out.2.2.1; unfold maxLen; omega) (by have := H.out.2.2.1; omega) (Nat.le_trans H.out.2.2.2 b8.size) ?_
  intro v7 w7 hO7 hg7
  obtain ⟨nA, nn, nc, rfl⟩ := own_shape hO7
  have b7 : Below N w w7 := (b8.mono H.out.2.2.2).trans (grownBy_below hg7 (Nat.le_trans H.out.2.2.2 b8.size) (fun x hx => own_lo H.out.1 hx))
  have y1 := keepN _ b7
  refine hK.out _ _ ?_ (fun hHeld => ?_)
  · exact y1
  clear hK K'
  try simp only [Act.put, List.setIfInBounds_toArray, List.set_cons_zero, List.set_cons_succ]
  refine HeldLast.wpAnyL_ready (rs := [16]) (by kernel_rfl) (by simp) ?_
  refine HeldLast.AllReadyL.last rfl (fun K' hK => ?_)
  go_simp
  refine hK.out _ _ ?_
  clear hK K'
  try simp only [Act.put, List.setIfInBounds_toArray, List.set_cons_zero, List.set_cons_succ]
  refine HeldLast.wpAnyL_done (by kernel_rfl) ?_ _
  refine NoPanic.normal ?_
  refine HQ.out _ _ _ _ _ _ _ _ _ _ _ _ _ _ _ _ (.slice nA nn nc) _ ⟨hO7, b7⟩
end Go.Proofs.Ytbmkbpehkpdcmaa
