/- GraphAdds: the region that appends a name to the node. -/
import Derived.Test.YtinonfgehbjneaaGphR
import Derived.Test.YtinonfgehbjneaaPiece
import Derived.Test.YtinonfgehbjneaaHeldL
namespace Go.Proofs.Ytinonfgehbjneaa
open Go.ChangeShapes Go.WideShapes Go.ChangeAt Go.RowKit Go.Maps
set_option linter.unusedVariables false
set_option linter.unusedSimpArgs false
set_option maxRecDepth 20000 in
set_option maxHeartbeats 4000000 in
theorem adds9 (u0 u1 u3 u4 u5 u6 u7 u8 u9 u13 u14 u15 u16 u17 u18 u19 u20 u21 u22 u23 u24 u25 u26 u27 u28 u29 u30 u31 u32 u33 u34 u35 u36 u37 u38 u39 u40 u41 u42 u43 u44 u45 u46 u47 u48 u49 u50 u51 u52 u53 u54 u55 u56 u57 u58 u59 u60 u61 u62 u63 u64 u65 u66 u67 u68 u69 u70 u71 u72 u73 u74 u75 u76 u77 u78 u79 u80 u81 u82 u83 u84 u85 u86 u87 u88 u89 u90 u91 u92 u93 u94 u95 u96 u97 u98 u99 u100 u101 u102 u103 u104 u105 u106 u107 u108 u109 u110 u111 u112 u113 u114 u115 u116 u117 u118 u119 u120 u121 u122 u123 u124 u125 u126 u127 u128 u129 u130 u131 u132 u133 u134 u135 u136 u137 u138 u139 u140 u141 u142 u143 u144 u145 u146 u147 u148 u149 u150 : Value) (n0 : Value) {w2 w : World} {a2 : Addr} {g k b d nf fc0 : Nat} {nm : ByteArray} {fA' : Option Addr} {fn' fc' : Nat} {F : List ByteArray} (hB : Blk w g 45 #[.string nm, .slice fA' fn' fc']) (hF : Own w (g + 1) 9 1 scV (.slice fA' fn' fc') F) (hb : Below w2.heap.size w2 w) (hg : w2.heap.size ≤ g) (hF4 : F.length ≤ 4) (hk : k < nf) (hd : d = b % 9) (hz2 : w2.cell? (a2.add k) = some (.int .u8 (b : Int))) {Q : Exit → Act → World → Prop}
    (hQ : ∀ (x42 x43 x44 x45 x46 x47 x48 x49 x50 x51 x52 x53 x54 x55 x56 : Value) (v : Value) (wx : World), Blk wx g 45 #[.string nm, v] ∧ Own wx (g + 1) 9 1 scV v (F ++ [nm9 d]) ∧ Below w2.heap.size w2 wx → Q .normal ⟨#[u0, u1, .slice (some a2) nf fc0, u3, u4, u5, u6, u7, u8, u9, n0, .pointer (some ⟨g, 0, none⟩), .int .i64 (k : Nat), u13, u14, u15, u16, u17, u18, u19, u20, u21, u22, u23, u24, u25, u26, u27, u28, u29, u30, u31, u32, u33, u34, u35, u36, u37, u38, u39, u40, u41, x42, x43, x44, x45, x46, x47, x48, x49, x50, x51, x52, x53, x54, x55, x56, u57, u58, u59, u60, u61, u62, u63, u64, u65, u66, u67, u68, u69, u70, u71, u72, u73, u74, u75, u76, u77, u78, u79, u80, u81, u82, u83, u84, u85, u86, u87, u88, u89, u90, u91, u92, u93, u94, u95, u96, u97, u98, u99, u100, u101, u102, u103, u104, u105, u106, u107, u108, u109, u110, u111, u112, u113, u114, u115, u116, u117, u118, u119, u120, u121, u122, u123, u124, u125, u126, u127, u128, u129, u130, u131, u132, u133, u134, u135, u136, u137, u138, u139, u140, u141, u142, u143, u144, u145, u146, u147, u148, u149, u150], []⟩ wx) :
    Code.wp Try.prog ((Try.f7.body.bind (regionN 9)).getD .skip) Q ⟨#[u0, u1, .slice (some a2) nf fc0, u3, u4, u5, u6, u7, u8, u9, n0, .pointer (some ⟨g, 0, none⟩), .int .i64 (k : Nat), u13, u14, u15, u16, u17, u18, u19, u20, u21, u22, u23, u24, u25, u26, u27, u28, u29, u30, u31, u32, u33, u34, u35, u36, u37, u38, u39, u40, u41, u42, u43, u44, u45, u46, u47, u48, u49, u50, u51, u52, u53, u54, u55, u56, u57, u58, u59, u60, u61, u62, u63, u64, u65, u66, u67, u68, u69, u70, u71, u72, u73, u74, u75, u76, u77, u78, u79, u80, u81, u82, u83, u84, u85, u86, u87, u88, u89, u90, u91, u92, u93, u94, u95, u96, u97, u98, u99, u100, u101, u102, u103, u104, u105, u106, u107, u108, u109, u110, u111, u112, u113, u114, u115, u116, u117, u118, u119, u120, u121, u122, u123, u124, u125, u126, u127, u128, u129, u130, u131, u132, u133, u134, u135, u136, u137, u138, u139, u140, u141, u142, u143, u144, u145, u146, u147, u148, u149, u150], []⟩ w := by
  have HQ := Lib.hid hQ; clear hQ
  conv => arg 2; whnf
  obtain ⟨js, sj, sy0, sy1, sy2⟩ := info_parts (P := Try.prog) (e := 9) (z := .string ⟨#[]⟩) (size := 1) (bytes := 16) (by kernel_rfl)
  have hm : (b : Int) % 9 = (d : Int) := by omega
  have hm2 : Int.tmod (b : Int) 9 = (d : Int) := by rw [Int.tmod_eq_emod_of_nonneg (by omega)]; omega
  have hd9 : d < 9 := by omega
  have hwd : IntKind.u8.wrap (d : Int) = (d : Int) := IntWalk.u8_in _ (by omega)
  have hdlt : (d : Int) < 9 := by omega
  have hkI : (k : Int) < (nf : Int) := by omega
  have c1 : w.cell? ⟨g, 1, none⟩ = some (.slice fA' fn' fc') := hB.cell 1
  have hgl := hB.lt
  have hzl2 := World.block_lt_of_cell? w2 _ hz2
  have z0 : w.cell? (a2.add k) = some (.int .u8 (b : Int)) := by rw [hb.cell hzl2]; exact hz2
  have hzl := World.block_lt_of_cell? w _ z0
  have keepS : ∀ X, Below w.heap.size w X → X.cell? ⟨g, 1, none⟩ = some (.slice fA' fn' fc') ∧ X.cell? (a2.add k) = some (.int .u8 (b : Int)) := fun X hX => ⟨by rw [hX.cell hgl]; exact c1, by rw [hX.cell hzl]; exact z0⟩
  have H := Lib.hid (And.intro hB (And.intro hF (And.intro hb (And.intro hg hF4)))); clear hB hF hb hg hF4 hd
  refine wp_region_noPanic ?_
  refine HeldLast.wp_region_last_drew 15 (S := (fun w' => w'.cell? ⟨g, 1, none⟩ = some (.slice fA' fn' fc') ∧ w'.cell? (a2.add k) = some (.int .u8 (b : Int)))) (by kernel_rfl) ?_ (fun hHeld => ?_)
  · exact ⟨c1, z0⟩
  refine HeldLast.wpAnyL_take (i := 0) (v := ?v0) [0, 1, 13, 15] rfl (by kernel_rfl) (by kernel_rfl) (by kernel_rfl) (by kernel_rfl) (fun _ _ _ h => h) (Or.inl ⟨by rfl, ?hy0⟩) (by assumption) ?rest0
  case hy0 => (intro w hSw; (try dsimp only at hSw); go_simp; try with_reducible rfl)
  try simp only [Act.put, List.setIfInBounds_toArray, List.set_cons_zero, List.set_cons_succ]
  refine HeldLast.wpAnyL_take (i := 1) (v := ?v1) [1, 13, 15] rfl (by kernel_rfl) (by kernel_rfl) (by kernel_rfl) (by kernel_rfl) (fun _ _ _ h => h) (Or.inl ⟨by rfl, ?hy1⟩) (by assumption) ?rest1
  case hy1 => (intro w hSw; (try dsimp only at hSw); go_simp; try with_reducible rfl)
  try simp only [Act.put, List.setIfInBounds_toArray, List.set_cons_zero, List.set_cons_succ]
  refine HeldLast.wpAnyL_take (i := 5) (v := ?v5) [5, 7, 8, 9, 10, 11, 12, 13, 15] rfl (by kernel_rfl) (by kernel_rfl) (by kernel_rfl) (by kernel_rfl) (fun _ _ _ h => h) (Or.inl ⟨by rfl, ?hy5⟩) (by assumption) ?rest5
  case hy5 => (intro w hSw; (try dsimp only at hSw); go_simp; try with_reducible rfl)
  try simp only [Act.put, List.setIfInBounds_toArray, List.set_cons_zero, List.set_cons_succ]
  refine HeldLast.wpAnyL_take (i := 6) (v := ?v6) [6, 7, 8, 9, 10, 11, 12, 13, 15] rfl (by kernel_rfl) (by kernel_rfl) (by kernel_rfl) (by kernel_rfl) (fun _ _ _ h => h) (Or.inl ⟨by rfl, ?hy6⟩) (by assumption) ?rest6
  case hy6 => (intro w hSw; (try dsimp only at hSw); go_simp; try with_reducible rfl)
  try simp only [Act.put, List.setIfInBounds_toArray, List.set_cons_zero, List.set_cons_succ]
  refine HeldLast.wpAnyL_take (i := 7) (v := ?v7) [7, 8, 9, 10, 11, 12, 13, 15] rfl (by kernel_rfl) (by kernel_rfl) (by kernel_rfl) (by kernel_rfl) (fun _ _ _ h => h) (Or.inl ⟨by rfl, ?hy7⟩) (by assumption) ?rest7
  case hy7 => (intro w hSw; (try dsimp only at hSw); go_simp; try with_reducible rfl)
  try simp only [Act.put, List.setIfInBounds_toArray, List.set_cons_zero, List.set_cons_succ]
  refine HeldLast.wpAnyL_take (i := 8) (v := ?v8) [8, 9, 10, 11, 12, 13, 15] rfl (by kernel_rfl) (by kernel_rfl) (by kernel_rfl) (by kernel_rfl) (fun _ _ _ h => h) (Or.inl ⟨by rfl, ?hy8⟩) (by assumption) ?rest8
  case hy8 => (intro w hSw; (try dsimp only at hSw); go_simp; try with_reducible rfl)
  try simp only [Act.put, List.setIfInBounds_toArray, List.set_cons_zero, List.set_cons_succ]
  refine HeldLast.wpAnyL_take (i := 9) (v := ?v9) [9, 10, 11, 12, 13, 15] rfl (by kernel_rfl) (by kernel_rfl) (by kernel_rfl) (by kernel_rfl) (fun _ _ _ h => h) (Or.inl ⟨by rfl, ?hy9⟩) (by assumption) ?rest9
  case hy9 => (intro w hSw; (try dsimp only at hSw); go_simp; try with_reducible rfl)
  try simp only [Act.put, List.setIfInBounds_toArray, List.set_cons_zero, List.set_cons_succ]
  refine HeldLast.wpAnyL_ready (rs := [2, 3]) (by kernel_rfl) (by simp) ?_
  refine HeldLast.AllReadyL.cons rfl (fun K' hK => ?_) (HeldLast.AllReadyL.cons rfl (fun K' hK => ?_) HeldLast.AllReadyL.nil)
  · go_simp
    go_at_call 12
    refine (names_any _).mono ?_
    rintro e w5 ⟨rfl, oN, bN⟩
    have b5 : Below w.heap.size w w5 := bt (below_drew (Below.refl _ _)) bN
    have oL : Own w5 w.heap.size 9 1 scV (.slice (some ⟨w.heap.size, 0, none⟩) 8 8) nms := oN
    refine hK.out _ _ ?_ (fun hHeld => ?_)
    · exact keepS w5 b5
    clear hK K'
    try simp only [Act.put, List.setIfInBounds_toArray, List.set_cons_zero, List.set_cons_succ]
    refine HeldLast.wpAnyL_ready (rs := [3]) (by kernel_rfl) (by simp) ?_
    refine HeldLast.AllReadyL.cons rfl (fun K' hK => ?_) HeldLast.AllReadyL.nil
    go_simp
    refine hK.out _ _ ?_ (fun hHeld => ?_)
    · exact keepS _ (bt b5 (ba _ _))
    clear hK K'
    try simp only [Act.put, List.setIfInBounds_toArray, List.set_cons_zero, List.set_cons_succ]
    refine HeldLast.wpAnyL_ready (rs := [4]) (by kernel_rfl) (by simp) ?_
    refine HeldLast.AllReadyL.cons rfl (fun K' hK => ?_) HeldLast.AllReadyL.nil
    refine step_append_at rfl (.tmp 44) (.tmp 45) 27 rfl w.heap.size 9 js (.string ⟨#[]⟩) 1 16 Try.underlying27 sj sy0 sy1 sy2 rfl (by decide) (f := scV) (fun _ => rfl) one_scV (.slice (some ⟨w.heap.size, 0, none⟩) 8 8) nms rfl (oL.later (ba w5 (.cells #[.string sU] 9))) (some ⟨w5.heap.size, 0, none⟩) 1 1 [sU] rfl rfl (at_newS w5 sU) (by show 8 + 1 ≤ maxLen; unfold maxLen; omega) (by show (8 + 1) * 16 ≤ _; omega) (bt b5 (ba w5 (.cells #[.string sU] 9))).size ?_
    intro v6 w6 hO6 hg6
    obtain ⟨vA9, vn9, vc9, rfl⟩ := own_shape hO6
    obtain ⟨rfl, g9, rfl, hc9⟩ := nm9_cell hO6
    have n9 := hc9 d hd9
    have b6 : Below w.heap.size w w6 := (bt b5 (ba w5 (.cells #[.string sU] 9))).trans (grownBy_below hg6 (bt b5 (ba w5 (.cells #[.string sU] 9))).size (fun x hx => (Own.block ((oL.later (ba w5 (.cells #[.string sU] 9)))) hx).1))
    have S6 := keepS w6 b6
    refine hK.out _ _ ?_ (fun hHeld => ?_)
    · exact S6
    clear hK K'
    try simp only [Act.put, List.setIfInBounds_toArray, List.set_cons_zero, List.set_cons_succ]
    refine HeldLast.wpAnyL_take (i := 10) (v := ?v10a) [10, 11, 12, 13, 15] rfl (by kernel_rfl) (by kernel_rfl) (by kernel_rfl) (by kernel_rfl) (fun _ _ _ h => h) (Or.inl ⟨by rfl, ?hy10a⟩) (by assumption) ?rest10a
    case hy10a => (intro w hSw; (try dsimp only at hSw); go_simp; try with_reducible rfl)
    try simp only [Act.put, List.setIfInBounds_toArray, List.set_cons_zero, List.set_cons_succ]
    refine HeldLast.wpAnyL_ready (rs := [11]) (by kernel_rfl) (by simp) ?_
    refine HeldLast.AllReadyL.cons rfl (fun K' hK => ?_) HeldLast.AllReadyL.nil
    go_simp
    refine hK.out _ _ ?_ (fun hHeld => ?_)
    · exact S6
    clear hK K'
    try simp only [Act.put, List.setIfInBounds_toArray, List.set_cons_zero, List.set_cons_succ]
    refine HeldLast.wpAnyL_ready (rs := [12]) (by kernel_rfl) (by simp) ?_
    refine HeldLast.AllReadyL.cons rfl (fun K' hK => ?_) HeldLast.AllReadyL.nil
    go_simp
    refine hK.out _ _ ?_ (fun hHeld => ?_)
    · exact keepS _ (bt b6 (ba _ _))
    clear hK K'
    try simp only [Act.put, List.setIfInBounds_toArray, List.set_cons_zero, List.set_cons_succ]
    refine HeldLast.wpAnyL_ready (rs := [13]) (by kernel_rfl) (by simp) ?_
    refine HeldLast.AllReadyL.cons rfl (fun K' hK => ?_) HeldLast.AllReadyL.nil
    refine step_append_at rfl (.tmp 43) (.tmp 54) 27 rfl (g + 1) 9 js (.string ⟨#[]⟩) 1 16 Try.underlying27 sj sy0 sy1 sy2 rfl (by decide) (f := scV) (fun _ => rfl) one_scV (.slice fA' fn' fc') F rfl (H.out.2.1.later (bt b6 (ba _ _))) (some ⟨w6.heap.size, 0, none⟩) 1 1 [nm9 d] rfl rfl (at_newS w6 _) (by have := H.out.2.2.2.2; unfold maxLen; simp; omega) (by have := H.out.2.2.2.2; simp; omega) (by have h1 := b6.size; have h2 := hgl; simp; omega) ?_
    intro v7 w7 hO7 hg7
    obtain ⟨vA, vn, vc, rfl⟩ := own_shape hO7
    have x1 : Blk w7 g 45 #[.string nm, .slice fA' fn' fc'] := Blk.grown (H.out.1.later (bt b6 (ba _ _))) hg7 (fun e => (by have := (Own.block H.out.2.1 e.symm).1; omega))
    have y1 : w7.cell? ⟨g, 1, none⟩ = some (.slice fA' fn' fc') := x1.cell 1
    have y2 := x1.lt
    have y3 := x1.frozen
    have hb7 := below_app H.out.2.2.1 H.out.2.2.1.size (bt b6 (ba _ _)) hg7 (fun x hx => (by have := (Own.block H.out.2.1 hx).1; have := H.out.2.2.2.1; omega))
    have z7 : w7.cell? (a2.add k) = some (.int .u8 (b : Int)) := by rw [hb7.cell hzl2]; exact hz2
    refine hK.out _ _ ?_ (fun hHeld => ?_)
    · exact ⟨y1, z7⟩
    clear hK K'
    try simp only [Act.put, List.setIfInBounds_toArray, List.set_cons_zero, List.set_cons_succ]
    refine HeldLast.wpAnyL_take (i := 14) (v := ?v14a) [14, 15] rfl (by kernel_rfl) (by kernel_rfl) (by kernel_rfl) (by kernel_rfl) (fun _ _ _ h => h) (Or.inl ⟨by rfl, ?hy14a⟩) (by assumption) ?rest14a
    case hy14a => (intro w hSw; (try dsimp only at hSw); go_simp; try with_reducible rfl)
    try simp only [Act.put, List.setIfInBounds_toArray, List.set_cons_zero, List.set_cons_succ]
    refine HeldLast.wpAnyL_ready (rs := [15]) (by kernel_rfl) (by simp) ?_
    refine HeldLast.AllReadyL.last rfl (fun K' hK => ?_)
    go_simp
    refine hK.out _ _ ?_
    clear hK K'
    try simp only [Act.put, List.setIfInBounds_toArray, List.set_cons_zero, List.set_cons_succ]
    refine HeldLast.wpAnyL_done (by kernel_rfl) ?_ _
    refine NoPanic.normal ?_
    skip
    refine HQ.out _ _ _ _ _ _ _ _ _ _ _ _ _ _ _ (.slice vA vn vc) _ ⟨?_, ?_, ?_⟩
    · have := x1.set_ 1 (.slice vA vn vc)
      simpa using this
    · exact hO7.far (p := ⟨g, 1, none⟩) (Nat.lt_succ_self g) _
    · exact hb7.setCell (p := ⟨g, 1, none⟩) H.out.2.2.2.1 _
  · go_simp
    refine hK.out _ _ ?_ (fun hHeld => ?_)
    · exact keepS _ (bt (below_drew (Below.refl _ _)) (ba _ _))
    clear hK K'
    try simp only [Act.put, List.setIfInBounds_toArray, List.set_cons_zero, List.set_cons_succ]
    refine HeldLast.wpAnyL_ready (rs := [2]) (by kernel_rfl) (by simp) ?_
    refine HeldLast.AllReadyL.cons rfl (fun K' hK => ?_) HeldLast.AllReadyL.nil
    go_simp
    go_at_call 12
    refine (names_any _).mono ?_
    rintro e w5 ⟨rfl, oN, bN⟩
    have b5 : Below w.heap.size w w5 := bt (bt (below_drew (Below.refl _ _)) (ba _ _)) bN
    have hz : (w.alloc (.cells #[.string sU] 9)).drew.heap.size = w.heap.size + 1 := World.size_alloc _ _
    have oL : Own w5 w.heap.size 9 1 scV (.slice (some ⟨(w.alloc (.cells #[.string sU] 9)).drew.heap.size, 0, none⟩) 8 8) nms := oN.lift (by rw [hz]; omega)
    have KL : At w5 1 scV (.slice (some ⟨w.heap.size, 0, none⟩) 1 1) [sU] := (at_newS w sU).later (bt (below_drew (Below.refl _ _)) bN)
    refine hK.out _ _ ?_ (fun hHeld => ?_)
    · exact keepS w5 b5
    clear hK K'
    try simp only [Act.put, List.setIfInBounds_toArray, List.set_cons_zero, List.set_cons_succ]
    refine HeldLast.wpAnyL_ready (rs := [4]) (by kernel_rfl) (by simp) ?_
    refine HeldLast.AllReadyL.cons rfl (fun K' hK => ?_) HeldLast.AllReadyL.nil
    refine step_append_at rfl (.tmp 44) (.tmp 45) 27 rfl w.heap.size 9 js (.string ⟨#[]⟩) 1 16 Try.underlying27 sj sy0 sy1 sy2 rfl (by decide) (f := scV) (fun _ => rfl) one_scV (.slice (some ⟨(w.alloc (.cells #[.string sU] 9)).drew.heap.size, 0, none⟩) 8 8) nms rfl oL (some ⟨w.heap.size, 0, none⟩) 1 1 [sU] rfl rfl KL (by show 8 + 1 ≤ maxLen; unfold maxLen; omega) (by show (8 + 1) * 16 ≤ _; omega) (b5).size ?_
    intro v6 w6 hO6 hg6
    obtain ⟨vA9, vn9, vc9, rfl⟩ := own_shape hO6
    obtain ⟨rfl, g9, rfl, hc9⟩ := nm9_cell hO6
    have n9 := hc9 d hd9
    have b6 : Below w.heap.size w w6 := (b5).trans (grownBy_below hg6 (b5).size (fun x hx => (Own.block (oL) hx).1))
    have S6 := keepS w6 b6
    refine hK.out _ _ ?_ (fun hHeld => ?_)
    · exact S6
    clear hK K'
    try simp only [Act.put, List.setIfInBounds_toArray, List.set_cons_zero, List.set_cons_succ]
    refine HeldLast.wpAnyL_take (i := 10) (v := ?v10b) [10, 11, 12, 13, 15] rfl (by kernel_rfl) (by kernel_rfl) (by kernel_rfl) (by kernel_rfl) (fun _ _ _ h => h) (Or.inl ⟨by rfl, ?hy10b⟩) (by assumption) ?rest10b
    case hy10b => (intro w hSw; (try dsimp only at hSw); go_simp; try with_reducible rfl)
    try simp only [Act.put, List.setIfInBounds_toArray, List.set_cons_zero, List.set_cons_succ]
    refine HeldLast.wpAnyL_ready (rs := [11]) (by kernel_rfl) (by simp) ?_
    refine HeldLast.AllReadyL.cons rfl (fun K' hK => ?_) HeldLast.AllReadyL.nil
    go_simp
    refine hK.out _ _ ?_ (fun hHeld => ?_)
    · exact S6
    clear hK K'
    try simp only [Act.put, List.setIfInBounds_toArray, List.set_cons_zero, List.set_cons_succ]
    refine HeldLast.wpAnyL_ready (rs := [12]) (by kernel_rfl) (by simp) ?_
    refine HeldLast.AllReadyL.cons rfl (fun K' hK => ?_) HeldLast.AllReadyL.nil
    go_simp
    refine hK.out _ _ ?_ (fun hHeld => ?_)
    · exact keepS _ (bt b6 (ba _ _))
    clear hK K'
    try simp only [Act.put, List.setIfInBounds_toArray, List.set_cons_zero, List.set_cons_succ]
    refine HeldLast.wpAnyL_ready (rs := [13]) (by kernel_rfl) (by simp) ?_
    refine HeldLast.AllReadyL.cons rfl (fun K' hK => ?_) HeldLast.AllReadyL.nil
    refine step_append_at rfl (.tmp 43) (.tmp 54) 27 rfl (g + 1) 9 js (.string ⟨#[]⟩) 1 16 Try.underlying27 sj sy0 sy1 sy2 rfl (by decide) (f := scV) (fun _ => rfl) one_scV (.slice fA' fn' fc') F rfl (H.out.2.1.later (bt b6 (ba _ _))) (some ⟨w6.heap.size, 0, none⟩) 1 1 [nm9 d] rfl rfl (at_newS w6 _) (by have := H.out.2.2.2.2; unfold maxLen; simp; omega) (by have := H.out.2.2.2.2; simp; omega) (by have h1 := b6.size; have h2 := hgl; simp; omega) ?_
    intro v7 w7 hO7 hg7
    obtain ⟨vA, vn, vc, rfl⟩ := own_shape hO7
    have x1 : Blk w7 g 45 #[.string nm, .slice fA' fn' fc'] := Blk.grown (H.out.1.later (bt b6 (ba _ _))) hg7 (fun e => (by have := (Own.block H.out.2.1 e.symm).1; omega))
    have y1 : w7.cell? ⟨g, 1, none⟩ = some (.slice fA' fn' fc') := x1.cell 1
    have y2 := x1.lt
    have y3 := x1.frozen
    have hb7 := below_app H.out.2.2.1 H.out.2.2.1.size (bt b6 (ba _ _)) hg7 (fun x hx => (by have := (Own.block H.out.2.1 hx).1; have := H.out.2.2.2.1; omega))
    have z7 : w7.cell? (a2.add k) = some (.int .u8 (b : Int)) := by rw [hb7.cell hzl2]; exact hz2
    refine hK.out _ _ ?_ (fun hHeld => ?_)
    · exact ⟨y1, z7⟩
    clear hK K'
    try simp only [Act.put, List.setIfInBounds_toArray, List.set_cons_zero, List.set_cons_succ]
    refine HeldLast.wpAnyL_take (i := 14) (v := ?v14b) [14, 15] rfl (by kernel_rfl) (by kernel_rfl) (by kernel_rfl) (by kernel_rfl) (fun _ _ _ h => h) (Or.inl ⟨by rfl, ?hy14b⟩) (by assumption) ?rest14b
    case hy14b => (intro w hSw; (try dsimp only at hSw); go_simp; try with_reducible rfl)
    try simp only [Act.put, List.setIfInBounds_toArray, List.set_cons_zero, List.set_cons_succ]
    refine HeldLast.wpAnyL_ready (rs := [15]) (by kernel_rfl) (by simp) ?_
    refine HeldLast.AllReadyL.last rfl (fun K' hK => ?_)
    go_simp
    refine hK.out _ _ ?_
    clear hK K'
    try simp only [Act.put, List.setIfInBounds_toArray, List.set_cons_zero, List.set_cons_succ]
    refine HeldLast.wpAnyL_done (by kernel_rfl) ?_ _
    refine NoPanic.normal ?_
    skip
    refine HQ.out _ _ _ _ _ _ _ _ _ _ _ _ _ _ _ (.slice vA vn vc) _ ⟨?_, ?_, ?_⟩
    · have := x1.set_ 1 (.slice vA vn vc)
      simpa using this
    · exact hO7.far (p := ⟨g, 1, none⟩) (Nat.lt_succ_self g) _
    · exact hb7.setCell (p := ⟨g, 1, none⟩) H.out.2.2.2.1 _
end Go.Proofs.Ytinonfgehbjneaa
