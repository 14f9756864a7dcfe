/- CheckCommon: the region that appends a field. -/
import Derived.Test.YtkmboffbohndjaaCkS
import Derived.Test.YtkmboffbohndjaaPiece
import Derived.Test.YtkmboffbohndjaaHeldL
namespace Go.Proofs.Ytkmboffbohndjaa
open Go.ChangeShapes Go.WideShapes Go.ChangeAt Go.RowKit Go.Maps
set_option linter.unusedVariables false
set_option linter.unusedSimpArgs false

def bitN (x k : Nat) : Nat := x / 2 ^ k % 2
theorem bitN_le (x k : Nat) : bitN x k ≤ 1 := by unfold bitN; omega
abbrev nmsC : Array Value := #[.string ⟨#[97]⟩, .string ⟨#[98]⟩, .string ⟨#[99]⟩, .string ⟨#[100]⟩, .string ⟨#[101]⟩, .string ⟨#[102]⟩]
def nmC (k : Nat) : ByteArray := if k = 0 then ⟨#[97]⟩ else if k = 1 then ⟨#[98]⟩ else if k = 2 then ⟨#[99]⟩ else if k = 3 then ⟨#[100]⟩ else if k = 4 then ⟨#[101]⟩ else ⟨#[102]⟩
theorem nm_row (w : World) (k : Nat) (h : k < 6) : (w.alloc (.cells nmsC 9)).drew.cell? ⟨w.heap.size, k, none⟩ = some (.string (nmC k)) := by
  have c := (Blk.new w 9 nmsC).cell k
  rw [show ((w.alloc (.cells nmsC 9)).drew.cell? ⟨w.heap.size, k, none⟩) = _ from c]
  rcases (by omega : k = 0 ∨ k = 1 ∨ k = 2 ∨ k = 3 ∨ k = 4 ∨ k = 5) with rfl | rfl | rfl | rfl | rfl | rfl <;> rfl
set_option maxRecDepth 20000 in
set_option maxHeartbeats 4000000 in
theorem common13 (u1 u2 u3 u4 u8 u9 u10 u11 u12 u13 u14 u15 u16 u17 u18 u19 u20 u21 u22 u23 u24 u25 u26 u27 u28 u29 u30 u31 u32 u33 u34 u35 u36 u37 u38 u39 u40 u41 u42 u43 u44 u45 u46 u47 u48 u49 u50 u51 u52 u53 u54 u55 u56 u57 u58 u59 u60 u61 u62 u63 u64 u65 u66 u67 u68 u69 u70 u71 u72 u73 u74 u75 u76 u77 u78 u79 u80 u81 u82 u83 u84 u85 u86 u87 u88 u89 u90 u91 u92 u93 u94 u95 u96 u97 u98 u99 u100 u101 u102 u103 u104 u105 u106 u107 u108 u109 u110 u111 u112 u113 u114 u115 u116 u117 u118 u119 u120 u121 u122 u123 u124 u125 u126 u127 u128 u129 u130 u131 u132 u133 u134 u135 u136 u137 u138 u139 u140 u141 u142 u143 u144 u145 u146 u147 : Value) {w0 w : World} {la : Addr} {G ln lc i k y : Nat} {fA : Option Addr} {fn fc : Nat} {L : List Fld} (hB : Blk w G 46 #[.string ys, .slice fA fn fc]) (hO : Own w (G + 1) 26 2 fldF (.slice fA fn fc) L) (hL : L.length ≤ 100) (hb0 : Below w0.heap.size w0 w) (hwG : w0.heap.size ≤ G) (hc0 : w0.cell? ⟨la.block, la.off + (i + 1), none⟩ = some (.int .u8 (y : Int))) (hk6 : k < 6) (hil : i + 1 < ln) (hi8 : i ≤ 8) {Q : Exit → Act → World → Prop}
    (hQ : ∀ (x42 x43 x44 x45 x46 x47 x48 x49 x50 x51 x52 x53 x54 x55 x56 x57 x58 x59 x60 x61 : Value) (v : Value) (wx : World), Blk wx G 46 #[.string ys, v] ∧ Own wx (G + 1) 26 2 fldF v (L ++ [(nmC k, 1 + (bitN y k : Int))]) ∧ Below G w wx → Q .normal ⟨#[.slice (some la) ln lc, u1, u2, u3, u4, .int .i64 (i : Nat), .pointer (some ⟨G, 0, none⟩), .int .i64 (k : Nat), u8, u9, u10, u11, u12, u13, u14, u15, u16, u17, u18, u19, u20, u21, u22, u23, u24, u25, u26, u27, u28, u29, u30, u31, u32, u33, u34, u35, u36, u37, u38, u39, u40, u41, x42, x43, x44, x45, x46, x47, x48, x49, x50, x51, x52, x53, x54, x55, x56, x57, x58, x59, x60, x61, u62, u63, u64, u65, u66, u67, u68, u69, u70, u71, u72, u73, u74, u75, u76, u77, u78, u79, u80, u81, u82, u83, u84, u85, u86, u87, u88, u89, u90, u91, u92, u93, u94, u95, u96, u97, u98, u99, u100, u101, u102, u103, u104, u105, u106, u107, u108, u109, u110, u111, u112, u113, u114, u115, u116, u117, u118, u119, u120, u121, u122, u123, u124, u125, u126, u127, u128, u129, u130, u131, u132, u133, u134, u135, u136, u137, u138, u139, u140, u141, u142, u143, u144, u145, u146, u147], []⟩ wx) :
    Code.wp Try.prog ((Try.f4.body.bind (regionN 13)).getD .skip) Q ⟨#[.slice (some la) ln lc, u1, u2, u3, u4, .int .i64 (i : Nat), .pointer (some ⟨G, 0, none⟩), .int .i64 (k : Nat), u8, u9, u10, u11, u12, u13, u14, u15, u16, u17, u18, u19, u20, u21, u22, u23, u24, u25, u26, u27, u28, u29, u30, u31, u32, u33, u34, u35, u36, u37, u38, u39, u40, u41, u42, u43, u44, u45, u46, u47, u48, u49, u50, u51, u52, u53, u54, u55, u56, u57, u58, u59, u60, u61, u62, u63, u64, u65, u66, u67, u68, u69, u70, u71, u72, u73, u74, u75, u76, u77, u78, u79, u80, u81, u82, u83, u84, u85, u86, u87, u88, u89, u90, u91, u92, u93, u94, u95, u96, u97, u98, u99, u100, u101, u102, u103, u104, u105, u106, u107, u108, u109, u110, u111, u112, u113, u114, u115, u116, u117, u118, u119, u120, u121, u122, u123, u124, u125, u126, u127, u128, u129, u130, u131, u132, u133, u134, u135, u136, u137, u138, u139, u140, u141, u142, u143, u144, u145, u146, u147], []⟩ w := by
  have HQ := Lib.hid hQ; clear hQ
  conv => arg 2; whnf
  obtain ⟨js, sj, sy0, sy1, sy2⟩ := info_parts (P := Try.prog) (e := 26) (z := .agg #[.string ⟨#[]⟩, .int .i64 0]) (size := 2) (bytes := 24) (by kernel_rfl)
  have hz := bitN_le y k
  have hpw : (y : Int) / 2 ^ k = ((y / 2 ^ k : Nat) : Int) := by rw [Int.natCast_ediv, Int.natCast_pow]; rfl
  have hm1 : (y : Int) / 2 ^ k % 2 = (bitN y k : Int) := by rw [hpw]; unfold bitN; omega
  have hm2 : Int.tmod ((y : Int) / 2 ^ k) 2 = (bitN y k : Int) := by rw [hpw, Int.tmod_eq_emod_of_nonneg (Int.natCast_nonneg _)]; unfold bitN; omega
  clear hpw
  have hwd : IntKind.i64.wrap (bitN y k : Int) = (bitN y k : Int) := IntWalk.i64_in _ (by omega)
  have hwe : IntKind.i64.wrap (1 + (bitN y k : Int)) = 1 + (bitN y k : Int) := IntWalk.i64_in _ (by omega)
  have hwi : IntKind.i64.wrap ((i : Int) + 1) = (i : Int) + 1 := IntWalk.i64_in _ (by omega)
  have h0i : (0 : Int) ≤ (i : Int) + 1 := by omega
  have hil' : (i : Int) + 1 < (ln : Int) := by omega
  have hil2 : i + 1 < ln := hil
  have hki : (k : Int) < 6 := by omega
  have keepS : ∀ X, Below w.heap.size w X → (∀ i, X.cell? ⟨G, i, none⟩ = (#[.string ys, .slice fA fn fc] : Array Value)[i]?) ∧ X.cell? ⟨la.block, la.off + (i + 1), none⟩ = some (.int .u8 (y : Int)) := fun X hX => ⟨(hB.later hX).cell, by rw [hX.cell (Nat.lt_of_lt_of_le (World.block_lt_of_cell? w0 _ hc0) hb0.size), hb0.cell (World.block_lt_of_cell? w0 _ hc0)]; exact hc0⟩
  have c1 := keepS _ (Below.refl _ _)
  have H := Lib.hid (And.intro hO (And.intro hB (And.intro hL hb0))); clear hB hO hL hb0
  refine wp_region_noPanic ?_
  refine HeldLast.wp_region_last_drew 20 (S := (fun w' => (∀ i, w'.cell? ⟨G, i, none⟩ = (#[.string ys, .slice fA fn fc] : Array Value)[i]?) ∧ w'.cell? ⟨la.block, la.off + (i + 1), none⟩ = some (.int .u8 (y : Int)))) (by kernel_rfl) ?_ (fun hHeld => ?_)
  · exact c1
  clear c1
  refine HeldLast.wpAnyL_take (i := 0) (v := ?v0) [0, 1, 18, 20] rfl (by kernel_rfl) (by kernel_rfl) (by kernel_rfl) (by kernel_rfl) (fun _ _ _ h => h) (Or.inl ⟨by rfl, ?hy0⟩) (by assumption) ?rest0
  case hy0 => (intro w hSw; (try dsimp only at hSw); go_simp; try with_reducible rfl)
  try simp only [Act.put, List.setIfInBounds_toArray, List.set_cons_zero, List.set_cons_succ]
  refine HeldLast.wpAnyL_take (i := 1) (v := ?v1) [1, 18, 20] rfl (by kernel_rfl) (by kernel_rfl) (by kernel_rfl) (by kernel_rfl) (fun _ _ _ h => h) (Or.inl ⟨by rfl, ?hy1⟩) (by assumption) ?rest1
  case hy1 => (intro w hSw; (try dsimp only at hSw); go_simp; try with_reducible rfl)
  try simp only [Act.put, List.setIfInBounds_toArray, List.set_cons_zero, List.set_cons_succ]
  refine HeldLast.wpAnyL_take (i := 3) (v := ?v3) [3, 4, 5, 16, 17, 18, 20] rfl (by kernel_rfl) (by kernel_rfl) (by kernel_rfl) (by kernel_rfl) (fun _ _ _ h => h) (Or.inl ⟨by rfl, ?hy3⟩) (by assumption) ?rest3
  case hy3 => (intro w hSw; (try dsimp only at hSw); go_simp; try with_reducible rfl)
  try simp only [Act.put, List.setIfInBounds_toArray, List.set_cons_zero, List.set_cons_succ]
  refine HeldLast.wpAnyL_take (i := 6) (v := ?v6) [6, 9, 10, 12, 13, 14, 15, 16, 17, 18, 20] rfl (by kernel_rfl) (by kernel_rfl) (by kernel_rfl) (by kernel_rfl) (fun _ _ _ h => h) (Or.inl ⟨by rfl, ?hy6⟩) (by assumption) ?rest6
  case hy6 => (intro w hSw; (try dsimp only at hSw); go_simp; try with_reducible rfl)
  try simp only [Act.put, List.setIfInBounds_toArray, List.set_cons_zero, List.set_cons_succ]
  refine HeldLast.wpAnyL_take (i := 7) (v := ?v7) [7, 8, 9, 10, 12, 13, 14, 15, 16, 17, 18, 20] rfl (by kernel_rfl) (by kernel_rfl) (by kernel_rfl) (by kernel_rfl) (fun _ _ _ h => h) (Or.inl ⟨by rfl, ?hy7⟩) (by assumption) ?rest7
  case hy7 => (intro w hSw; (try dsimp only at hSw); go_simp; try with_reducible rfl)
  try simp only [Act.put, List.setIfInBounds_toArray, List.set_cons_zero, List.set_cons_succ]
  refine HeldLast.wpAnyL_take (i := 8) (v := ?v8) [8, 9, 10, 12, 13, 14, 15, 16, 17, 18, 20] rfl (by kernel_rfl) (by kernel_rfl) (by kernel_rfl) (by kernel_rfl) (fun _ _ _ h => h) (Or.inl ⟨by rfl, ?hy8⟩) (by assumption) ?rest8
  case hy8 => (intro w hSw; (try dsimp only at hSw); go_simp; try with_reducible rfl)
  try simp only [Act.put, List.setIfInBounds_toArray, List.set_cons_zero, List.set_cons_succ]
  refine HeldLast.wpAnyL_take (i := 9) (v := ?v9) [9, 10, 12, 13, 14, 15, 16, 17, 18, 20] rfl (by kernel_rfl) (by kernel_rfl) (by kernel_rfl) (by kernel_rfl) (fun _ _ _ h => h) (Or.inl ⟨by rfl, ?hy9⟩) (by assumption) ?rest9
  case hy9 => (intro w hSw; (try dsimp only at hSw); go_simp; try with_reducible rfl)
  try simp only [Act.put, List.setIfInBounds_toArray, List.set_cons_zero, List.set_cons_succ]
  refine HeldLast.wpAnyL_take (i := 10) (v := ?v10) [10, 12, 13, 14, 15, 16, 17, 18, 20] rfl (by kernel_rfl) (by kernel_rfl) (by kernel_rfl) (by kernel_rfl) (fun _ _ _ h => h) (Or.inl ⟨by rfl, ?hy10⟩) (by assumption) ?rest10
  case hy10 => (intro w hSw; (try dsimp only at hSw); go_simp; try with_reducible rfl)
  try simp only [Act.put, List.setIfInBounds_toArray, List.set_cons_zero, List.set_cons_succ]
  refine HeldLast.wpAnyL_take (i := 11) (v := ?v11) [11, 12, 13, 14, 15, 16, 17, 18, 20] rfl (by kernel_rfl) (by kernel_rfl) (by kernel_rfl) (by kernel_rfl) (fun _ _ _ h => h) (Or.inl ⟨by rfl, ?hy11⟩) (by assumption) ?rest11
  case hy11 => (intro w hSw; (try dsimp only at hSw); go_simp; try with_reducible rfl)
  try simp only [Act.put, List.setIfInBounds_toArray, List.set_cons_zero, List.set_cons_succ]
  refine HeldLast.wpAnyL_take (i := 12) (v := ?v12) [12, 13, 14, 15, 16, 17, 18, 20] rfl (by kernel_rfl) (by kernel_rfl) (by kernel_rfl) (by kernel_rfl) (fun _ _ _ h => h) (Or.inl ⟨by rfl, ?hy12⟩) (by assumption) ?rest12
  case hy12 => (intro w hSw; (try dsimp only at hSw); go_simp; try with_reducible rfl)
  try simp only [Act.put, List.setIfInBounds_toArray, List.set_cons_zero, List.set_cons_succ]
  refine HeldLast.wpAnyL_take (i := 13) (v := ?v13) [13, 14, 15, 16, 17, 18, 20] rfl (by kernel_rfl) (by kernel_rfl) (by kernel_rfl) (by kernel_rfl) (fun _ _ _ h => h) (Or.inl ⟨by rfl, ?hy13⟩) (by assumption) ?rest13
  case hy13 => (intro w hSw; (try dsimp only at hSw); go_simp; try with_reducible rfl)
  try simp only [Act.put, List.setIfInBounds_toArray, List.set_cons_zero, List.set_cons_succ]
  refine HeldLast.wpAnyL_take (i := 14) (v := ?v14) [14, 15, 16, 17, 18, 20] rfl (by kernel_rfl) (by kernel_rfl) (by kernel_rfl) (by kernel_rfl) (fun _ _ _ h => h) (Or.inl ⟨by rfl, ?hy14⟩) (by assumption) ?rest14
  case hy14 => (intro w hSw; (try dsimp only at hSw); go_simp; try with_reducible rfl)
  try simp only [Act.put, List.setIfInBounds_toArray, List.set_cons_zero, List.set_cons_succ]
  refine HeldLast.wpAnyL_take (i := 15) (v := ?v15) [15, 16, 17, 18, 20] rfl (by kernel_rfl) (by kernel_rfl) (by kernel_rfl) (by kernel_rfl) (fun _ _ _ h => h) (Or.inl ⟨by rfl, ?hy15⟩) (by assumption) ?rest15
  case hy15 => (intro w hSw; (try dsimp only at hSw); go_simp; try with_reducible rfl)
  try simp only [Act.put, List.setIfInBounds_toArray, List.set_cons_zero, List.set_cons_succ]
  refine HeldLast.wpAnyL_ready (rs := [2]) (by kernel_rfl) (by simp) ?_
  refine HeldLast.AllReadyL.cons rfl (fun K' hK => ?_) HeldLast.AllReadyL.nil
  go_simp
  have c9 := nm_row w k hk6
  have b9 : Below w.heap.size w (w.alloc (.cells nmsC 9)).drew := below_drew (ba _ _)
  have o9 := H.out.1.later b9
  have g9 := H.out.2.1.later b9
  generalize World.drew (w.alloc _) = X9 at *
  refine hK.out _ _ ?_ (fun hHeld => ?_)
  · exact keepS _ (b9)
  clear hK K'
  try simp only [Act.put, List.setIfInBounds_toArray, List.set_cons_zero, List.set_cons_succ]
  refine HeldLast.wpAnyL_ready (rs := [4]) (by kernel_rfl) (by simp) ?_
  refine HeldLast.AllReadyL.cons rfl (fun K' hK => ?_) HeldLast.AllReadyL.nil
  go_simp
  refine hK.out _ _ ?_ (fun hHeld => ?_)
  · exact keepS _ (b9)
  clear hK K'
  try simp only [Act.put, List.setIfInBounds_toArray, List.set_cons_zero, List.set_cons_succ]
  refine HeldLast.wpAnyL_ready (rs := [5]) (by kernel_rfl) (by simp) ?_
  refine HeldLast.AllReadyL.cons rfl (fun K' hK => ?_) HeldLast.AllReadyL.nil
  go_simp
  refine hK.out _ _ ?_ (fun hHeld => ?_)
  · exact keepS _ (b9)
  clear hK K'
  try simp only [Act.put, List.setIfInBounds_toArray, List.set_cons_zero, List.set_cons_succ]
  refine HeldLast.wpAnyL_ready (rs := [16]) (by kernel_rfl) (by simp) ?_
  refine HeldLast.AllReadyL.cons rfl (fun K' hK => ?_) HeldLast.AllReadyL.nil
  go_simp
  refine hK.out _ _ ?_ (fun hHeld => ?_)
  · exact keepS _ (b9)
  clear hK K'
  try simp only [Act.put, List.setIfInBounds_toArray, List.set_cons_zero, List.set_cons_succ]
  refine HeldLast.wpAnyL_ready (rs := [17]) (by kernel_rfl) (by simp) ?_
  refine HeldLast.AllReadyL.cons rfl (fun K' hK => ?_) HeldLast.AllReadyL.nil
  go_simp
  have b8 := bt b9 (ba X9 (.cells (fldF (nmC k, 1 + (bitN y k : Int))).toArray 26))
  refine hK.out _ _ ?_ (fun hHeld => ?_)
  · exact keepS _ (b8)
  clear hK K'
  try simp only [Act.put, List.setIfInBounds_toArray, List.set_cons_zero, List.set_cons_succ]
  refine HeldLast.wpAnyL_ready (rs := [18]) (by kernel_rfl) (by simp) ?_
  refine HeldLast.AllReadyL.cons rfl (fun K' hK => ?_) HeldLast.AllReadyL.nil
  refine step_append_at rfl (.tmp 43) (.tmp 59) 27 rfl (G + 1) 26 js (.agg #[.string ⟨#[]⟩, .int .i64 0]) 2 24 Try.underlying27 sj sy0 sy1 sy2 rfl (by decide) (f := fldF) (fun _ => rfl) fldF_one (.slice fA fn fc) L rfl (o9.later (ba _ _)) (some ⟨X9.heap.size, 0, none⟩) 1 1 [(nmC k, 1 + (bitN y k : Int))] rfl rfl (at_newF X9 _) (by have := H.out.2.2.1; unfold maxLen; omega) (by have := H.out.2.2.1; omega) (Nat.le_trans (Nat.le_trans H.out.2.1.lt b9.size) (ba _ _).size) ?_
  intro v7 w7 hO7 hg7
  obtain ⟨nA, nn, nc, rfl⟩ := own_shape hO7
  have x1 : Blk w7 G 46 #[.string ys, .slice fA fn fc] := Blk.grown (g9.later (ba _ _)) hg7 (fun e => by have := (ownBI H.out.1 e.symm).1; omega)
  have y1 := x1.cell
  have y2 := x1.lt
  have y3 := x1.frozen
  have b7 : Below G w w7 := (b8.mono (Nat.le_of_lt H.out.2.1.lt)).trans (grownBy_below hg7 (Nat.le_trans (Nat.le_of_lt H.out.2.1.lt) b8.size) (fun x hx => by have := (ownBI H.out.1 hx).1; omega))
  have y4 : w7.cell? ⟨la.block, la.off + (i + 1), none⟩ = some (.int .u8 (y : Int)) := by rw [b7.cell (Nat.lt_of_lt_of_le (World.block_lt_of_cell? w0 _ hc0) hwG), H.out.2.2.2.cell (World.block_lt_of_cell? w0 _ hc0)]; exact hc0
  refine hK.out _ _ ?_ (fun hHeld => ?_)
  · exact ⟨y1, y4⟩
  clear hK K'
  try simp only [Act.put, List.setIfInBounds_toArray, List.set_cons_zero, List.set_cons_succ]
  refine HeldLast.wpAnyL_ready (rs := [19]) (by kernel_rfl) (by simp) ?_
  refine HeldLast.AllReadyL.cons rfl (fun K' hK => ?_) HeldLast.AllReadyL.nil
  go_simp
  refine hK.out _ _ ?_ (fun hHeld => ?_)
  · exact ⟨y1, y4⟩
  clear hK K'
  try simp only [Act.put, List.setIfInBounds_toArray, List.set_cons_zero, List.set_cons_succ]
  refine HeldLast.wpAnyL_ready (rs := [20]) (by kernel_rfl) (by simp) ?_
  refine HeldLast.AllReadyL.last rfl (fun K' hK => ?_)
  go_simp
  refine hK.out _ _ ?_
  clear hK K'
  try simp only [Act.put, List.setIfInBounds_toArray, List.set_cons_zero, List.set_cons_succ]
  refine HeldLast.wpAnyL_done (by kernel_rfl) ?_ _
  refine NoPanic.normal ?_
  refine HQ.out _ _ _ _ _ _ _ _ _ _ _ _ _ _ _ _ _ _ _ _ (.slice nA nn nc) _ ⟨?_, ?_, ?_⟩
  · have := x1.set_ 1 (.slice nA nn nc)
    simpa using this
  · exact hO7.far (p := ⟨G, 1, none⟩) (Nat.lt_succ_self G) _
  · exact b7.setCell (p := ⟨G, 1, none⟩) (Nat.le_refl G) _
end Go.Proofs.Ytkmboffbohndjaa
