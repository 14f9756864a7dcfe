/- Layer 11: an event by bytes: the region that appends a text. -/
import Derived.Test.YtkmboffbohndjaaCkW
import Derived.Test.YtkmboffbohndjaaPiece
import Derived.Test.YtkmboffbohndjaaHeldL
namespace Go.Proofs.Ytkmboffbohndjaa
open Go.ChangeShapes Go.WideShapes Go.ChangeAt Go.RowKit Go.Maps
set_option linter.unusedVariables false
set_option linter.unusedSimpArgs false

abbrev fourS : Array Value := #[.string ⟨#[]⟩, .string ⟨#[97]⟩, .string ⟨#[98]⟩, .string ⟨#[97, 98]⟩]
def four (q : Nat) : ByteArray := if q = 0 then ⟨#[]⟩ else if q = 1 then ⟨#[97]⟩ else if q = 2 then ⟨#[98]⟩ else ⟨#[97, 98]⟩
theorem four_size (q : Nat) : (four q).size ≤ 2 := by unfold four; split; decide; split; decide; split <;> decide
theorem one_row (w : World) (q : Nat) (h : q < 4) : ((w.alloc (.cells fourS 9)).drew).cell? ⟨w.heap.size, q, none⟩ = some (.string (four q)) := by
  have c := (Blk.new w 9 fourS).cell q
  rw [show ((w.alloc (.cells fourS 9)).drew.cell? ⟨w.heap.size, q, none⟩) = _ from c]
  rcases (by omega : q = 0 ∨ q = 1 ∨ q = 2 ∨ q = 3) with rfl | rfl | rfl | rfl <;> rfl
theorem at_newV (w : World) (y : VL) : At (w.alloc (.cells (vlF y).toArray 35)) 3 vlF (.slice (some ⟨w.heap.size, 0, none⟩) 1 1) [y] :=
  at_blkC (k := 3) (f := vlF) (fun _ => rfl) [y] (Blk.new w _ _) rfl (by unfold maxLen; omega) (by simp)
set_option maxRecDepth 20000 in
set_option maxHeartbeats 4000000 in
theorem one9 (u0 u1 u2 u3 u4 u5 u6 u8 u10 u11 u12 u13 u14 u15 u16 u17 u18 u19 u20 u21 u22 u23 u24 u25 u26 u27 u28 u29 u30 u31 u32 u33 u34 u35 u36 u37 u38 u39 u40 u41 u42 u43 u44 u45 u46 u47 u48 u49 u50 u51 u52 u53 u54 u55 u56 u57 u58 u59 u60 u61 u62 u63 u64 u65 u66 u67 u68 u69 : Value) {w : World} {G a b q : Nat} {vA : Option Addr} {vn vc : Nat} {V : List VL} (hB : Blk w G 53 #[.int .i64 (a : Int), .slice vA vn vc]) (hO : Own w (G + 1) 35 3 vlF (.slice vA vn vc) V) (hV : V.length ≤ 100) (hq : q = b % 4) {Q : Exit → Act → World → Prop}
    (hQ : ∀ (x38 x39 x40 x41 x42 x43 x44 x45 x46 x47 x48 : Value) (v : Value) (wx : World), Blk wx G 53 #[.int .i64 (a : Int), v] ∧ Own wx (G + 1) 35 3 vlF v (V ++ [(3, 0, four q)]) ∧ Below G w wx → Q .normal ⟨#[u0, u1, u2, u3, u4, u5, u6, .pointer (some ⟨G, 0, none⟩), u8, .int .i64 (b : Int), u10, u11, u12, u13, u14, u15, u16, u17, u18, u19, u20, u21, u22, u23, u24, u25, u26, u27, u28, u29, u30, u31, u32, u33, u34, u35, u36, u37, x38, x39, x40, x41, x42, x43, x44, x45, x46, x47, x48, u49, u50, u51, u52, u53, u54, u55, u56, u57, u58, u59, u60, u61, u62, u63, u64, u65, u66, u67, u68, u69], []⟩ wx) :
    Code.wp Try.prog ((Try.f15.body.bind (regionN 9)).getD .skip) Q ⟨#[u0, u1, u2, u3, u4, u5, u6, .pointer (some ⟨G, 0, none⟩), u8, .int .i64 (b : Int), u10, u11, u12, u13, u14, u15, u16, u17, u18, u19, u20, u21, u22, u23, u24, u25, u26, u27, u28, u29, u30, u31, u32, u33, u34, u35, u36, u37, u38, u39, u40, u41, u42, u43, u44, u45, u46, u47, u48, u49, u50, u51, u52, u53, u54, u55, u56, u57, u58, u59, u60, u61, u62, u63, u64, u65, u66, u67, u68, u69], []⟩ w := by
  have HQ := Lib.hid hQ; clear hQ
  conv => arg 2; whnf
  obtain ⟨js, sj, sy0, sy1, sy2⟩ := info_parts (P := Try.prog) (e := 35) (z := .agg #[.int .i64 0, .int .i64 0, .string ⟨#[]⟩]) (size := 3) (bytes := 32) (by kernel_rfl)
  have hq4 : q < 4 := by omega
  have hm : (b : Int) % 4 = (q : Int) := by omega
  have hm2 : Int.tmod (b : Int) 4 = (q : Int) := by rw [Int.tmod_eq_emod_of_nonneg (by omega)]; omega
  have hwd : IntKind.i64.wrap (q : Int) = (q : Int) := IntWalk.i64_in _ (by omega)
  have hqlt : (q : Int) < 4 := by omega
  have keepS : ∀ X, Below w.heap.size w X → ∀ i, X.cell? ⟨G, i, none⟩ = (#[.int .i64 (a : Int), .slice vA vn vc] : Array Value)[i]? := fun X hX => (hB.later hX).cell
  have c1 := keepS _ (Below.refl _ _)
  have H := Lib.hid (And.intro hO (And.intro hB (And.intro hV True.intro))); clear hB hO hV hq
  refine wp_region_noPanic ?_
  refine HeldLast.wp_region_last_drew 11 (S := (fun w' => ∀ i, w'.cell? ⟨G, i, none⟩ = (#[.int .i64 (a : Int), .slice vA vn vc] : Array Value)[i]?)) (by kernel_rfl) ?_ (fun hHeld => ?_)
  · exact c1
  clear c1
  refine HeldLast.wpAnyL_take (i := 0) (v := ?v0) [0, 1, 9, 11] rfl (by kernel_rfl) (by kernel_rfl) (by kernel_rfl) (by kernel_rfl) (fun _ _ _ h => h) (Or.inl ⟨by rfl, ?hy0⟩) (by assumption) ?rest0
  case hy0 => (intro w hSw; (try dsimp only at hSw); go_simp; try with_reducible rfl)
  try simp only [Act.put, List.setIfInBounds_toArray, List.set_cons_zero, List.set_cons_succ]
  refine HeldLast.wpAnyL_take (i := 1) (v := ?v1) [1, 9, 11] rfl (by kernel_rfl) (by kernel_rfl) (by kernel_rfl) (by kernel_rfl) (fun _ _ _ h => h) (Or.inl ⟨by rfl, ?hy1⟩) (by assumption) ?rest1
  case hy1 => (intro w hSw; (try dsimp only at hSw); go_simp; try with_reducible rfl)
  try simp only [Act.put, List.setIfInBounds_toArray, List.set_cons_zero, List.set_cons_succ]
  refine HeldLast.wpAnyL_take (i := 3) (v := ?v3) [3, 4, 5, 6, 7, 8, 9, 11] rfl (by kernel_rfl) (by kernel_rfl) (by kernel_rfl) (by kernel_rfl) (fun _ _ _ h => h) (Or.inl ⟨by rfl, ?hy3⟩) (by assumption) ?rest3
  case hy3 => (intro w hSw; (try dsimp only at hSw); go_simp; try with_reducible rfl)
  try simp only [Act.put, List.setIfInBounds_toArray, List.set_cons_zero, List.set_cons_succ]
  refine HeldLast.wpAnyL_take (i := 4) (v := ?v4) [4, 5, 6, 7, 8, 9, 11] rfl (by kernel_rfl) (by kernel_rfl) (by kernel_rfl) (by kernel_rfl) (fun _ _ _ h => h) (Or.inl ⟨by rfl, ?hy4⟩) (by assumption) ?rest4
  case hy4 => (intro w hSw; (try dsimp only at hSw); go_simp; try with_reducible rfl)
  try simp only [Act.put, List.setIfInBounds_toArray, List.set_cons_zero, List.set_cons_succ]
  refine HeldLast.wpAnyL_ready (rs := [2]) (by kernel_rfl) (by simp) ?_
  refine HeldLast.AllReadyL.cons rfl (fun K' hK => ?_) HeldLast.AllReadyL.nil
  go_simp
  have c9 := one_row w q hq4
  have b9 : Below w.heap.size w ((w.alloc (.cells fourS 9)).drew) := below_drew (ba _ _)
  have o9 := H.out.1.later b9
  have g9 := H.out.2.1.later b9
  generalize World.drew (w.alloc _) = X9 at *
  refine hK.out _ _ ?_ (fun hHeld => ?_)
  · exact keepS _ (b9)
  clear hK K'
  try simp only [Act.put, List.setIfInBounds_toArray, List.set_cons_zero, List.set_cons_succ]
  refine HeldLast.wpAnyL_ready (rs := [5]) (by kernel_rfl) (by simp) ?_
  refine HeldLast.AllReadyL.cons rfl (fun K' hK => ?_) HeldLast.AllReadyL.nil
  go_simp
  refine hK.out _ _ ?_ (fun hHeld => ?_)
  · exact keepS _ (b9)
  clear hK K'
  try simp only [Act.put, List.setIfInBounds_toArray, List.set_cons_zero, List.set_cons_succ]
  refine HeldLast.wpAnyL_ready (rs := [6]) (by kernel_rfl) (by simp) ?_
  refine HeldLast.AllReadyL.cons rfl (fun K' hK => ?_) HeldLast.AllReadyL.nil
  go_simp
  refine hK.out _ _ ?_ (fun hHeld => ?_)
  · exact keepS _ (b9)
  clear hK K'
  try simp only [Act.put, List.setIfInBounds_toArray, List.set_cons_zero, List.set_cons_succ]
  refine HeldLast.wpAnyL_ready (rs := [7]) (by kernel_rfl) (by simp) ?_
  refine HeldLast.AllReadyL.cons rfl (fun K' hK => ?_) HeldLast.AllReadyL.nil
  go_simp
  refine hK.out _ _ ?_ (fun hHeld => ?_)
  · exact keepS _ (b9)
  clear hK K'
  try simp only [Act.put, List.setIfInBounds_toArray, List.set_cons_zero, List.set_cons_succ]
  refine HeldLast.wpAnyL_ready (rs := [8]) (by kernel_rfl) (by simp) ?_
  refine HeldLast.AllReadyL.cons rfl (fun K' hK => ?_) HeldLast.AllReadyL.nil
  go_simp
  have b8 := bt b9 (ba X9 (.cells (vlF (3, 0, four q)).toArray 35))
  refine hK.out _ _ ?_ (fun hHeld => ?_)
  · exact keepS _ (b8)
  clear hK K'
  try simp only [Act.put, List.setIfInBounds_toArray, List.set_cons_zero, List.set_cons_succ]
  refine HeldLast.wpAnyL_ready (rs := [9]) (by kernel_rfl) (by simp) ?_
  refine HeldLast.AllReadyL.cons rfl (fun K' hK => ?_) HeldLast.AllReadyL.nil
  refine step_append_at rfl (.tmp 39) (.tmp 46) 51 rfl (G + 1) 35 js (.agg #[.int .i64 0, .int .i64 0, .string ⟨#[]⟩]) 3 32 Try.underlying51 sj sy0 sy1 sy2 rfl (by decide) (f := vlF) (fun _ => rfl) vlF_one (.slice vA vn vc) V rfl (o9.later (ba _ _)) (some ⟨X9.heap.size, 0, none⟩) 1 1 [(3, 0, four q)] rfl rfl (at_newV X9 _) (by have := H.out.2.2.1; unfold maxLen; omega) (by have := H.out.2.2.1; omega) (Nat.le_trans (Nat.le_trans H.out.2.1.lt b9.size) (ba _ _).size) ?_
  intro v7 w7 hO7 hg7
  obtain ⟨nA, nn, nc, rfl⟩ := own_shape hO7
  have x1 : Blk w7 G 53 #[.int .i64 (a : Int), .slice vA vn vc] := Blk.grown (g9.later (ba _ _)) hg7 (fun e => by have := (ownBI H.out.1 e.symm).1; omega)
  have y1 := x1.cell
  have y2 := x1.lt
  have y3 := x1.frozen
  have b7 : Below G w w7 := (b8.mono (Nat.le_of_lt H.out.2.1.lt)).trans (grownBy_below hg7 (Nat.le_trans (Nat.le_of_lt H.out.2.1.lt) b8.size) (fun x hx => by have := (ownBI H.out.1 hx).1; omega))
  refine hK.out _ _ ?_ (fun hHeld => ?_)
  · exact y1
  clear hK K'
  try simp only [Act.put, List.setIfInBounds_toArray, List.set_cons_zero, List.set_cons_succ]
  refine HeldLast.wpAnyL_ready (rs := [10]) (by kernel_rfl) (by simp) ?_
  refine HeldLast.AllReadyL.cons rfl (fun K' hK => ?_) HeldLast.AllReadyL.nil
  go_simp
  refine hK.out _ _ ?_ (fun hHeld => ?_)
  · exact y1
  clear hK K'
  try simp only [Act.put, List.setIfInBounds_toArray, List.set_cons_zero, List.set_cons_succ]
  refine HeldLast.wpAnyL_ready (rs := [11]) (by kernel_rfl) (by simp) ?_
  refine HeldLast.AllReadyL.last rfl (fun K' hK => ?_)
  go_simp
  refine hK.out _ _ ?_
  clear hK K'
  try simp only [Act.put, List.setIfInBounds_toArray, List.set_cons_zero, List.set_cons_succ]
  refine HeldLast.wpAnyL_done (by kernel_rfl) ?_ _
  refine NoPanic.normal ?_
  refine HQ.out _ _ _ _ _ _ _ _ _ _ _ (.slice nA nn nc) _ ⟨?_, ?_, ?_⟩
  · have := x1.set_ 1 (.slice nA nn nc)
    simpa using this
  · exact hO7.far (p := ⟨G, 1, none⟩) (Nat.lt_succ_self G) _
  · exact b7.setCell (p := ⟨G, 1, none⟩) (Nat.le_refl G) _
end Go.Proofs.Ytkmboffbohndjaa
