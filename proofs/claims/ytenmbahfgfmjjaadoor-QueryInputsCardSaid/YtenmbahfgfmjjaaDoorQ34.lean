/- Texts that several proofs stand on, part 34. -/
import Derived.Test.YtenmbahfgfmjjaaDoorQ33
import Derived.IntWalk
namespace Go.Proofs.YtenmbahfgfmjjaaDoor
open Go.ChangeShapes Go.WideShapes Go.ChangeAt Go.RowKit
set_option linter.unusedVariables false
set_option linter.unusedSimpArgs false

set_option maxRecDepth 20000 in
set_option maxHeartbeats 4000000 in
theorem ask11 (u0 u1 u2 u3 u4 u5 u6 u8 u9 u10 u11 u12 u13 u14 u15 u16 u17 u18 u19 u20 u21 u22 u23 u24 u25 u26 u27 u28 u29 u30 u31 u32 u33 u34 u35 u36 u37 u38 u39 u40 u41 u42 u43 u44 u45 u46 u47 u48 u49 u50 u51 u52 u53 u54 u55 u56 u57 u58 u59 u60 u61 u62 u63 u64 u65 u66 u67 u68 u69 u70 u71 u72 u73 u74 u75 u76 u77 u78 u79 u80 u81 u82 u83 u84 u85 u86 u87 u88 u89 u90 u91 u92 u93 u94 u95 u96 u97 u98 u99 u100 u101 u102 u103 u104 u105 u106 u107 u108 u109 : Value) {w0 w : World} {g many : Nat} {vl : List Sl} {vv lv : Value} {L : List UInt8} (hF : FV w0 g vl vv many lv L w) (h1 : 0 < vl.length) {Q : Exit → Act → World → Prop}
    (hQ : ∀ (x63 x64 x65 x66 x67 x68 x69 x70 x71 x72 x73 x74 : Value)  (wx : World), (∃ s : Sl, s ∈ vl ∧ Blk wx w.heap.size 54 #[.string s.1.1, sl s.1.2] ∧ Below w.heap.size w wx) → Q .normal ⟨#[u0, u1, u2, u3, u4, u5, u6, .pointer (some ⟨g, 0, none⟩), u8, u9, u10, .pointer (some ⟨w.heap.size, 0, none⟩), u12, u13, u14, u15, u16, u17, u18, u19, u20, u21, u22, u23, u24, u25, u26, u27, u28, u29, u30, u31, u32, u33, u34, u35, u36, u37, u38, u39, u40, u41, u42, u43, u44, u45, u46, u47, u48, u49, u50, u51, u52, u53, u54, u55, u56, u57, u58, u59, u60, u61, u62, x63, x64, x65, x66, x67, x68, x69, x70, x71, x72, x73, x74, u75, u76, u77, u78, u79, u80, u81, u82, u83, u84, u85, u86, u87, u88, u89, u90, u91, u92, u93, u94, u95, u96, u97, u98, u99, u100, u101, u102, u103, u104, u105, u106, u107, u108, u109], []⟩ wx) :
    Code.wp Tryd.prog ((Tryd.f8.body.bind (regionN 11)).getD .skip) Q ⟨#[u0, u1, u2, u3, u4, u5, u6, .pointer (some ⟨g, 0, none⟩), u8, u9, u10, u11, u12, u13, u14, u15, u16, u17, u18, u19, u20, u21, u22, u23, u24, u25, u26, u27, u28, u29, u30, u31, u32, u33, u34, u35, u36, u37, u38, u39, u40, u41, u42, u43, u44, u45, u46, u47, u48, u49, u50, u51, u52, u53, u54, u55, u56, u57, u58, u59, u60, u61, u62, u63, u64, u65, u66, u67, u68, u69, u70, u71, u72, u73, u74, u75, u76, u77, u78, u79, u80, u81, u82, u83, u84, u85, u86, u87, u88, u89, u90, u91, u92, u93, u94, u95, u96, u97, u98, u99, u100, u101, u102, u103, u104, u105, u106, u107, u108, u109], []⟩ w := by
  have HQ := Lib.hid hQ; clear hQ
  conv => arg 2; whnf
  obtain ⟨at_, ha, hg⟩ := hF.2.2.2.1
  obtain ⟨vA, vn, vc, hvv⟩ := own_shape hF.2.2.2.2.1.1
  have hat := (hF.2.2.2.2.1.1).at_ (f := slF) (k := 2) (fun _ => rfl)
  rw [hvv] at hat
  obtain ⟨m, hm⟩ : ∃ m, vl.length = m + 1 := ⟨vl.length - 1, by omega⟩
  have hm1 : m < vl.length := by omega
  obtain rfl : vn = m + 1 := by
    obtain ⟨_, _, e, _⟩ := hat
    simp only [Value.slice.injEq, List.length_map] at e
    omega
  obtain ⟨a, rfl, hc⟩ := hat.cells rfl (by rw [List.length_map]; omega)
  obtain ⟨e1, e2⟩ := hc.row2 m (by rw [List.length_map]; omega) (x := .string (vl[m]'hm1).1.1) (y := sl (vl[m]'hm1).1.2) (by simp)
  have hgl := hg.lt
  have c2 := hg.cell 2
  simp only [fV, List.getElem?_toArray, List.getElem?_cons_succ, List.getElem?_cons_zero] at c2
  rw [hvv] at c2
  have l1 := World.block_lt_of_cell? w _ e1
  have l2 := World.block_lt_of_cell? w _ e2
  have hm63 : (m : Int) + 1 ≤ 9223372036854775807 := by have := hF.2.2.2.2.1.2; omega
  have keepS : ∀ X, Below w.heap.size w X → X.cell? ⟨g, 2, none⟩ = some (.slice (some a) (m + 1) vc) ∧ X.cell? (a.add (m * 2)) = some (.string (vl[m]'hm1).1.1) ∧ X.cell? ⟨(a.add (m * 2)).block, (a.add (m * 2)).off + 1, none⟩ = some (sl (vl[m]'hm1).1.2) := fun X hX => ⟨by rw [hX.cell hgl]; exact c2, by rw [hX.cell l1]; exact e1, by rw [hX.cell l2]; exact e2⟩
  have lm : (m : Int) < (m : Int) + 1 := by omega
  have wm : IntKind.i64.wrap (m : Int) = (m : Int) := IntWalk.i64_in _ (by omega)
  have hS0 : vl[m]'hm1 ∈ vl := List.getElem_mem hm1
  obtain ⟨s, hs⟩ : ∃ s, s = vl[m]'hm1 := ⟨_, rfl⟩
  rw [← hs] at keepS e1 e2 hS0
  clear hs hc hat hg ha hvv h1 hm hF
  refine wp_region_noPanic ?_
  refine HeldLast.wp_region_last_drew 13 (S := (fun w' => w'.cell? ⟨g, 2, none⟩ = some (.slice (some a) (m + 1) vc) ∧ w'.cell? (a.add (m * 2)) = some (.string s.1.1) ∧ w'.cell? ⟨(a.add (m * 2)).block, (a.add (m * 2)).off + 1, none⟩ = some (sl s.1.2))) (by kernel_rfl) ?_ (fun hHeld => ?_)
  · exact ⟨c2, e1, e2⟩
  refine HeldLast.wpAnyL_take (i := 0) (v := ?v0) [0, 1, 2, 3, 10, 11, 13] rfl (by kernel_rfl) (by kernel_rfl) (by kernel_rfl) (by kernel_rfl) (fun _ _ _ h => h) (Or.inl ⟨by rfl, ?hy0⟩) (by assumption) ?rest0
  case hy0 => (intro w hSw; (try dsimp only at hSw); go_simp; try with_reducible rfl)
  try simp only [Act.put, List.setIfInBounds_toArray, List.set_cons_zero, List.set_cons_succ]
  refine HeldLast.wpAnyL_take (i := 1) (v := ?v1) [1, 2, 3, 10, 11, 13] rfl (by kernel_rfl) (by kernel_rfl) (by kernel_rfl) (by kernel_rfl) (fun _ _ _ h => h) (Or.inl ⟨by rfl, ?hy1⟩) (by assumption) ?rest1
  case hy1 => (intro w hSw; (try dsimp only at hSw); go_simp; try with_reducible rfl)
  try simp only [Act.put, List.setIfInBounds_toArray, List.set_cons_zero, List.set_cons_succ]
  refine HeldLast.wpAnyL_take (i := 2) (v := ?v2) [2, 3, 10, 11, 13] rfl (by kernel_rfl) (by kernel_rfl) (by kernel_rfl) (by kernel_rfl) (fun _ _ _ h => h) (Or.inl ⟨by rfl, ?hy2⟩) (by assumption) ?rest2
  case hy2 => (intro w hSw; (try dsimp only at hSw); go_simp; try with_reducible rfl)
  try simp only [Act.put, List.setIfInBounds_toArray, List.set_cons_zero, List.set_cons_succ]
  refine HeldLast.wpAnyL_take (i := 3) (v := ?v3) [3, 10, 11, 13] rfl (by kernel_rfl) (by kernel_rfl) (by kernel_rfl) (by kernel_rfl) (fun _ _ _ h => h) (Or.inl ⟨by rfl, ?hy3⟩) (by assumption) ?rest3
  case hy3 => (intro w hSw; (try dsimp only at hSw); go_simp; try with_reducible rfl)
  try simp only [Act.put, List.setIfInBounds_toArray, List.set_cons_zero, List.set_cons_succ]
  refine HeldLast.wpAnyL_take (i := 4) (v := ?v4) [4, 5, 6, 7, 8, 9, 10, 11, 13] rfl (by kernel_rfl) (by kernel_rfl) (by kernel_rfl) (by kernel_rfl) (fun _ _ _ h => h) (Or.inl ⟨by rfl, ?hy4⟩) (by assumption) ?rest4
  case hy4 => (intro w hSw; (try dsimp only at hSw); go_simp; try with_reducible rfl)
  try simp only [Act.put, List.setIfInBounds_toArray, List.set_cons_zero, List.set_cons_succ]
  refine HeldLast.wpAnyL_take (i := 5) (v := ?v5) [5, 6, 7, 8, 9, 10, 11, 13] rfl (by kernel_rfl) (by kernel_rfl) (by kernel_rfl) (by kernel_rfl) (fun _ _ _ h => h) (Or.inl ⟨by rfl, ?hy5⟩) (by assumption) ?rest5
  case hy5 => (intro w hSw; (try dsimp only at hSw); go_simp; try with_reducible rfl)
  try simp only [Act.put, List.setIfInBounds_toArray, List.set_cons_zero, List.set_cons_succ]
  refine HeldLast.wpAnyL_take (i := 6) (v := ?v6) [6, 7, 8, 9, 10, 11, 13] rfl (by kernel_rfl) (by kernel_rfl) (by kernel_rfl) (by kernel_rfl) (fun _ _ _ h => h) (Or.inl ⟨by rfl, ?hy6⟩) (by assumption) ?rest6
  case hy6 => (intro w hSw; (try dsimp only at hSw); go_simp; try with_reducible rfl)
  try simp only [Act.put, List.setIfInBounds_toArray, List.set_cons_zero, List.set_cons_succ]
  refine HeldLast.wpAnyL_take (i := 7) (v := ?v7) [7, 8, 9, 10, 11, 13] rfl (by kernel_rfl) (by kernel_rfl) (by kernel_rfl) (by kernel_rfl) (fun _ _ _ h => h) (Or.inl ⟨by rfl, ?hy7⟩) (by assumption) ?rest7
  case hy7 => (intro w hSw; (try dsimp only at hSw); go_simp; try with_reducible rfl)
  try simp only [Act.put, List.setIfInBounds_toArray, List.set_cons_zero, List.set_cons_succ]
  refine HeldLast.wpAnyL_take (i := 8) (v := ?v8) [8, 9, 10, 11, 13] rfl (by kernel_rfl) (by kernel_rfl) (by kernel_rfl) (by kernel_rfl) (fun _ _ _ h => h) (Or.inl ⟨by rfl, ?hy8⟩) (by assumption) ?rest8
  case hy8 => (intro w hSw; (try dsimp only at hSw); go_simp; try with_reducible rfl)
  try simp only [Act.put, List.setIfInBounds_toArray, List.set_cons_zero, List.set_cons_succ]
  refine HeldLast.wpAnyL_take (i := 9) (v := ?v9) [9, 10, 11, 13] rfl (by kernel_rfl) (by kernel_rfl) (by kernel_rfl) (by kernel_rfl) (fun _ _ _ h => h) (Or.inl ⟨by rfl, ?hy9⟩) (by assumption) ?rest9
  case hy9 => (intro w hSw; (try dsimp only at hSw); go_simp; try with_reducible rfl)
  try simp only [Act.put, List.setIfInBounds_toArray, List.set_cons_zero, List.set_cons_succ]
  refine HeldLast.wpAnyL_take (i := 10) (v := ?v10) [10, 11, 13] rfl (by kernel_rfl) (by kernel_rfl) (by kernel_rfl) (by kernel_rfl) (fun _ _ _ h => h) (Or.inl ⟨by rfl, ?hy10⟩) (by assumption) ?rest10
  case hy10 => (intro w hSw; (try dsimp only at hSw); go_simp; try with_reducible rfl)
  try simp only [Act.put, List.setIfInBounds_toArray, List.set_cons_zero, List.set_cons_succ]
  refine HeldLast.wpAnyL_take (i := 11) (v := ?v11) [11, 13] rfl (by kernel_rfl) (by kernel_rfl) (by kernel_rfl) (by kernel_rfl) (fun _ _ _ h => h) (Or.inl ⟨by rfl, ?hy11⟩) (by assumption) ?rest11
  case hy11 => (intro w hSw; (try dsimp only at hSw); go_simp; try with_reducible rfl)
  try simp only [Act.put, List.setIfInBounds_toArray, List.set_cons_zero, List.set_cons_succ]
  refine HeldLast.wpAnyL_ready (rs := [12]) (by kernel_rfl) (by simp) ?_
  refine HeldLast.AllReadyL.cons rfl (fun K' hK => ?_) HeldLast.AllReadyL.nil
  go_simp
  refine hK.out _ _ ?_ (fun hHeld => ?_)
  · exact keepS _ (bt (below_drew (Below.refl _ _)) (ba _ _))
  clear hK K'
  try simp only [Act.put, List.setIfInBounds_toArray, List.set_cons_zero, List.set_cons_succ]
  refine HeldLast.wpAnyL_ready (rs := [13]) (by kernel_rfl) (by simp) ?_
  refine HeldLast.AllReadyL.last rfl (fun K' hK => ?_)
  go_simp
  refine hK.out _ _ ?_
  clear hK K'
  try simp only [Act.put, List.setIfInBounds_toArray, List.set_cons_zero, List.set_cons_succ]
  refine HeldLast.wpAnyL_done (by kernel_rfl) ?_ _
  refine NoPanic.normal ?_
  exact HQ.out _ _ _ _ _ _ _ _ _ _ _ _ _ ⟨s, hS0, (by first | exact Blk.new w 54 #[.string s.1.1, sl s.1.2] | (have := Blk.new w 54 #[.string s.1.1, sl s.1.2]; simpa using this)), (by first | exact ba _ _ | exact below_drew (ba _ _))⟩
end Go.Proofs.YtenmbahfgfmjjaaDoor
namespace Go.Proofs.YtenmbahfgfmjjaaDoor
open Go.ChangeShapes Go.WideShapes Go.ChangeAt Go.RowKit
set_option linter.unusedVariables false
set_option linter.unusedSimpArgs false

/-- An Output in a row: where what stands below it lies. -/
abbrev OyA := Ot × SV
abbrev otA (x : OyA) : List Value := otF (x.1, sl x.2)
theorem otA_one (x : OyA) : ∀ u ∈ otA x, u.oneCell' = true := fun u hu => by
  obtain ⟨⟨f, t⟩, K⟩ := x
  cases t <;> (simp [Tr.node] at hu; rcases hu with rfl | rfl | rfl | rfl | rfl | rfl | rfl | rfl | rfl <;> rfl)
theorem at_mapA {α β : Type} {w : World} {k : Nat} {f : β → List Value} {g : α → β} {v : Value} {l : List α} (h : At w k (fun x => f (g x)) v l) : At w k f v (l.map g) := by
  obtain ⟨A, c, hv, h1, h2, h3, h4⟩ := h
  refine ⟨A, c, by rw [List.length_map]; exact hv, by rw [List.length_map]; exact h1, h2, h3, fun b hb j hj i u hu => ?_⟩
  rw [List.length_map] at hj
  rw [List.getElem_map] at hu
  exact h4 b hb j hj i u hu
/-- What a call of asked keeps while it makes Outputs: M: where the memory of its Parts ends; lb: the last slot's row. -/
structure AO (w0 : World) (g qb M lb : Nat) (s : Sl) (ps : List Px) (os : List OyA) (vl : List Sl) (vv lv : Value) (L : List UInt8) (nm : ByteArray) (st : Bool) (wi : Int) (by_ : ByteArray) (pv ov : Value) (W : World) : Prop where
  fv : FV w0 g vl vv ps.length lv L W
  q : Blk W qb 27 #[.string nm, .bool st, pv, .int .i64 wi, .string by_, ov]
  gq : g < qb
  qM : qb < M
  sz : M ≤ W.heap.size
  pown : Own W (qb + 1) 37 5 ptF pv ps
  plt : ∀ k, pv.ownBlock = some k → k < M
  inn : ∀ x ∈ ps, ∃ B N, qb < B ∧ N ≤ M ∧ Inn B N W (fun X => PxAt X x)
  oown : Own W M 45 9 otA ov os
  otr : ∀ y ∈ os, ∃ B N, M ≤ B ∧ B ≤ N ∧ N ≤ W.heap.size ∧ Inn B N W (fun X => TrAt X y.1.e (Go.Proofs.YtenmbahfgfmjjaaDoor.sl y.2)) ∧ (∀ k, ov.ownBlock = some k → k < B ∨ N ≤ k)
  smem : s ∈ vl
  lM : lb < M
  lq : qb < lb
  lb : Blk W lb 54 #[.string s.1.1, Go.Proofs.YtenmbahfgfmjjaaDoor.sl s.1.2]
  r : Blk W w0.heap.size 27 zQ
  rg : w0.heap.size < g
  vs : ps.map (·.1.v) = (List.range ps.length).map nm8
  ok : ∀ x ∈ ps, partB x.1 = true ∧ (∀ s ∈ x.1.ss, s ∈ q3) ∧ ∀ t ∈ x.1.pd, Sm t
  nn : st = true → ∀ x ∈ ps, x.1.nt = false
  hd : ∀ x, ps.head? = some x → x.1.nt = false
section
variable {w0 W W1 : World} {g qb M lb : Nat} {s : Sl} {ps : List Px} {os : List OyA} {vl : List Sl} {vv lv : Value} {L : List UInt8} {nm : ByteArray} {st : Bool} {wi : Int} {by_ : ByteArray} {pv ov : Value}
/-- The feed goes on, or new memory is made. -/
theorem AO.gb (h : AO w0 g qb M lb s ps os vl vv lv L nm st wi by_ pv ov W) (hF : FV w0 g vl vv ps.length lv L W1) (hb : GB g W W1) : AO w0 g qb M lb s ps os vl vv lv L nm st wi by_ pv ov W1 := by
  have hgq := h.gq
  have hqM := h.qM
  have hsz := h.sz
  have hlq := h.lq
  obtain ⟨_, _, hg⟩ := h.fv.2.2.2.1
  refine { h with fv := hF, q := h.q.grown hb (fun e => by have := Option.some.inj e; omega), sz := Nat.le_trans h.sz hb.size, pown := h.pown.grown hb (fun b hb' e => by have := Option.some.inj hb'; have := (ownBI h.pown e).1; omega), inn := fun x hx => ?_, oown := h.oown.grown hb (fun b hb' e => by have := Option.some.inj hb'; have := (ownBI h.oown e).1; omega), otr := fun y hy => ?_, lb := h.lb.grown hb (fun e => by have := Option.some.inj e; omega), r := h.r.grown hb (fun e => by have := Option.some.inj e; have := h.rg; omega) }
  · obtain ⟨B, N, h1, h2, h3⟩ := h.inn x hx
    exact ⟨B, N, h1, h2, h3.on (Nat.le_refl _) (Nat.le_refl _) (fun k hk hk2 => hb.block k (by omega) (fun e => by have := Option.some.inj e; omega))⟩
  · obtain ⟨B, N, h1, h2, h3, h4, h5⟩ := h.otr y hy
    exact ⟨B, N, h1, h2, Nat.le_trans h3 hb.size, h4.on (Nat.le_refl _) (Nat.le_refl _) (fun k hk hk2 => hb.block k (by omega) (fun e => by have := Option.some.inj e; omega)), h5⟩
theorem AO.go (h : AO w0 g qb M lb s ps os vl vv lv L nm st wi by_ pv ov W) (hb : Below W.heap.size W W1) : AO w0 g qb M lb s ps os vl vv lv L nm st wi by_ pv ov W1 := h.gb (h.fv.go hb) (gb_of hb)
/-- An Output is stored: its tree lies in blocks B to N. -/
theorem AO.push (h : AO w0 g qb M lb s ps os vl vv lv L nm st wi by_ pv ov W) {Wb W7 : World} {ov' : Value} {y : OyA} {B N : Nat} (hB0 : M ≤ B) (hBN : B ≤ N) (hN : N ≤ W.heap.size) (hy : Inn B N W (fun X => TrAt X y.1.e (Go.Proofs.YtenmbahfgfmjjaaDoor.sl y.2))) (hyo : ∀ k, ov.ownBlock = some k → k < B ∨ N ≤ k)
    (hb : Below W.heap.size W Wb) (hg : Wb.grownBy W7 ov.ownBlock) (hO : Own W7 M 45 9 otA ov' (os ++ [y])) (hloc : ∀ k, ov'.ownBlock = some k → ov.ownBlock = some k ∨ Wb.heap.size ≤ k) :
    AO w0 g qb M lb s ps (os ++ [y]) vl vv lv L nm st wi by_ pv ov' (W7.setCell ⟨qb, 5, none⟩ ov') := by
  have hB := h.go hb
  have hgq := h.gq
  have hqM := h.qM
  have hsz := hB.sz
  have hlq := h.lq
  have hlM := h.lM
  have hbs := hb.size
  obtain ⟨at_, ha, hgB⟩ := hB.fv.2.2.2.1
  have hoM : ∀ k, ov.ownBlock = some k → M ≤ k := fun k hk => (ownBI hB.oown hk).1
  have hs := gb_set (g := qb) W7 5 ov'
  have hgs := hg.size
  have hst : ∀ k, k < Wb.heap.size → ov.ownBlock ≠ some k → k ≠ qb → (W7.setCell ⟨qb, 5, none⟩ ov').heap[k]? = Wb.heap[k]? := fun k hk hn hq => by
    rw [hs.block k (by omega) (fun e => hq (Option.some.inj e)), hg.block k hk (fun e => hn e.symm)]
  have hlow : ∀ k, k < M → k ≠ qb → (W7.setCell ⟨qb, 5, none⟩ ov').heap[k]? = Wb.heap[k]? := fun k hk hq => hst k (by omega) (fun e => by have := hoM k e; omega) hq
  have hw0 := hB.fv.1.size
  have hq0 : w0.heap.size ≤ qb := by have := hB.fv.2.1; omega
  have hq7 : Blk W7 qb 27 #[.string nm, .bool st, pv, .int .i64 wi, .string by_, ov] := hB.q.grown hg (fun e => by have := hoM qb e.symm; omega)
  have hvq := own_off2 hB.fv.2.2.2.2.1.1 hB.q (by decide)
  refine { h with fv := ⟨?_, hB.fv.2.1, hB.fv.2.2.1, ⟨at_, ha, hgB.alike (hlow g (by omega) (by omega))⟩, ⟨⟨hB.fv.2.2.2.2.1.1.1, ?_⟩, hB.fv.2.2.2.2.1.2⟩, fun x hx => ?_⟩, q := ?_, sz := ?_, pown := ⟨hB.pown.1, ?_⟩, inn := fun x hx => ?_, oown := ?_, otr := fun z hz => ?_, lb := hB.lb.alike (hlow lb hlM (by omega)), r := hB.r.alike (hlow _ (by have := hB.rg; omega) (by have := hB.rg; omega)) }
  · have h7 : Below w0.heap.size w0 W7 := hB.fv.1.trans (grownBy_below hg hw0 (fun x hx => by have := hoM x hx; omega))
    exact h7.setCell (p := ⟨qb, 5, none⟩) hq0 _
  · rcases hB.fv.2.2.2.2.1.1.2 with h0 | ⟨b, cap, cur, q0, q1, q2, q3⟩
    · exact Or.inl h0
    · refine Or.inr ⟨b, cap, cur, q0, q1, ?_, q3⟩
      rw [hst b (Array.getElem?_eq_some_iff.1 q2).1 (fun e => ?_) (fun e => ?_)]
      · exact q2
      · obtain ⟨_, cs, hc⟩ := ownBI hB.oown e
        rw [q2] at hc; simp at hc
      · subst e
        exact hvq (by rw [q0]; rfl)
  · obtain ⟨h1, b, h2, h3, h4, h5⟩ := hB.fv.2.2.2.2.2 x hx
    exact ⟨h1, b, h2, h3, h4.alike (hst b h4.lt (own_off2 hB.oown h4 (by decide)) (blk_ne h4 hB.q (by decide))), h5⟩
  · have := hq7.set_ 5 ov'
    simpa using this
  · have := hs.size; omega
  · rcases hB.pown.2 with h0 | ⟨b, cap, cur, q0, q1, q2, q3⟩
    · exact Or.inl h0
    · refine Or.inr ⟨b, cap, cur, q0, q1, ?_, q3⟩
      rw [hlow b (h.plt b (by rw [q0]; rfl)) (by omega)]
      exact q2
  · obtain ⟨B', N', h1, h2, h3⟩ := hB.inn x hx
    exact ⟨B', N', h1, h2, h3.on (Nat.le_refl _) (Nat.le_refl _) (fun k hk hk2 => hlow k (by omega) (by omega))⟩
  · exact hO.grown hs (fun b hb' e => by have := Option.some.inj hb'; have := (ownBI hO e).1; omega)
  · have hs2 := hs.size
    have key : ∀ B' N' : Nat, M ≤ B' → N' ≤ W.heap.size → (∀ k, ov.ownBlock = some k → k < B' ∨ N' ≤ k) → ∀ p : World → Prop, Inn B' N' W p → Inn B' N' (W7.setCell ⟨qb, 5, none⟩ ov') p ∧ ∀ k, ov'.ownBlock = some k → k < B' ∨ N' ≤ k := fun B' N' a1 a2 a3 p a4 =>
      ⟨a4.on (Nat.le_refl _) (Nat.le_refl _) (fun k hk hk2 => by rw [hst k (by omega) (fun e => by rcases a3 k e with h | h <;> omega) (by omega)]; exact hb.block k (by omega)), fun k hk => by
        rcases hloc k hk with h' | h'
        · exact a3 k h'
        · right; omega⟩
    rcases List.mem_append.1 hz with hz | hz
    · obtain ⟨B', N', h1, h2, h3, h4, h5⟩ := h.otr z hz
      obtain ⟨k1, k2⟩ := key B' N' h1 h3 h5 _ h4
      exact ⟨B', N', h1, h2, by omega, k1, k2⟩
    · obtain rfl : z = y := by simpa using hz
      obtain ⟨k1, k2⟩ := key B N hB0 hN hyo _ hy
      exact ⟨B, N, hB0, hBN, by omega, k1, k2⟩
/-- Where the Outputs begin. -/
theorem AO.new (h : AK w0 g qb ps ps vl vv lv L nm st wi by_ pv (.slice none 0 0) W) {l : Nat} (hs : s ∈ vl) (hW : Below W.heap.size W W1) (hl : l = W.heap.size) (hlb : Blk W1 l 54 #[.string s.1.1, Go.Proofs.YtenmbahfgfmjjaaDoor.sl s.1.2]) :
    AO w0 g qb W1.heap.size l s ps [] vl vv lv L nm st wi by_ pv (.slice none 0 0) W1 := by
  subst hl
  have hA := h.go hW
  exact ⟨hA.fv, hA.q, hA.gq, hA.q.lt, Nat.le_refl _, hA.own, fun k hk => own_ltP hA.own hk, fun x hx => by
    obtain ⟨B, N, h1, h2, h3, h4, _⟩ := hA.inn x hx
    exact ⟨B, N, h1, h3, h4⟩, Own.nil _ _ _ _ _, fun y hy => by simp at hy, hs, hlb.lt, h.q.lt, hlb, hA.r, hA.rg, hA.vs, hA.ok, hA.nn, hA.hd⟩
/-- The query that was made. -/
theorem AO.query (h : AO w0 g qb M lb s ps os vl vv lv L nm st wi by_ pv ov W) (hn : nm.size ≤ maxLen) (hb : by_.size ≤ maxLen) (hf : ∀ y ∈ os, y.1.f.size ≤ maxLen) : QyAt W pv ov ⟨nm, st, ps.map (·.1), wi, by_, os.map (·.1)⟩ :=
  ⟨⟨ps, h.pown.at_ (f := ptF) (k := 5) (fun _ => rfl), rfl, fun x hx => by obtain ⟨B, N, _, _, h3⟩ := h.inn x hx; exact h3.here⟩,
   ⟨os.map (fun x => (x.1, Go.Proofs.YtenmbahfgfmjjaaDoor.sl x.2)), at_mapA (h.oown.at_ (f := otA) (k := 9) (fun x => rfl)), by rw [List.map_map]; rfl, fun z hz => by
     obtain ⟨y, hy, rfl⟩ := List.mem_map.1 hz
     obtain ⟨B, N, _, _, _, h4, _⟩ := h.otr y hy
     exact ⟨h4.here, hf y hy⟩⟩, hn, hb⟩
end
end Go.Proofs.YtenmbahfgfmjjaaDoor
