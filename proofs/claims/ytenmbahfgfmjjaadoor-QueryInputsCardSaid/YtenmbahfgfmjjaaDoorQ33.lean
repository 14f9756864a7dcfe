/- Texts that several proofs stand on, part 33. -/
import Derived.Test.YtenmbahfgfmjjaaDoorQ32
namespace Go.Proofs.YtenmbahfgfmjjaaDoor
open Go.ChangeShapes Go.WideShapes Go.ChangeAt Go.RowKit
set_option linter.unusedVariables false
set_option linter.unusedSimpArgs false

abbrev zQ : Array Value := #[.string ⟨#[]⟩, .bool false, .slice none 0 0, .int .i64 0, .string ⟨#[]⟩, .slice none 0 0]
/-- What a call of asked keeps while it makes Parts: ps: those that are stored; qs: those that were told. -/
structure AK (w0 : World) (g qb : Nat) (ps qs : List Px) (vl : List Sl) (vv lv : Value) (L : List UInt8) (nm : ByteArray) (st : Bool) (wi : Int) (by_ : ByteArray) (pv ov : Value) (W : World) : Prop where
  fv : FV w0 g vl vv qs.length lv L W
  q : Blk W qb 27 #[.string nm, .bool st, pv, .int .i64 wi, .string by_, ov]
  gq : g < qb
  own : Own W (qb + 1) 37 5 ptF pv ps
  inn : ∀ x ∈ qs, ∃ B N, qb < B ∧ B ≤ N ∧ N ≤ W.heap.size ∧ Inn B N W (fun X => PxAt X x) ∧ (∀ k, pv.ownBlock = some k → k < B ∨ N ≤ k) ∧ (∀ k, vv.ownBlock = some k → k < B ∨ N ≤ k)
  vs : qs.map (·.1.v) = (List.range qs.length).map nm8
  ok : ∀ x ∈ qs, partB x.1 = true ∧ (∀ s ∈ x.1.ss, s ∈ q3) ∧ ∀ t ∈ x.1.pd, Sm t
  nn : st = true → ∀ x ∈ qs, x.1.nt = false
  hd : ∀ x, qs.head? = some x → x.1.nt = false
  vln : vl.length ≤ qs.length
  vl1 : 0 < qs.length → 0 < vl.length
  r : Blk W w0.heap.size 27 zQ
  rg : w0.heap.size < g
theorem blk_ne {w : World} {a b : Nat} {s t : TypeId} {c d : Array Value} (h : Blk w a s c) (k : Blk w b t d) (hst : s ≠ t) : a ≠ b := fun e => by
  subst e
  have h1 : w.heap[a]? = some (.cells c s (0, 0)) := h
  have h2 : w.heap[a]? = some (.cells d t (0, 0)) := k
  rw [h1] at h2
  simp at h2
  exact hst h2.2
theorem own_off2 {α : Type} {w : World} {B b : Nat} {s t : TypeId} {k : Nat} {f : α → List Value} {v : Value} {l : List α} {d : Array Value} (h : Own w B s k f v l) (hb : Blk w b t d) (hst : s ≠ t) : v.ownBlock ≠ some b := fun e => by
  obtain ⟨_, cs, hc⟩ := ownBI h e
  have h2 : w.heap[b]? = some (.cells d t (0, 0)) := hb
  rw [hc] at h2
  simp at h2
  exact hst h2.2
section
variable {w0 W W1 : World} {g qb : Nat} {ps qs : List Px} {vl : List Sl} {vv lv : Value} {L : List UInt8} {nm : ByteArray} {st : Bool} {wi : Int} {by_ : ByteArray} {pv ov : Value}
theorem AK.go (h : AK w0 g qb ps qs vl vv lv L nm st wi by_ pv ov W) (hb : Below W.heap.size W W1) : AK w0 g qb ps qs vl vv lv L nm st wi by_ pv ov W1 :=
  { h with
    fv := h.fv.go hb
    q := h.q.later hb
    own := h.own.later hb
    r := h.r.later hb
    inn := fun x hx => by
      obtain ⟨B, N, h1, h2, h3, h4, h5⟩ := h.inn x hx
      exact ⟨B, N, h1, h2, Nat.le_trans h3 hb.size, h4.on (Nat.le_refl _) (Nat.le_refl _) (fun k _ hk => hb.block k (by omega)), h5⟩ }
/-- A Part is told. -/
theorem AK.part (h : AK w0 g qb ps ps vl vv lv L nm st wi by_ pv ov W) {nt : Bool} {e : Ending} (hnt : nt = true → st = false ∧ 0 < ps.length) (hp : PartR w0 g vl vv ps.length lv L nt W e W1) :
    ∃ (x : Px) (vl' : List Sl) (vv' : Value), e = .returned (ptV x) ∧ AK w0 g qb ps (ps ++ [x]) vl' vv' lv L nm st wi by_ pv ov W1 ∧ W.heap.size ≤ W1.heap.size := by
  obtain ⟨x, N, vl', vv', rfl, hN0, hN1, hI, hl, hloc, hF, hG, hv, hpb, hn, hs, hsm⟩ := hp
  have hvq := own_off2 h.fv.2.2.2.2.1.1 h.q (by decide)
  have hql := h.q.lt
  have hgq := h.gq
  refine ⟨x, vl', vv', rfl, ⟨?_, h.q.alike (hG.2.2.2.2 qb hql (by omega) hvq), hgq, ?_, fun y hy => ?_, ?_, fun y hy => ?_, fun hst y hy => ?_, fun y hy => ?_, ?_, fun _ => ?_, h.r.alike (hG.2.2.2.2 _ h.r.lt (by have := h.rg; omega) (own_off2 h.fv.2.2.2.2.1.1 h.r (by decide))), h.rg⟩, hG.2.2.2.1⟩
  · rw [List.length_append]; exact hF
  · refine ⟨h.own.1, ?_⟩
    rcases h.own.2 with h0 | ⟨b, cap, cur, q0, q1, q2, q3⟩
    · exact Or.inl h0
    · refine Or.inr ⟨b, cap, cur, q0, q1, ?_, q3⟩
      rw [hG.2.2.2.2 b (Array.getElem?_eq_some_iff.1 q2).1 (by omega) (fun e => ?_)]
      · exact q2
      · obtain ⟨_, cs, hc⟩ := ownBI h.fv.2.2.2.2.1.1 e
        rw [q2] at hc; simp at hc
  · rcases List.mem_append.1 hy with hy | hy
    · obtain ⟨B, M, h1, h2, h3, h4, h5, h6⟩ := h.inn y hy
      refine ⟨B, M, h1, h2, by have := hG.2.2.2.1; omega, h4.on (Nat.le_refl _) (Nat.le_refl _) (fun k hk hk2 => hG.2.2.2.2 k (by omega) (by omega) (fun e => by rcases h6 k e with h | h <;> omega)), h5, fun k hk => ?_⟩
      rcases hloc k hk with h | h
      · exact h6 k h
      · right; omega
    · obtain rfl : y = x := by simpa using hy
      refine ⟨W.heap.size, N, by omega, hN0, hN1, hI, fun k hk => Or.inl (own_ltP h.own hk), fun k hk => ?_⟩
      rcases hloc k hk with h' | h'
      · exact Or.inl (own_ltP h.fv.2.2.2.2.1.1 h')
      · exact Or.inr h'
  · rw [List.map_append, h.vs, List.length_append, List.length_singleton, List.range_succ, List.map_append]
    simp [hv]
  · rcases List.mem_append.1 hy with hy | hy
    · exact h.ok y hy
    · obtain rfl : y = x := by simpa using hy
      exact ⟨hpb, hs, hsm⟩
  · rcases List.mem_append.1 hy with hy | hy
    · exact h.nn hst y hy
    · obtain rfl : y = x := by simpa using hy
      cases hx : y.1.nt with
      | false => rfl
      | true => have := (hnt (hn hx)).1; rw [hst] at this; cases this
  · cases hps : ps with
    | nil =>
      rw [hps] at hy
      obtain rfl : x = y := by simpa using hy
      cases hx : x.1.nt with
      | false => rfl
      | true => have := (hnt (hn hx)).2; rw [hps] at this; simp at this
    | cons z zs =>
      rw [hps] at hy
      obtain rfl : z = y := by simpa using hy
      exact h.hd z (by rw [hps]; rfl)
  · have := h.vln
    rw [List.length_append, List.length_singleton, hl]; split <;> omega
  · rw [hl]
    by_cases hp0 : 0 < ps.length
    · have := h.vl1 hp0; omega
    · cases hx : x.1.nt with
      | false => simp
      | true => exact absurd (hnt (hn hx)).2 hp0
/-- The Part that was told is stored. -/
theorem AK.push (h : AK w0 g qb ps qs vl vv lv L nm st wi by_ pv ov W) {Wb W7 : World} {pv' : Value} (hb : Below W.heap.size W Wb) (hg : Wb.grownBy W7 pv.ownBlock) (hO : Own W7 (qb + 1) 37 5 ptF pv' qs) (hloc : pv'.ownBlock = pv.ownBlock ∨ pv'.ownBlock = some Wb.heap.size) :
    AK w0 g qb qs qs vl vv lv L nm st wi by_ pv' ov (W7.setCell ⟨qb, 2, none⟩ pv') := by
  have hB := h.go hb
  have hgq := h.gq
  have hpq := own_off2 hB.own hB.q (by decide)
  have hvq := own_off2 hB.fv.2.2.2.2.1.1 hB.q (by decide)
  obtain ⟨at_, ha, hgB⟩ := hB.fv.2.2.2.1
  have hpg := own_off2 hB.own hgB (by decide)
  have hq7 : Blk W7 qb 27 #[.string nm, .bool st, pv, .int .i64 wi, .string by_, ov] := hB.q.grown hg (fun e => hpq e.symm)
  have hs := gb_set (g := qb) W7 2 pv'
  have hsz := hg.size
  -- what lies in other blocks stays
  have hst : ∀ k, k < Wb.heap.size → pv.ownBlock ≠ some k → k ≠ qb → (W7.setCell ⟨qb, 2, none⟩ pv').heap[k]? = Wb.heap[k]? := fun k hk hn hq => by
    rw [hs.block k (by omega) (fun e => hq (Option.some.inj e)), hg.block k hk (fun e => hn e.symm)]
  have hw0 := hB.fv.1.size
  have hq0 : w0.heap.size ≤ qb := by have := hB.fv.2.1; omega
  refine { h with fv := ⟨?_, hB.fv.2.1, hB.fv.2.2.1, ⟨at_, ha, hgB.alike (hst g hgB.lt hpg (by omega))⟩, ⟨⟨hB.fv.2.2.2.2.1.1.1, ?_⟩, hB.fv.2.2.2.2.1.2⟩, fun x hx => ?_⟩, q := ?_, own := ?_, r := hB.r.alike (hst _ hB.r.lt (own_off2 hB.own hB.r (by decide)) (by have := hB.rg; omega)), inn := fun x hx => ?_ }
  · have h7 : Below w0.heap.size w0 W7 := hB.fv.1.trans (grownBy_below hg hw0 (fun x hx => by have := (ownBI hB.own hx).1; omega))
    exact h7.setCell (p := ⟨qb, 2, none⟩) hq0 _
  · rcases hB.fv.2.2.2.2.1.1.2 with h0 | ⟨b, cap, cur, q0, q1, q2, q3⟩
    · exact Or.inl h0
    · refine Or.inr ⟨b, cap, cur, q0, q1, ?_, q3⟩
      rw [hst b (Array.getElem?_eq_some_iff.1 q2).1 (fun e => ?_) (fun e => ?_)]
      · exact q2
      · obtain ⟨_, cs, hc⟩ := ownBI hB.own e
        rw [q2] at hc; simp at hc
      · subst e
        exact hvq (by rw [q0]; rfl)
  · obtain ⟨h1, b, h2, h3, h4, h5⟩ := hB.fv.2.2.2.2.2 x hx
    refine ⟨h1, b, h2, h3, h4.alike (hst b h4.lt (own_off2 hB.own h4 (by decide)) (blk_ne h4 hB.q (by decide))), h5⟩
  · have := hq7.set_ 2 pv'
    simpa using this
  · exact hO.grown hs (fun b hb' e => own_off2 hO hq7 (by decide) (by rw [e, ← hb']))
  · obtain ⟨B, N, h1, h2, h3, h4, h5, h6⟩ := hB.inn x hx
    refine ⟨B, N, h1, h2, ?_, h4.on (Nat.le_refl _) (Nat.le_refl _) (fun k hk hk2 => hst k (by omega) (fun e => by rcases h5 k e with h | h <;> omega) (by omega)), fun k hk => ?_, h6⟩
    · have := hs.size; omega
    · rcases hloc with h' | h'
      · exact h5 k (h' ▸ hk)
      · rw [h'] at hk
        obtain rfl := Option.some.inj hk
        exact Or.inr h3
end
end Go.Proofs.YtenmbahfgfmjjaaDoor
namespace Go.Proofs.YtenmbahfgfmjjaaDoor
open Go.ChangeShapes Go.WideShapes Go.ChangeAt Go.RowKit
set_option linter.unusedVariables false
set_option linter.unusedSimpArgs false

theorem ptF_oneA (x : Px) : ∀ u ∈ ptF x, u.oneCell' = true := fun u hu => by
  simp at hu
  rcases hu with rfl | rfl | rfl | rfl | rfl <;> rfl
theorem at_newPx (w : World) (x : Px) : At (w.alloc (.cells #[.bool x.1.nt, .bool x.1.pl, sl x.2.1, .string x.1.v, sl x.2.2] 37)) 5 ptF (.slice (some ⟨w.heap.size, 0, none⟩) 1 1) [x] :=
  at_of_blk (k := 5) (f := ptF) (fun _ => rfl) [x] (Blk.new _ _ _) rfl (by unfold maxLen; omega) rfl
set_option maxRecDepth 20000 in
set_option maxHeartbeats 4000000 in
theorem ask10 (u0 u1 u2 u3 u4 u5 u6 u8 u10 u11 u12 u13 u14 u15 u16 u17 u18 u19 u20 u21 u22 u23 u24 u25 u26 u27 u28 u29 u30 u31 u32 u33 u34 u35 u36 u37 u38 u39 u40 u41 u42 u43 u44 u45 u46 u47 u48 u49 u50 u51 u52 u53 u54 u55 u56 u57 u58 u59 u60 u61 u62 u63 u64 u65 u66 u67 u68 u69 u70 u71 u72 u73 u74 u75 u76 u77 u78 u79 u80 u81 u82 u83 u84 u85 u86 u87 u88 u89 u90 u91 u92 u93 u94 u95 u96 u97 u98 u99 u100 u101 u102 u103 u104 u105 u106 u107 u108 u109 : Value) {w0 w : World} {g qb : Nat} {ps : List Px} {vl : List Sl} {vv lv : Value} {L : List UInt8} {nm : ByteArray} {st : Bool} {wi : Int} {by_ : ByteArray} {pv ov : Value} (hL : L.length ≤ 140737488351232) (hA : AK w0 g qb ps ps vl vv lv L nm st wi by_ pv ov w) (hp0 : 0 < ps.length) (hp8 : ps.length < 8) {Q : Exit → Act → World → Prop}
    (hQ : ∀ (x53 x54 x55 x56 x57 x58 x59 x60 x61 x62 : Value)  (wx : World), (∃ (x : Px) (vl' : List Sl) (vv' pv' : Value), AK w0 g qb (ps ++ [x]) (ps ++ [x]) vl' vv' lv L nm st wi by_ pv' ov wx) → Q .normal ⟨#[u0, u1, u2, u3, u4, u5, u6, .pointer (some ⟨g, 0, none⟩), u8, .pointer (some ⟨qb, 0, none⟩), u10, u11, u12, u13, u14, u15, u16, u17, u18, u19, u20, u21, u22, u23, u24, u25, u26, u27, u28, u29, u30, u31, u32, u33, u34, u35, u36, u37, u38, u39, u40, u41, u42, u43, u44, u45, u46, u47, u48, u49, u50, u51, u52, x53, x54, x55, x56, x57, x58, x59, x60, x61, x62, u63, u64, u65, u66, u67, u68, u69, u70, u71, u72, u73, u74, u75, u76, u77, u78, u79, u80, u81, u82, u83, u84, u85, u86, u87, u88, u89, u90, u91, u92, u93, u94, u95, u96, u97, u98, u99, u100, u101, u102, u103, u104, u105, u106, u107, u108, u109], []⟩ wx) :
    Code.wp Tryd.prog ((Tryd.f8.body.bind (regionN 10)).getD .skip) Q ⟨#[u0, u1, u2, u3, u4, u5, u6, .pointer (some ⟨g, 0, none⟩), u8, .pointer (some ⟨qb, 0, none⟩), u10, u11, u12, u13, u14, u15, u16, u17, u18, u19, u20, u21, u22, u23, u24, u25, u26, u27, u28, u29, u30, u31, u32, u33, u34, u35, u36, u37, u38, u39, u40, u41, u42, u43, u44, u45, u46, u47, u48, u49, u50, u51, u52, u53, u54, u55, u56, u57, u58, u59, u60, u61, u62, u63, u64, u65, u66, u67, u68, u69, u70, u71, u72, u73, u74, u75, u76, u77, u78, u79, u80, u81, u82, u83, u84, u85, u86, u87, u88, u89, u90, u91, u92, u93, u94, u95, u96, u97, u98, u99, u100, u101, u102, u103, u104, u105, u106, u107, u108, u109], []⟩ w := by
  have HQ := Lib.hid hQ; clear hQ
  conv => arg 2; whnf
  obtain ⟨js, sj, sy0, sy1, sy2⟩ := info_parts (P := Tryd.prog) (e := 37) (z := .agg #[.bool false, .bool false, .slice none 0 0, .string ⟨#[]⟩, .slice none 0 0]) (size := 5) (bytes := 72) (by kernel_rfl)
  obtain ⟨pA, pn, pc, hpv⟩ := own_shape hA.own
  subst hpv
  have hql := hA.q.lt
  have c2 := hA.q.cell 2
  have c1 := hA.q.cell 1
  simp only [List.getElem?_toArray, List.getElem?_cons_succ, List.getElem?_cons_zero] at c2 c1
  have BD : Below w.heap.size w w.drew := below_drew (Below.refl _ _)
  have hAD := hA.go BD
  have cP := part_any w0 g vl vv ps.length lv L w.drew (!st) hL hp8 (by have := hA.vln; omega) hAD.fv
  have H := Lib.hid (And.intro hA (And.intro hAD (And.intro hp0 hp8))); clear hA hAD hp0 hp8 BD
  have CP := Lib.hid cP; clear cP
  refine wp_region_noPanic ?_
  refine HeldLast.wp_region_last_drew 10 (S := (fun w' => w'.cell? ⟨qb, 2, none⟩ = some (.slice pA pn pc) ∧ w'.cell? ⟨qb, 1, none⟩ = some (.bool st))) (by kernel_rfl) ?_ (fun hHeld => ?_)
  · exact ⟨c2, c1⟩
  refine HeldLast.wpAnyL_take (i := 0) (v := ?v0) [0, 1, 8, 10] rfl (by kernel_rfl) (by kernel_rfl) (by kernel_rfl) (by kernel_rfl) (fun _ _ _ h => h) (Or.inl ⟨by rfl, ?hy0⟩) (by assumption) ?rest0
  case hy0 => (intro w hSw; (try dsimp only at hSw); go_simp; try with_reducible rfl)
  try simp only [Act.put, List.setIfInBounds_toArray, List.set_cons_zero, List.set_cons_succ]
  refine HeldLast.wpAnyL_take (i := 1) (v := ?v1) [1, 8, 10] rfl (by kernel_rfl) (by kernel_rfl) (by kernel_rfl) (by kernel_rfl) (fun _ _ _ h => h) (Or.inl ⟨by rfl, ?hy1⟩) (by assumption) ?rest1
  case hy1 => (intro w hSw; (try dsimp only at hSw); go_simp; try with_reducible rfl)
  try simp only [Act.put, List.setIfInBounds_toArray, List.set_cons_zero, List.set_cons_succ]
  refine HeldLast.wpAnyL_take (i := 2) (v := ?v2) [2, 6, 7, 8, 10] rfl (by kernel_rfl) (by kernel_rfl) (by kernel_rfl) (by kernel_rfl) (fun _ _ _ h => h) (Or.inl ⟨by rfl, ?hy2⟩) (by assumption) ?rest2
  case hy2 => (intro w hSw; (try dsimp only at hSw); go_simp; try with_reducible rfl)
  try simp only [Act.put, List.setIfInBounds_toArray, List.set_cons_zero, List.set_cons_succ]
  refine HeldLast.wpAnyL_take (i := 3) (v := ?v3) [3, 4, 5, 6, 7, 8, 10] rfl (by kernel_rfl) (by kernel_rfl) (by kernel_rfl) (by kernel_rfl) (fun _ _ _ h => h) (Or.inl ⟨by rfl, ?hy3⟩) (by assumption) ?rest3
  case hy3 => (intro w hSw; (try dsimp only at hSw); go_simp; try with_reducible rfl)
  try simp only [Act.put, List.setIfInBounds_toArray, List.set_cons_zero, List.set_cons_succ]
  refine HeldLast.wpAnyL_take (i := 4) (v := ?v4) [4, 5, 6, 7, 8, 10] rfl (by kernel_rfl) (by kernel_rfl) (by kernel_rfl) (by kernel_rfl) (fun _ _ _ h => h) (Or.inl ⟨by rfl, ?hy4⟩) (by assumption) ?rest4
  case hy4 => (intro w hSw; (try dsimp only at hSw); go_simp; try with_reducible rfl)
  try simp only [Act.put, List.setIfInBounds_toArray, List.set_cons_zero, List.set_cons_succ]
  refine HeldLast.wpAnyL_take (i := 5) (v := ?v5) [5, 6, 7, 8, 10] rfl (by kernel_rfl) (by kernel_rfl) (by kernel_rfl) (by kernel_rfl) (fun _ _ _ h => h) (Or.inl ⟨by rfl, ?hy5⟩) (by assumption) ?rest5
  case hy5 => (intro w hSw; (try dsimp only at hSw); go_simp; try with_reducible rfl)
  try simp only [Act.put, List.setIfInBounds_toArray, List.set_cons_zero, List.set_cons_succ]
  refine HeldLast.wpAnyL_ready (rs := [6]) (by kernel_rfl) (by simp) ?_
  refine HeldLast.AllReadyL.cons rfl (fun K' hK => ?_) HeldLast.AllReadyL.nil
  go_simp
  go_at_call 16
  refine CP.out.mono ?_
  rintro e w5 hP
  obtain ⟨x, vl', vv', rfl, hB, hsz⟩ := H.out.2.1.part (nt := !st) (fun e => ⟨by simpa using e, H.out.2.2.1⟩) hP
  have d2 := hB.q.cell 2
  have d1 := hB.q.cell 1
  simp only [List.getElem?_toArray, List.getElem?_cons_succ, List.getElem?_cons_zero] at d2 d1
  have dl := hB.q.lt
  have HB := Lib.hid hB; clear hB hP
  refine hK.out _ _ ?_ (fun hHeld => ?_)
  · exact ⟨d2, d1⟩
  clear hK K'
  try simp only [Act.put, List.setIfInBounds_toArray, List.set_cons_zero, List.set_cons_succ]
  refine HeldLast.wpAnyL_ready (rs := [7]) (by kernel_rfl) (by simp) ?_
  refine HeldLast.AllReadyL.cons rfl (fun K' hK => ?_) HeldLast.AllReadyL.nil
  go_simp
  refine hK.out _ _ ?_ (fun hHeld => ?_)
  · exact ⟨by rw [(ba w5 _).cell dl]; exact d2, by rw [(ba w5 _).cell dl]; exact d1⟩
  clear hK K'
  try simp only [Act.put, List.setIfInBounds_toArray, List.set_cons_zero, List.set_cons_succ]
  refine HeldLast.wpAnyL_ready (rs := [8]) (by kernel_rfl) (by simp) ?_
  refine HeldLast.AllReadyL.cons rfl (fun K' hK => ?_) HeldLast.AllReadyL.nil
  refine step_append_loc rfl (.tmp 54) (.tmp 60) 24 rfl (qb + 1) 37 js (.agg #[.bool false, .bool false, .slice none 0 0, .string ⟨#[]⟩, .slice none 0 0]) 5 72 Tryd.underlying24 sj sy0 sy1 sy2 rfl (by decide) (f := ptF) (fun _ => rfl) ptF_oneA (.slice pA pn pc) ps rfl (HB.out.own.later (ba w5 (.cells #[.bool x.1.nt, .bool x.1.pl, sl x.2.1, .string x.1.v, sl x.2.2] 37))) ⟨w5.heap.size, 0, none⟩ 1 x rfl (at_newPx w5 x) (by have := H.out.2.2.2; unfold maxLen; omega) (by have := H.out.2.2.2; omega) (by simp only [World.size_alloc]; omega) ?_
  intro v7 w7 hO7 hg7 hl7
  obtain ⟨xA, xn, xc, rfl⟩ := own_shape hO7
  have x1 : Blk w7 qb 27 #[.string nm, .bool st, .slice pA pn pc, .int .i64 wi, .string by_, ov] := (HB.out.q.later (ba w5 (.cells #[.bool x.1.nt, .bool x.1.pl, sl x.2.1, .string x.1.v, sl x.2.2] 37))).grown hg7 (fun e => own_off2 HB.out.own HB.out.q (by decide) e.symm)
  have y1 : w7.cell? ⟨qb, 2, none⟩ = some (.slice pA pn pc) := x1.cell 2
  have y0 : w7.cell? ⟨qb, 1, none⟩ = some (.bool st) := x1.cell 1
  have y2 := x1.lt
  have y3 := x1.frozen
  refine hK.out _ _ ?_ (fun hHeld => ?_)
  · exact ⟨y1, y0⟩
  clear hK K'
  try simp only [Act.put, List.setIfInBounds_toArray, List.set_cons_zero, List.set_cons_succ]
  refine HeldLast.wpAnyL_take (i := 9) (v := ?v9) [9, 10] rfl (by kernel_rfl) (by kernel_rfl) (by kernel_rfl) (by kernel_rfl) (fun _ _ _ h => h) (Or.inl ⟨by rfl, ?hy9⟩) (by assumption) ?rest9
  case hy9 => (intro w hSw; (try dsimp only at hSw); go_simp; try with_reducible rfl)
  try simp only [Act.put, List.setIfInBounds_toArray, List.set_cons_zero, List.set_cons_succ]
  refine HeldLast.wpAnyL_ready (rs := [10]) (by kernel_rfl) (by simp) ?_
  refine HeldLast.AllReadyL.last rfl (fun K' hK => ?_)
  go_simp
  refine hK.out _ _ ?_
  clear hK K'
  try simp only [Act.put, List.setIfInBounds_toArray, List.set_cons_zero, List.set_cons_succ]
  refine HeldLast.wpAnyL_done (by kernel_rfl) ?_ _
  refine NoPanic.normal ?_
  exact HQ.out _ _ _ _ _ _ _ _ _ _ _ ⟨x, vl', vv', .slice xA xn xc, HB.out.push (ba w5 (.cells #[.bool x.1.nt, .bool x.1.pl, sl x.2.1, .string x.1.v, sl x.2.2] 37)) hg7 hO7 hl7⟩
end Go.Proofs.YtenmbahfgfmjjaaDoor
