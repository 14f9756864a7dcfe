/- The walk of QueryPuts. -/
import Derived.Test.YtenmbahfgfmjjaaDoorQ36
import Derived.Test.YtenmbahfgfmjjaaDoorQ39
import Derived.Test.YtenmbahfgfmjjaaDoorQyJ
import Derived.Test.YtenmbahfgfmjjaaDoorQ38
import Derived.Test.YtenmbahfgfmjjaaDoorRowB
import Derived.Lib.QuietBelow
import Derived.BigQuiet
import Derived.BigGuard
import Derived.IntWalk
import Derived.Deep.DeepCutAuto
import Derived.Deep.CutBlock
import Derived.Deep.RegionHeld3

namespace Go.Proofs.YtenmbahfgfmjjaaDoor
open Go.ChangeShapes Go.WideShapes Go.ChangeAt Go.RowKit Go.Maps
set_option linter.unusedVariables false
set_option linter.unusedSimpArgs false

def sQ (q : Qy) : ByteArray := ⟨(queryT q).toArray⟩
theorem sQ_same {a b : Qy} (ha : queryB a = true) (hb : queryB b = true) : ((sQ a).toList == (sQ b).toList) = eqB a b := by
  have h1 : (sQ a).toList = queryT a := by unfold sQ; rw [Lib.toList_data]
  have h2 : (sQ b).toList = queryT b := by unfold sQ; rw [Lib.toList_data]
  rw [h1, h2, Bool.eq_iff_iff, eqB_iff, beq_iff_eq]
  exact ⟨query_inj ha hb, fun e => by rw [e]⟩
theorem eqB_symm {α : Type} (a b : α) : eqB b a = eqB a b := by
  rw [Bool.eq_iff_iff, eqB_iff, eqB_iff]
  exact ⟨Eq.symm, Eq.symm⟩
theorem isq : nameB ⟨#[113]⟩ = true := by decide +kernel
set_option maxRecDepth 20000 in
set_option maxHeartbeats 4000000 in
theorem puts12 (u0 u1 u2 u3 u4 u5 u6 u7 u8 u9 u10 u14 u15 u16 u17 u18 u19 u20 u21 u22 u23 u24 u25 u26 u27 u28 u29 u30 u31 u32 u33 u34 u35 u36 u37 u38 u39 u40 u41 u42 u43 u44 u45 u46 u47 u48 u49 u50 u51 u52 u53 u54 u55 u56 u57 u58 u59 u60 u61 u62 u63 u64 u65 u66 : Value) {w : World} {g1 g2 : Nat} {q1 q2 : Qy} {A1 O1 A2 O2 : Option Addr} {n1 c1 m1 d1 n2 c2 m2 d2 : Nat} (hB1 : Blk w g1 27 #[.string q1.nm, .bool q1.st, .slice A1 n1 c1, .int .i64 q1.wi, .string q1.by_, .slice O1 m1 d1]) (hB2 : Blk w g2 27 #[.string q2.nm, .bool q2.st, .slice A2 n2 c2, .int .i64 q2.wi, .string q2.by_, .slice O2 m2 d2]) (hT : Tab w) (hQ1 : QyAt w (.slice A1 n1 c1) (.slice O1 m1 d1) q1) (hQ2 : QyAt w (.slice A2 n2 c2) (.slice O2 m2 d2) q2) (s1 : QSm q1) (s2 : QSm q2) (o1 : QOk q1) (o2 : QOk q2) (r1 : queryB q1 = true) (r2 : queryB q2 = true) {Q : Exit → Act → World → Prop}
    (hQ : ∀ (x46 x47 x48 x49 x50 x51 x52 x53 x54 x55 x56 x57 x58 x59 x60 x61 x62 x63 x64 x65 x66 : Value)  (wx : World), Below w.heap.size w wx → Q .normal ⟨#[u0, u1, u2, u3, u4, u5, u6, u7, u8, u9, .bool true, .bool true, .pointer (some ⟨g1, 0, none⟩), .pointer (some ⟨g2, 0, none⟩), u14, u15, u16, u17, u18, u19, u20, u21, u22, u23, u24, u25, u26, u27, u28, u29, u30, u31, u32, u33, u34, u35, u36, u37, u38, u39, u40, u41, u42, u43, u44, u45, x46, x47, x48, x49, x50, x51, x52, x53, x54, x55, x56, x57, x58, x59, x60, x61, x62, x63, x64, x65, x66], []⟩ wx) :
    Code.wp Tryd.prog ((Tryd.f3.body.bind (regionN 12)).getD .skip) Q ⟨#[u0, u1, u2, u3, u4, u5, u6, u7, u8, u9, u10, .bool true, .pointer (some ⟨g1, 0, none⟩), .pointer (some ⟨g2, 0, none⟩), u14, u15, u16, u17, u18, u19, u20, u21, u22, u23, u24, u25, u26, u27, u28, u29, u30, u31, u32, u33, u34, u35, u36, u37, u38, u39, u40, u41, u42, u43, u44, u45, u46, u47, u48, u49, u50, u51, u52, u53, u54, u55, u56, u57, u58, u59, u60, u61, u62, u63, u64, u65, u66], []⟩ w := by
  have HQ := Lib.hid hQ; clear hQ
  conv => arg 2; whnf
  have k1 := fun d os => PutQ_any q1 _ _ _ (hQ1.later (below_regrown w d os)) s1 (hT.later (below_regrown w d os))
  have k2 := fun d os => PutQ_any q2 _ _ _ (hQ2.later (below_regrown w d os)) s2 (hT.later (below_regrown w d os))
  have k3 := fun d os => SameQ_any q1 q2 _ _ _ _ _ (hQ1.later (below_regrown w d os)) (hQ2.later (below_regrown w d os)) o1 o2
  have k4 := fun d os => SameQ_any q2 q1 _ _ _ _ _ (hQ2.later (below_regrown w d os)) (hQ1.later (below_regrown w d os)) o2 o1
  rw [eqB_symm q1 q2] at k4
  have hXY := sQ_same r1 r2
  have y10 := fun d os => cell_regrown (hB1.cell 0) d os
  have y11 := fun d os => cell_regrown (hB1.cell 1) d os
  have y12 := fun d os => cell_regrown (hB1.cell 2) d os
  have y13 := fun d os => cell_regrown (hB1.cell 3) d os
  have y14 := fun d os => cell_regrown (hB1.cell 4) d os
  have y15 := fun d os => cell_regrown (hB1.cell 5) d os
  have y20 := fun d os => cell_regrown (hB2.cell 0) d os
  have y21 := fun d os => cell_regrown (hB2.cell 1) d os
  have y22 := fun d os => cell_regrown (hB2.cell 2) d os
  have y23 := fun d os => cell_regrown (hB2.cell 3) d os
  have y24 := fun d os => cell_regrown (hB2.cell 4) d os
  have y25 := fun d os => cell_regrown (hB2.cell 5) d os
  change ∀ d os, Calls _ _ _ _ (fun e w' => e = .returned (.string (sQ q1)) ∧ _) at k1
  change ∀ d os, Calls _ _ _ _ (fun e w' => e = .returned (.string (sQ q2)) ∧ _) at k2
  clear hB1 hB2 hT hQ1 hQ2 s1 s2 r1 r2 o1 o2
  generalize sQ q1 = X1 at *
  generalize sQ q2 = X2 at *
  generalize eqB q1 q2 = R at *
  have HC := Lib.hid (And.intro k1 (And.intro k2 (And.intro k3 k4)))
  clear k1 k2 k3 k4
  go_wp2_with fail
  refine wp_region_noPanic ?_
  rcases R with _ | _
  all_goals
    try (have e := (show X1 = X2 from toList_inj (by simpa using hXY)); subst e; clear hXY)
    try (have hXYp : ¬ X1.toList = X2.toList := (by simpa using hXY))
    refine wp_region_quiet_below (by kernel_rfl) (by kernel_rfl) ?_
    repeat (go_big_quiet_step (first
      | (go_at_call 10; with_reducible exact Calls.regrown_of (HC.out.1 _ _))
      | (go_at_call 10; with_reducible exact Calls.regrown_of (HC.out.2.1 _ _))
      | (go_at_call 11; with_reducible exact Calls.regrown_of (HC.out.2.2.1 _ _))
      | (go_at_call 11; with_reducible exact Calls.regrown_of (HC.out.2.2.2 _ _))))
    refine wpQuiet_nil ?_
    intro wq hw'
    have bq : Below w.heap.size w wq := by obtain ⟨p, rfl⟩ := hw'; exact below_regrown _ _ _
    clear hw'
    go_wp2_with fail
    exact NoPanic.normal (HQ.out _ _ _ _ _ _ _ _ _ _ _ _ _ _ _ _ _ _ _ _ _ _ bq)

set_option maxRecDepth 20000 in
set_option maxHeartbeats 4000000 in
theorem walk_QueryPuts (v : Value) (l : List UInt8) (u : Value) (m : List UInt8) (near : Bool) (at_ by_ : Int) (w : World) (hv : BytesAt w v l) (hl : l.length ≤ 140737488351232) (hu : BytesAt w u m) (hm : m.length ≤ 140737488351232) (t0 : 0 ≤ at_) (t1 : at_ ≤ 255) (y0 : 0 ≤ by_) (y1 : by_ ≤ 255) (hT : Tab w) :
    Calls Tryd.prog 3 #[v, u, .bool near, .int .u8 at_, .int .u8 by_] w fun e w' => e = .returned (.bool true) ∧ Below w.heap.size w w' := by
  obtain ⟨i0, hi, hz0, hz1, hz2⟩ := info_parts (P := Tryd.prog) (e := 5) (z := .int .u8 0) (size := 1) (bytes := 1) (by kernel_rfl)
  obtain ⟨VA, Vc, rfl⟩ := bytes_slice hv
  obtain ⟨UA, Uc, rfl⟩ := bytes_slice hu
  obtain ⟨n, hn⟩ : ∃ n, n = l.length := ⟨_, rfl⟩
  rw [← hn] at hv ⊢
  have HN := Lib.hid hn; clear hn
  have K := Lib.hid (Keep.start w (fun X => Tab X ∧ BytesAt X (.slice VA n Vc) l ∧ BytesAt X (.slice UA m.length Uc) m) ⟨hT, hv, hu⟩ (fun _ _ hb h => ⟨h.1.later hb, h.2.1.later hb, h.2.2.later hb⟩))
  clear hT hv hu
  go_enter Tryd.func3, Tryd.ntmps3
  go_wp2_with fail
  try go_at_call 7
  refine (examples_any _ K.out.p.1).mono ?_
  rintro e w1 ⟨rfl, hb⟩
  replace K := Lib.hid (K.out.go hb); clear hb
  go_upto_if 17 with fail
  go_cut [1] from 14 to 67 (fun uv wx => ∃ (A : Option Addr) (n c : Nat) (lk : List UInt8), uv = .slice A n c ∧ BytesAt wx (.slice A n c) lk ∧ lk.length ≤ 140737488351232 ∧ Below w1.heap.size w1 wx)
  case first =>
    cases near with
    | false =>
      go_wp2_with fail
      go_meet
      exact ⟨UA, m.length, Uc, m, rfl, K.out.p.2.2, hm, Below.refl _ _⟩
    | true =>
      rcases (by omega : n = 0 ∨ 0 < n) with hl0 | hl0
      · subst hl0
        go_wp2_with (at_builtin; go_loud (refine wpList_append_at _ rfl (.const (.slice none 0 0)) (.tmp 18) 22 rfl w1.heap.size 5 i0 (.int .u8 0) 1 1 Tryd.underlying22 hi hz0 hz1 hz2 rfl (by decide) (f := ub8) (fun _ => rfl) (fun x u hu => by simp at hu; subst hu; rfl) (.slice none 0 0) ([] : List UInt8) rfl (Own.nil _ _ _ _ _) _ _ _ l HN.out rfl (bytes_at K.out.p.2.1) (by have := HN.out; unfold maxLen; rw [List.length_nil]; omega) (by have := HN.out; rw [List.length_nil]; omega) (Nat.le_refl _) ?_); intro v5 w5 hO5 hg5; go_loud (rw [List.nil_append] at hO5); go_loud (obtain ⟨VK, ck, rfl, hk1, hk2, hk3⟩ := hO5.shape); rw [← HN.out]; go_loud (have HK := Lib.hid (And.intro (own_past (Below.refl _ _) hg5 (Own.nil w1 _ 5 1 ub8)) hO5)); clear hg5 hO5 hk1 hk2 hk3)
        go_meet
        exact ⟨VK, 0, ck, l, rfl, by have := own_ub8 HK.out.2; rw [← HN.out] at this; exact this, hl, HK.out.1⟩
      · have hl2 : ¬ (n : Int) = 0 := by omega
        have hl1 : (0 : Int) < (n : Int) := by omega
        have hwr : IntKind.i64.wrap at_ = at_ := IntWalk.i64_in _ (by omega)
        obtain ⟨q, hqe⟩ : ∃ q : Nat, at_ % (n : Int) = (q : Int) := ⟨(at_ % (n : Int)).toNat, by have h1 := Int.emod_nonneg at_ hl2; omega⟩
        have hqn : q < n := by have h2 := Int.emod_lt_of_pos at_ hl1; omega
        have hq : q < l.length := by have := HN.out; omega
        have htm : at_.tmod (n : Int) = (q : Int) := by rw [Int.tmod_eq_emod_of_nonneg t0]; exact hqe
        have hq0 : (0 : Int) ≤ (q : Int) := by omega
        have hqi : (q : Int) < (n : Int) := by omega
        have hl3 : ¬ n = 0 := by omega
        obtain ⟨xq, hxq⟩ : ∃ xq : UInt8, l[q]? = some xq := ⟨l[q]'hq, List.getElem?_eq_getElem hq⟩
        obtain ⟨xc, hxc⟩ := xor_u8 (xq.toNat : Int) by_
        have HX := Lib.hid hxq; clear hxq
        have HQ := Lib.hid hq; clear hq
        go_wp2_with (at_builtin; go_loud (refine wpList_append_at _ rfl (.const (.slice none 0 0)) (.tmp 18) 22 rfl w1.heap.size 5 i0 (.int .u8 0) 1 1 Tryd.underlying22 hi hz0 hz1 hz2 rfl (by decide) (f := ub8) (fun _ => rfl) (fun x u hu => by simp at hu; subst hu; rfl) (.slice none 0 0) ([] : List UInt8) rfl (Own.nil _ _ _ _ _) _ _ _ l HN.out rfl (bytes_at K.out.p.2.1) (by have := HN.out; unfold maxLen; rw [List.length_nil]; omega) (by have := HN.out; rw [List.length_nil]; omega) (Nat.le_refl _) ?_); intro v5 w5 hO5 hg5; go_loud (rw [List.nil_append] at hO5); go_loud (obtain ⟨VK, ck, rfl, hk1, hk2, hk3⟩ := hO5.shape); rw [← HN.out]; go_loud (have HK := Lib.hid (And.intro (own_past (Below.refl _ _) hg5 (Own.nil w1 _ 5 1 ub8)) hO5)); clear hg5 hO5 hk1 hk2 hk3; obtain ⟨gk, hgk, hgb, -, hfr, hcs⟩ := HK.out.2.cells (f := ub8) (fun _ => rfl) rfl (by have := HN.out; omega); subst hgk; have z0 := hcs q HQ.out 0 (.int .u8 (xq.toNat : Int)) (by have := HX.out; rw [List.getElem?_eq_getElem HQ.out] at this; rw [Option.some.inj this]; rfl); rw [Nat.mul_one, Nat.add_zero] at z0; have z1 := hfr q; clear hcs hfr; have hgk2 := Lib.hid hgb; clear hgb)
        have hO := HK.out.2
        rw [← HN.out] at hO
        have hset := own_put1 (f := ub8) (fun _ => rfl) hO q (x := xc) (u := .int .u8 (xc.toNat : Int)) rfl
        go_meet
        exact ⟨_, n, ck, l.set q xc, rfl, own_ub8 hset.1, by rw [List.length_set]; exact hl, HK.out.1.setCell (p := ⟨gk, q, none⟩) hgk2.out (.int .u8 (xc.toNat : Int))⟩
  case rest =>
    rename World => wx
    obtain ⟨LA, ln, lc, lk, rfl, hlk, hkl, hb⟩ := hcut
    replace K := Lib.hid ((K.out.go hb).and (Q := fun X => BytesAt X (.slice LA ln lc) lk) hlk (fun _ _ hb h => h.later hb)); clear hb hlk
    go_wp2_with fail
    try go_at_call 8
    refine (asked_any ⟨#[113]⟩ _ l 4 _ hl K.out.p.1.2.1 (by decide) (by omega) (by omega)).mono ?_
    rintro e w2 ⟨q1, pv, ov, rfl, hQ, hb, hA1⟩
    obtain ⟨A1, c1, rfl, _, _⟩ := hQ.1.shape
    obtain ⟨O1, d1, rfl, _, _⟩ := hQ.2.1.shape
    obtain ⟨n1, hn1⟩ : ∃ n, n = q1.ps.length := ⟨_, rfl⟩
    obtain ⟨m1, hm1⟩ : ∃ n, n = q1.os.length := ⟨_, rfl⟩
    rw [← hn1, ← hm1] at hQ ⊢
    clear hn1 hm1
    replace K := Lib.hid ((((K.out.go hb).and (Q := fun X => QyAt X (.slice A1 n1 c1) (.slice O1 m1 d1) q1) hQ (fun _ _ hb h => h.later hb)).more 27 #[.string q1.nm, .bool q1.st, .slice A1 n1 c1, .int .i64 q1.wi, .string q1.by_, .slice O1 m1 d1]).keepRow (List.mem_cons_self ..)); clear hb hQ
    have F1 := Lib.hid hA1; clear hA1
    go_wp2_with fail
    generalize w2.alloc _ = w2' at *
    generalize w2.heap.size = g1 at *
    try go_at_call 8
    refine (asked_any ⟨#[113]⟩ _ lk 4 _ hkl K.out.p.1.1.2 (by decide) (by omega) (by omega)).mono ?_
    rintro e w3 ⟨q2, pv, ov, rfl, hQ, hb, hA2⟩
    obtain ⟨A2, c2, rfl, _, _⟩ := hQ.1.shape
    obtain ⟨O2, d2, rfl, _, _⟩ := hQ.2.1.shape
    obtain ⟨n2, hn2⟩ : ∃ n, n = q2.ps.length := ⟨_, rfl⟩
    obtain ⟨m2, hm2⟩ : ∃ n, n = q2.os.length := ⟨_, rfl⟩
    rw [← hn2, ← hm2] at hQ ⊢
    clear hn2 hm2
    replace K := Lib.hid ((((K.out.go hb).and (Q := fun X => QyAt X (.slice A2 n2 c2) (.slice O2 m2 d2) q2) hQ (fun _ _ hb h => h.later hb)).more 27 #[.string q2.nm, .bool q2.st, .slice A2 n2 c2, .int .i64 q2.wi, .string q2.by_, .slice O2 m2 d2]).keepRow (List.mem_cons_self ..)); clear hb hQ
    have F2 := Lib.hid hA2; clear hA2
    have p1 : ∀ j, (w3.alloc (.cells (#[.string q2.nm, .bool q2.st, .slice A2 n2 c2, .int .i64 q2.wi, .string q2.by_, .slice O2 m2 d2] : Array Value) 27)).cell? ⟨g1, j, none⟩ = (#[.string q1.nm, .bool q1.st, .slice A1 n1 c1, .int .i64 q1.wi, .string q1.by_, .slice O1 m1 d1] : Array Value)[j]? := K.out.p.1.1.2.cell
    go_wp2_with fail
    generalize w3.alloc _ = w4 at *
    generalize w3.heap.size = g2 at *
    clear p1
    have hR1 := F1.out.right (by omega) isq
    have hR2 := F2.out.right (by omega) isq
    have cR1 := RightQ_any q1 _ _ _ K.out.p.1.1.1.2 (F1.out.qok (by omega))
    rw [hR1] at cR1
    try go_at_call 9
    refine cR1.mono ?_
    clear cR1
    rintro e x1 ⟨rfl, hb⟩
    replace K := Lib.hid (K.out.go hb); clear hb
    have p1 : ∀ j, x1.cell? ⟨g2, j, none⟩ = (#[.string q2.nm, .bool q2.st, .slice A2 n2 c2, .int .i64 q2.wi, .string q2.by_, .slice O2 m2 d2] : Array Value)[j]? := K.out.p.2.cell
    have cR2 := RightQ_any q2 _ _ _ K.out.p.1.2 (F2.out.qok (by omega))
    rw [hR2] at cR2
    have CR := Lib.hid cR2; clear cR2
    go_wp2_with fail
    clear p1
    try go_at_call 9
    refine CR.out.mono ?_
    rintro e x2 ⟨rfl, hb⟩
    replace K := Lib.hid (K.out.go hb); clear hb CR
    go_upto_region 12 with fail
    refine wp_of_eq (c' := ((Tryd.f3.body.bind (regionN 12)).getD .skip)) ?_ (by kernel_rfl)
    refine puts12 _ _ _ _ _ _ _ _ _ _ _ _ _ _ _ _ _ _ _ _ _ _ _ _ _ _ _ _ _ _ _ _ _ _ _ _ _ _ _ _ _ _ _ _ _ _ _ _ _ _ _ _ _ _ _ _ _ _ _ _ _ _ _ _ K.out.p.1.1.2 K.out.p.2 K.out.p.1.1.1.1.1.1 K.out.p.1.1.1.2 K.out.p.1.2 (F1.out.qsm (by omega) (by decide)) (F2.out.qsm (by omega) (by decide)) (F1.out.qok (by omega)) (F2.out.qok (by omega)) hR1 hR2 (fun _ _ _ _ _ _ _ _ _ _ _ _ _ _ _ _ _ _ _ _ _ wx hb => ?_)
    go_wp2_with fail
    go_ret
    exact ⟨rfl, bt K.out.bel hb⟩
end Go.Proofs.YtenmbahfgfmjjaaDoor
