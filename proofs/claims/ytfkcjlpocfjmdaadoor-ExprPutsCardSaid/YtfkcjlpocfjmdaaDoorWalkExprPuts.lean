/- ExprPuts: the walk. -/
import Derived.Test.YtfkcjlpocfjmdaaDoorMadeV
import Derived.Test.YtfkcjlpocfjmdaaDoorEx07
import Derived.Test.YtfkcjlpocfjmdaaDoorInj
import Derived.Lib.QuietBelow
import Derived.BigQuiet
import Derived.BigGuard
import Derived.IntWalk
namespace Go.Proofs.YtfkcjlpocfjmdaaDoor
open Go.ChangeShapes Go.WideShapes Go.ChangeAt Go.RowKit
open Rk (inR)
set_option linter.unusedVariables false
set_option linter.unusedSimpArgs false

def sT (t : Tr) : ByteArray := ⟨(putT t).toArray⟩
theorem sT_same {a b : Tr} (ha : a.few) (hb : b.few) : ((sT a).toList == (sT b).toList) = sameT a b := by
  have h1 : (sT a).toList = putT a := by unfold sT; rw [Lib.toList_data]
  have h2 : (sT b).toList = putT b := by unfold sT; rw [Lib.toList_data]
  rw [h1, h2]
  cases h : sameT a b
  · rw [beq_eq_false_iff_ne]
    intro he
    have := putT_inj ha.1 hb.1 he
    rw [(sameT_iff a b).2 this] at h; cases h
  · have := (sameT_iff a b).1 h
    subst this; simp
theorem sameT_symm (a b : Tr) : sameT b a = sameT a b := by
  cases h : sameT a b
  · cases h' : sameT b a
    · rfl
    · have := (sameT_iff b a).1 h'
      rw [(sameT_iff a b).2 this.symm] at h; cases h
  · rw [(sameT_iff b a).2 ((sameT_iff a b).1 h).symm]
theorem Put_f {t : Tr} {K v : Value} (ev_ : t.val K = v) (w : World) (h : TrAt w t K) (hf : t.few) (hT : Tab w) :
    Calls Tryd.prog 13 #[v] w fun e w' => e = .returned (.string (sT t)) ∧ Below w.heap.size w w' :=
  Put_v ev_ rfl w h hf.1 hf.2.1 (by have := hf.2.2.1; omega) hT
set_option maxRecDepth 20000 in
set_option maxHeartbeats 4000000 in
theorem puts_last (u0 u1 u2 u3 u4 u5 u6 u7 u8 u12 u14 u15 u16 u17 u18 u19 u20 u21 u22 u23 u24 u25 u26 u27 u28 u29 u30 u31 u32 u33 u34 u35 u36 u37 u38 u39 u40 u41 u42 u43 u44 u45 u46 u47 u48 u49 u50 u51 : Value) {w : World} {ta tb tc : Tr} {g1 g2 g3 : Nat} {k1 : Int} {o1 : ByteArray} {a1 b1 : Int} {s1 v1 f1 : ByteArray} {A1 : Option Addr} {n1 c1 : Nat} {k2 : Int} {o2 : ByteArray} {a2 b2 : Int} {s2 v2 f2 : ByteArray} {A2 : Option Addr} {n2 c2 : Nat} {k3 : Int} {o3 : ByteArray} {a3 b3 : Int} {s3 v3 f3 : ByteArray} {A3 : Option Addr} {n3 c3 : Nat} {A4 : Option Addr} {n4 c4 : Nat} {A5 : Option Addr} {n5 c5 : Nat} {A6 : Option Addr} {n6 c6 : Nat} (hP : Tab w ∧ (TrAt w ta (.slice A4 n4 c4) ∧ TrAt w tb (.slice A5 n5 c5) ∧ TrAt w tc (.slice A6 n6 c6)) ∧ (Blk w g1 26 #[.int .i64 k1, .string o1, .int .i64 a1, .int .i64 b1, .string s1, .string v1, .string f1, .slice A1 n1 c1] ∧ Blk w g2 26 #[.int .i64 k2, .string o2, .int .i64 a2, .int .i64 b2, .string s2, .string v2, .string f2, .slice A2 n2 c2] ∧ Blk w g3 26 #[.int .i64 k3, .string o3, .int .i64 a3, .int .i64 b3, .string s3, .string v3, .string f3, .slice A3 n3 c3])) (F1 : Hid (ta.val (.slice A4 n4 c4) = ev k1 o1 a1 b1 s1 v1 f1 (.slice A1 n1 c1) ∧ ta.few)) (F2 : Hid (tb.val (.slice A5 n5 c5) = ev k2 o2 a2 b2 s2 v2 f2 (.slice A2 n2 c2) ∧ tb.few)) (F3 : Hid (tc.val (.slice A6 n6 c6) = ev k3 o3 a3 b3 s3 v3 f3 (.slice A3 n3 c3) ∧ tc.few)) {Q : Exit → Act → World → Prop}
    (hQ : ∀ (x52 x53 x54 x55 x56 x57 x58 x59 x60 x61 x62 x63 x64 x65 x66 x67 x68 x69 x70 x71 x72 x73 x74 x75 x76 x77 x78 x79 x80 x81 x82 x83 : Value)  (wx : World), Below w.heap.size w wx → Q .normal ⟨#[u0, u1, u2, u3, u4, u5, u6, u7, .bool true, .bool true, .pointer (some ⟨g1, 0, none⟩), .pointer (some ⟨g2, 0, none⟩), u12, .pointer (some ⟨g3, 0, none⟩), u14, u15, u16, u17, u18, u19, u20, u21, u22, u23, u24, u25, u26, u27, u28, u29, u30, u31, u32, u33, u34, u35, u36, u37, u38, u39, u40, u41, u42, u43, u44, u45, u46, u47, u48, u49, u50, u51, x52, x53, x54, x55, x56, x57, x58, x59, x60, x61, x62, x63, x64, x65, x66, x67, x68, x69, x70, x71, x72, x73, x74, x75, x76, x77, x78, x79, x80, x81, x82, x83], []⟩ wx) :
    Code.wp Tryd.prog ((Tryd.f4.body.bind (regionN 12)).getD .skip) Q ⟨#[u0, u1, u2, u3, u4, u5, u6, u7, u8, .bool true, .pointer (some ⟨g1, 0, none⟩), .pointer (some ⟨g2, 0, none⟩), u12, .pointer (some ⟨g3, 0, none⟩), u14, u15, u16, u17, u18, u19, u20, u21, u22, u23, u24, u25, u26, u27, u28, u29, u30, u31, u32, u33, u34, u35, u36, u37, u38, u39, u40, u41, u42, u43, u44, u45, u46, u47, u48, u49, u50, u51, undef, undef, undef, undef, undef, undef, undef, undef, undef, undef, undef, undef, undef, undef, undef, undef, undef, undef, undef, undef, undef, undef, undef, undef, undef, undef, undef, undef, undef, undef, undef, undef], []⟩ w := by
  have HQ := Lib.hid hQ; clear hQ
  conv => arg 2; whnf
  have q1 := fun d os => Put_f F1.out.1 _ (hP.2.1.1.later (below_regrown w d os)) F1.out.2 (hP.1.later (below_regrown w d os))
  have q2 := fun d os => Put_f F2.out.1 _ (hP.2.1.2.1.later (below_regrown w d os)) F2.out.2 (hP.1.later (below_regrown w d os))
  have q3 := fun d os => Put_f F3.out.1 _ (hP.2.1.2.2.later (below_regrown w d os)) F3.out.2 (hP.1.later (below_regrown w d os))
  have q4 := fun d os => Same_v F1.out.1 F2.out.1 rfl _ (hP.2.1.1.later (below_regrown w d os)) (hP.2.1.2.1.later (below_regrown w d os))
  have q5 := fun d os => Same_v F1.out.1 F3.out.1 rfl _ (hP.2.1.1.later (below_regrown w d os)) (hP.2.1.2.2.later (below_regrown w d os))
  have q6 := fun d os => Same_v F2.out.1 F1.out.1 (sameT_symm ta tb) _ (hP.2.1.2.1.later (below_regrown w d os)) (hP.2.1.1.later (below_regrown w d os))
  have hXY := sT_same F1.out.2 F2.out.2
  have hXZ := sT_same F1.out.2 F3.out.2
  have y10 := fun d os => cell_regrown (hP.2.2.1.cell 0) d os
  have y11 := fun d os => cell_regrown (hP.2.2.1.cell 1) d os
  have y12 := fun d os => cell_regrown (hP.2.2.1.cell 2) d os
  have y13 := fun d os => cell_regrown (hP.2.2.1.cell 3) d os
  have y14 := fun d os => cell_regrown (hP.2.2.1.cell 4) d os
  have y15 := fun d os => cell_regrown (hP.2.2.1.cell 5) d os
  have y16 := fun d os => cell_regrown (hP.2.2.1.cell 6) d os
  have y17 := fun d os => cell_regrown (hP.2.2.1.cell 7) d os
  have y20 := fun d os => cell_regrown (hP.2.2.2.1.cell 0) d os
  have y21 := fun d os => cell_regrown (hP.2.2.2.1.cell 1) d os
  have y22 := fun d os => cell_regrown (hP.2.2.2.1.cell 2) d os
  have y23 := fun d os => cell_regrown (hP.2.2.2.1.cell 3) d os
  have y24 := fun d os => cell_regrown (hP.2.2.2.1.cell 4) d os
  have y25 := fun d os => cell_regrown (hP.2.2.2.1.cell 5) d os
  have y26 := fun d os => cell_regrown (hP.2.2.2.1.cell 6) d os
  have y27 := fun d os => cell_regrown (hP.2.2.2.1.cell 7) d os
  have y30 := fun d os => cell_regrown (hP.2.2.2.2.cell 0) d os
  have y31 := fun d os => cell_regrown (hP.2.2.2.2.cell 1) d os
  have y32 := fun d os => cell_regrown (hP.2.2.2.2.cell 2) d os
  have y33 := fun d os => cell_regrown (hP.2.2.2.2.cell 3) d os
  have y34 := fun d os => cell_regrown (hP.2.2.2.2.cell 4) d os
  have y35 := fun d os => cell_regrown (hP.2.2.2.2.cell 5) d os
  have y36 := fun d os => cell_regrown (hP.2.2.2.2.cell 6) d os
  have y37 := fun d os => cell_regrown (hP.2.2.2.2.cell 7) d os
  clear hP F1 F2 F3
  generalize sT ta = X1 at *
  generalize sT tb = X2 at *
  generalize sT tc = X3 at *
  generalize sameT ta tb = R1 at *
  generalize sameT ta tc = R2 at *
  have HC := Lib.hid (And.intro q1 (And.intro q2 (And.intro q3 (And.intro q4 (And.intro q5 q6)))))
  clear q1 q2 q3 q4 q5 q6
  go_wp2_with fail
  refine wp_region_noPanic ?_
  rcases R1 with _ | _ <;> rcases R2 with _ | _
  all_goals
    try (have e := (show X1 = X2 from toList_inj (by simpa using hXY)); subst e; clear hXY)
    try (have e := (show X1 = X3 from toList_inj (by simpa using hXZ)); subst e; clear hXZ)
    try (have hXYp : ¬ X1.toList = X2.toList := (by simpa using hXY))
    try (have hXZp : ¬ X1.toList = X3.toList := (by simpa using hXZ))
    refine wp_region_quiet_below (by kernel_rfl) (by kernel_rfl) ?_
    repeat (go_big_quiet_step (first
      | (go_at_call 13; with_reducible exact Calls.regrown_of (HC.out.1 _ _))
      | (go_at_call 13; with_reducible exact Calls.regrown_of (HC.out.2.1 _ _))
      | (go_at_call 13; with_reducible exact Calls.regrown_of (HC.out.2.2.1 _ _))
      | (go_at_call 22; with_reducible exact Calls.regrown_of (HC.out.2.2.2.1 _ _))
      | (go_at_call 22; with_reducible exact Calls.regrown_of (HC.out.2.2.2.2.1 _ _))
      | (go_at_call 22; with_reducible exact Calls.regrown_of (HC.out.2.2.2.2.2 _ _))))
    refine wpQuiet_nil ?_
    intro wq hw'
    have bq : Below w.heap.size w wq := by obtain ⟨p, rfl⟩ := hw'; exact below_regrown _ _ _
    clear hw'
    go_wp2_with fail
    exact NoPanic.normal (HQ.out _ _ _ _ _ _ _ _ _ _ _ _ _ _ _ _ _ _ _ _ _ _ _ _ _ _ _ _ _ _ _ _ _ bq)
set_option maxRecDepth 20000 in
set_option maxHeartbeats 4000000 in
theorem walk_ExprPuts (v : Value) (l : List UInt8) (u : Value) (m : List UInt8) (at_ by_ : Int) (w : World) (hv : BytesAt w v l) (hl : l.length ≤ 140737488351232) (hu : BytesAt w u m) (hm : m.length ≤ 140737488351232) (t0 : 0 ≤ at_) (t1 : at_ ≤ 255) (y0 : 0 ≤ by_) (y1 : by_ ≤ 255) (hT : Tab w) :
    Calls Tryd.prog 4 #[v, u, .int .u8 at_, .int .u8 by_] w fun e w' => e = .returned (.bool true) ∧ Below w.heap.size w w' := by
  obtain ⟨i0, hi, hz0, hz1, hz2⟩ := info_parts (P := Tryd.prog) (e := 5) (z := .int .u8 0) (size := 1) (bytes := 1) (by kernel_rfl)
  obtain ⟨VA, Vc, rfl⟩ := bytes_slice hv
  obtain ⟨UA, Uc, rfl⟩ := bytes_slice hu
  obtain ⟨n, hn⟩ : ∃ n, n = l.length := ⟨_, rfl⟩
  rw [← hn] at hv ⊢
  have HN := Lib.hid hn; clear hn
  have K := Lib.hid (Keep.start w (fun X => Tab X ∧ BytesAt X (.slice VA n Vc) l ∧ BytesAt X (.slice UA m.length Uc) m) ⟨hT, hv, hu⟩ (fun _ _ hb h => ⟨h.1.later hb, h.2.1.later hb, h.2.2.later hb⟩))
  clear hT hv hu
  go_enter Tryd.func4, Tryd.ntmps4
  go_wp2_with fail
  go_at_call 9
  refine (examples_any _ K.out.p.1).mono ?_
  rintro e w1 ⟨rfl, hb⟩
  replace K := Lib.hid (K.out.go hb); clear hb
  go_wp2_with fail
  go_at_call 10
  refine (made_v _ l _ K.out.p.2.1 hl).mono ?_
  rintro e w2 ⟨⟨ta, k1, o1, a1, b1, s1, v1, f1, A1, n1, c1, A4, n4, c4, rfl, hT, e1, hf⟩, hb⟩
  replace K := Lib.hid ((((K.out.go hb).and (Q := fun X => TrAt X ta (.slice A4 n4 c4)) hT (fun _ _ hb h => h.later hb)).more 26 #[.int .i64 k1, .string o1, .int .i64 a1, .int .i64 b1, .string s1, .string v1, .string f1, .slice A1 n1 c1]).keepRow (List.mem_cons_self ..)); clear hb hT
  have F1 := Lib.hid (And.intro e1 hf); clear e1 hf
  go_wp2_with fail
  generalize w2.alloc _ = w2' at *
  generalize w2.heap.size = g1 at *
  go_at_call 10
  refine (made_v _ m _ K.out.p.1.1.2.2 hm).mono ?_
  rintro e w3 ⟨⟨tb, k2, o2, a2, b2, s2, v2, f2, A2, n2, c2, A5, n5, c5, rfl, hT, e1, hf⟩, hb⟩
  replace K := Lib.hid ((((K.out.go hb).and (Q := fun X => TrAt X tb (.slice A5 n5 c5)) hT (fun _ _ hb h => h.later hb)).more 26 #[.int .i64 k2, .string o2, .int .i64 a2, .int .i64 b2, .string s2, .string v2, .string f2, .slice A2 n2 c2]).keepRow (List.mem_cons_self ..)); clear hb hT
  have F2 := Lib.hid (And.intro e1 hf); clear e1 hf
  rcases (by omega : n = 0 ∨ 0 < n) with hl0 | hl0
  · subst hl0
    go_wp2_with (at_builtin; go_loud (refine wpList_append_at _ rfl (.const (.slice none 0 0)) (.tmp 21) 27 rfl (w3.alloc (.cells #[.int .i64 k2, .string o2, .int .i64 a2, .int .i64 b2, .string s2, .string v2, .string f2, .slice A2 n2 c2] 26)).heap.size 5 i0 (.int .u8 0) 1 1 Tryd.underlying27 hi hz0 hz1 hz2 rfl (by decide) (f := ub8) (fun _ => rfl) (fun x u hu => by simp at hu; subst hu; rfl) (.slice none 0 0) ([] : List UInt8) rfl (Own.nil _ _ _ _ _) _ _ _ l HN.out rfl (bytes_at K.out.p.1.1.1.1.2.1) (by have := HN.out; unfold maxLen; rw [List.length_nil]; omega) (by have := HN.out; rw [List.length_nil]; omega) (Nat.le_refl _) ?_); intro v5 w5 hO5 hg5; go_loud (rw [List.nil_append] at hO5); go_loud (obtain ⟨VK, ck, rfl, hk1, hk2, hk3⟩ := hO5.shape); rw [← HN.out]; go_loud (have HK := Lib.hid (And.intro (own_past (Below.refl _ _) hg5 (Own.nil (w3.alloc (.cells #[.int .i64 k2, .string o2, .int .i64 a2, .int .i64 b2, .string s2, .string v2, .string f2, .slice A2 n2 c2] 26)) _ 5 1 ub8)) hO5)); clear hg5 hO5 hk1 hk2 hk3)
    generalize w3.alloc _ = w4 at *
    generalize w3.heap.size = g2 at *
    obtain ⟨lk, hlk, hkl⟩ : ∃ lk : List UInt8, BytesAt w5 (.slice VK 0 ck) lk ∧ lk.length ≤ 140737488351232 := ⟨l, by have := own_ub8 HK.out.2; rw [← HN.out] at this; exact this, hl⟩
    replace K := Lib.hid (K.out.go HK.out.1)
    clear HK
    go_at_call 10
    refine (made_v _ lk _ hlk hkl).mono ?_
    rintro e w7 ⟨⟨tc, k3, o3, a3, b3, s3, v3, f3, A3, n3, c3, A6, n6, c6, rfl, hT, e1, hf⟩, hb⟩
    replace K := Lib.hid ((((K.out.go hb).and (Q := fun X => TrAt X tc (.slice A6 n6 c6)) hT (fun _ _ hb h => h.later hb)).more 26 #[.int .i64 k3, .string o3, .int .i64 a3, .int .i64 b3, .string s3, .string v3, .string f3, .slice A3 n3 c3]).keepRow (List.mem_cons_self ..)); clear hb hT hlk
    have F3 := Lib.hid (And.intro e1 hf); clear e1 hf
    have p1 : ∀ j, (w7.alloc (.cells (#[.int .i64 k3, .string o3, .int .i64 a3, .int .i64 b3, .string s3, .string v3, .string f3, .slice A3 n3 c3] : Array Value) 26)).cell? ⟨g1, j, none⟩ = (#[.int .i64 k1, .string o1, .int .i64 a1, .int .i64 b1, .string s1, .string v1, .string f1, .slice A1 n1 c1] : Array Value)[j]? := K.out.p.1.1.1.1.2.cell
    go_wp2_with fail
    generalize w7.alloc _ = w8 at *
    generalize w7.heap.size = g3 at *
    clear p1
    replace K := Lib.hid (K.out.weak (Q := fun X => Tab X ∧ (TrAt X ta (.slice A4 n4 c4) ∧ TrAt X tb (.slice A5 n5 c5) ∧ TrAt X tc (.slice A6 n6 c6)) ∧ (Blk X g1 26 #[.int .i64 k1, .string o1, .int .i64 a1, .int .i64 b1, .string s1, .string v1, .string f1, .slice A1 n1 c1] ∧ Blk X g2 26 #[.int .i64 k2, .string o2, .int .i64 a2, .int .i64 b2, .string s2, .string v2, .string f2, .slice A2 n2 c2] ∧ Blk X g3 26 #[.int .i64 k3, .string o3, .int .i64 a3, .int .i64 b3, .string s3, .string v3, .string f3, .slice A3 n3 c3])) (fun X h => ⟨h.1.1.1.1.1.1.1, ⟨h.1.1.1.1.1.2, h.1.1.1.2, h.1.2⟩, ⟨h.1.1.1.1.2, h.1.1.2, h.2⟩⟩) (fun _ _ hb h => ⟨h.1.later hb, ⟨h.2.1.1.later hb, h.2.1.2.1.later hb, h.2.1.2.2.later hb⟩, ⟨h.2.2.1.later hb, h.2.2.2.1.later hb, h.2.2.2.2.later hb⟩⟩))
    go_at_call 12
    refine (Right_v F1.out.1 _ K.out.p.2.1.1 F1.out.2.1).mono ?_
    rintro e x1 ⟨rfl, hb⟩
    replace K := Lib.hid (K.out.go hb); clear hb
    have p1 : ∀ j, x1.cell? ⟨g2, j, none⟩ = (#[.int .i64 k2, .string o2, .int .i64 a2, .int .i64 b2, .string s2, .string v2, .string f2, .slice A2 n2 c2] : Array Value)[j]? := K.out.p.2.2.2.1.cell
    go_wp2_with fail
    clear p1
    go_at_call 12
    refine (Right_v F2.out.1 _ K.out.p.2.1.2.1 F2.out.2.1).mono ?_
    rintro e x2 ⟨rfl, hb⟩
    replace K := Lib.hid (K.out.go hb); clear hb
    have p1 : ∀ j, x2.cell? ⟨g3, j, none⟩ = (#[.int .i64 k3, .string o3, .int .i64 a3, .int .i64 b3, .string s3, .string v3, .string f3, .slice A3 n3 c3] : Array Value)[j]? := K.out.p.2.2.2.2.cell
    go_wp2_with fail
    clear p1
    go_at_call 12
    refine (Right_v F3.out.1 _ K.out.p.2.1.2.2 F3.out.2.1).mono ?_
    rintro e x3 ⟨rfl, hb⟩
    replace K := Lib.hid (K.out.go hb); clear hb
    go_wp2_with fail
    refine wp_of_eq (c' := ((Tryd.f4.body.bind (regionN 12)).getD .skip)) ?_ (by kernel_rfl)
    refine puts_last _ _ _ _ _ _ _ _ _ _ _ _ _ _ _ _ _ _ _ _ _ _ _ _ _ _ _ _ _ _ _ _ _ _ _ _ _ _ _ _ _ _ _ _ _ _ _ _  K.out.p F1 F2 F3 (fun _ _ _ _ _ _ _ _ _ _ _ _ _ _ _ _ _ _ _ _ _ _ _ _ _ _ _ _ _ _ _ _  wx hb => ?_)
    go_wp2_with fail
    go_ret
    exact ⟨rfl, bt K.out.bel hb⟩
  · have hl2 : ¬ (n : Int) = 0 := by omega
    have hl1 : (0 : Int) < (n : Int) := by omega
    have hwr : IntKind.i64.wrap at_ = at_ := IntWalk.i64_in _ (by omega)
    obtain ⟨q, hqe⟩ : ∃ q : Nat, at_ % (n : Int) = (q : Int) := ⟨(at_ % (n : Int)).toNat, by have h1 := Int.emod_nonneg at_ hl2; omega⟩
    have hqn : q < n := by have h2 := Int.emod_lt_of_pos at_ hl1; omega
    have hq : q < l.length := by have := HN.out; omega
    have htm : at_.tmod (n : Int) = (q : Int) := by rw [Int.tmod_eq_emod_of_nonneg t0]; exact hqe
    have hq0 : (0 : Int) ≤ (q : Int) := by omega
    have hqi : (q : Int) < (n : Int) := by omega
    have hl3 : ¬ n = 0 := by omega
    obtain ⟨xq, hxq⟩ : ∃ xq : UInt8, l[q]? = some xq := ⟨l[q]'hq, List.getElem?_eq_getElem hq⟩
    obtain ⟨xc, hxc⟩ := xor_u8 (xq.toNat : Int) by_
    have HX := Lib.hid hxq; clear hxq
    have HQ := Lib.hid hq; clear hq
    go_wp2_with (at_builtin; go_loud (refine wpList_append_at _ rfl (.const (.slice none 0 0)) (.tmp 21) 27 rfl (w3.alloc (.cells #[.int .i64 k2, .string o2, .int .i64 a2, .int .i64 b2, .string s2, .string v2, .string f2, .slice A2 n2 c2] 26)).heap.size 5 i0 (.int .u8 0) 1 1 Tryd.underlying27 hi hz0 hz1 hz2 rfl (by decide) (f := ub8) (fun _ => rfl) (fun x u hu => by simp at hu; subst hu; rfl) (.slice none 0 0) ([] : List UInt8) rfl (Own.nil _ _ _ _ _) _ _ _ l HN.out rfl (bytes_at K.out.p.1.1.1.1.2.1) (by have := HN.out; unfold maxLen; rw [List.length_nil]; omega) (by have := HN.out; rw [List.length_nil]; omega) (Nat.le_refl _) ?_); intro v5 w5 hO5 hg5; go_loud (rw [List.nil_append] at hO5); go_loud (obtain ⟨VK, ck, rfl, hk1, hk2, hk3⟩ := hO5.shape); rw [← HN.out]; go_loud (have HK := Lib.hid (And.intro (own_past (Below.refl _ _) hg5 (Own.nil (w3.alloc (.cells #[.int .i64 k2, .string o2, .int .i64 a2, .int .i64 b2, .string s2, .string v2, .string f2, .slice A2 n2 c2] 26)) _ 5 1 ub8)) hO5)); clear hg5 hO5 hk1 hk2 hk3; obtain ⟨gk, hgk, hgb, -, hfr, hcs⟩ := HK.out.2.cells (f := ub8) (fun _ => rfl) rfl (by have := HN.out; omega); subst hgk; have z0 := hcs q HQ.out 0 (.int .u8 (xq.toNat : Int)) (by have := HX.out; rw [List.getElem?_eq_getElem HQ.out] at this; rw [Option.some.inj this]; rfl); rw [Nat.mul_one, Nat.add_zero] at z0; have z1 := hfr q; clear hcs hfr; have hgk2 := Lib.hid hgb; clear hgb)
    generalize w3.alloc _ = w4 at *
    generalize w3.heap.size = g2 at *
    have hO := HK.out.2
    rw [← HN.out] at hO
    have hset := own_put1 (f := ub8) (fun _ => rfl) hO q (x := xc) (u := .int .u8 (xc.toNat : Int)) rfl
    obtain ⟨lk, hlk, hkl⟩ : ∃ lk : List UInt8, BytesAt (w5.setCell ⟨gk, q, none⟩ (.int .u8 (xc.toNat : Int))) (.slice (some ⟨gk, 0, none⟩) n ck) lk ∧ lk.length ≤ 140737488351232 := ⟨l.set q xc, own_ub8 hset.1, by rw [List.length_set]; exact hl⟩
    replace K := Lib.hid (K.out.go (HK.out.1.setCell (p := ⟨gk, q, none⟩) hgk2.out (.int .u8 (xc.toNat : Int))))
    clear hset hO HK hgk2 z0 z1 hl0 hl1 hl2 hl3 hwr hqe hqn htm hq0 hqi hxc HX HQ
    generalize w5.setCell _ _ = w6 at *
    go_at_call 10
    refine (made_v _ lk _ hlk hkl).mono ?_
    rintro e w7 ⟨⟨tc, k3, o3, a3, b3, s3, v3, f3, A3, n3, c3, A6, n6, c6, rfl, hT, e1, hf⟩, hb⟩
    replace K := Lib.hid ((((K.out.go hb).and (Q := fun X => TrAt X tc (.slice A6 n6 c6)) hT (fun _ _ hb h => h.later hb)).more 26 #[.int .i64 k3, .string o3, .int .i64 a3, .int .i64 b3, .string s3, .string v3, .string f3, .slice A3 n3 c3]).keepRow (List.mem_cons_self ..)); clear hb hT hlk
    have F3 := Lib.hid (And.intro e1 hf); clear e1 hf
    have p1 : ∀ j, (w7.alloc (.cells (#[.int .i64 k3, .string o3, .int .i64 a3, .int .i64 b3, .string s3, .string v3, .string f3, .slice A3 n3 c3] : Array Value) 26)).cell? ⟨g1, j, none⟩ = (#[.int .i64 k1, .string o1, .int .i64 a1, .int .i64 b1, .string s1, .string v1, .string f1, .slice A1 n1 c1] : Array Value)[j]? := K.out.p.1.1.1.1.2.cell
    go_wp2_with fail
    generalize w7.alloc _ = w8 at *
    generalize w7.heap.size = g3 at *
    clear p1
    replace K := Lib.hid (K.out.weak (Q := fun X => Tab X ∧ (TrAt X ta (.slice A4 n4 c4) ∧ TrAt X tb (.slice A5 n5 c5) ∧ TrAt X tc (.slice A6 n6 c6)) ∧ (Blk X g1 26 #[.int .i64 k1, .string o1, .int .i64 a1, .int .i64 b1, .string s1, .string v1, .string f1, .slice A1 n1 c1] ∧ Blk X g2 26 #[.int .i64 k2, .string o2, .int .i64 a2, .int .i64 b2, .string s2, .string v2, .string f2, .slice A2 n2 c2] ∧ Blk X g3 26 #[.int .i64 k3, .string o3, .int .i64 a3, .int .i64 b3, .string s3, .string v3, .string f3, .slice A3 n3 c3])) (fun X h => ⟨h.1.1.1.1.1.1.1, ⟨h.1.1.1.1.1.2, h.1.1.1.2, h.1.2⟩, ⟨h.1.1.1.1.2, h.1.1.2, h.2⟩⟩) (fun _ _ hb h => ⟨h.1.later hb, ⟨h.2.1.1.later hb, h.2.1.2.1.later hb, h.2.1.2.2.later hb⟩, ⟨h.2.2.1.later hb, h.2.2.2.1.later hb, h.2.2.2.2.later hb⟩⟩))
    go_at_call 12
    refine (Right_v F1.out.1 _ K.out.p.2.1.1 F1.out.2.1).mono ?_
    rintro e x1 ⟨rfl, hb⟩
    replace K := Lib.hid (K.out.go hb); clear hb
    have p1 : ∀ j, x1.cell? ⟨g2, j, none⟩ = (#[.int .i64 k2, .string o2, .int .i64 a2, .int .i64 b2, .string s2, .string v2, .string f2, .slice A2 n2 c2] : Array Value)[j]? := K.out.p.2.2.2.1.cell
    go_wp2_with fail
    clear p1
    go_at_call 12
    refine (Right_v F2.out.1 _ K.out.p.2.1.2.1 F2.out.2.1).mono ?_
    rintro e x2 ⟨rfl, hb⟩
    replace K := Lib.hid (K.out.go hb); clear hb
    have p1 : ∀ j, x2.cell? ⟨g3, j, none⟩ = (#[.int .i64 k3, .string o3, .int .i64 a3, .int .i64 b3, .string s3, .string v3, .string f3, .slice A3 n3 c3] : Array Value)[j]? := K.out.p.2.2.2.2.cell
    go_wp2_with fail
    clear p1
    go_at_call 12
    refine (Right_v F3.out.1 _ K.out.p.2.1.2.2 F3.out.2.1).mono ?_
    rintro e x3 ⟨rfl, hb⟩
    replace K := Lib.hid (K.out.go hb); clear hb
    go_wp2_with fail
    refine wp_of_eq (c' := ((Tryd.f4.body.bind (regionN 12)).getD .skip)) ?_ (by kernel_rfl)
    refine puts_last _ _ _ _ _ _ _ _ _ _ _ _ _ _ _ _ _ _ _ _ _ _ _ _ _ _ _ _ _ _ _ _ _ _ _ _ _ _ _ _ _ _ _ _ _ _ _ _  K.out.p F1 F2 F3 (fun _ _ _ _ _ _ _ _ _ _ _ _ _ _ _ _ _ _ _ _ _ _ _ _ _ _ _ _ _ _ _ _  wx hb => ?_)
    go_wp2_with fail
    go_ret
    exact ⟨rfl, bt K.out.bel hb⟩
end Go.Proofs.YtfkcjlpocfjmdaaDoor
