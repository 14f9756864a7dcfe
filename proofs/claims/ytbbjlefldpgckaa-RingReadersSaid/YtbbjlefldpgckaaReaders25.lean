/- RingReaders: the region that cuts one out, a piece. -/
import Derived.Test.YtbbjlefldpgckaaRgV
import Derived.Deep.RegionHeld3
namespace Go.Proofs.Ytbbjlefldpgckaa
open Go.ChangeShapes Go.WideShapes Go.ChangeAt Go.RowKit Go.Maps
open Ev (V3 rightV OkV)
set_option linter.unusedVariables false
set_option linter.unusedSimpArgs false
set_option maxRecDepth 20000

set_option maxRecDepth 20000 in
set_option maxHeartbeats 4000000 in
theorem readers25 (u0 u1 u2 u3 u4 u5 u7 u8 u9 u11 u12 u13 u14 u15 u16 u17 u18 u19 u20 u21 u22 u23 u24 u25 u26 u27 u28 u29 u30 u31 u32 u33 u34 u35 u36 u37 u38 u39 u40 u41 u42 u43 u44 u45 u46 u47 u48 u49 u50 u51 u52 u53 u54 u55 u56 u57 u58 u59 u60 u61 u62 u63 u64 u65 u66 u67 u68 u69 u70 u71 u72 u73 u74 u75 u76 u77 u78 u79 u80 u81 u82 u83 u84 u85 u86 u87 u88 u89 u90 u91 u92 u93 u94 u95 u96 u97 u98 u99 u100 u101 u102 u103 u104 u105 u106 u107 u108 u109 u110 u111 u112 u113 u114 u115 u116 u117 u118 u119 u120 u121 u122 u123 u124 u125 u126 u127 u128 u129 u130 u131 u132 u133 u134 u135 u136 u137 u138 u139 u140 u141 u142 u143 u144 u145 u146 u147 u148 u149 u150 u151 u152 u153 u154 u155 u156 u157 u158 u159 u160 u161 u162 u163 u164 u165 u166 u167 u168 u169 u170 u171 u172 u173 u174 u175 u176 u177 : Value) {w : World} {B n c k : Nat} {A : Option Addr} {l : List Int} (hO : Own w B 3 1 i64r (.slice A n c) l) (hn : l.length = n) (hk : k < n) (hs : n ≤ 1000) {Q : Exit → Act → World → Prop}
    (hQ : ∀ (x128 x129 x130 x131 x132 x133 x134 x135 x136 : Value) (v6 : Value) (wx : World), (Own wx w.heap.size 3 1 i64r v6 (l.take k ++ l.drop (k + 1)) ∧ Below w.heap.size w wx) → Q .normal ⟨#[u0, u1, u2, u3, u4, u5, v6, u7, u8, u9, .int .i64 (k : Int), u11, u12, u13, u14, u15, u16, u17, u18, u19, u20, u21, u22, u23, u24, u25, u26, u27, u28, u29, u30, u31, u32, u33, u34, u35, u36, u37, u38, u39, u40, u41, u42, u43, u44, u45, u46, u47, u48, u49, u50, u51, u52, u53, u54, u55, u56, u57, u58, u59, u60, u61, u62, u63, u64, u65, u66, u67, u68, u69, u70, u71, u72, u73, u74, u75, u76, u77, u78, u79, u80, u81, u82, u83, u84, u85, u86, u87, u88, u89, u90, u91, u92, u93, u94, u95, u96, u97, u98, u99, u100, u101, u102, u103, u104, u105, u106, u107, u108, u109, u110, u111, u112, u113, u114, u115, u116, u117, u118, u119, u120, u121, u122, u123, u124, u125, u126, u127, x128, x129, x130, x131, x132, x133, x134, x135, x136, u137, u138, u139, u140, u141, u142, u143, u144, u145, u146, u147, u148, u149, u150, u151, u152, u153, u154, u155, u156, u157, u158, u159, u160, u161, u162, u163, u164, u165, u166, u167, u168, u169, u170, u171, u172, u173, u174, u175, u176, u177], []⟩ wx) :
    Code.wp Try.prog ((Try.f7.body.bind (regionN 25)).getD .skip) Q ⟨#[u0, u1, u2, u3, u4, u5, .slice A n c, u7, u8, u9, .int .i64 (k : Int), u11, u12, u13, u14, u15, u16, u17, u18, u19, u20, u21, u22, u23, u24, u25, u26, u27, u28, u29, u30, u31, u32, u33, u34, u35, u36, u37, u38, u39, u40, u41, u42, u43, u44, u45, u46, u47, u48, u49, u50, u51, u52, u53, u54, u55, u56, u57, u58, u59, u60, u61, u62, u63, u64, u65, u66, u67, u68, u69, u70, u71, u72, u73, u74, u75, u76, u77, u78, u79, u80, u81, u82, u83, u84, u85, u86, u87, u88, u89, u90, u91, u92, u93, u94, u95, u96, u97, u98, u99, u100, u101, u102, u103, u104, u105, u106, u107, u108, u109, u110, u111, u112, u113, u114, u115, u116, u117, u118, u119, u120, u121, u122, u123, u124, u125, u126, u127, u128, u129, u130, u131, u132, u133, u134, u135, u136, u137, u138, u139, u140, u141, u142, u143, u144, u145, u146, u147, u148, u149, u150, u151, u152, u153, u154, u155, u156, u157, u158, u159, u160, u161, u162, u163, u164, u165, u166, u167, u168, u169, u170, u171, u172, u173, u174, u175, u176, u177], []⟩ w := by
  have HQ := Lib.hid hQ; clear hQ
  conv => arg 2; whnf
  subst hn
  obtain ⟨i0, hi, hz0, hz1, hz2⟩ := info_parts (P := Try.prog) (e := 3) (z := .int .i64 0) (size := 1) (bytes := 8) (by kernel_rfl)
  have hat := Own.at_ (f := i64r) (k := 1) (fun _ => rfl) hO
  obtain ⟨A1, c1, hr1, hat1⟩ := At.upto (P := Try.prog) undI szI hat k (by omega)
  obtain ⟨A2, c2, hr2, hat2⟩ := At.from_ (P := Try.prog) undI szI hat (k + 1) (by omega)
  simp only [Int.natCast_add, Int.natCast_one] at hr2
  have hw1 : IntKind.i64.wrap ((k : Int) + 1) = (k : Int) + 1 := IntWalk.i64_in _ (by omega)
  obtain ⟨m2, hm2⟩ : ∃ m2, m2 = l.length - (k + 1) := ⟨_, rfl⟩
  rw [← hm2] at hr2 hat2
  have hl1 : (l.take k).length = k := by rw [List.length_take]; omega
  have hl2 : (l.drop (k + 1)).length = m2 := by rw [List.length_drop]; omega
  have hs' := hs
  have KM := Lib.hid (And.intro hat1 (And.intro hat2 (And.intro hl1 (And.intro hl2 (And.intro hs hm2))))); clear hat hat1 hat2 hl1 hl2 hO hs hm2
  refine wp_region_noPanic ?_
  go_region_held3 (fun _ => True) (exact trivial) (first
    | ((refine step_append_at rfl (.const (.slice none 0 0)) (.tmp 130) 44 rfl w.heap.size 3 i0 (.int .i64 0) 1 8 Try.underlying44 hi hz0 hz1 hz2 rfl (by decide) (f := i64r) (fun _ => rfl) int_one (.slice none 0 0) ([] : List Int) rfl (Own.nil _ _ _ _ _) A1 k c1 (l.take k) KM.out.2.2.1.symm rfl (KM.out.1.later (by first | exact below_drew (Below.refl _ _) | exact Below.refl _ _)) (by have := KM.out.2.2.1; have := KM.out.2.2.2.2; unfold maxLen; simp only [List.length_nil]; omega) (by have := KM.out.2.2.1; have := KM.out.2.2.2.2; simp only [List.length_nil]; omega) (Nat.le_refl _) ?_); intro v5 w6 hO6 hg6; rw [List.nil_append] at hO6; have b6 : Below w.heap.size w w6 := own_past (w1 := w.drew) (by first | exact below_drew (Below.refl _ _) | exact Below.refl _ _) hg6 (Own.nil w _ 3 1 i64r); obtain ⟨A5, n5, c5, rfl⟩ := own_shape hO6; have K6 := Lib.hid (And.intro hO6 b6); clear hg6 hO6 b6)
    | ((refine step_append_at rfl (.tmp 131) (.tmp 135) 44 rfl w.heap.size 3 i0 (.int .i64 0) 1 8 Try.underlying44 hi hz0 hz1 hz2 rfl (by decide) (f := i64r) (fun _ => rfl) int_one (.slice A5 n5 c5) (l.take k) rfl K6.out.1 A2 m2 c2 (l.drop (k + 1)) KM.out.2.2.2.1.symm rfl (KM.out.2.1.later K6.out.2) (by have := KM.out.2.2.1; have := KM.out.2.2.2.2; unfold maxLen; omega) (by have := KM.out.2.2.1; have := KM.out.2.2.2.2; omega) K6.out.2.size ?_); intro v7 w7 hO7 hg7; have b7 := own_past K6.out.2 hg7 K6.out.1; obtain ⟨A7, n7, c7, rfl⟩ := own_shape hO7; have K7 := Lib.hid (And.intro hO7 b7); clear hg7 hO7 b7))
  all_goals exact NoPanic.normal (HQ.out _ _ _ _ _ _ _ _ _ _ _ K7.out)
end Go.Proofs.Ytbbjlefldpgckaa
