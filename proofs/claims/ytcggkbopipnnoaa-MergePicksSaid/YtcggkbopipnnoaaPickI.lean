/- MergePicks: a round of the loop that lays the heads. -/
import Derived.Test.YtcggkbopipnnoaaPickR
import Derived.Test.YtcggkbopipnnoaaPick34f
import Derived.Deep.CutBlock
namespace Go.Proofs.Ytcggkbopipnnoaa
open Go.ChangeShapes Go.WideShapes Go.ChangeAt Go.RowKit
set_option linter.unusedVariables false
set_option linter.unusedSimpArgs false
/-- The body of the innermost loop that holds region n. -/
def loopN (n : Nat) : Code → Option Code
  | .seq a b => match loopN n a with
    | some c => some c
    | none => loopN n b
  | .cond _ a b => match loopN n a with
    | some c => some c
    | none => loopN n b
  | .loop c => match loopN n c with
    | some d => some d
    | none => match regionN n c with
      | some _ => some c
      | none => none
  | .block _ c => loopN n c
  | .scope c => loopN n c
  | _ => none
set_option maxRecDepth 20000 in
set_option maxHeartbeats 4000000 in
theorem pick34 (u0 u1 u2 u3 u4 u5 u6 u7 u12 u13 u14 u15 u16 u17 u19 u20 u21 u22 u23 u24 u25 u26 u27 u28 u29 u30 u31 u32 u33 u34 u35 u36 u37 u38 u39 u40 u41 u42 u43 u44 u45 u46 u47 u48 u49 u50 u51 u52 u53 u54 u55 u56 u57 u58 u59 u60 u61 u62 u63 u64 u65 u66 u67 u68 u69 u70 u71 u72 u73 u74 u75 u76 u77 u78 u79 u80 u81 u82 u83 u84 u85 u86 u87 u88 u89 u90 u91 u92 u93 u94 u95 u96 u97 u98 u99 u100 u101 u102 u103 u104 u105 u106 u107 u108 u109 u110 u111 u112 u113 u114 u115 u116 u117 u118 u119 u120 u121 u122 u123 u124 u125 u126 u127 u128 u129 u130 u131 u132 u133 u134 u135 u136 u137 u138 u139 u140 u141 u142 u143 u144 u145 u146 u147 u148 u149 u150 u151 u152 u153 u154 u155 u156 u157 u158 u159 u160 u161 u162 u163 u164 u165 u166 u167 u168 u169 u170 u171 u172 u173 u174 u175 u176 u177 u178 u179 u180 u181 u182 u183 u184 u185 u186 u187 u188 u189 u190 u191 u192 u193 u194 u195 u196 u197 u198 u199 u200 u201 u202 u203 u204 u205 u206 u207 u208 u209 u210 u211 u212 u213 u214 u215 u216 u217 u218 u219 u220 u221 u222 u223 u224 u225 u226 u227 u228 u229 u230 u231 u232 u233 u234 u235 u236 u237 u238 u239 u240 u241 u242 u243 u244 u245 u246 u247 u248 u249 u250 u251 u252 u253 u254 u255 u256 u257 u258 u259 u260 u261 u262 u263 u264 u265 u266 u267 u268 u269 u270 u271 u272 u273 u274 u275 u276 u277 u278 : Value) {w : World} {gc gr gl gd n kk ck rk : Nat} {lk : Int} (dk : Bool) (hk : kk < n) (hn : n ≤ 4) (y1 : w.cell? ⟨gc, kk, none⟩ = some (.int .i64 ck)) (y2 : w.cell? ⟨gr, kk, none⟩ = some (.int .i64 rk)) (y3 : w.cell? ⟨gl, kk, none⟩ = some (.int .i64 lk)) (y4 : w.cell? ⟨gd, kk, none⟩ = some (.bool dk)) {Q : Exit → Act → World → Prop}
    (hQ : ∀ (x169 x170 x171 x172 x173 x174 x175 x176 x177 x178 x179 x180 x181 x182 x183 x184 x185 x186 x187 x188 : Value) (g : Nat) (wx : World), w.heap.size ≤ g ∧ Blk wx g 28 #[.bool false, .int .i64 0, .int .i64 lk, .bool (dk && decide (rk = ck))] ∧ Below w.heap.size w wx → Q .normal ⟨#[u0, u1, u2, u3, u4, u5, u6, u7, .slice (some ⟨gc, 0, none⟩) n n, .slice (some ⟨gr, 0, none⟩) n n, .slice (some ⟨gl, 0, none⟩) n n, .slice (some ⟨gd, 0, none⟩) n n, u12, u13, u14, u15, u16, u17, .int .i64 (kk : Nat), .pointer (some ⟨g, 0, none⟩), u20, u21, u22, u23, u24, u25, u26, u27, u28, u29, u30, u31, u32, u33, u34, u35, u36, u37, u38, u39, u40, u41, u42, u43, u44, u45, u46, u47, u48, u49, u50, u51, u52, u53, u54, u55, u56, u57, u58, u59, u60, u61, u62, u63, u64, u65, u66, u67, u68, u69, u70, u71, u72, u73, u74, u75, u76, u77, u78, u79, u80, u81, u82, u83, u84, u85, u86, u87, u88, u89, u90, u91, u92, u93, u94, u95, u96, u97, u98, u99, u100, u101, u102, u103, u104, u105, u106, u107, u108, u109, u110, u111, u112, u113, u114, u115, u116, u117, u118, u119, u120, u121, u122, u123, u124, u125, u126, u127, u128, u129, u130, u131, u132, u133, u134, u135, u136, u137, u138, u139, u140, u141, u142, u143, u144, u145, u146, u147, u148, u149, u150, u151, u152, u153, u154, u155, u156, u157, u158, u159, u160, u161, u162, u163, u164, u165, u166, u167, u168, x169, x170, x171, x172, x173, x174, x175, x176, x177, x178, x179, x180, x181, x182, x183, x184, x185, x186, x187, x188, u189, u190, u191, u192, u193, u194, u195, u196, u197, u198, u199, u200, u201, u202, u203, u204, u205, u206, u207, u208, u209, u210, u211, u212, u213, u214, u215, u216, u217, u218, u219, u220, u221, u222, u223, u224, u225, u226, u227, u228, u229, u230, u231, u232, u233, u234, u235, u236, u237, u238, u239, u240, u241, u242, u243, u244, u245, u246, u247, u248, u249, u250, u251, u252, u253, u254, u255, u256, u257, u258, u259, u260, u261, u262, u263, u264, u265, u266, u267, u268, u269, u270, u271, u272, u273, u274, u275, u276, u277, u278], []⟩ wx) :
    Code.wp Try.prog ((Try.f5.body.bind (regionN 34)).getD .skip) Q ⟨#[u0, u1, u2, u3, u4, u5, u6, u7, .slice (some ⟨gc, 0, none⟩) n n, .slice (some ⟨gr, 0, none⟩) n n, .slice (some ⟨gl, 0, none⟩) n n, .slice (some ⟨gd, 0, none⟩) n n, u12, u13, u14, u15, u16, u17, .int .i64 (kk : Nat), u19, u20, u21, u22, u23, u24, u25, u26, u27, u28, u29, u30, u31, u32, u33, u34, u35, u36, u37, u38, u39, u40, u41, u42, u43, u44, u45, u46, u47, u48, u49, u50, u51, u52, u53, u54, u55, u56, u57, u58, u59, u60, u61, u62, u63, u64, u65, u66, u67, u68, u69, u70, u71, u72, u73, u74, u75, u76, u77, u78, u79, u80, u81, u82, u83, u84, u85, u86, u87, u88, u89, u90, u91, u92, u93, u94, u95, u96, u97, u98, u99, u100, u101, u102, u103, u104, u105, u106, u107, u108, u109, u110, u111, u112, u113, u114, u115, u116, u117, u118, u119, u120, u121, u122, u123, u124, u125, u126, u127, u128, u129, u130, u131, u132, u133, u134, u135, u136, u137, u138, u139, u140, u141, u142, u143, u144, u145, u146, u147, u148, u149, u150, u151, u152, u153, u154, u155, u156, u157, u158, u159, u160, u161, u162, u163, u164, u165, u166, u167, u168, u169, u170, u171, u172, u173, u174, u175, u176, u177, u178, u179, u180, u181, u182, u183, u184, u185, u186, u187, u188, u189, u190, u191, u192, u193, u194, u195, u196, u197, u198, u199, u200, u201, u202, u203, u204, u205, u206, u207, u208, u209, u210, u211, u212, u213, u214, u215, u216, u217, u218, u219, u220, u221, u222, u223, u224, u225, u226, u227, u228, u229, u230, u231, u232, u233, u234, u235, u236, u237, u238, u239, u240, u241, u242, u243, u244, u245, u246, u247, u248, u249, u250, u251, u252, u253, u254, u255, u256, u257, u258, u259, u260, u261, u262, u263, u264, u265, u266, u267, u268, u269, u270, u271, u272, u273, u274, u275, u276, u277, u278], []⟩ w := by
  cases dk
  · exact pick34_false _ _ _ _ _ _ _ _ _ _ _ _ _ _ _ _ _ _ _ _ _ _ _ _ _ _ _ _ _ _ _ _ _ _ _ _ _ _ _ _ _ _ _ _ _ _ _ _ _ _ _ _ _ _ _ _ _ _ _ _ _ _ _ _ _ _ _ _ _ _ _ _ _ _ _ _ _ _ _ _ _ _ _ _ _ _ _ _ _ _ _ _ _ _ _ _ _ _ _ _ _ _ _ _ _ _ _ _ _ _ _ _ _ _ _ _ _ _ _ _ _ _ _ _ _ _ _ _ _ _ _ _ _ _ _ _ _ _ _ _ _ _ _ _ _ _ _ _ _ _ _ _ _ _ _ _ _ _ _ _ _ _ _ _ _ _ _ _ _ _ _ _ _ _ _ _ _ _ _ _ _ _ _ _ _ _ _ _ _ _ _ _ _ _ _ _ _ _ _ _ _ _ _ _ _ _ _ _ _ _ _ _ _ _ _ _ _ _ _ _ _ _ _ _ _ _ _ _ _ _ _ _ _ _ _ _ _ _ _ _ _ _ _ _ _ _ _ _ _ _ _ _ _ _ _ _ _ _ _ _ _ _ _ _ _ _ _ _ _ _ _ _ _ _ hk hn y1 y2 y3 y4 hQ
  · exact pick34_true _ _ _ _ _ _ _ _ _ _ _ _ _ _ _ _ _ _ _ _ _ _ _ _ _ _ _ _ _ _ _ _ _ _ _ _ _ _ _ _ _ _ _ _ _ _ _ _ _ _ _ _ _ _ _ _ _ _ _ _ _ _ _ _ _ _ _ _ _ _ _ _ _ _ _ _ _ _ _ _ _ _ _ _ _ _ _ _ _ _ _ _ _ _ _ _ _ _ _ _ _ _ _ _ _ _ _ _ _ _ _ _ _ _ _ _ _ _ _ _ _ _ _ _ _ _ _ _ _ _ _ _ _ _ _ _ _ _ _ _ _ _ _ _ _ _ _ _ _ _ _ _ _ _ _ _ _ _ _ _ _ _ _ _ _ _ _ _ _ _ _ _ _ _ _ _ _ _ _ _ _ _ _ _ _ _ _ _ _ _ _ _ _ _ _ _ _ _ _ _ _ _ _ _ _ _ _ _ _ _ _ _ _ _ _ _ _ _ _ _ _ _ _ _ _ _ _ _ _ _ _ _ _ _ _ _ _ _ _ _ _ _ _ _ _ _ _ _ _ _ _ _ _ _ _ _ _ _ _ _ _ _ _ _ _ _ _ _ _ _ _ _ _ _ hk hn y1 y2 y3 y4 hQ
set_option maxRecDepth 20000 in
set_option maxHeartbeats 4000000 in
theorem pick_inner (u0 u1 u2 u3 u4 u5 u7 u12 u13 u14 u15 u16 u19 u20 u21 u22 u23 u24 u25 u26 u27 u28 u29 u30 u31 u32 u33 u34 u35 u36 u37 u38 u39 u40 u41 u42 u43 u44 u45 u46 u47 u48 u49 u50 u51 u52 u53 u54 u55 u56 u57 u58 u59 u60 u61 u62 u63 u64 u65 u66 u67 u68 u69 u70 u71 u72 u73 u74 u75 u76 u77 u78 u79 u80 u81 u82 u83 u84 u85 u86 u87 u88 u89 u90 u91 u92 u93 u94 u95 u96 u97 u98 u99 u100 u101 u102 u103 u104 u105 u106 u107 u108 u109 u110 u111 u112 u113 u114 u115 u116 u117 u118 u119 u120 u121 u122 u123 u124 u125 u126 u127 u128 u129 u130 u131 u132 u133 u134 u135 u136 u137 u138 u139 u140 u141 u142 u143 u144 u145 u146 u147 u148 u149 u150 u151 u152 u153 u154 u155 u156 u157 u158 u159 u160 u161 u162 u163 u164 u165 u166 u167 u168 u169 u170 u171 u172 u173 u174 u175 u176 u177 u178 u179 u180 u181 u182 u183 u184 u185 u186 u187 u188 u189 u190 u191 u192 u193 u194 u195 u196 u197 u198 u199 u200 u201 u202 u203 u204 u205 u206 u207 u208 u209 u210 u211 u212 u213 u214 u215 u216 u217 u218 u219 u220 u221 u222 u223 u224 u225 u226 u227 u228 u229 u230 u231 u232 u233 u234 u235 u236 u237 u238 u239 u240 u241 u242 u243 u244 u245 u246 u247 u248 u249 u250 u251 u252 u253 u254 u255 u256 u257 u258 u259 u260 u261 u262 u263 u264 u265 u266 u267 u268 u269 u270 u271 u272 u273 u274 u275 u276 u277 u278 : Value) {w w9 : World} {gc gr gl gd gi n ci kk d : Nat} {B : Option Addr} {lv : Value} {l : List Pr} {us : List SV} {ins : List (List Ev2)} {c r : Nat → Nat} {lo : Nat → Int} {dn : Nat → Bool} (hS : Ps w gc gr gl gd n lv (.slice (some ⟨gi, 0, none⟩) n ci) l us ins c r lo dn) (hO : Own w w9.heap.size 28 4 rowH (.slice B kk d) (rm kk (hdOf ins r c lo dn))) (hb : Below w9.heap.size w9 w) (hlt : kk < n) (hu : us.length = n) (hn4 : n ≤ 4) (hrc : r kk ≤ c kk ∧ c kk ≤ lenf ins kk) {Q : Exit → Act → World → Prop}
    (hQ : ∀ (x19 x163 x164 x165 x166 x167 x168 x169 x170 x171 x172 x173 x174 x175 x176 x177 x178 x179 x180 x181 x182 x183 x184 x185 x186 x187 x188 x189 x190 x191 x192 x193 x194 x195 x196 x197 x198 x199 x200 x201 x202 x203 x204 x205 x206 x207 x208 x209 x210 x211 x212 x213 x214 : Value) (v : Value) (wx : World), Own wx w9.heap.size 28 4 rowH v (rm (kk + 1) (hdOf ins r c lo dn)) ∧ Below w9.heap.size w9 wx → Q .normal ⟨#[u0, u1, u2, u3, u4, u5, .slice (some ⟨gi, 0, none⟩) n ci, u7, .slice (some ⟨gc, 0, none⟩) n n, .slice (some ⟨gr, 0, none⟩) n n, .slice (some ⟨gl, 0, none⟩) n n, .slice (some ⟨gd, 0, none⟩) n n, u12, u13, u14, u15, u16, v, .int .i64 ((kk + 1 : Nat) : Int), x19, u20, u21, u22, u23, u24, u25, u26, u27, u28, u29, u30, u31, u32, u33, u34, u35, u36, u37, u38, u39, u40, u41, u42, u43, u44, u45, u46, u47, u48, u49, u50, u51, u52, u53, u54, u55, u56, u57, u58, u59, u60, u61, u62, u63, u64, u65, u66, u67, u68, u69, u70, u71, u72, u73, u74, u75, u76, u77, u78, u79, u80, u81, u82, u83, u84, u85, u86, u87, u88, u89, u90, u91, u92, u93, u94, u95, u96, u97, u98, u99, u100, u101, u102, u103, u104, u105, u106, u107, u108, u109, u110, u111, u112, u113, u114, u115, u116, u117, u118, u119, u120, u121, u122, u123, u124, u125, u126, u127, u128, u129, u130, u131, u132, u133, u134, u135, u136, u137, u138, u139, u140, u141, u142, u143, u144, u145, u146, u147, u148, u149, u150, u151, u152, u153, u154, u155, u156, u157, u158, u159, u160, u161, u162, x163, x164, x165, x166, x167, x168, x169, x170, x171, x172, x173, x174, x175, x176, x177, x178, x179, x180, x181, x182, x183, x184, x185, x186, x187, x188, x189, x190, x191, x192, x193, x194, x195, x196, x197, x198, x199, x200, x201, x202, x203, x204, x205, x206, x207, x208, x209, x210, x211, x212, x213, x214, u215, u216, u217, u218, u219, u220, u221, u222, u223, u224, u225, u226, u227, u228, u229, u230, u231, u232, u233, u234, u235, u236, u237, u238, u239, u240, u241, u242, u243, u244, u245, u246, u247, u248, u249, u250, u251, u252, u253, u254, u255, u256, u257, u258, u259, u260, u261, u262, u263, u264, u265, u266, u267, u268, u269, u270, u271, u272, u273, u274, u275, u276, u277, u278], []⟩ wx) :
    Code.wp Try.prog ((Try.f5.body.bind (loopN 32)).getD .skip) Q ⟨#[u0, u1, u2, u3, u4, u5, .slice (some ⟨gi, 0, none⟩) n ci, u7, .slice (some ⟨gc, 0, none⟩) n n, .slice (some ⟨gr, 0, none⟩) n n, .slice (some ⟨gl, 0, none⟩) n n, .slice (some ⟨gd, 0, none⟩) n n, u12, u13, u14, u15, u16, .slice B kk d, .int .i64 (kk : Nat), u19, u20, u21, u22, u23, u24, u25, u26, u27, u28, u29, u30, u31, u32, u33, u34, u35, u36, u37, u38, u39, u40, u41, u42, u43, u44, u45, u46, u47, u48, u49, u50, u51, u52, u53, u54, u55, u56, u57, u58, u59, u60, u61, u62, u63, u64, u65, u66, u67, u68, u69, u70, u71, u72, u73, u74, u75, u76, u77, u78, u79, u80, u81, u82, u83, u84, u85, u86, u87, u88, u89, u90, u91, u92, u93, u94, u95, u96, u97, u98, u99, u100, u101, u102, u103, u104, u105, u106, u107, u108, u109, u110, u111, u112, u113, u114, u115, u116, u117, u118, u119, u120, u121, u122, u123, u124, u125, u126, u127, u128, u129, u130, u131, u132, u133, u134, u135, u136, u137, u138, u139, u140, u141, u142, u143, u144, u145, u146, u147, u148, u149, u150, u151, u152, u153, u154, u155, u156, u157, u158, u159, u160, u161, u162, u163, u164, u165, u166, u167, u168, u169, u170, u171, u172, u173, u174, u175, u176, u177, u178, u179, u180, u181, u182, u183, u184, u185, u186, u187, u188, u189, u190, u191, u192, u193, u194, u195, u196, u197, u198, u199, u200, u201, u202, u203, u204, u205, u206, u207, u208, u209, u210, u211, u212, u213, u214, u215, u216, u217, u218, u219, u220, u221, u222, u223, u224, u225, u226, u227, u228, u229, u230, u231, u232, u233, u234, u235, u236, u237, u238, u239, u240, u241, u242, u243, u244, u245, u246, u247, u248, u249, u250, u251, u252, u253, u254, u255, u256, u257, u258, u259, u260, u261, u262, u263, u264, u265, u266, u267, u268, u269, u270, u271, u272, u273, u274, u275, u276, u277, u278], []⟩ w := by
  have HQ := Lib.hid hQ; clear hQ
  obtain ⟨l0, hl, hu0, hu1, hu2⟩ := info_parts (P := Try.prog) (e := 28) (z := .agg #[.bool false, .int .i64 0, .int .i64 0, .bool false]) (size := 4) (bytes := 32) (by kernel_rfl)
  obtain ⟨y1, y2, y3, y4⟩ := hS.cells hlt
  obtain ⟨B2, cb2, y5, yt⟩ := hS.row hu hlt
  have hsn := rm_succ kk (hdOf ins r c lo dn)
  obtain ⟨hd, hhd⟩ : ∃ h, h = hdOf ins r c lo dn kk := ⟨_, rfl⟩
  rw [← hhd] at hsn
  have hhd2 := hhd
  unfold hdOf at hhd2
  clear hhd
  generalize r kk = rk at *
  generalize c kk = ck at *
  generalize lo kk = lk at *
  generalize dn kk = dk at *
  have KI := Lib.hid (And.intro hO (And.intro hb (And.intro hS (And.intro yt (And.intro hhd2 hsn))))); clear hO hb hS yt hhd2 hsn
  have KY := Lib.hid (And.intro y1 (And.intro y2 (And.intro y3 (And.intro y4 y5)))); clear y1 y2 y3 y4 y5
  have HU := Lib.hid hu; clear hu
  conv => arg 2; whnf
  go_upto_region 34 with fail
  refine wp_of_eq (c' := ((Try.f5.body.bind (regionN 34)).getD .skip)) ?_ (by kernel_rfl)
  refine pick34 _ _ _ _ _ _ _ _ _ _ _ _ _ _ _ _ _ _ _ _ _ _ _ _ _ _ _ _ _ _ _ _ _ _ _ _ _ _ _ _ _ _ _ _ _ _ _ _ _ _ _ _ _ _ _ _ _ _ _ _ _ _ _ _ _ _ _ _ _ _ _ _ _ _ _ _ _ _ _ _ _ _ _ _ _ _ _ _ _ _ _ _ _ _ _ _ _ _ _ _ _ _ _ _ _ _ _ _ _ _ _ _ _ _ _ _ _ _ _ _ _ _ _ _ _ _ _ _ _ _ _ _ _ _ _ _ _ _ _ _ _ _ _ _ _ _ _ _ _ _ _ _ _ _ _ _ _ _ _ _ _ _ _ _ _ _ _ _ _ _ _ _ _ _ _ _ _ _ _ _ _ _ _ _ _ _ _ _ _ _ _ _ _ _ _ _ _ _ _ _ _ _ _ _ _ _ _ _ _ _ _ _ _ _ _ _ _ _ _ _ _ _ _ _ _ _ _ _ _ _ _ _ _ _ _ _ _ _ _ _ _ _ _ _ _ _ _ _ _ _ _ _ _ _ _ _ _ _ _ _ _ _ _ _ _ _ _ _ _ _ _ _ _ _ dk hlt hn4 KY.out.1 KY.out.2.1 KY.out.2.2.1 KY.out.2.2.2.1 (fun _ _ _ _ _ _ _ _ _ _ _ _ _ _ _ _ _ _ _ _ g wx hR => ?_)
  obtain ⟨hg, hB, hbW⟩ := hR
  have KJ := Lib.hid (And.intro hB hbW); clear hB hbW
  go_upto_region 35 with fail
  refine wp_of_eq (c' := ((Try.f5.body.bind (regionN 35)).getD .skip)) ?_ (by kernel_rfl)
  refine pick35 _ _ _ _ _ _ _ _ _ _ _ _ _ _ _ _ _ _ _ _ _ _ _ _ _ _ _ _ _ _ _ _ _ _ _ _ _ _ _ _ _ _ _ _ _ _ _ _ _ _ _ _ _ _ _ _ _ _ _ _ _ _ _ _ _ _ _ _ _ _ _ _ _ _ _ _ _ _ _ _ _ _ _ _ _ _ _ _ _ _ _ _ _ _ _ _ _ _ _ _ _ _ _ _ _ _ _ _ _ _ _ _ _ _ _ _ _ _ _ _ _ _ _ _ _ _ _ _ _ _ _ _ _ _ _ _ _ _ _ _ _ _ _ _ _ _ _ _ _ _ _ _ _ _ _ _ _ _ _ _ _ _ _ _ _ _ _ _ _ _ _ _ _ _ _ _ _ _ _ _ _ _ _ _ _ _ _ _ _ _ _ _ _ _ _ _ _ _ _ _ _ _ _ _ _ _ _ _ _ _ _ _ _ _ _ _ _ _ _ _ _ _ _ _ _ _ _ _ _ _ _ _ _ _ _ _ _ _ _ _ _ _ _ _ _ _ _ _ _ _ _ _ _ _ _ _ _ _ _ _ _ _ _ _ _ _ _ _ _ _ _ _ _ _ _ _ hlt (cell_at KY.out.1 KJ.out.2) (cell_at KY.out.2.1 KJ.out.2) (fun _ _ _ _ _ _ _ _ w4 hb3 => ?_)
  have hB4 := KJ.out.1.later hb3
  have hb4 := bt KJ.out.2 hb3
  obtain ⟨q0, q1, q2, q3⟩ : w4.cell? ⟨g, 0, none⟩ = some (.bool false) ∧ w4.cell? ⟨g, 1, none⟩ = some (.int .i64 0) ∧ w4.cell? ⟨g, 2, none⟩ = some (.int .i64 lk) ∧ w4.cell? ⟨g, 3, none⟩ = some (.bool (dk && decide (rk = ck))) := ⟨hB4.cell 0, hB4.cell 1, hB4.cell 2, hB4.cell 3⟩
  have f0 := hB4.frozen 0
  have KL := Lib.hid (And.intro hB4 hb4); clear hB4 hb4 hb3
  go_upto_if 197 with fail
  go_cut [] from 163 to 214 (fun wx => Blk wx g 28 #[.bool hd.1, .int .i64 hd.2.1, .int .i64 hd.2.2.1, .bool hd.2.2.2] ∧ Below w.heap.size w wx)
  case first =>
    by_cases hlt3 : rk < ck
    · rw [decide_eq_true hlt3]
      obtain ⟨ge, rfl, ztt⟩ := KI.out.2.2.2.1 rk (by omega)
      have hH : hd = (true, tmf ins kk rk, lk, dk && decide (rk = ck)) := by rw [KI.out.2.2.2.2.1, decide_eq_true hlt3, if_pos hlt3]
      generalize tmf ins kk rk = tm at *
      have HH := Lib.hid (And.intro hH ztt); clear hH ztt
      go_upto_region 37 with fail
      have hB5 := KL.out.1.set_ 0 (.bool true)
      have hb5 := KL.out.2.setCell (p := ⟨g, 0, none⟩) hg (.bool true)
      generalize w4.setCell ⟨g, 0, none⟩ (.bool true) = w5 at *
      have KK := Lib.hid (And.intro hB5 hb5); clear hB5 hb5 q0 q1 q2 q3 f0
      refine wp_of_eq (c' := ((Try.f5.body.bind (regionN 37)).getD .skip)) ?_ (by kernel_rfl)
      refine pick37 _ _ _ _ _ _ _ _ _ _ _ _ _ _ _ _ _ _ _ _ _ _ _ _ _ _ _ _ _ _ _ _ _ _ _ _ _ _ _ _ _ _ _ _ _ _ _ _ _ _ _ _ _ _ _ _ _ _ _ _ _ _ _ _ _ _ _ _ _ _ _ _ _ _ _ _ _ _ _ _ _ _ _ _ _ _ _ _ _ _ _ _ _ _ _ _ _ _ _ _ _ _ _ _ _ _ _ _ _ _ _ _ _ _ _ _ _ _ _ _ _ _ _ _ _ _ _ _ _ _ _ _ _ _ _ _ _ _ _ _ _ _ _ _ _ _ _ _ _ _ _ _ _ _ _ _ _ _ _ _ _ _ _ _ _ _ _ _ _ _ _ _ _ _ _ _ _ _ _ _ _ _ _ _ _ _ _ _ _ _ _ _ _ _ _ _ _ _ _ _ _ _ _ _ _ _ _ _ _ _ _ _ _ _ _ _ _ _ _ _ _ _ _ _ _ _ _ _ _ _ _ _ _ _ _ _ _ _ _ _ _ _ _ _ _ _ _ _ _ _ _ _ _ _ _ _ _ _ _ _ _ _ _ _ _ _ _ _ _ _ _ _ _ _ _ hlt (show rk < lenf ins kk by omega) (fun e => by have := World.block_lt_of_cell? w _ KY.out.2.2.2.2; simp at this; omega) (fun e => by have := World.block_lt_of_cell? w _ KY.out.2.1; simp at this; omega) (fun e => by have := World.block_lt_of_cell? w _ HH.out.2; simp at this; omega) (KK.out.1.frozen 1) (KK.out.1.cell 1) (cell_at KY.out.2.2.2.2 KK.out.2) (cell_at KY.out.2.1 KK.out.2) (cell_at HH.out.2 KK.out.2) (fun _ _ _ _ _ _ _ _ _ _ _ _ wx hw => ?_)
      subst hw
      go_wp2_with fail
      go_meet
      rw [HH.out.1]
      exact ⟨(blk_drew KK.out.1).set_ 1 _, (below_drew KK.out.2).setCell (p := ⟨g, 1, none⟩) hg _⟩
    · rw [decide_eq_false hlt3]
      have hH : hd = (false, 0, lk, dk && decide (rk = ck)) := by rw [KI.out.2.2.2.2.1, decide_eq_false hlt3, if_neg hlt3]
      go_wp2_with fail
      go_meet
      rw [hH]
      exact KL.out
  case rest =>
    clear q0 q1 q2 q3 f0 hrc KL
    obtain ⟨hB, hb⟩ := hcut
    obtain ⟨w6, hw6⟩ : ∃ x, x = wc := ⟨_, rfl⟩
    subst hw6
    obtain ⟨q0, q1, q2, q3⟩ : w6.cell? ⟨g, 0, none⟩ = some (.bool hd.1) ∧ w6.cell? ⟨g, 1, none⟩ = some (.int .i64 hd.2.1) ∧ w6.cell? ⟨g, 2, none⟩ = some (.int .i64 hd.2.2.1) ∧ w6.cell? ⟨g, 3, none⟩ = some (.bool hd.2.2.2) := ⟨hB.cell 0, hB.cell 1, hB.cell 2, hB.cell 3⟩
    have KM := Lib.hid (And.intro hB hb); clear hB hb
    have h24 : (kk + 1) ≤ maxLen ∧ (kk + 1) * 32 ≤ 140737488355328 := by unfold maxLen; omega
    have H24 := Lib.hid h24; clear h24
    go_wp2_with (at_builtin; refine wpList_append_own _ rfl (.tmp 211) (.tmp 213) 22 rfl w9.heap.size 28 l0 (.agg #[.bool false, .int .i64 0, .int .i64 0, .bool false]) 4 32 Try.underlying22 hl hu0 hu1 hu2 rfl (by decide) _ kk _ rfl (by have := KI.out.1.later (bt KM.out.2 (ba _ (.cells #[.bool hd.1, .int .i64 hd.2.1, .int .i64 hd.2.2.1, .bool hd.2.2.2] 28))); unfold Own at this; rw [rm_len] at this; exact this) ⟨_, 0, none⟩ 1 1 (rowH hd) rfl rfl (new_cells rfl _ #[.bool hd.1, .int .i64 hd.2.1, .int .i64 hd.2.2.1, .bool hd.2.2.2]) (by simp [Value.oneCell']) H24.out.1 H24.out.2 (by have := KI.out.2.1.size; have := KM.out.2.size; simp only [World.size_alloc]; omega) ?_; intro v5 w5 hO5 hg5 _; obtain ⟨A5, n5, c5, rfl⟩ := own_shape hO5)
    exact HQ.out _ _ _ _ _ _ _ _ _ _ _ _ _ _ _ _ _ _ _ _ _ _ _ _ _ _ _ _ _ _ _ _ _ _ _ _ _ _ _ _ _ _ _ _ _ _ _ _ _ _ _ _ _ _ _ ⟨by rw [KI.out.2.2.2.2.2]; exact Own.more (by rw [rm_len]) hO5, own_past (bt KI.out.2.1 (bt KM.out.2 (ba _ (.cells #[.bool hd.1, .int .i64 hd.2.1, .int .i64 hd.2.2.1, .bool hd.2.2.2] 28)))) hg5 KI.out.1⟩
end Go.Proofs.Ytcggkbopipnnoaa
