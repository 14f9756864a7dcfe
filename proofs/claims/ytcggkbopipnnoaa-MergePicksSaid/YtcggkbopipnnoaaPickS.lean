/- MergePicks: the law's switch. -/
import Derived.Test.YtcggkbopipnnoaaPickI
namespace Go.Proofs.Ytcggkbopipnnoaa
open Go.ChangeShapes Go.WideShapes Go.ChangeAt Go.RowKit
set_option linter.unusedVariables false
set_option linter.unusedSimpArgs false
/-- Block n. -/
def blockN (n : Nat) : Code → Option Code
  | .seq a b => match blockN n a with
    | some c => some c
    | none => blockN n b
  | .cond _ a b => match blockN n a with
    | some c => some c
    | none => blockN n b
  | .loop c => blockN n c
  | .block m c => if m = n then some (.block m c) else blockN n c
  | .scope c => blockN n c
  | _ => none
set_option maxRecDepth 20000 in
set_option maxHeartbeats 4000000 in
theorem pick_switch (u0 u1 u2 u3 u4 u5 u7 u12 u13 u17 u18 u19 u20 u21 u22 u23 u24 u25 u26 u27 u28 u29 u30 u31 u32 u33 u34 u35 u36 u37 u38 u39 u40 u41 u42 u43 u44 u45 u46 u47 u48 u49 u50 u51 u52 u53 u54 u55 u56 u57 u58 u59 u60 u61 u62 u63 u64 u65 u66 u67 u68 u69 u70 u71 u72 u73 u74 u75 u76 u77 u78 u79 u80 u81 u82 u83 u84 u85 u86 u87 u88 u89 u90 u91 u92 u93 u94 u95 u96 u97 u98 u99 u100 u101 u102 u103 u104 u105 u106 u107 u108 u109 u110 u111 u112 u113 u114 u115 u116 u117 u118 u119 u120 u121 u122 u123 u124 u125 u126 u127 u128 u129 u130 u131 u132 u133 u134 u135 u136 u137 u138 u139 u140 u141 u142 u143 u144 u145 u146 u147 u148 u149 u150 u151 u152 u153 u154 u155 u156 u157 u158 u159 u160 u161 u162 u163 u164 u165 u166 u167 u168 u169 u170 u171 u172 u173 u174 u175 u176 u177 u178 u179 u180 u181 u182 u183 u184 u185 u186 u187 u188 u189 u190 u191 u192 u193 u194 u195 u196 u197 u198 u199 u200 u201 u202 u203 u204 u205 u206 u207 u208 u209 u210 u211 u212 u213 u214 u215 u216 u217 u218 u219 u220 u221 u222 u223 u224 u225 u226 u227 u228 u229 u230 u231 u232 u233 u234 u235 u236 u237 u238 u239 u240 u241 u242 u243 u244 u245 u246 u247 u248 u249 u250 u251 u252 u253 u254 u255 u256 u257 u258 u259 u260 u261 u262 u263 u264 u265 u266 u267 u268 u269 u270 u271 u272 u273 u274 u275 u276 u277 u278 : Value) {w wo : World} {gc gr gl gd gi n ci i got mm k d : Nat} {nx : Int} {lv : Value} {l : List Pr} {us : List SV} {ins : List (List Ev2)} {c : Nat → Nat} {lo : Nat → Int} {dn : Nat → Bool} (hC : Core ins l c lo dn got) (hS : Ps w gc gr gl gd n lv (.slice (some ⟨gi, 0, none⟩) n ci) l us ins c (rd l got) lo dn) (hP : Past n mm i dn) (hb : Below wo.heap.size wo w) (hun : 0 < n) (hu : us.length = n) (hui : n = ins.length) (hA : AllOf ins l) (h6 : ∀ L ∈ ins, L.length ≤ 6) (hk : k < n) (hd3 : d ≤ 3) (hmi : mm ≤ i → d = 3 ∧ k = i % n) (hnx : nx = if c k < lenf ins k then tmf ins k (c k) else 1000) (hgc : wo.heap.size ≤ gc) (hgr : wo.heap.size ≤ gr) (hgl : wo.heap.size ≤ gl) (hgd : wo.heap.size ≤ gd) {Q : Exit → Act → World → Prop}
    (hQ : ∀ (x100 x101 x102 x103 x104 x105 x106 x107 x108 x109 x110 x111 x112 x113 x114 x115 x116 x117 x118 x119 x120 x121 x122 x123 x124 x125 x126 x127 x128 x129 x130 x131 x132 x133 x134 x135 x136 x137 x138 x139 x140 x141 x142 x143 x144 x145 x146 x147 x148 x149 x150 x151 x152 x153 x154 x155 x156 x157 x158 x159 x160 x161 x162 : Value) (c' : Nat → Nat) (lo' : Nat → Int) (dn' : Nat → Bool) (wx : World), Core ins l c' lo' dn' got ∧ Ps wx gc gr gl gd n lv (.slice (some ⟨gi, 0, none⟩) n ci) l us ins c' (rd l got) lo' dn' ∧ Past n mm (i + 1) dn' ∧ Below wo.heap.size wo wx → Q .normal ⟨#[u0, u1, u2, u3, u4, u5, .slice (some ⟨gi, 0, none⟩) n ci, u7, .slice (some ⟨gc, 0, none⟩) n n, .slice (some ⟨gr, 0, none⟩) n n, .slice (some ⟨gl, 0, none⟩) n n, .slice (some ⟨gd, 0, none⟩) n n, u12, u13, .int .i64 (k : Nat), .int .i64 (d : Nat), .int .i64 nx, u17, u18, u19, u20, u21, u22, u23, u24, u25, u26, u27, u28, u29, u30, u31, u32, u33, u34, u35, u36, u37, u38, u39, u40, u41, u42, u43, u44, u45, u46, u47, u48, u49, u50, u51, u52, u53, u54, u55, u56, u57, u58, u59, u60, u61, u62, u63, u64, u65, u66, u67, u68, u69, u70, u71, u72, u73, u74, u75, u76, u77, u78, u79, u80, u81, u82, u83, u84, u85, u86, u87, u88, u89, u90, u91, u92, u93, u94, u95, u96, u97, u98, u99, x100, x101, x102, x103, x104, x105, x106, x107, x108, x109, x110, x111, x112, x113, x114, x115, x116, x117, x118, x119, x120, x121, x122, x123, x124, x125, x126, x127, x128, x129, x130, x131, x132, x133, x134, x135, x136, x137, x138, x139, x140, x141, x142, x143, x144, x145, x146, x147, x148, x149, x150, x151, x152, x153, x154, x155, x156, x157, x158, x159, x160, x161, x162, u163, u164, u165, u166, u167, u168, u169, u170, u171, u172, u173, u174, u175, u176, u177, u178, u179, u180, u181, u182, u183, u184, u185, u186, u187, u188, u189, u190, u191, u192, u193, u194, u195, u196, u197, u198, u199, u200, u201, u202, u203, u204, u205, u206, u207, u208, u209, u210, u211, u212, u213, u214, u215, u216, u217, u218, u219, u220, u221, u222, u223, u224, u225, u226, u227, u228, u229, u230, u231, u232, u233, u234, u235, u236, u237, u238, u239, u240, u241, u242, u243, u244, u245, u246, u247, u248, u249, u250, u251, u252, u253, u254, u255, u256, u257, u258, u259, u260, u261, u262, u263, u264, u265, u266, u267, u268, u269, u270, u271, u272, u273, u274, u275, u276, u277, u278], []⟩ wx) :
    Code.wp Try.prog ((Try.f5.body.bind (blockN 2)).getD .skip) Q ⟨#[u0, u1, u2, u3, u4, u5, .slice (some ⟨gi, 0, none⟩) n ci, u7, .slice (some ⟨gc, 0, none⟩) n n, .slice (some ⟨gr, 0, none⟩) n n, .slice (some ⟨gl, 0, none⟩) n n, .slice (some ⟨gd, 0, none⟩) n n, u12, u13, .int .i64 (k : Nat), .int .i64 (d : Nat), .int .i64 nx, u17, u18, u19, u20, u21, u22, u23, u24, u25, u26, u27, u28, u29, u30, u31, u32, u33, u34, u35, u36, u37, u38, u39, u40, u41, u42, u43, u44, u45, u46, u47, u48, u49, u50, u51, u52, u53, u54, u55, u56, u57, u58, u59, u60, u61, u62, u63, u64, u65, u66, u67, u68, u69, u70, u71, u72, u73, u74, u75, u76, u77, u78, u79, u80, u81, u82, u83, u84, u85, u86, u87, u88, u89, u90, u91, u92, u93, u94, u95, u96, u97, u98, u99, u100, u101, u102, u103, u104, u105, u106, u107, u108, u109, u110, u111, u112, u113, u114, u115, u116, u117, u118, u119, u120, u121, u122, u123, u124, u125, u126, u127, u128, u129, u130, u131, u132, u133, u134, u135, u136, u137, u138, u139, u140, u141, u142, u143, u144, u145, u146, u147, u148, u149, u150, u151, u152, u153, u154, u155, u156, u157, u158, u159, u160, u161, u162, u163, u164, u165, u166, u167, u168, u169, u170, u171, u172, u173, u174, u175, u176, u177, u178, u179, u180, u181, u182, u183, u184, u185, u186, u187, u188, u189, u190, u191, u192, u193, u194, u195, u196, u197, u198, u199, u200, u201, u202, u203, u204, u205, u206, u207, u208, u209, u210, u211, u212, u213, u214, u215, u216, u217, u218, u219, u220, u221, u222, u223, u224, u225, u226, u227, u228, u229, u230, u231, u232, u233, u234, u235, u236, u237, u238, u239, u240, u241, u242, u243, u244, u245, u246, u247, u248, u249, u250, u251, u252, u253, u254, u255, u256, u257, u258, u259, u260, u261, u262, u263, u264, u265, u266, u267, u268, u269, u270, u271, u272, u273, u274, u275, u276, u277, u278], []⟩ w := by
  have HQ := Lib.hid hQ; clear hQ
  have KA := Lib.hid (And.intro hA (And.intro hui (And.intro h6 (And.intro hu hnx)))); clear hA hui h6 hu hnx
  have KR := Lib.hid (And.intro hC (And.intro hP hb)); clear hC hP hb
  have hki : k < ins.length := by have := KA.out.2.1; omega
  have hmd : d < 3 → i < mm := fun h => by
    rcases Nat.lt_or_ge i mm with h1 | h1
    · exact h1
    · have := (hmi h1).1; omega
  obtain ⟨y1, y2, y3, y4⟩ := hS.cells hk
  obtain ⟨B, cb, y5, _⟩ := hS.row KA.out.2.2.2.1 hk
  have hrc := KR.out.1.rc k hki
  have hlo := KR.out.1.lb k hki
  have hap := hS.apart
  have h6k : lenf ins k ≤ 6 := by rw [lenf_at hki]; exact KA.out.2.2.1 _ (List.getElem_mem hki)
  have KS := Lib.hid hS; clear hS
  have KY := Lib.hid (And.intro y1 (And.intro y2 (And.intro y3 (And.intro y4 y5)))); clear y1 y2 y3 y4 y5
  conv => arg 2; whnf
  rcases (by omega : d = 0 ∨ 0 < d) with rfl | hd0
  · have hP2 := KR.out.2.1.more (fun h => absurd (hmd (by omega)) (by omega))
    have HP2 := Lib.hid hP2; clear hP2 hmi hmd hap
    go_upto_region 22 with fail
    refine wp_of_eq (c' := ((Try.f5.body.bind (regionN 22)).getD .skip)) ?_ (by kernel_rfl)
    refine pick22z _ _ _ _ _ _ _ _ _ _ _ _ _ _ _ _ _ _ _ _ _ _ _ _ _ _ _ _ _ _ _ _ _ _ _ _ _ _ _ _ _ _ _ _ _ _ _ _ _ _ _ _ _ _ _ _ _ _ _ _ _ _ _ _ _ _ _ _ _ _ _ _ _ _ _ _ _ _ _ _ _ _ _ _ _ _ _ _ _ _ _ _ _ _ _ _ _ _ _ _ _ _ _ _ _ _ _ _ _ _ _ _ _ _ _ _ _ _ _ _ _ _ _ _ _ _ _ _ _ _ _ _ _ _ _ _ _ _ _ _ _ _ _ _ _ _ _ _ _ _ _ _ _ _ _ _ _ _ _ _ _ _ _ _ _ _ _ _ _ _ _ _ _ _ _ _ _ _ _ _ _ _ _ _ _ _ _ _ _ _ _ _ _ _ _ _ _ _ _ _ _ _ _ _ _ _ _ _ _ _ _ _ _ _ _ _ _ _ _ _ _ _ _ _ _ _ _ _ _ _ _ _ _ _ _ _ _ _ _ _ _ _ _ _ _ _ _ _ _ _ _ _ _ _ _ _ _ _ _ _ _ _ _ _ _ _ _ _ _ _ _ _ _ _ _ hk KY.out.1 KY.out.2.2.2.2 (fun _ _ _ _ _ _ _ _ _ _ _ _ _ _ wx2 hb2 => ?_)
    have hS2 := KS.out.later hb2
    have x1 := cell_at KY.out.1 hb2
    have f1 := (hS2.thawed hun k).1
    have KT := Lib.hid (And.intro hS2 (bt KR.out.2.2 hb2)); clear hS2 hb2
    by_cases h0 : c k < lenf ins k
    · have z6 : IntKind.i64.wrap ((c k : Int) + 1) = ((c k + 1 : Nat) : Int) := by
        rw [IntWalk.i64_in _ (by omega)]; simp
      have hR := KR.out.1.comes (k := k) h0
      have hR2 := KT.out.1.putCome k (c k + 1)
      have hb3 := KT.out.2.setCell (p := ⟨gc, k, none⟩) hgc (.int .i64 ((c k + 1 : Nat) : Int))
      have HR := Lib.hid (And.intro hR (And.intro hR2 hb3)); clear hR hR2 hb3
      rw [decide_eq_true h0]
      generalize hck : c k = ck at *
      go_wp2_with fail
      exact HQ.out _ _ _ _ _ _ _ _ _ _ _ _ _ _ _ _ _ _ _ _ _ _ _ _ _ _ _ _ _ _ _ _ _ _ _ _ _ _ _ _ _ _ _ _ _ _ _ _ _ _ _ _ _ _ _ _ _ _ _ _ _ _ _ _ _ _ _  ⟨HR.out.1, HR.out.2.1, HP2.out, HR.out.2.2⟩
    · rw [decide_eq_false h0]
      go_wp2_with fail
      exact HQ.out _ _ _ _ _ _ _ _ _ _ _ _ _ _ _ _ _ _ _ _ _ _ _ _ _ _ _ _ _ _ _ _ _ _ _ _ _ _ _ _ _ _ _ _ _ _ _ _ _ _ _ _ _ _ _ _ _ _ _ _ _ _ _ _ _ _ _  ⟨KR.out.1, KT.out.1, HP2.out, KT.out.2⟩
  · go_upto_region 22 with fail
    refine wp_of_eq (c' := ((Try.f5.body.bind (regionN 22)).getD .skip)) ?_ (by kernel_rfl)
    refine pick22n _ _ _ _ _ _ _ _ _ _ _ _ _ _ _ _ _ _ _ _ _ _ _ _ _ _ _ _ _ _ _ _ _ _ _ _ _ _ _ _ _ _ _ _ _ _ _ _ _ _ _ _ _ _ _ _ _ _ _ _ _ _ _ _ _ _ _ _ _ _ _ _ _ _ _ _ _ _ _ _ _ _ _ _ _ _ _ _ _ _ _ _ _ _ _ _ _ _ _ _ _ _ _ _ _ _ _ _ _ _ _ _ _ _ _ _ _ _ _ _ _ _ _ _ _ _ _ _ _ _ _ _ _ _ _ _ _ _ _ _ _ _ _ _ _ _ _ _ _ _ _ _ _ _ _ _ _ _ _ _ _ _ _ _ _ _ _ _ _ _ _ _ _ _ _ _ _ _ _ _ _ _ _ _ _ _ _ _ _ _ _ _ _ _ _ _ _ _ _ _ _ _ _ _ _ _ _ _ _ _ _ _ _ _ _ _ _ _ _ _ _ _ _ _ _ _ _ _ _ _ _ _ _ _ _ _ _ _ _ _ _ _ _ _ _ _ _ _ _ _ _ _ _ _ _ _ _ _ _ _ _ _ _ _ _ _ _ _ _ _ _ _ _ _ _ hd0 (fun _ _ _ _ _ _ _ _ _ _ _ _ _ _ wx2 hb2 => ?_)
    have hS2 := KS.out.later hb2
    have KT := Lib.hid (And.intro hS2 (bt KR.out.2.2 hb2)); clear hS2
    rcases (by omega : d = 2 ∨ d = 1 ∨ d = 3) with rfl | rfl | rfl
    · have hP2 := KR.out.2.1.more (fun h => absurd (hmd (by omega)) (by omega))
      have HP2 := Lib.hid hP2; clear hP2
      go_wp2_with fail
      exact HQ.out _ _ _ _ _ _ _ _ _ _ _ _ _ _ _ _ _ _ _ _ _ _ _ _ _ _ _ _ _ _ _ _ _ _ _ _ _ _ _ _ _ _ _ _ _ _ _ _ _ _ _ _ _ _ _ _ _ _ _ _ _ _ _ _ _ _ _  ⟨KR.out.1, KT.out.1, HP2.out, KT.out.2⟩
    · have hP2 := KR.out.2.1.more (fun h => absurd (hmd (by omega)) (by omega))
      have HP2 := Lib.hid hP2; clear hP2
      go_upto_region 25 with fail
      by_cases hr : rd l got k = c k
      · have y2' : wx2.cell? ⟨gr, k, none⟩ = some (.int .i64 (c k : Nat)) := by rw [← hr]; exact cell_at KY.out.2.1 hb2
        refine wp_of_eq (c' := ((Try.f5.body.bind (regionN 25)).getD .skip)) ?_ (by kernel_rfl)
        refine pick25y _ _ _ _ _ _ _ _ _ _ _ _ _ _ _ _ _ _ _ _ _ _ _ _ _ _ _ _ _ _ _ _ _ _ _ _ _ _ _ _ _ _ _ _ _ _ _ _ _ _ _ _ _ _ _ _ _ _ _ _ _ _ _ _ _ _ _ _ _ _ _ _ _ _ _ _ _ _ _ _ _ _ _ _ _ _ _ _ _ _ _ _ _ _ _ _ _ _ _ _ _ _ _ _ _ _ _ _ _ _ _ _ _ _ _ _ _ _ _ _ _ _ _ _ _ _ _ _ _ _ _ _ _ _ _ _ _ _ _ _ _ _ _ _ _ _ _ _ _ _ _ _ _ _ _ _ _ _ _ _ _ _ _ _ _ _ _ _ _ _ _ _ _ _ _ _ _ _ _ _ _ _ _ _ _ _ _ _ _ _ _ _ _ _ _ _ _ _ _ _ _ _ _ _ _ _ _ _ _ _ _ _ _ _ _ _ _ _ _ _ _ _ _ _ _ _ _ _ _ _ _ _ _ _ _ _ _ _ _ _ _ _ _ _ _ _ _ _ _ _ _ _ _ _ _ _ _ _ _ _ _ _ _ _ _ _ _ _ _ _ _ _ _ _ hk (cell_at KY.out.1 hb2) y2' (cell_at KY.out.2.2.1 hb2) (fun _ _ _ _ _ _ _ _ _ _ _ _ _ _ _ _ wx3 hb3 => ?_)
        have hS3 := KT.out.1.later hb3
        have x3 := (hS3.cells hk).2.2.1
        have f3 := (hS3.thawed hun k).2.2.1
        have KU := Lib.hid (And.intro hS3 (bt KT.out.2 hb3)); clear hS3 hb3 y2'
        by_cases hl : lo k < nx
        · have hnx2 : (c k < lenf ins k → lo k < tmf ins k (c k)) ∧ lo k < 1000 := by
            have hx := KA.out.2.2.2.2
            by_cases h1 : c k < lenf ins k
            · rw [if_pos h1] at hx
              have := (KA.out.1.lo k (c k) hki h1)
              exact ⟨fun _ => by omega, by omega⟩
            · rw [if_neg h1] at hx
              exact ⟨fun h => absurd h h1, by omega⟩
          have hR := KR.out.1.rises KA.out.1 (k := k) hr hnx2.1 hnx2.2
          have z7 : IntKind.i64.wrap (lo k + 1) = lo k + 1 := IntWalk.i64_in _ (by omega)
          have HR := Lib.hid (And.intro hR (And.intro (KU.out.1.putLow k (lo k + 1)) (KU.out.2.setCell (p := ⟨gl, k, none⟩) hgl (.int .i64 (lo k + 1))))); clear hR hnx2
          rw [decide_eq_true hl]
          generalize lo k = lk at *
          go_wp2_with fail
          exact HQ.out _ _ _ _ _ _ _ _ _ _ _ _ _ _ _ _ _ _ _ _ _ _ _ _ _ _ _ _ _ _ _ _ _ _ _ _ _ _ _ _ _ _ _ _ _ _ _ _ _ _ _ _ _ _ _ _ _ _ _ _ _ _ _ _ _ _ _  ⟨HR.out.1, HR.out.2.1, HP2.out, HR.out.2.2⟩
        · rw [decide_eq_false hl]
          go_wp2_with fail
          exact HQ.out _ _ _ _ _ _ _ _ _ _ _ _ _ _ _ _ _ _ _ _ _ _ _ _ _ _ _ _ _ _ _ _ _ _ _ _ _ _ _ _ _ _ _ _ _ _ _ _ _ _ _ _ _ _ _ _ _ _ _ _ _ _ _ _ _ _ _  ⟨KR.out.1, KU.out.1, HP2.out, KU.out.2⟩
      · skip
        refine wp_of_eq (c' := ((Try.f5.body.bind (regionN 25)).getD .skip)) ?_ (by kernel_rfl)
        refine pick25n _ _ _ _ _ _ _ _ _ _ _ _ _ _ _ _ _ _ _ _ _ _ _ _ _ _ _ _ _ _ _ _ _ _ _ _ _ _ _ _ _ _ _ _ _ _ _ _ _ _ _ _ _ _ _ _ _ _ _ _ _ _ _ _ _ _ _ _ _ _ _ _ _ _ _ _ _ _ _ _ _ _ _ _ _ _ _ _ _ _ _ _ _ _ _ _ _ _ _ _ _ _ _ _ _ _ _ _ _ _ _ _ _ _ _ _ _ _ _ _ _ _ _ _ _ _ _ _ _ _ _ _ _ _ _ _ _ _ _ _ _ _ _ _ _ _ _ _ _ _ _ _ _ _ _ _ _ _ _ _ _ _ _ _ _ _ _ _ _ _ _ _ _ _ _ _ _ _ _ _ _ _ _ _ _ _ _ _ _ _ _ _ _ _ _ _ _ _ _ _ _ _ _ _ _ _ _ _ _ _ _ _ _ _ _ _ _ _ _ _ _ _ _ _ _ _ _ _ _ _ _ _ _ _ _ _ _ _ _ _ _ _ _ _ _ _ _ _ _ _ _ _ _ _ _ _ _ _ _ _ _ _ _ _ _ _ _ _ _ _ _ _ _ _ _ hk hr (cell_at KY.out.1 hb2) (cell_at KY.out.2.1 hb2) (fun _ _ _ _ _ _ _ _ _ _ _ _ _ _ _ _ wx3 hb3 => ?_)
        have KU := Lib.hid (And.intro (KT.out.1.later hb3) (bt KT.out.2 hb3)); clear hb3
        go_wp2_with fail
        exact HQ.out _ _ _ _ _ _ _ _ _ _ _ _ _ _ _ _ _ _ _ _ _ _ _ _ _ _ _ _ _ _ _ _ _ _ _ _ _ _ _ _ _ _ _ _ _ _ _ _ _ _ _ _ _ _ _ _ _ _ _ _ _ _ _ _ _ _ _  ⟨KR.out.1, KU.out.1, HP2.out, KU.out.2⟩
    · have hR := KR.out.1.ends k
      have hP2 := (KR.out.2.1.up k).more (fun h => by rw [← (hmi h).2]; exact upd_at _ _ _)
      have hS12 := (KT.out.1.putCome k (lenf ins k)).putDone k true
      have hb12 := (KT.out.2.setCell (p := ⟨gc, k, none⟩) hgc (.int .i64 ((lenf ins k : Nat) : Int))).setCell (p := ⟨gd, k, none⟩) hgd (.bool true)
      have n1 : ¬ gc = gd := hap.2.1
      have n2 : ¬ gd = gc := fun e => hap.2.1 e.symm
      have x1 := cell_at KY.out.1 hb2
      have x4 := cell_at KY.out.2.2.2.1 hb2
      have x5 := cell_at KY.out.2.2.2.2 hb2
      obtain ⟨f1, f2, f3, f4⟩ := KT.out.1.thawed hun k
      have HR := Lib.hid (And.intro hR (And.intro hP2 (And.intro hS12 hb12)))
      clear hR hP2 hS12 hb12 hmi hmd hap hb2
      go_wp2_with fail
      exact HQ.out _ _ _ _ _ _ _ _ _ _ _ _ _ _ _ _ _ _ _ _ _ _ _ _ _ _ _ _ _ _ _ _ _ _ _ _ _ _ _ _ _ _ _ _ _ _ _ _ _ _ _ _ _ _ _ _ _ _ _ _ _ _ _ _ _ _ _  ⟨HR.out.1, HR.out.2.2.1, HR.out.2.1, HR.out.2.2.2⟩
end Go.Proofs.Ytcggkbopipnnoaa
