/- RingRises: the region that asks, a piece. -/
import Derived.Test.YtbbjlefldpgckaaRgS
import Derived.Test.YtbbjlefldpgckaaPiece
import Derived.Deep.RegionHeld3
namespace Go.Proofs.Ytbbjlefldpgckaa
open Go.ChangeShapes Go.WideShapes Go.ChangeAt Go.RowKit Go.Maps
open Ev (V3 rightV OkV)
set_option linter.unusedVariables false
set_option linter.unusedSimpArgs false
set_option maxRecDepth 20000

set_option maxRecDepth 20000 in
set_option maxHeartbeats 4000000 in
theorem rises24 (u0 u1 u2 u3 u5 u7 u10 u11 u12 u13 u14 u15 u16 u17 u18 u19 u20 u21 u22 u23 u24 u25 u26 u27 u28 u29 u30 u31 u32 u33 u34 u35 u36 u37 u38 u39 u40 u41 u42 u43 u44 u45 u46 u47 u48 u49 u50 u51 u52 u53 u54 u55 u56 u57 u58 u59 u60 u61 u62 u63 u64 u65 u66 u67 u68 u69 u70 u71 u72 u73 u74 u75 u76 u77 u78 u79 u80 u81 u82 u83 u84 u85 u86 u87 u88 u89 u90 u91 u92 u93 u94 u95 u96 u97 u98 u99 u100 u101 u102 u103 u104 u105 u106 u107 u108 u109 u110 u111 u112 u113 u114 u115 u116 u117 u118 u119 u120 u121 u122 u123 u124 u125 u126 u127 u128 u129 u130 u131 u132 u133 u134 u135 u136 u137 u138 u139 u140 u141 u142 u143 u144 u145 : Value) {w : World} {B d : Nat} {s : Rg} {E E' L L' wt : Int} (h : RS w B d s) (e1 : s.edge = E') (e2 : lowR s 1 = L') (e3 : waitR s 1 = wt) (hE : E ≤ E') (hL : L ≤ L') (hLE : L' ≤ E') (hw : wt = 0 → L' = E') {Q : Exit → Act → World → Prop}
    (hQ : ∀ (x107 x108 x109 x110 x111 x112 x113 x114 x115 x116 x117 x118 x119 x120 x121 x122 x123 x124 x125 x126 x127 x128 x129 x130 x131 x132 x133 x134 x135 x136 x137 x138 : Value)  (wx : World), Below w.heap.size w wx → Q .normal ⟨#[u0, u1, u2, u3, .pointer (some ⟨d, 0, none⟩), u5, .int .i64 1, u7, .int .i64 E, .int .i64 L, u10, u11, u12, u13, u14, u15, u16, u17, u18, u19, u20, u21, u22, u23, u24, u25, u26, u27, u28, u29, u30, u31, u32, u33, u34, u35, u36, u37, u38, u39, u40, u41, u42, u43, u44, u45, u46, u47, u48, u49, u50, u51, u52, u53, u54, u55, u56, u57, u58, u59, u60, u61, u62, u63, u64, u65, u66, u67, u68, u69, u70, u71, u72, u73, u74, u75, u76, u77, u78, u79, u80, u81, u82, u83, u84, u85, u86, u87, u88, u89, u90, u91, u92, u93, u94, u95, u96, u97, u98, u99, u100, u101, u102, u103, u104, u105, u106, x107, x108, x109, x110, x111, x112, x113, x114, x115, x116, x117, x118, x119, x120, x121, x122, x123, x124, x125, x126, x127, x128, x129, x130, x131, x132, x133, x134, x135, x136, x137, x138, .bool false, u140, u141, u142, u143, u144, u145], []⟩ wx) :
    Code.wp Try.prog ((Try.f6.body.bind (regionN 24)).getD .skip) Q ⟨#[u0, u1, u2, u3, .pointer (some ⟨d, 0, none⟩), u5, .int .i64 1, u7, .int .i64 E, .int .i64 L, u10, u11, u12, u13, u14, u15, u16, u17, u18, u19, u20, u21, u22, u23, u24, u25, u26, u27, u28, u29, u30, u31, u32, u33, u34, u35, u36, u37, u38, u39, u40, u41, u42, u43, u44, u45, u46, u47, u48, u49, u50, u51, u52, u53, u54, u55, u56, u57, u58, u59, u60, u61, u62, u63, u64, u65, u66, u67, u68, u69, u70, u71, u72, u73, u74, u75, u76, u77, u78, u79, u80, u81, u82, u83, u84, u85, u86, u87, u88, u89, u90, u91, u92, u93, u94, u95, u96, u97, u98, u99, u100, u101, u102, u103, u104, u105, u106, u107, u108, u109, u110, u111, u112, u113, u114, u115, u116, u117, u118, u119, u120, u121, u122, u123, u124, u125, u126, u127, u128, u129, u130, u131, u132, u133, u134, u135, u136, u137, u138, u139, u140, u141, u142, u143, u144, u145], []⟩ w := by
  have HQ := Lib.hid hQ; clear hQ
  conv => arg 2; whnf
  have K := Lib.hid (Below.refl w.heap.size w)
  have C := Lib.hid (And.intro h (And.intro e1 (And.intro e2 e3))); clear h e1 e2 e3
  have f1 : ¬ E' < E := by omega
  have f2 : ¬ L' < L := by omega
  have f3 : ¬ E' < L' := by omega
  have d1 := decide_eq_false f1
  have d2 := decide_eq_false f2
  have d3 := decide_eq_false f3
  clear hE hL hLE
  by_cases h0 : wt = 0
  · obtain rfl := hw h0
    subst h0
    clear hw
    go_wp2_with (first
      | (go_at_call 20; refine (Edge_any B d s _ (C.out.1.later K.out)).mono ?_; rintro e w1 ⟨he, hb⟩; rw [C.out.2.1] at he; subst he; replace K := Lib.hid (K.out.trans (hb.mono K.out.size)); clear hb)
      | (go_at_call 25; refine (Low_any B d s _ 1 ⟨by decide, by decide⟩ (C.out.1.later K.out)).mono ?_; rintro e w1 ⟨he, hb⟩; rw [C.out.2.2.1] at he; subst he; replace K := Lib.hid (K.out.trans (hb.mono K.out.size)); clear hb)
      | (go_at_call 23; refine (Wait_any B d s _ 1 ⟨by decide, by decide⟩ (C.out.1.later K.out)).mono ?_; rintro e w1 ⟨he, hb⟩; rw [C.out.2.2.2] at he; subst he; replace K := Lib.hid (K.out.trans (hb.mono K.out.size)); clear hb))
    exact HQ.out _ _ _ _ _ _ _ _ _ _ _ _ _ _ _ _ _ _ _ _ _ _ _ _ _ _ _ _ _ _ _ _ _ K.out
  · clear hw
    have h0b : (wt == 0) = false := by simpa using h0
    go_wp2_with (first
      | (go_at_call 20; refine (Edge_any B d s _ (C.out.1.later K.out)).mono ?_; rintro e w1 ⟨he, hb⟩; rw [C.out.2.1] at he; subst he; replace K := Lib.hid (K.out.trans (hb.mono K.out.size)); clear hb)
      | (go_at_call 25; refine (Low_any B d s _ 1 ⟨by decide, by decide⟩ (C.out.1.later K.out)).mono ?_; rintro e w1 ⟨he, hb⟩; rw [C.out.2.2.1] at he; subst he; replace K := Lib.hid (K.out.trans (hb.mono K.out.size)); clear hb)
      | (go_at_call 23; refine (Wait_any B d s _ 1 ⟨by decide, by decide⟩ (C.out.1.later K.out)).mono ?_; rintro e w1 ⟨he, hb⟩; rw [C.out.2.2.2] at he; subst he; replace K := Lib.hid (K.out.trans (hb.mono K.out.size)); clear hb))
    exact HQ.out _ _ _ _ _ _ _ _ _ _ _ _ _ _ _ _ _ _ _ _ _ _ _ _ _ _ _ _ _ _ _ _ _ K.out
end Go.Proofs.Ytbbjlefldpgckaa
