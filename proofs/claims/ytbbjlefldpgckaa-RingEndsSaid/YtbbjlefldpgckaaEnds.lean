/- RingEnds: the region that draws its order, a piece. -/
import Derived.Test.YtbbjlefldpgckaaRgX
import Derived.Test.YtbbjlefldpgckaaRgY
import Derived.Test.YtbbjlefldpgckaaPiece
import Derived.Deep.RegionHeld3
namespace Go.Proofs.Ytbbjlefldpgckaa
open Go.ChangeShapes Go.WideShapes Go.ChangeAt Go.RowKit Go.Maps
open Ev (V3 rightV OkV)
set_option linter.unusedVariables false
set_option linter.unusedSimpArgs false
set_option maxRecDepth 20000

theorem same_one (t : Int) (l : List V3) (v v' : Value) (w : World) (hv : ValsAt w v l) (hv' : ValsAt w v' l) :
    Calls Try.prog 18 #[item false t v, item false t v'] w fun e w' => e = .returned (.bool true) ∧ Below w.heap.size w w' :=
  (SameItem_any false t v l false t v' l w hv hv').mono fun e w' ⟨he, hb⟩ => ⟨he.trans (by simp), hb⟩
set_option maxRecDepth 20000 in
set_option maxHeartbeats 4000000 in
theorem ends23 (u0 u1 u2 u3 u4 u5 u7 u10 u12 u13 u14 u17 u18 u19 u20 u21 u22 u23 u24 u25 u26 u27 u28 u29 u30 u31 u32 u33 u34 u35 u36 u37 u38 u39 u40 u41 u42 u43 u44 u45 u46 u47 u48 u49 u50 u51 u52 u53 u54 u55 u56 u57 u58 u59 u60 u61 u62 u63 u64 u65 u66 u67 u68 u69 u70 u71 u72 u73 u74 u75 u76 u77 u78 u79 u80 u81 u82 u83 u84 u85 u86 u87 u88 u89 u90 u91 u92 u93 u94 u95 u96 u97 u98 u99 u100 u101 u102 u103 u104 u105 u106 u107 u108 u109 u110 u111 u112 u113 u114 u115 u116 u117 u118 u119 u120 u121 u122 u123 u124 u125 u126 u127 u128 u129 u130 u131 u132 u133 u134 u135 u136 u137 u138 u139 u140 u141 u142 u143 u144 u145 u146 u147 u148 u149 u150 u151 u152 u153 u154 u155 : Value) {w : World} {B d g : Nat} {s : Rg} {k a n1 : Nat} {A1 : Option Addr} {b : Bool}
    (h : RS w B d s) (hE : endR s 1 = b) (hb : decide (a + 1 = k) = b) (hk : a < 8) (hk' : k ≤ 8) (hp : Blk w g 37 #[.bool false, .int .i64 (3 * (a : Int)), .slice A1 1 n1]) (hN : NewAt 0 w (.slice A1 1 n1) (oneV (a : Int))) {Q : Exit → Act → World → Prop}
    (hQ : ∀ (x81 x82 x83 x84 x85 x86 x87 x88 x89 x90 x91 x92 x93 x94 x95 x96 x97 x98 x99 x100 : Value)  (wx : World), Below w.heap.size w wx → Q .normal ⟨#[u0, u1, u2, u3, u4, u5, .pointer (some ⟨d, 0, none⟩), u7, .int .i64 1, .int .i64 (k : Int), u10, .int .i64 (a : Int), u12, u13, u14, .pointer (some ⟨g, 0, none⟩), .bool true, u17, u18, u19, u20, u21, u22, u23, u24, u25, u26, u27, u28, u29, u30, u31, u32, u33, u34, u35, u36, u37, u38, u39, u40, u41, u42, u43, u44, u45, u46, u47, u48, u49, u50, u51, u52, u53, u54, u55, u56, u57, u58, u59, u60, u61, u62, u63, u64, u65, u66, u67, u68, u69, u70, u71, u72, u73, u74, u75, u76, u77, u78, u79, u80, x81, x82, x83, x84, x85, x86, x87, x88, x89, x90, x91, x92, x93, x94, x95, x96, x97, x98, x99, x100, .bool false, u102, u103, u104, u105, u106, u107, u108, u109, u110, u111, u112, u113, u114, u115, u116, u117, u118, u119, u120, u121, u122, u123, u124, u125, u126, u127, u128, u129, u130, u131, u132, u133, u134, u135, u136, u137, u138, u139, u140, u141, u142, u143, u144, u145, u146, u147, u148, u149, u150, u151, u152, u153, u154, u155], []⟩ wx) :
    Code.wp Try.prog ((Try.f8.body.bind (regionN 23)).getD .skip) Q ⟨#[u0, u1, u2, u3, u4, u5, .pointer (some ⟨d, 0, none⟩), u7, .int .i64 1, .int .i64 (k : Int), u10, .int .i64 (a : Int), u12, u13, u14, .pointer (some ⟨g, 0, none⟩), .bool true, u17, u18, u19, u20, u21, u22, u23, u24, u25, u26, u27, u28, u29, u30, u31, u32, u33, u34, u35, u36, u37, u38, u39, u40, u41, u42, u43, u44, u45, u46, u47, u48, u49, u50, u51, u52, u53, u54, u55, u56, u57, u58, u59, u60, u61, u62, u63, u64, u65, u66, u67, u68, u69, u70, u71, u72, u73, u74, u75, u76, u77, u78, u79, u80, u81, u82, u83, u84, u85, u86, u87, u88, u89, u90, u91, u92, u93, u94, u95, u96, u97, u98, u99, u100, u101, u102, u103, u104, u105, u106, u107, u108, u109, u110, u111, u112, u113, u114, u115, u116, u117, u118, u119, u120, u121, u122, u123, u124, u125, u126, u127, u128, u129, u130, u131, u132, u133, u134, u135, u136, u137, u138, u139, u140, u141, u142, u143, u144, u145, u146, u147, u148, u149, u150, u151, u152, u153, u154, u155], []⟩ w := by
  have HQ := Lib.hid hQ; clear hQ
  conv => arg 2; whnf
  have hc1 : (((a : Int) + 1) == (k : Int)) = b := by rw [← hb, Bool.eq_iff_iff]; simp; omega
  have hc2 : decide ((a : Int) + 1 = (k : Int)) = b := by rw [← hb, Bool.eq_iff_iff]; simp; omega
  have ha : IntKind.i64.wrap ((a : Int) + 1) = (a : Int) + 1 := IntWalk.i64_in _ (by omega)
  have hm : IntKind.i64.wrap (3 * (a : Int)) = 3 * (a : Int) := IntWalk.i64_in _ (by omega)
  have hw8 : (a : Int) ≤ 8 := by omega
  have K := Lib.hid (Below.refl w.heap.size w)
  have C := Lib.hid (And.intro h (And.intro hE (And.intro hp hN))); clear h hE hN hb
  obtain ⟨p0, p1, p2⟩ := hp.three
  clear hp hk hk'
  cases b
  all_goals
    go_region_held3 (fun w' => w'.cell? ⟨g, 0, none⟩ = some (.bool false) ∧ w'.cell? ⟨g, 1, none⟩ = some (.int .i64 (3 * (a : Int))) ∧ w'.cell? ⟨g, 2, none⟩ = some (.slice A1 1 n1)) (exact (C.out.2.2.1.later (by first | exact K.out | exact below_drew K.out)).three) (first
      | (go_at_call 28; ((refine (Ended_any B d s _ 1 ⟨by decide, by decide⟩ (C.out.1.later (by first | exact K.out | exact below_drew K.out))).mono ?_); rintro e w1 ⟨he, hb⟩; rw [C.out.2.1] at he; subst he; (first | replace K := Lib.hid (K.out.trans (hb.mono K.out.size)) | replace K := Lib.hid ((below_drew K.out).trans (hb.mono K.out.size))); (try replace M := Lib.hid (M.out.later hb)); clear hb))
      | (go_at_call 16; ((refine (one_any _ _ _).mono ?_); rintro e w1 ⟨v7, ⟨rfl, hN7⟩, hb⟩; (first | replace K := Lib.hid (K.out.trans (hb.mono K.out.size)) | replace K := Lib.hid ((below_drew K.out).trans (hb.mono K.out.size))); have M := Lib.hid (hN7.weak (Nat.zero_le _)); clear hb hN7))
      | (go_at_call 18; ((refine (same_one _ (oneV (a : Int)) _ _ _ (C.out.2.2.2.later (by first | exact K.out | exact below_drew K.out)).vals M.out.vals).mono ?_); rintro e w1 ⟨rfl, hb⟩; (first | replace K := Lib.hid (K.out.trans (hb.mono K.out.size)) | replace K := Lib.hid ((below_drew K.out).trans (hb.mono K.out.size))); clear hb)))
  all_goals exact NoPanic.normal (HQ.out _ _ _ _ _ _ _ _ _ _ _ _ _ _ _ _ _ _ _ _ _ K.out)
  
end Go.Proofs.Ytbbjlefldpgckaa
