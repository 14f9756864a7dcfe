/- RingOrder: the region that draws its order, a piece. -/
import Derived.Test.YtbbjlefldpgckaaRgV
import Derived.Deep.RegionHeld3
import Derived.BigQuiet
import Derived.Lib.QuietBelow
namespace Go.Proofs.Ytbbjlefldpgckaa
open Go.ChangeShapes Go.WideShapes Go.ChangeAt Go.RowKit Go.Maps
open Ev (V3 rightV OkV)
set_option linter.unusedVariables false
set_option linter.unusedSimpArgs false
set_option maxRecDepth 20000

theorem same_one (t : Int) (l : List V3) (v v' : Value) (w : World) (hv : ValsAt w v l) (hv' : ValsAt w v' l) :
    Calls Try.prog 18 #[item false t v, item false t v'] w fun e w' => e = .returned (.bool true) ∧ Below w.heap.size w w' :=
  (SameItem_any false t v l false t v' l w hv hv').mono fun e w' ⟨he, hb⟩ => ⟨he.trans (by simp), hb⟩
theorem cell_at {w W : World} {a : Addr} {v : Value} (h : w.cell? a = some v) (hb : Below w.heap.size w W) : W.cell? a = some v := by
  rw [hb.cell (World.block_lt_of_cell? w _ h)]; exact h
set_option maxRecDepth 20000 in
set_option maxHeartbeats 4000000 in
theorem order25t (u0 u1 u2 u3 u4 u5 u6 u7 u8 u12 u14 u17 u18 u19 u20 u21 u22 u23 u24 u25 u26 u27 u28 u29 u30 u31 u32 u33 u34 u35 u36 u37 u38 u39 u40 u41 u42 u43 u44 u45 u46 u47 u48 u49 u50 u51 u52 u53 u54 u55 u56 u57 u58 u59 u60 u61 u62 u63 u64 u65 u66 u67 u68 u69 u70 u71 u72 u73 u74 u75 u76 u77 u78 u79 u80 u81 u82 u83 u84 u85 u86 u87 u88 u89 u90 u91 u92 u93 u94 u95 u96 u97 u98 u99 u100 u101 u102 u103 u104 u105 u106 u107 u108 u109 u110 u111 u112 u113 u114 u115 u116 u117 u118 u119 u120 u121 u122 u123 u124 u125 u126 u127 u128 u129 u130 u131 u132 u133 u134 u135 u136 u137 u138 u139 u140 u141 u142 u143 u144 u145 u146 u147 u148 u149 u150 u151 u152 u153 u154 u155 u156 u157 : Value) {w : World} {gf cf gg cg nr n k j : Nat} {fr gt : Int} (hk : k < nr) (hnr : nr ≤ 4) (hj : fr + gt = (j : Int)) (hj0 : 0 ≤ fr) (hj1 : 0 ≤ gt) (hj2 : j ≤ 200) (hn : n ≤ 200) (y1 : w.cell? ⟨gf, k, none⟩ = some (.int .i64 fr)) (y2 : w.cell? ⟨gg, k, none⟩ = some (.int .i64 gt)) {g n1 : Nat} {A1 : Option Addr} (hlt : j < n) (hp : Blk w g 37 #[.bool false, .int .i64 (j : Int), .slice A1 1 n1]) (hN : NewAt 0 w (.slice A1 1 n1) (oneV (j : Int))) {Q : Exit → Act → World → Prop}
    (hQ : ∀ (x87 x88 x89 x90 x91 x92 x93 x94 x95 x96 x97 x98 x99 x100 x101 x102 x103 x104 x105 x106 x107 x108 x109 x110 x111 x112 x113 x114 x115 x116 x117 x118 x119 x120 x121 x122 x123 x124 x125 : Value)  (wx : World), Below w.heap.size w wx → Q .normal ⟨#[u0, u1, u2, u3, u4, u5, u6, u7, u8, .slice (some ⟨gf, 0, none⟩) nr cf, .slice (some ⟨gg, 0, none⟩) nr cg, .int .i64 (n : Int), u12, .int .i64 (k : Int), u14, .pointer (some ⟨g, 0, none⟩), .bool true, u17, u18, u19, u20, u21, u22, u23, u24, u25, u26, u27, u28, u29, u30, u31, u32, u33, u34, u35, u36, u37, u38, u39, u40, u41, u42, u43, u44, u45, u46, u47, u48, u49, u50, u51, u52, u53, u54, u55, u56, u57, u58, u59, u60, u61, u62, u63, u64, u65, u66, u67, u68, u69, u70, u71, u72, u73, u74, u75, u76, u77, u78, u79, u80, u81, u82, u83, u84, u85, u86, x87, x88, x89, x90, x91, x92, x93, x94, x95, x96, x97, x98, x99, x100, x101, x102, x103, x104, x105, x106, x107, x108, x109, x110, x111, x112, x113, x114, x115, x116, x117, x118, x119, x120, x121, x122, x123, x124, x125, .bool false, u127, u128, u129, u130, u131, u132, u133, u134, u135, u136, u137, u138, u139, u140, u141, u142, u143, u144, u145, u146, u147, u148, u149, u150, u151, u152, u153, u154, u155, u156, u157], []⟩ wx) :
    Code.wp Try.prog ((Try.f4.body.bind (regionN 25)).getD .skip) Q ⟨#[u0, u1, u2, u3, u4, u5, u6, u7, u8, .slice (some ⟨gf, 0, none⟩) nr cf, .slice (some ⟨gg, 0, none⟩) nr cg, .int .i64 (n : Int), u12, .int .i64 (k : Int), u14, .pointer (some ⟨g, 0, none⟩), .bool true, u17, u18, u19, u20, u21, u22, u23, u24, u25, u26, u27, u28, u29, u30, u31, u32, u33, u34, u35, u36, u37, u38, u39, u40, u41, u42, u43, u44, u45, u46, u47, u48, u49, u50, u51, u52, u53, u54, u55, u56, u57, u58, u59, u60, u61, u62, u63, u64, u65, u66, u67, u68, u69, u70, u71, u72, u73, u74, u75, u76, u77, u78, u79, u80, u81, u82, u83, u84, u85, u86, u87, u88, u89, u90, u91, u92, u93, u94, u95, u96, u97, u98, u99, u100, u101, u102, u103, u104, u105, u106, u107, u108, u109, u110, u111, u112, u113, u114, u115, u116, u117, u118, u119, u120, u121, u122, u123, u124, u125, u126, u127, u128, u129, u130, u131, u132, u133, u134, u135, u136, u137, u138, u139, u140, u141, u142, u143, u144, u145, u146, u147, u148, u149, u150, u151, u152, u153, u154, u155, u156, u157], []⟩ w := by
  have HQ := Lib.hid hQ; clear hQ
  conv => arg 2; whnf
  have hw1 : IntKind.i64.wrap (fr + gt) = (j : Int) := by rw [hj]; exact IntWalk.i64_in _ (by omega)
  have hw2 : fr + gt = (j : Int) := hj
  have hkI : (k : Int) < (nr : Int) := by omega
  have hkN : ¬ (nr : Int) ≤ (k : Int) := by omega
  clear hj hj0 hj1
  have hjn : (j : Int) < (n : Int) := by omega
  have hjb : decide ((j : Int) < (n : Int)) = true := decide_eq_true hjn
  have hjc : decide (j < n) = true := decide_eq_true hlt
  have hw2' := Lib.hid hw2; clear hw2
  have K := Lib.hid (Below.refl w.heap.size w)
  obtain ⟨p0, p1, p2⟩ := hp.three
  have C := Lib.hid (And.intro y1 (And.intro y2 (And.intro hp hN))); clear hp hN
  refine wp_region_noPanic ?_
  go_region_held3 (fun w' => w'.cell? ⟨gf, k, none⟩ = some (.int .i64 fr) ∧ w'.cell? ⟨gg, k, none⟩ = some (.int .i64 gt) ∧ w'.cell? ⟨g, 0, none⟩ = some (.bool false) ∧ w'.cell? ⟨g, 1, none⟩ = some (.int .i64 (j : Int)) ∧ w'.cell? ⟨g, 2, none⟩ = some (.slice A1 1 n1)) (exact ⟨cell_at C.out.1 (by first | exact K.out | exact below_drew K.out), cell_at C.out.2.1 (by first | exact K.out | exact below_drew K.out), (C.out.2.2.1.later (by first | exact K.out | exact below_drew K.out)).three⟩) (first
      | (go_at_call 16; ((refine (one_any _ _ _).mono ?_); rintro e w1 ⟨v7, ⟨rfl, hN7⟩, hb⟩; (first | replace K := Lib.hid (K.out.trans (hb.mono K.out.size)) | replace K := Lib.hid ((below_drew K.out).trans (hb.mono K.out.size))); have M := Lib.hid (hN7.weak (Nat.zero_le _)); clear hb hN7))
      | (go_at_call 18; ((refine (same_one _ (oneV (j : Int)) _ _ _ (C.out.2.2.2.later (by first | exact K.out | exact below_drew K.out)).vals M.out.vals).mono ?_); rintro e w1 ⟨rfl, hb⟩; (first | replace K := Lib.hid (K.out.trans (hb.mono K.out.size)) | replace K := Lib.hid ((below_drew K.out).trans (hb.mono K.out.size))); clear hb)))
  all_goals exact NoPanic.normal (HQ.out _ _ _ _ _ _ _ _ _ _ _ _ _ _ _ _ _ _ _ _ _ _ _ _ _ _ _ _ _ _ _ _ _ _ _ _ _ _ _ _ K.out)
set_option maxRecDepth 20000 in
set_option maxHeartbeats 4000000 in
theorem order25f (u0 u1 u2 u3 u4 u5 u6 u7 u8 u12 u14 u15 u17 u18 u19 u20 u21 u22 u23 u24 u25 u26 u27 u28 u29 u30 u31 u32 u33 u34 u35 u36 u37 u38 u39 u40 u41 u42 u43 u44 u45 u46 u47 u48 u49 u50 u51 u52 u53 u54 u55 u56 u57 u58 u59 u60 u61 u62 u63 u64 u65 u66 u67 u68 u69 u70 u71 u72 u73 u74 u75 u76 u77 u78 u79 u80 u81 u82 u83 u84 u85 u86 u87 u88 u89 u90 u91 u92 u93 u94 u95 u96 u97 u98 u99 u100 u101 u102 u103 u104 u105 u106 u107 u108 u109 u110 u111 u112 u113 u114 u115 u116 u117 u118 u119 u120 u121 u122 u123 u124 u125 u126 u127 u128 u129 u130 u131 u132 u133 u134 u135 u136 u137 u138 u139 u140 u141 u142 u143 u144 u145 u146 u147 u148 u149 u150 u151 u152 u153 u154 u155 u156 u157 : Value) {w : World} {gf cf gg cg nr n k j : Nat} {fr gt : Int} (hk : k < nr) (hnr : nr ≤ 4) (hj : fr + gt = (j : Int)) (hj0 : 0 ≤ fr) (hj1 : 0 ≤ gt) (hj2 : j ≤ 200) (hn : n ≤ 200) (y1 : w.cell? ⟨gf, k, none⟩ = some (.int .i64 fr)) (y2 : w.cell? ⟨gg, k, none⟩ = some (.int .i64 gt)) (hlt : ¬ j < n) {Q : Exit → Act → World → Prop}
    (hQ : ∀ (x87 x88 x89 x90 x91 x92 x93 x94 x95 x96 x97 x98 x99 x100 x101 x102 x103 x104 x105 x106 x107 x108 x109 x110 x111 x112 x113 x114 x115 x116 x117 x118 x119 x120 x121 x122 x123 x124 x125 : Value)  (wx : World), Below w.heap.size w wx → Q .normal ⟨#[u0, u1, u2, u3, u4, u5, u6, u7, u8, .slice (some ⟨gf, 0, none⟩) nr cf, .slice (some ⟨gg, 0, none⟩) nr cg, .int .i64 (n : Int), u12, .int .i64 (k : Int), u14, u15, .bool false, u17, u18, u19, u20, u21, u22, u23, u24, u25, u26, u27, u28, u29, u30, u31, u32, u33, u34, u35, u36, u37, u38, u39, u40, u41, u42, u43, u44, u45, u46, u47, u48, u49, u50, u51, u52, u53, u54, u55, u56, u57, u58, u59, u60, u61, u62, u63, u64, u65, u66, u67, u68, u69, u70, u71, u72, u73, u74, u75, u76, u77, u78, u79, u80, u81, u82, u83, u84, u85, u86, x87, x88, x89, x90, x91, x92, x93, x94, x95, x96, x97, x98, x99, x100, x101, x102, x103, x104, x105, x106, x107, x108, x109, x110, x111, x112, x113, x114, x115, x116, x117, x118, x119, x120, x121, x122, x123, x124, x125, .bool false, u127, u128, u129, u130, u131, u132, u133, u134, u135, u136, u137, u138, u139, u140, u141, u142, u143, u144, u145, u146, u147, u148, u149, u150, u151, u152, u153, u154, u155, u156, u157], []⟩ wx) :
    Code.wp Try.prog ((Try.f4.body.bind (regionN 25)).getD .skip) Q ⟨#[u0, u1, u2, u3, u4, u5, u6, u7, u8, .slice (some ⟨gf, 0, none⟩) nr cf, .slice (some ⟨gg, 0, none⟩) nr cg, .int .i64 (n : Int), u12, .int .i64 (k : Int), u14, u15, .bool false, u17, u18, u19, u20, u21, u22, u23, u24, u25, u26, u27, u28, u29, u30, u31, u32, u33, u34, u35, u36, u37, u38, u39, u40, u41, u42, u43, u44, u45, u46, u47, u48, u49, u50, u51, u52, u53, u54, u55, u56, u57, u58, u59, u60, u61, u62, u63, u64, u65, u66, u67, u68, u69, u70, u71, u72, u73, u74, u75, u76, u77, u78, u79, u80, u81, u82, u83, u84, u85, u86, u87, u88, u89, u90, u91, u92, u93, u94, u95, u96, u97, u98, u99, u100, u101, u102, u103, u104, u105, u106, u107, u108, u109, u110, u111, u112, u113, u114, u115, u116, u117, u118, u119, u120, u121, u122, u123, u124, u125, u126, u127, u128, u129, u130, u131, u132, u133, u134, u135, u136, u137, u138, u139, u140, u141, u142, u143, u144, u145, u146, u147, u148, u149, u150, u151, u152, u153, u154, u155, u156, u157], []⟩ w := by
  have HQ := Lib.hid hQ; clear hQ
  conv => arg 2; whnf
  have hw1 : IntKind.i64.wrap (fr + gt) = (j : Int) := by rw [hj]; exact IntWalk.i64_in _ (by omega)
  have hw2 : fr + gt = (j : Int) := hj
  have hkI : (k : Int) < (nr : Int) := by omega
  have hkN : ¬ (nr : Int) ≤ (k : Int) := by omega
  clear hj hj0 hj1
  have hjn : ¬ (j : Int) < (n : Int) := by omega
  have hjb : decide ((j : Int) < (n : Int)) = false := decide_eq_false hjn
  have hjc : decide (j < n) = false := decide_eq_false hlt
  clear hw2
  have p1 := fun d os => cell_regrown y1 d os
  have p2 := fun d os => cell_regrown y2 d os
  go_wp2_with fail
  refine wp_region_noPanic ?_
  refine wp_region_quiet_below (by kernel_rfl) (by kernel_rfl) ?_
  repeat (go_big_quiet_step (fail))
  refine wpQuiet_nil ?_
  intro wq hw'
  have bq : Below w.heap.size w wq := by obtain ⟨p, rfl⟩ := hw'; exact below_regrown _ _ _
  exact NoPanic.normal (HQ.out _ _ _ _ _ _ _ _ _ _ _ _ _ _ _ _ _ _ _ _ _ _ _ _ _ _ _ _ _ _ _ _ _ _ _ _ _ _ _ _ bq)
end Go.Proofs.Ytbbjlefldpgckaa
