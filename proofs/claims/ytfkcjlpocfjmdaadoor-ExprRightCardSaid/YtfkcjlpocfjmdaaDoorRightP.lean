/- ExprRight: the region that makes the operation above. -/
import Derived.Test.YtfkcjlpocfjmdaaDoorRightE
import Derived.Deep.RegionHeld3
namespace Go.Proofs.YtfkcjlpocfjmdaaDoor
open Go.ChangeShapes Go.WideShapes Go.ChangeAt Go.RowKit
open Rk (inR)
set_option linter.unusedVariables false
set_option linter.unusedSimpArgs false

theorem finU {w wx : World} {N : Nat} {bs : List RowB} {P : World → Prop} {g h : Nat} {R : Array Value} (K2 : Keep w wx N bs P) (h1 : (g, 26, R) ∈ bs) (h3 : (h, 26, NC bPlus (some ⟨g, 0, none⟩) 2 2) ∈ bs) :
    Keep w wx wx.heap.size [] (fun X => (P X ∧ Blk X g 26 R) ∧ Blk X h 26 (NC bPlus (some ⟨g, 0, none⟩) 2 2)) := by
  have e3 := K2.blk h3
  have := (K2.keepRow h1).and (Q := fun X => Blk X h 26 (NC bPlus (some ⟨g, 0, none⟩) 2 2)) e3 (fun _ _ hb h => h.later hb)
  exact this
set_option maxRecDepth 20000 in
set_option maxHeartbeats 4000000 in
theorem right28 (u0 u1 u2 u3 u4 u5 u6 u7 u9 u10 u11 u12 u13 u14 u15 u16 u17 u18 u19 u20 u21 u22 u23 u24 u25 u26 u27 u28 u29 u30 u31 u32 u33 u34 u35 u36 u37 u38 u39 u40 u41 u42 u43 u44 u45 u46 u47 u48 u49 u50 u51 u52 u53 u54 u55 u56 u57 u58 u59 u60 u61 u62 u63 u64 u65 u66 u67 u68 u69 u70 u71 u72 u73 u74 u75 u76 u77 u78 u79 u80 u81 u82 u83 : Value) {w W : World} {N : Nat} {P : World → Prop} {g : Nat} {k1 : Int} {o1 : ByteArray} {a1 b1 : Int} {s1 v1 f1 : ByteArray} {A1 : Option Addr} {n1 c1 : Nat}
    (hK : Keep w W N [] P) (hg : ∀ X, P X → Blk X g 26 #[.int .i64 k1, .string o1, .int .i64 a1, .int .i64 b1, .string s1, .string v1, .string f1, .slice A1 n1 c1]) {Q : Exit → Act → World → Prop}
    (hQ : ∀ (x70 x71 x72 : Value) (gN h : Nat) (wx : World), Keep w wx wx.heap.size [] (fun X => (P X ∧ Blk X gN 26 (rowU k1 o1 a1 b1 s1 v1 f1 A1 n1 c1)) ∧ Blk X h 26 (NC bPlus (some ⟨gN, 0, none⟩) 2 2)) → Q .normal ⟨#[u0, u1, u2, u3, u4, u5, u6, u7, .pointer (some ⟨g, 0, none⟩), .pointer (some ⟨h, 0, none⟩), u10, u11, u12, u13, u14, u15, u16, u17, u18, u19, u20, u21, u22, u23, u24, u25, u26, u27, u28, u29, u30, u31, u32, u33, u34, u35, u36, u37, u38, u39, u40, u41, u42, u43, u44, u45, u46, u47, u48, u49, u50, u51, u52, u53, u54, u55, u56, u57, u58, u59, u60, u61, u62, u63, u64, u65, u66, u67, u68, u69, x70, x71, x72, u73, u74, u75, u76, u77, u78, u79, u80, u81, u82, u83], []⟩ wx) :
    Code.wp Tryd.prog ((Tryd.f6.body.bind (regionN 28)).getD .skip) Q ⟨#[u0, u1, u2, u3, u4, u5, u6, u7, .pointer (some ⟨g, 0, none⟩), u9, u10, u11, u12, u13, u14, u15, u16, u17, u18, u19, u20, u21, u22, u23, u24, u25, u26, u27, u28, u29, u30, u31, u32, u33, u34, u35, u36, u37, u38, u39, u40, u41, u42, u43, u44, u45, u46, u47, u48, u49, u50, u51, u52, u53, u54, u55, u56, u57, u58, u59, u60, u61, u62, u63, u64, u65, u66, u67, u68, u69, u70, u71, u72, u73, u74, u75, u76, u77, u78, u79, u80, u81, u82, u83], []⟩ W := by
  have HQ := Lib.hid hQ; clear hQ
  conv => arg 2; whnf
  have C := Lib.hid hg; clear hg
  have K := Lib.hid hK; clear hK
  have p0 := (C.out _ K.out.p).cell
  refine wp_region_noPanic ?_
  go_region_held3 (fun w' => (∀ j, w'.cell? ⟨g, j, none⟩ = (#[.int .i64 k1, .string o1, .int .i64 a1, .int .i64 b1, .string s1, .string v1, .string f1, .slice A1 n1 c1] : Array Value)[j]?)) (exact (C.out _ (by first | with_reducible exact K.out.p | with_reducible exact K.out.drw.p | with_reducible exact (K.out.more _ _).p | with_reducible exact (K.out.dmore _ _).p | with_reducible exact (K.out.more _ _).drw.p | with_reducible exact (K.out.dmore _ _).drw.p | with_reducible exact (K.out.put8_ _ _ _ _ _ _ _ _).p | with_reducible exact (K.out.put8_1 _ _ _ _ _ _ _ _).p)).cell) (first
    | (go_at_call 28; ((with_reducible refine (lit_any _ _).mono ?_); rintro e w1 ⟨rfl, hb⟩; (first | replace K := Lib.hid (K.out.go hb) | replace K := Lib.hid (K.out.drw.go hb) | replace K := Lib.hid ((K.out.more _ _).go hb) | replace K := Lib.hid ((K.out.dmore _ _).go hb) | replace K := Lib.hid ((K.out.more _ _).drw.go hb) | replace K := Lib.hid ((K.out.dmore _ _).drw.go hb)); (try clear q0 q1 q2); (first | obtain ⟨q0, q1, q2⟩ := K.out.cells (c := zeroC) (List.Mem.head _) | obtain ⟨q0, q1, q2⟩ := K.out.cells (c := zeroC) (List.Mem.tail _ (List.Mem.head _)) | skip); clear hb))
    | (go_at_call 26; ((with_reducible refine (two_up _ _ _ _ _ _ _ _ _ _ _).mono ?_); rintro e w1 ⟨g', hg, rfl, hb, hB⟩; (first | replace K := Lib.hid (K.out.got hb hB hg) | replace K := Lib.hid (K.out.drw.got hb hB hg) | replace K := Lib.hid ((K.out.more _ _).got hb hB hg) | replace K := Lib.hid ((K.out.dmore _ _).got hb hB hg) | replace K := Lib.hid ((K.out.more _ _).drw.got hb hB hg) | replace K := Lib.hid ((K.out.dmore _ _).drw.got hb hB hg)); (try clear q0 q1 q2); (first | obtain ⟨q0, q1, q2⟩ := K.out.cells (c := zeroC) (List.Mem.head _) | obtain ⟨q0, q1, q2⟩ := K.out.cells (c := zeroC) (List.Mem.tail _ (List.Mem.head _)) | skip); clear hb hB hg)))
  all_goals
    refine NoPanic.normal (HQ.out _ _ _  g' _ _ ?_)
    first
    | with_reducible exact finU (K.out.more _ _) (List.Mem.tail _ (List.Mem.head _)) (List.Mem.head _)
    | with_reducible exact finU (K.out.dmore _ _) (List.Mem.tail _ (List.Mem.head _)) (List.Mem.head _)
    | with_reducible exact finU (K.out.put8_1 _ _ _ _ _ _ _ _) (List.Mem.head _) (List.Mem.tail _ (List.Mem.head _))
    | with_reducible exact finU (K.out.drw.put8_1 _ _ _ _ _ _ _ _) (List.Mem.head _) (List.Mem.tail _ (List.Mem.head _))
  
end Go.Proofs.YtfkcjlpocfjmdaaDoor
