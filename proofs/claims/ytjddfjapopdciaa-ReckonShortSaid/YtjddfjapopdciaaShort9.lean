/- ReckonShort: the regions that draw their order. -/
import Derived.Test.YtjddfjapopdciaaMadeE
import Derived.Deep.RegionHeld3
namespace Go.Proofs.Ytjddfjapopdciaa
open Go.ChangeShapes Go.WideShapes Go.ChangeAt Go.RowKit
open Rk (inR)
set_option linter.unusedVariables false
set_option linter.unusedSimpArgs false

set_option maxRecDepth 20000 in
set_option maxHeartbeats 4000000 in
theorem short9 (u0 u1 u2 u3 u4 u5 u8 u9 u10 u11 u12 u13 u14 u15 u16 u17 u18 u19 u20 u21 u22 u23 u24 u25 u26 u27 u28 u29 u30 u31 u32 u33 u34 u35 u36 u37 u38 u39 u40 u41 u42 u43 u44 u45 u46 u47 u48 u49 u50 u51 u52 u53 u54 u55 u56 u57 u58 u59 u60 u61 u62 u63 u64 u65 u66 u67 u68 u69 u70 u71 u72 u73 u74 u75 u76 u77 u78 u79 u80 u81 u82 u83 u84 u85 u86 u87 u88 u89 u90 u91 u92 u93 u94 u95 u96 u97 u98 u99 u100 u101 u102 u103 u104 u105 u106 u107 u108 u109 u110 u111 u112 u113 u114 u115 u116 u117 u118 u119 u120 u121 u122 u123 u124 u125 : Value) {w W : World} {N : Nat} {P : World → Prop} {g : Nat} {k1 : Int} {o1 : ByteArray} {a1 b1 : Int} {s1 v1 f1 : ByteArray} {A1 : Option Addr} {n1 c1 : Nat} {L : Value} {T : Tr} {y1 y2 : Int} {y3 : ByteArray} {b : Bool}
    (hK : Keep w W N [] P) (hg : ∀ X, P X → Blk X g 26 #[.int .i64 k1, .string o1, .int .i64 a1, .int .i64 b1, .string s1, .string v1, .string f1, .slice A1 n1 c1])
    (hC2 : ∀ X, P X → Calls Try.prog 32 #[.string bOr, ev 0 e0 2 0 e0 e0 e0 nilk, ev k1 o1 a1 b1 s1 v1 f1 (.slice A1 n1 c1)] X fun e w' => IsN bOr T e w' ∧ Below X.heap.size X w')
    (hC3 : ∀ X A n c, P X → TrAt X T (.slice A n c) → Calls Try.prog 14 #[ev 4 bOr 0 0 e0 e0 e0 (.slice A n c), L] X fun e w' => e = .returned (.tuple #[vv y1 y2 y3, .bool b]) ∧ Below X.heap.size X w') {Q : Exit → Act → World → Prop}
    (hQ : ∀ (x45 x46 x47 x48 x49 x44 x50 x51 : Value) (h : Nat) (wx : World), Keep w wx N [(h, 23, #[.int .i64 y1, .int .i64 y2, .string y3])] P → Q .normal ⟨#[u0, u1, u2, u3, u4, u5, .pointer (some ⟨g, 0, none⟩), L, u8, u9, u10, u11, u12, .pointer (some ⟨h, 0, none⟩), .bool b, u15, u16, u17, u18, u19, u20, u21, u22, u23, u24, u25, u26, u27, u28, u29, u30, u31, u32, u33, u34, u35, u36, u37, u38, u39, u40, u41, u42, u43, x44, x45, x46, x47, x48, x49, x50, x51, u52, u53, u54, u55, u56, u57, u58, u59, u60, u61, u62, u63, u64, u65, u66, u67, u68, u69, u70, u71, u72, u73, u74, u75, u76, u77, u78, u79, u80, u81, u82, u83, u84, u85, u86, u87, u88, u89, u90, u91, u92, u93, u94, u95, u96, u97, u98, u99, u100, u101, u102, u103, u104, u105, u106, u107, u108, u109, u110, u111, u112, u113, u114, u115, u116, u117, u118, u119, u120, u121, u122, u123, u124, u125], []⟩ wx) :
    Code.wp Try.prog ((Try.f7.body.bind (regionN 9)).getD .skip) Q ⟨#[u0, u1, u2, u3, u4, u5, .pointer (some ⟨g, 0, none⟩), L, u8, u9, u10, u11, u12, u13, u14, u15, u16, u17, u18, u19, u20, u21, u22, u23, u24, u25, u26, u27, u28, u29, u30, u31, u32, u33, u34, u35, u36, u37, u38, u39, u40, u41, u42, u43, u44, u45, u46, u47, u48, u49, u50, u51, u52, u53, u54, u55, u56, u57, u58, u59, u60, u61, u62, u63, u64, u65, u66, u67, u68, u69, u70, u71, u72, u73, u74, u75, u76, u77, u78, u79, u80, u81, u82, u83, u84, u85, u86, u87, u88, u89, u90, u91, u92, u93, u94, u95, u96, u97, u98, u99, u100, u101, u102, u103, u104, u105, u106, u107, u108, u109, u110, u111, u112, u113, u114, u115, u116, u117, u118, u119, u120, u121, u122, u123, u124, u125], []⟩ W := by
  have HQ := Lib.hid hQ; clear hQ
  conv => arg 2; whnf
  have C := Lib.hid (And.intro hC2 (And.intro hC3 hg)); clear hC2 hC3 hg
  have K := Lib.hid hK; clear hK
  have p0 := (C.out.2.2 _ K.out.p).cell
  go_region_held3 (fun w' => (∀ j, w'.cell? ⟨g, j, none⟩ = (#[.int .i64 k1, .string o1, .int .i64 a1, .int .i64 b1, .string s1, .string v1, .string f1, .slice A1 n1 c1] : Array Value)[j]?)) (exact (C.out.2.2 _ (by first | exact (K.out.put3 _ _ _).p | exact (K.out.drw.put3 _ _ _).p | exact K.out.p | exact K.out.drw.p | exact (K.out.more _ _).p | exact (K.out.dmore _ _).p)).cell) (first
    | (go_at_call 34; ((with_reducible refine (ltruth_any false _).mono ?_); rintro e w1 ⟨rfl, hb⟩; (first | replace K := Lib.hid (K.out.go hb) | replace K := Lib.hid (K.out.drw.go hb) | replace K := Lib.hid ((K.out.more _ _).go hb) | replace K := Lib.hid ((K.out.dmore _ _).go hb)); (try clear q0 q1 q2); (try obtain ⟨q0, q1, q2⟩ := K.out.head); clear hb))
    | (go_at_call 32; ((with_reducible refine (C.out.1 _ (by first | exact (K.out.put3 _ _ _).p | exact (K.out.drw.put3 _ _ _).p | exact K.out.p | exact K.out.drw.p | exact (K.out.more _ _).p | exact (K.out.dmore _ _).p)).mono ?_); rintro e w1 ⟨⟨A2, n2, c2, rfl, hT⟩, hb⟩; have HT := Lib.hid hT; clear hT; (first | replace K := Lib.hid (K.out.go hb) | replace K := Lib.hid (K.out.drw.go hb) | replace K := Lib.hid ((K.out.more _ _).go hb) | replace K := Lib.hid ((K.out.dmore _ _).go hb)); (try clear q0 q1 q2); (try obtain ⟨q0, q1, q2⟩ := K.out.head); clear hb))
    | (go_at_call 14; ((with_reducible refine (C.out.2.1 _ _ _ _ (by first | exact (K.out.put3 _ _ _).p | exact (K.out.drw.put3 _ _ _).p | exact K.out.p | exact K.out.drw.p | exact (K.out.more _ _).p | exact (K.out.dmore _ _).p) (by first | exact HT.out | exact TrAt.later (below_drew (Below.refl _ _)) HT.out | exact TrAt.later (ba _ _) HT.out | exact TrAt.later (bt (below_drew (Below.refl _ _)) (ba _ _)) HT.out)).mono ?_); rintro e w1 ⟨rfl, hb⟩; (first | replace K := Lib.hid (K.out.go hb) | replace K := Lib.hid (K.out.drw.go hb) | replace K := Lib.hid ((K.out.more _ _).go hb) | replace K := Lib.hid ((K.out.dmore _ _).go hb)); (try clear q0 q1 q2); (try obtain ⟨q0, q1, q2⟩ := K.out.head); clear hb)))
  all_goals
    first
    | exact NoPanic.normal (HQ.out _ _ _ _ _ _ _ _ _ _ (K.out.more _ _))
    | exact NoPanic.normal (HQ.out _ _ _ _ _ _ _ _ _ _ (K.out.dmore _ _))
    | exact NoPanic.normal (HQ.out _ _ _ _ _ _ _ _ _ _ (K.out.put3 _ _ _))
    | exact NoPanic.normal (HQ.out _ _ _ _ _ _ _ _ _ _ (K.out.drw.put3 _ _ _))
  
set_option maxRecDepth 20000 in
set_option maxHeartbeats 4000000 in
theorem short13 (u0 u1 u2 u3 u4 u5 u6 u9 u10 u11 u12 u13 u14 u15 u16 u17 u18 u19 u20 u21 u22 u23 u24 u25 u26 u27 u28 u29 u30 u31 u32 u33 u34 u35 u36 u37 u38 u39 u40 u41 u42 u43 u44 u45 u46 u47 u48 u49 u50 u51 u52 u53 u54 u55 u56 u57 u58 u59 u60 u61 u62 u63 u64 u65 u66 u67 u68 u69 u70 u71 u72 u73 u74 u75 u76 u77 u78 u79 u80 u81 u82 u83 u84 u85 u86 u87 u88 u89 u90 u91 u92 u93 u94 u95 u96 u97 u98 u99 u100 u101 u102 u103 u104 u105 u106 u107 u108 u109 u110 u111 u112 u113 u114 u115 u116 u117 u118 u119 u120 u121 u122 u123 u124 u125 : Value) {w W : World} {N : Nat} {P : World → Prop} {g : Nat} {k1 : Int} {o1 : ByteArray} {a1 b1 : Int} {s1 v1 f1 : ByteArray} {A1 : Option Addr} {n1 c1 : Nat} {L : Value} {T : Tr} {y1 y2 : Int} {y3 : ByteArray} {b : Bool}
    (hK : Keep w W N [] P) (hg : ∀ X, P X → Blk X g 26 #[.int .i64 k1, .string o1, .int .i64 a1, .int .i64 b1, .string s1, .string v1, .string f1, .slice A1 n1 c1])
    (hC2 : ∀ X, P X → Calls Try.prog 32 #[.string bAnd, ev k1 o1 a1 b1 s1 v1 f1 (.slice A1 n1 c1), ev 0 e0 2 0 e0 e0 e0 nilk] X fun e w' => IsN bAnd T e w' ∧ Below X.heap.size X w')
    (hC3 : ∀ X A n c, P X → TrAt X T (.slice A n c) → Calls Try.prog 14 #[ev 4 bAnd 0 0 e0 e0 e0 (.slice A n c), L] X fun e w' => e = .returned (.tuple #[vv y1 y2 y3, .bool b]) ∧ Below X.heap.size X w') {Q : Exit → Act → World → Prop}
    (hQ : ∀ (x80 x81 x82 x83 x84 x79 x85 x86 : Value) (h : Nat) (wx : World), Keep w wx N [(h, 23, #[.int .i64 y1, .int .i64 y2, .string y3])] P → Q .normal ⟨#[u0, u1, u2, u3, u4, u5, u6, L, .pointer (some ⟨g, 0, none⟩), u9, u10, u11, u12, u13, u14, u15, .pointer (some ⟨h, 0, none⟩), .bool b, u18, u19, u20, u21, u22, u23, u24, u25, u26, u27, u28, u29, u30, u31, u32, u33, u34, u35, u36, u37, u38, u39, u40, u41, u42, u43, u44, u45, u46, u47, u48, u49, u50, u51, u52, u53, u54, u55, u56, u57, u58, u59, u60, u61, u62, u63, u64, u65, u66, u67, u68, u69, u70, u71, u72, u73, u74, u75, u76, u77, u78, x79, x80, x81, x82, x83, x84, x85, x86, u87, u88, u89, u90, u91, u92, u93, u94, u95, u96, u97, u98, u99, u100, u101, u102, u103, u104, u105, u106, u107, u108, u109, u110, u111, u112, u113, u114, u115, u116, u117, u118, u119, u120, u121, u122, u123, u124, u125], []⟩ wx) :
    Code.wp Try.prog ((Try.f7.body.bind (regionN 13)).getD .skip) Q ⟨#[u0, u1, u2, u3, u4, u5, u6, L, .pointer (some ⟨g, 0, none⟩), u9, u10, u11, u12, u13, u14, u15, u16, u17, u18, u19, u20, u21, u22, u23, u24, u25, u26, u27, u28, u29, u30, u31, u32, u33, u34, u35, u36, u37, u38, u39, u40, u41, u42, u43, u44, u45, u46, u47, u48, u49, u50, u51, u52, u53, u54, u55, u56, u57, u58, u59, u60, u61, u62, u63, u64, u65, u66, u67, u68, u69, u70, u71, u72, u73, u74, u75, u76, u77, u78, u79, u80, u81, u82, u83, u84, u85, u86, u87, u88, u89, u90, u91, u92, u93, u94, u95, u96, u97, u98, u99, u100, u101, u102, u103, u104, u105, u106, u107, u108, u109, u110, u111, u112, u113, u114, u115, u116, u117, u118, u119, u120, u121, u122, u123, u124, u125], []⟩ W := by
  have HQ := Lib.hid hQ; clear hQ
  conv => arg 2; whnf
  have C := Lib.hid (And.intro hC2 (And.intro hC3 hg)); clear hC2 hC3 hg
  have K := Lib.hid hK; clear hK
  have p0 := (C.out.2.2 _ K.out.p).cell
  go_region_held3 (fun w' => (∀ j, w'.cell? ⟨g, j, none⟩ = (#[.int .i64 k1, .string o1, .int .i64 a1, .int .i64 b1, .string s1, .string v1, .string f1, .slice A1 n1 c1] : Array Value)[j]?)) (exact (C.out.2.2 _ (by first | exact (K.out.put3 _ _ _).p | exact (K.out.drw.put3 _ _ _).p | exact K.out.p | exact K.out.drw.p | exact (K.out.more _ _).p | exact (K.out.dmore _ _).p)).cell) (first
    | (go_at_call 34; ((with_reducible refine (ltruth_any false _).mono ?_); rintro e w1 ⟨rfl, hb⟩; (first | replace K := Lib.hid (K.out.go hb) | replace K := Lib.hid (K.out.drw.go hb) | replace K := Lib.hid ((K.out.more _ _).go hb) | replace K := Lib.hid ((K.out.dmore _ _).go hb)); (try clear q0 q1 q2); (try obtain ⟨q0, q1, q2⟩ := K.out.head); clear hb))
    | (go_at_call 32; ((with_reducible refine (C.out.1 _ (by first | exact (K.out.put3 _ _ _).p | exact (K.out.drw.put3 _ _ _).p | exact K.out.p | exact K.out.drw.p | exact (K.out.more _ _).p | exact (K.out.dmore _ _).p)).mono ?_); rintro e w1 ⟨⟨A2, n2, c2, rfl, hT⟩, hb⟩; have HT := Lib.hid hT; clear hT; (first | replace K := Lib.hid (K.out.go hb) | replace K := Lib.hid (K.out.drw.go hb) | replace K := Lib.hid ((K.out.more _ _).go hb) | replace K := Lib.hid ((K.out.dmore _ _).go hb)); (try clear q0 q1 q2); (try obtain ⟨q0, q1, q2⟩ := K.out.head); clear hb))
    | (go_at_call 14; ((with_reducible refine (C.out.2.1 _ _ _ _ (by first | exact (K.out.put3 _ _ _).p | exact (K.out.drw.put3 _ _ _).p | exact K.out.p | exact K.out.drw.p | exact (K.out.more _ _).p | exact (K.out.dmore _ _).p) (by first | exact HT.out | exact TrAt.later (below_drew (Below.refl _ _)) HT.out | exact TrAt.later (ba _ _) HT.out | exact TrAt.later (bt (below_drew (Below.refl _ _)) (ba _ _)) HT.out)).mono ?_); rintro e w1 ⟨rfl, hb⟩; (first | replace K := Lib.hid (K.out.go hb) | replace K := Lib.hid (K.out.drw.go hb) | replace K := Lib.hid ((K.out.more _ _).go hb) | replace K := Lib.hid ((K.out.dmore _ _).go hb)); (try clear q0 q1 q2); (try obtain ⟨q0, q1, q2⟩ := K.out.head); clear hb)))
  all_goals
    first
    | exact NoPanic.normal (HQ.out _ _ _ _ _ _ _ _ _ _ (K.out.more _ _))
    | exact NoPanic.normal (HQ.out _ _ _ _ _ _ _ _ _ _ (K.out.dmore _ _))
    | exact NoPanic.normal (HQ.out _ _ _ _ _ _ _ _ _ _ (K.out.put3 _ _ _))
    | exact NoPanic.normal (HQ.out _ _ _ _ _ _ _ _ _ _ (K.out.drw.put3 _ _ _))
  
end Go.Proofs.Ytjddfjapopdciaa
