/- ReckonShort: the regions that draw their order. -/
import Derived.Test.YtjddfjapopdciaaMadeE
import Derived.Deep.RegionHeld3
namespace Go.Proofs.Ytjddfjapopdciaa
open Go.ChangeShapes Go.WideShapes Go.ChangeAt Go.RowKit
open Rk (inR)
set_option linter.unusedVariables false
set_option linter.unusedSimpArgs false

set_option maxRecDepth 20000 in
set_option maxHeartbeats 4000000 in
theorem short15 (u0 u1 u2 u3 u4 u9 u10 u11 u12 u13 u14 u15 u16 u18 u20 u21 u22 u23 u24 u25 u26 u27 u28 u29 u30 u31 u32 u33 u34 u35 u36 u37 u38 u39 u40 u41 u42 u43 u44 u45 u46 u47 u48 u49 u50 u51 u52 u53 u54 u55 u56 u57 u58 u59 u60 u61 u62 u63 u64 u65 u66 u67 u68 u69 u70 u71 u72 u73 u74 u75 u76 u77 u78 u79 u80 u81 u82 u83 u84 u85 u86 u87 u88 u89 u90 u91 u92 u93 u94 u95 u96 u97 u98 u99 u100 u101 u102 u103 u104 u105 u106 u107 u108 u109 u110 u111 u112 u113 u114 u115 u116 u117 u118 u119 u120 u121 u122 u123 u124 u125 : Value) {w W : World} {N : Nat} {P : World → Prop} {g g2 : Nat} {k1 : Int} {o1 : ByteArray} {a1 b1 : Int} {s1 v1 f1 : ByteArray} {A1 : Option Addr} {n1 c1 : Nat} {k2 : Int} {o2 : ByteArray} {a2 b2 : Int} {s2 v2 f2 : ByteArray} {A2 : Option Addr} {n2 c2 : Nat} {L : Value} {T U V : Tr}
    (hK : Keep w W N [] P) (hg : ∀ X, P X → Blk X g 26 #[.int .i64 k1, .string o1, .int .i64 a1, .int .i64 b1, .string s1, .string v1, .string f1, .slice A1 n1 c1]) (hg2 : ∀ X, P X → Blk X g2 26 #[.int .i64 k2, .string o2, .int .i64 a2, .int .i64 b2, .string s2, .string v2, .string f2, .slice A2 n2 c2])
    (h2a : ∀ X, P X → Calls Try.prog 32 #[.string bAnd, ev 0 e0 2 0 e0 e0 e0 nilk, ev k1 o1 a1 b1 s1 v1 f1 (.slice A1 n1 c1)] X fun e w' => IsN bAnd T e w' ∧ Below X.heap.size X w')
    (h3a : ∀ X A n c, P X → TrAt X T (.slice A n c) → Calls Try.prog 18 #[ev 4 bAnd 0 0 e0 e0 e0 (.slice A n c), L] X fun e w' => e = .returned (.bool false) ∧ Below X.heap.size X w')
    (h2b : ∀ X, P X → Calls Try.prog 32 #[.string bOr, ev 0 e0 2 1 e0 e0 e0 nilk, ev k1 o1 a1 b1 s1 v1 f1 (.slice A1 n1 c1)] X fun e w' => IsN bOr U e w' ∧ Below X.heap.size X w')
    (h3b : ∀ X A n c, P X → TrAt X U (.slice A n c) → Calls Try.prog 18 #[ev 4 bOr 0 0 e0 e0 e0 (.slice A n c), L] X fun e w' => e = .returned (.bool true) ∧ Below X.heap.size X w')
    (h2c : ∀ X, P X → Calls Try.prog 32 #[.string bOr, ev 0 e0 2 1 e0 e0 e0 nilk, ev k2 o2 a2 b2 s2 v2 f2 (.slice A2 n2 c2)] X fun e w' => IsN bOr V e w' ∧ Below X.heap.size X w')
    (h3c : ∀ X A n c, P X → TrAt X V (.slice A n c) → Calls Try.prog 18 #[ev 4 bOr 0 0 e0 e0 e0 (.slice A n c), L] X fun e w' => e = .returned (.bool true) ∧ Below X.heap.size X w') {Q : Exit → Act → World → Prop}
    (hQ : ∀ (x95 x96 x97 x98 x99 x100 x101 x102 x103 x104 x105 x106 x107 x108 x109 x110 x111 x112 x113 x114 x115 x116 x117 x118 x119 x120 x121 x122 x123 x124 x125 : Value)  (wx : World), Below w.heap.size w wx → Q .normal ⟨#[u0, u1, u2, u3, .bool true, .bool true, .pointer (some ⟨g, 0, none⟩), L, .pointer (some ⟨g2, 0, none⟩), u9, u10, u11, u12, u13, u14, u15, u16, .bool false, u18, .bool false, u20, u21, u22, u23, u24, u25, u26, u27, u28, u29, u30, u31, u32, u33, u34, u35, u36, u37, u38, u39, u40, u41, u42, u43, u44, u45, u46, u47, u48, u49, u50, u51, u52, u53, u54, u55, u56, u57, u58, u59, u60, u61, u62, u63, u64, u65, u66, u67, u68, u69, u70, u71, u72, u73, u74, u75, u76, u77, u78, u79, u80, u81, u82, u83, u84, u85, u86, u87, u88, u89, u90, u91, u92, u93, u94, x95, x96, x97, x98, x99, x100, x101, x102, x103, x104, x105, x106, x107, x108, x109, x110, x111, x112, x113, x114, x115, x116, x117, x118, x119, x120, x121, x122, x123, x124, x125], []⟩ wx) :
    Code.wp Try.prog ((Try.f7.body.bind (regionN 15)).getD .skip) Q ⟨#[u0, u1, u2, u3, u4, .bool true, .pointer (some ⟨g, 0, none⟩), L, .pointer (some ⟨g2, 0, none⟩), u9, u10, u11, u12, u13, u14, u15, u16, .bool false, u18, .bool false, u20, u21, u22, u23, u24, u25, u26, u27, u28, u29, u30, u31, u32, u33, u34, u35, u36, u37, u38, u39, u40, u41, u42, u43, u44, u45, u46, u47, u48, u49, u50, u51, u52, u53, u54, u55, u56, u57, u58, u59, u60, u61, u62, u63, u64, u65, u66, u67, u68, u69, u70, u71, u72, u73, u74, u75, u76, u77, u78, u79, u80, u81, u82, u83, u84, u85, u86, u87, u88, u89, u90, u91, u92, u93, u94, u95, u96, u97, u98, u99, u100, u101, u102, u103, u104, u105, u106, u107, u108, u109, u110, u111, u112, u113, u114, u115, u116, u117, u118, u119, u120, u121, u122, u123, u124, u125], []⟩ W := by
  have HQ := Lib.hid hQ; clear hQ
  conv => arg 2; whnf
  have C := Lib.hid (And.intro h2a (And.intro h3a (And.intro h2b (And.intro h3b (And.intro h2c h3c))))); clear h2a h3a h2b h3b h2c h3c
  have D := Lib.hid (And.intro hg hg2); clear hg hg2
  have K := Lib.hid hK; clear hK
  have p0 := (D.out.1 _ K.out.p).cell
  have p1 := (D.out.2 _ K.out.p).cell
  refine wp_region_noPanic ?_
  go_region_held3 (fun w' => (∀ j, w'.cell? ⟨g, j, none⟩ = (#[.int .i64 k1, .string o1, .int .i64 a1, .int .i64 b1, .string s1, .string v1, .string f1, .slice A1 n1 c1] : Array Value)[j]?) ∧ (∀ j, w'.cell? ⟨g2, j, none⟩ = (#[.int .i64 k2, .string o2, .int .i64 a2, .int .i64 b2, .string s2, .string v2, .string f2, .slice A2 n2 c2] : Array Value)[j]?)) (exact ⟨(D.out.1 _ (by first | exact K.out.p | exact K.out.drw.p)).cell, (D.out.2 _ (by first | exact K.out.p | exact K.out.drw.p)).cell⟩) (first
    | (go_at_call 34; ((with_reducible refine (ltruth_any false _).mono ?_); rintro e w1 ⟨rfl, hb⟩; (first | replace K := Lib.hid (K.out.go hb) | replace K := Lib.hid (K.out.drw.go hb)); clear hb))
    | (go_at_call 34; ((with_reducible refine (ltruth_any true _).mono ?_); rintro e w1 ⟨rfl, hb⟩; (first | replace K := Lib.hid (K.out.go hb) | replace K := Lib.hid (K.out.drw.go hb)); clear hb))
    | (go_at_call 32; ((with_reducible refine (C.out.1 _ (by first | exact K.out.p | exact K.out.drw.p)).mono ?_); rintro e w1 ⟨⟨A3, n3, c3, rfl, hT⟩, hb⟩; have HT := Lib.hid hT; clear hT; (first | replace K := Lib.hid (K.out.go hb) | replace K := Lib.hid (K.out.drw.go hb)); clear hb))
    | (go_at_call 18; ((with_reducible refine (C.out.2.1 _ _ _ _ (by first | exact K.out.p | exact K.out.drw.p) (by first | exact HT.out | exact TrAt.later (below_drew (Below.refl _ _)) HT.out | exact TrAt.later (ba _ _) HT.out | exact TrAt.later (bt (below_drew (Below.refl _ _)) (ba _ _)) HT.out)).mono ?_); rintro e w1 ⟨rfl, hb⟩; (first | replace K := Lib.hid (K.out.go hb) | replace K := Lib.hid (K.out.drw.go hb)); clear hb))
    | (go_at_call 32; ((with_reducible refine (C.out.2.2.1 _ (by first | exact K.out.p | exact K.out.drw.p)).mono ?_); rintro e w1 ⟨⟨A3, n3, c3, rfl, hT⟩, hb⟩; have HT := Lib.hid hT; clear hT; (first | replace K := Lib.hid (K.out.go hb) | replace K := Lib.hid (K.out.drw.go hb)); clear hb))
    | (go_at_call 18; ((with_reducible refine (C.out.2.2.2.1 _ _ _ _ (by first | exact K.out.p | exact K.out.drw.p) (by first | exact HT.out | exact TrAt.later (below_drew (Below.refl _ _)) HT.out | exact TrAt.later (ba _ _) HT.out | exact TrAt.later (bt (below_drew (Below.refl _ _)) (ba _ _)) HT.out)).mono ?_); rintro e w1 ⟨rfl, hb⟩; (first | replace K := Lib.hid (K.out.go hb) | replace K := Lib.hid (K.out.drw.go hb)); clear hb))
    | (go_at_call 32; ((with_reducible refine (C.out.2.2.2.2.1 _ (by first | exact K.out.p | exact K.out.drw.p)).mono ?_); rintro e w1 ⟨⟨A3, n3, c3, rfl, hT⟩, hb⟩; have HT := Lib.hid hT; clear hT; (first | replace K := Lib.hid (K.out.go hb) | replace K := Lib.hid (K.out.drw.go hb)); clear hb))
    | (go_at_call 18; ((with_reducible refine (C.out.2.2.2.2.2 _ _ _ _ (by first | exact K.out.p | exact K.out.drw.p) (by first | exact HT.out | exact TrAt.later (below_drew (Below.refl _ _)) HT.out | exact TrAt.later (ba _ _) HT.out | exact TrAt.later (bt (below_drew (Below.refl _ _)) (ba _ _)) HT.out)).mono ?_); rintro e w1 ⟨rfl, hb⟩; (first | replace K := Lib.hid (K.out.go hb) | replace K := Lib.hid (K.out.drw.go hb)); clear hb)))
  all_goals
    first
    | exact NoPanic.normal (HQ.out _ _ _ _ _ _ _ _ _ _ _ _ _ _ _ _ _ _ _ _ _ _ _ _ _ _ _ _ _ _ _ _ K.out.bel)
  
end Go.Proofs.Ytjddfjapopdciaa
