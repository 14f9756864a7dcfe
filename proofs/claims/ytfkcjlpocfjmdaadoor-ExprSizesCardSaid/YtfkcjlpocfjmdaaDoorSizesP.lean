/- ExprSizes: the regions that draw their order. -/
import Derived.Test.YtfkcjlpocfjmdaaDoorMadeV
import Derived.Test.YtfkcjlpocfjmdaaDoorEx07
import Derived.Test.YtfkcjlpocfjmdaaDoorHas
import Derived.Deep.RegionHeld3
import Derived.Lib.QuietBelow
import Derived.BigQuiet
import Derived.BigGuard
import Derived.IntWalk
namespace Go.Proofs.YtfkcjlpocfjmdaaDoor
open Go.ChangeShapes Go.WideShapes Go.ChangeAt Go.RowKit
open Rk (inR)
set_option linter.unusedVariables false
set_option linter.unusedSimpArgs false

theorem finO {op : ByteArray} {w wx : World} {N : Nat} {bs : List RowB} {P : World → Prop} {g h : Nat} {R : Array Value} (K2 : Keep w wx N bs P) (h1 : (g, 26, R) ∈ bs) (h3 : (h, 26, NC op (some ⟨g, 0, none⟩) 2 2) ∈ bs) :
    Keep w wx wx.heap.size [] (fun X => (P X ∧ Blk X g 26 R) ∧ Blk X h 26 (NC op (some ⟨g, 0, none⟩) 2 2)) := by
  have e3 := K2.blk h3
  exact (K2.keepRow h1).and (Q := fun X => Blk X h 26 (NC op (some ⟨g, 0, none⟩) 2 2)) e3 (fun _ _ hb h => h.later hb)
theorem two_any (op : ByteArray) (k1 : Int) (o1 : ByteArray) (a1 b1 : Int) (s1 v1 f1 : ByteArray) (A1 : Option Addr) (n1 c1 : Nat) (k2 : Int) (o2 : ByteArray) (a2 b2 : Int) (s2 v2 f2 : ByteArray) (A2 : Option Addr) (n2 c2 : Nat) (w : World) :
    Calls Tryd.prog 26 #[.string op, ev k1 o1 a1 b1 s1 v1 f1 (.slice A1 n1 c1), ev k2 o2 a2 b2 s2 v2 f2 (.slice A2 n2 c2)] w fun e w' => TwoAt op (#[.int .i64 k1, .string o1, .int .i64 a1, .int .i64 b1, .string s1, .string v1, .string f1, .slice A1 n1 c1, .int .i64 k2, .string o2, .int .i64 a2, .int .i64 b2, .string s2, .string v2, .string f2, .slice A2 n2 c2] : Array Value) w e w' := by
  refine (two_ev op k1 o1 a1 b1 s1 v1 f1 A1 n1 c1 k2 o2 a2 b2 s2 v2 f2 A2 n2 c2 w).mono ?_
  rintro e w' ⟨rfl, hb, hB⟩
  exact ⟨_, by omega, rfl, hb, hB⟩
theorem node_of_val {t : Tr} {K : Value} {k : Int} {op : ByteArray} {vk vn : Int} {vs va f : ByteArray} {L : Value} (e : t.val K = ev k op vk vn vs va f L) : t.node K = (k, op, vk, vn, vs, va, f, L) := by
  cases t <;> (simp only [Tr.val, Tr.node, ev, Value.agg.injEq, Array.mk.injEq, List.cons.injEq, Value.int.injEq, Value.string.injEq, true_and, and_true] at e ⊢; obtain ⟨rfl, rfl, rfl, rfl, rfl, rfl, rfl, rfl⟩ := e; rfl)
theorem bin_at {x y : Tr} {kx ky : Value} {op : ByteArray} {k1 : Int} {o1 : ByteArray} {a1 b1 : Int} {s1 v1 f1 : ByteArray} {A1 : Option Addr} {n1 c1 : Nat} {k2 : Int} {o2 : ByteArray} {a2 b2 : Int} {s2 v2 f2 : ByteArray} {A2 : Option Addr} {n2 c2 : Nat} {g : Nat} {w : World}
    (hx : TrAt w x kx) (ex : x.val kx = ev k1 o1 a1 b1 s1 v1 f1 (.slice A1 n1 c1)) (hy : TrAt w y ky) (ey : y.val ky = ev k2 o2 a2 b2 s2 v2 f2 (.slice A2 n2 c2)) (hB : Blk w g 26 (#[.int .i64 k1, .string o1, .int .i64 a1, .int .i64 b1, .string s1, .string v1, .string f1, .slice A1 n1 c1, .int .i64 k2, .string o2, .int .i64 a2, .int .i64 b2, .string s2, .string v2, .string f2, .slice A2 n2 c2] : Array Value)) :
    TrAt w (.bin op x y) (.slice (some ⟨g, 0, none⟩) 2 2) :=
  ⟨_, 2, rfl, by decide, by decide, ⟨kx, hx, by rw [node_of_val ex]; exact row_lo hB⟩, ky, hy, by rw [node_of_val ey]; exact row_hi hB⟩
theorem op_pick (q : Nat) (h : q < 13) : ∃ X : ByteArray, (opsC : Array Value)[q]? = some (.string X) ∧ 0 < lvl X ∧ X.size ≤ 2 := by
  rcases (by omega : q = 0 ∨ q = 1 ∨ q = 2 ∨ q = 3 ∨ q = 4 ∨ q = 5 ∨ q = 6 ∨ q = 7 ∨ q = 8 ∨ q = 9 ∨ q = 10 ∨ q = 11 ∨ q = 12) with rfl | rfl | rfl | rfl | rfl | rfl | rfl | rfl | rfl | rfl | rfl | rfl | rfl
  all_goals exact ⟨_, rfl, of_decide_eq_true (by kernel_rfl), by decide⟩
set_option maxRecDepth 20000 in
set_option maxHeartbeats 4000000 in
theorem sizes9 (u0 u1 u3 u4 u5 u6 u7 u11 u12 u13 u14 u15 u16 u17 u18 u19 u20 u21 u22 u23 u24 u25 u26 u27 u28 u29 u30 u31 u32 u33 u34 u35 u36 u37 u38 u39 u40 u41 u42 u43 u44 u45 u46 u47 u48 u49 u50 u51 u52 u53 u54 u55 u56 u57 u58 u59 u60 u61 u62 u63 u64 u65 u66 u67 u68 u69 u70 u71 u72 u73 u74 u75 u76 u77 u78 u79 u80 u81 u82 u83 u84 u85 u86 u87 u88 u89 u90 u91 u92 u93 u94 u95 u96 u97 u98 u99 u100 u101 u102 u103 u104 u105 u106 u107 u108 u109 u110 u111 u112 u113 u114 u115 u116 u117 u118 u119 u120 u121 u122 : Value) {w W : World} {N : Nat} {P : World → Prop} {g g2 g0 : Nat} {o : ByteArray} {p : Int} {k1 : Int} {o1 : ByteArray} {a1 b1 : Int} {s1 v1 f1 : ByteArray} {A1 : Option Addr} {n1 c1 : Nat} {k2 : Int} {o2 : ByteArray} {a2 b2 : Int} {s2 v2 f2 : ByteArray} {A2 : Option Addr} {n2 c2 : Nat}
    (hp0 : 0 ≤ p) (hp1 : p ≤ 255) (hK : Keep w W N [] P) (hg : ∀ X, P X → Blk X g 26 #[.int .i64 k1, .string o1, .int .i64 a1, .int .i64 b1, .string s1, .string v1, .string f1, .slice A1 n1 c1]) (hg2 : ∀ X, P X → Blk X g2 26 #[.int .i64 k2, .string o2, .int .i64 a2, .int .i64 b2, .string s2, .string v2, .string f2, .slice A2 n2 c2]) (hop : ∀ X, P X → X.cell? ⟨g0, (p % 13).toNat, none⟩ = some (.string o)) {Q : Exit → Act → World → Prop}
    (hQ : ∀ (x29 x30 x31 x32 x33 x34 x35 x36 : Value) (gN h : Nat) (wx : World), Keep w wx wx.heap.size [] (fun X => (P X ∧ Blk X gN 26 (#[.int .i64 k1, .string o1, .int .i64 a1, .int .i64 b1, .string s1, .string v1, .string f1, .slice A1 n1 c1, .int .i64 k2, .string o2, .int .i64 a2, .int .i64 b2, .string s2, .string v2, .string f2, .slice A2 n2 c2] : Array Value)) ∧ Blk X h 26 (NC o (some ⟨gN, 0, none⟩) 2 2)) → Q .normal ⟨#[u0, u1, .int .u8 p, u3, u4, u5, u6, u7, .pointer (some ⟨g, 0, none⟩), .pointer (some ⟨g2, 0, none⟩), .slice (some ⟨g0, 0, none⟩) 13 13, .pointer (some ⟨h, 0, none⟩), u12, u13, u14, u15, u16, u17, u18, u19, u20, u21, u22, u23, u24, u25, u26, u27, u28, x29, x30, x31, x32, x33, x34, x35, x36, u37, u38, u39, u40, u41, u42, u43, u44, u45, u46, u47, u48, u49, u50, u51, u52, u53, u54, u55, u56, u57, u58, u59, u60, u61, u62, u63, u64, u65, u66, u67, u68, u69, u70, u71, u72, u73, u74, u75, u76, u77, u78, u79, u80, u81, u82, u83, u84, u85, u86, u87, u88, u89, u90, u91, u92, u93, u94, u95, u96, u97, u98, u99, u100, u101, u102, u103, u104, u105, u106, u107, u108, u109, u110, u111, u112, u113, u114, u115, u116, u117, u118, u119, u120, u121, u122], []⟩ wx) :
    Code.wp Tryd.prog ((Tryd.f5.body.bind (regionN 9)).getD .skip) Q ⟨#[u0, u1, .int .u8 p, u3, u4, u5, u6, u7, .pointer (some ⟨g, 0, none⟩), .pointer (some ⟨g2, 0, none⟩), .slice (some ⟨g0, 0, none⟩) 13 13, u11, u12, u13, u14, u15, u16, u17, u18, u19, u20, u21, u22, u23, u24, u25, u26, u27, u28, u29, u30, u31, u32, u33, u34, u35, u36, u37, u38, u39, u40, u41, u42, u43, u44, u45, u46, u47, u48, u49, u50, u51, u52, u53, u54, u55, u56, u57, u58, u59, u60, u61, u62, u63, u64, u65, u66, u67, u68, u69, u70, u71, u72, u73, u74, u75, u76, u77, u78, u79, u80, u81, u82, u83, u84, u85, u86, u87, u88, u89, u90, u91, u92, u93, u94, u95, u96, u97, u98, u99, u100, u101, u102, u103, u104, u105, u106, u107, u108, u109, u110, u111, u112, u113, u114, u115, u116, u117, u118, u119, u120, u121, u122], []⟩ W := by
  have HQ := Lib.hid hQ; clear hQ
  conv => arg 2; whnf
  have hq0 : (0 : Int) ≤ p % 13 := by omega
  have hq1 : p % 13 < 13 := by omega
  have hq2 : p.tmod 13 = p % 13 := Int.tmod_eq_emod_of_nonneg hp0
  have hq3 : ¬ p % 13 < 0 := by omega
  have hq4 : ¬ 13 ≤ p % 13 := by omega
  have C := Lib.hid (And.intro hg (And.intro hg2 hop)); clear hg hg2 hop
  have K := Lib.hid hK; clear hK
  have p0 := (C.out.1 _ K.out.p).cell
  have p1 := (C.out.2.1 _ K.out.p).cell
  have p2 := C.out.2.2 _ K.out.p
  refine wp_region_noPanic ?_
  go_region_held3 (fun w' => (∀ j, w'.cell? ⟨g, j, none⟩ = (#[.int .i64 k1, .string o1, .int .i64 a1, .int .i64 b1, .string s1, .string v1, .string f1, .slice A1 n1 c1] : Array Value)[j]?) ∧ (∀ j, w'.cell? ⟨g2, j, none⟩ = (#[.int .i64 k2, .string o2, .int .i64 a2, .int .i64 b2, .string s2, .string v2, .string f2, .slice A2 n2 c2] : Array Value)[j]?) ∧ w'.cell? ⟨g0, (p % 13).toNat, none⟩ = some (.string o)) (exact ⟨(C.out.1 _ (by first | with_reducible exact K.out.p | with_reducible exact K.out.drw.p | with_reducible exact (K.out.more _ _).p | with_reducible exact (K.out.dmore _ _).p | with_reducible exact (K.out.more _ _).drw.p | with_reducible exact (K.out.dmore _ _).drw.p | with_reducible exact (K.out.put8_ _ _ _ _ _ _ _ _).p | with_reducible exact (K.out.put8_1 _ _ _ _ _ _ _ _).p)).cell, (C.out.2.1 _ (by first | with_reducible exact K.out.p | with_reducible exact K.out.drw.p | with_reducible exact (K.out.more _ _).p | with_reducible exact (K.out.dmore _ _).p | with_reducible exact (K.out.more _ _).drw.p | with_reducible exact (K.out.dmore _ _).drw.p | with_reducible exact (K.out.put8_ _ _ _ _ _ _ _ _).p | with_reducible exact (K.out.put8_1 _ _ _ _ _ _ _ _).p)).cell, C.out.2.2 _ (by first | with_reducible exact K.out.p | with_reducible exact K.out.drw.p | with_reducible exact (K.out.more _ _).p | with_reducible exact (K.out.dmore _ _).p | with_reducible exact (K.out.more _ _).drw.p | with_reducible exact (K.out.dmore _ _).drw.p | with_reducible exact (K.out.put8_ _ _ _ _ _ _ _ _).p | with_reducible exact (K.out.put8_1 _ _ _ _ _ _ _ _).p)⟩) (first
    | (go_at_call 26; ((with_reducible refine (two_any _ _ _ _ _ _ _ _ _ _ _ _ _ _ _ _ _ _ _ _ _ _).mono ?_); rintro e w1 ⟨g', hg, rfl, hb, hB⟩; (first | replace K := Lib.hid (K.out.got hb hB hg) | replace K := Lib.hid (K.out.drw.got hb hB hg) | replace K := Lib.hid ((K.out.more _ _).got hb hB hg) | replace K := Lib.hid ((K.out.dmore _ _).got hb hB hg) | replace K := Lib.hid ((K.out.more _ _).drw.got hb hB hg) | replace K := Lib.hid ((K.out.dmore _ _).drw.got hb hB hg)); (try clear q0 q1 q2); (first | obtain ⟨q0, q1, q2⟩ := K.out.cells (c := zeroC) (List.Mem.head _) | obtain ⟨q0, q1, q2⟩ := K.out.cells (c := zeroC) (List.Mem.tail _ (List.Mem.head _)) | skip); clear hb hB hg)))
  all_goals
    refine NoPanic.normal (HQ.out _ _ _ _ _ _ _ _  g' _ _ ?_)
    first
    | with_reducible exact finO (K.out.more _ _) (List.Mem.tail _ (List.Mem.head _)) (List.Mem.head _)
    | with_reducible exact finO (K.out.dmore _ _) (List.Mem.tail _ (List.Mem.head _)) (List.Mem.head _)
    | with_reducible exact finO (K.out.put8_1 _ _ _ _ _ _ _ _) (List.Mem.head _) (List.Mem.tail _ (List.Mem.head _))
    | with_reducible exact finO (K.out.drw.put8_1 _ _ _ _ _ _ _ _) (List.Mem.head _) (List.Mem.tail _ (List.Mem.head _))
  
end Go.Proofs.YtfkcjlpocfjmdaaDoor
namespace Go.Proofs.YtfkcjlpocfjmdaaDoor
open Go.ChangeShapes Go.WideShapes Go.ChangeAt Go.RowKit
open Rk (inR)
set_option linter.unusedVariables false
set_option linter.unusedSimpArgs false

theorem sc_one (x : ByteArray) : ∀ u ∈ scV x, u.oneCell' = true := fun u hu => by simp at hu; subst hu; rfl
theorem Keep.app {w W w5 : World} {N : Nat} {P : World → Prop} {v5 : Value} {r : List ByteArray} (h : Keep w W N [] P) (hO : Own w5 W.heap.size 9 1 scV v5 ([] ++ r)) (hg : W.grownBy w5 (Value.ownBlock (.slice none 0 0))) :
    Keep w w5 w5.heap.size [] (fun X => P X ∧ (Below W.heap.size W X ∧ Own X W.heap.size 9 1 scV v5 r)) := by
  have hb := own_past (Below.refl _ _) hg (Own.nil W W.heap.size 9 1 scV)
  rw [List.nil_append] at hO
  exact (h.go hb).and (Q := fun X => Below W.heap.size W X ∧ Own X W.heap.size 9 1 scV v5 r) ⟨hb, hO⟩ (fun _ _ hb h => ⟨h.1.trans (hb.mono h.1.size), h.2.later hb⟩)
theorem Keep.app2 {w wb W w6 : World} {N : Nat} {P : World → Prop} {v v' : Value} {r1 r2 : List ByteArray} (h : Keep w wb N [] P) (h1 : Below wb.heap.size wb W ∧ Own W wb.heap.size 9 1 scV v r1) (hO : Own w6 wb.heap.size 9 1 scV v' (r1 ++ r2)) (hg : W.grownBy w6 v.ownBlock) :
    Keep w w6 w6.heap.size [] (fun X => P X ∧ At X 1 scV v' (r1 ++ r2)) :=
  (h.go (own_past h1.1 hg h1.2)).and (Q := fun X => At X 1 scV v' (r1 ++ r2)) (Own.at_ (f := scV) (fun _ => rfl) hO) (fun _ _ hb h => h.later hb)
theorem own_len {w : World} {b : Nat} {e : TypeId} {A : Option Addr} {n c : Nat} {l : List ByteArray} (h : Own w b e 1 scV (.slice A n c) l) : n = l.length := by
  obtain ⟨B, d, he, -, -, -⟩ := h.shape
  simp only [Value.slice.injEq] at he; exact he.2.1
set_option maxRecDepth 20000 in
set_option maxHeartbeats 4000000 in
theorem sizes16 (u0 u1 u2 u3 u4 u5 u6 u7 u10 u11 u12 u13 u14 u15 u16 u17 u18 u19 u20 u21 u22 u23 u24 u25 u26 u27 u28 u29 u30 u31 u32 u33 u34 u35 u36 u37 u38 u39 u40 u41 u42 u43 u44 u45 u46 u47 u48 u49 u50 u51 u52 u53 u54 u55 u56 u57 u58 u59 u60 u61 u62 u63 u64 u65 u66 u67 u68 u69 u70 u71 u72 u73 u74 u75 u76 u77 u78 u79 u80 u81 u82 u83 u84 u85 u86 u87 u88 u89 u90 u91 u92 u93 u94 u95 u96 u97 u98 u99 u100 u101 u102 u103 u104 u105 u106 u107 u108 u109 u110 u111 u112 u113 u114 u115 u116 u117 u118 u119 u120 u121 u122 : Value) {w W : World} {N : Nat} {P : World → Prop} {g g2 : Nat} {ta tb : Tr} {k1 : Int} {o1 : ByteArray} {a1 b1 : Int} {s1 v1 f1 : ByteArray} {A1 : Option Addr} {n1 c1 : Nat} {k2 : Int} {o2 : ByteArray} {a2 b2 : Int} {s2 v2 f2 : ByteArray} {A2 : Option Addr} {n2 c2 : Nat}
    (hK : Keep w W N [] P) (hPs : ∀ A B : World, Below A.heap.size A B → P A → P B) (hg : ∀ X, P X → Blk X g 26 #[.int .i64 k1, .string o1, .int .i64 a1, .int .i64 b1, .string s1, .string v1, .string f1, .slice A1 n1 c1]) (hg2 : ∀ X, P X → Blk X g2 26 #[.int .i64 k2, .string o2, .int .i64 a2, .int .i64 b2, .string s2, .string v2, .string f2, .slice A2 n2 c2])
    (hV1 : ∀ X, P X → Calls Tryd.prog 15 #[ev k1 o1 a1 b1 s1 v1 f1 (.slice A1 n1 c1)] X fun e w' => VarsT X ta e w' ∧ Below X.heap.size X w')
    (hV2 : ∀ X, P X → Calls Tryd.prog 15 #[ev k2 o2 a2 b2 s2 v2 f2 (.slice A2 n2 c2)] X fun e w' => VarsT X tb e w' ∧ Below X.heap.size X w') (hL1 : ta.vars.length ≤ 243) (hL2 : tb.vars.length ≤ 243) {Q : Exit → Act → World → Prop}
    (hQ : ∀ (x56 x57 x58 x59 x60 : Value) (VA : Option Addr) (n c : Nat) (r1 r2 : List ByteArray) (wx : World), Keep w wx wx.heap.size [] (fun X => P X ∧ At X 1 scV (.slice VA n c) (r1 ++ r2)) ∧ n = (r1 ++ r2).length ∧ Sorted1 ta.vars r1 ∧ Sorted1 tb.vars r2 ∧ n ≤ 486 → Q .normal ⟨#[u0, u1, u2, u3, u4, u5, u6, u7, .pointer (some ⟨g, 0, none⟩), .pointer (some ⟨g2, 0, none⟩), u10, u11, u12, u13, u14, u15, u16, u17, u18, u19, u20, u21, u22, u23, u24, u25, u26, u27, u28, u29, u30, u31, u32, u33, u34, u35, u36, u37, u38, u39, u40, u41, u42, u43, u44, u45, u46, u47, u48, u49, u50, u51, u52, u53, u54, u55, x56, x57, x58, x59, x60, .slice VA n c, .int .i64 n, .int .i64 0, u64, u65, u66, u67, u68, u69, u70, u71, u72, u73, u74, u75, u76, u77, u78, u79, u80, u81, u82, u83, u84, u85, u86, u87, u88, u89, u90, u91, u92, u93, u94, u95, u96, u97, u98, u99, u100, u101, u102, u103, u104, u105, u106, u107, u108, u109, u110, u111, u112, u113, u114, u115, u116, u117, u118, u119, u120, u121, u122], []⟩ wx) :
    Code.wp Tryd.prog ((Tryd.f5.body.bind (regionN 16)).getD .skip) Q ⟨#[u0, u1, u2, u3, u4, u5, u6, u7, .pointer (some ⟨g, 0, none⟩), .pointer (some ⟨g2, 0, none⟩), u10, u11, u12, u13, u14, u15, u16, u17, u18, u19, u20, u21, u22, u23, u24, u25, u26, u27, u28, u29, u30, u31, u32, u33, u34, u35, u36, u37, u38, u39, u40, u41, u42, u43, u44, u45, u46, u47, u48, u49, u50, u51, u52, u53, u54, u55, u56, u57, u58, u59, u60, u61, u62, u63, u64, u65, u66, u67, u68, u69, u70, u71, u72, u73, u74, u75, u76, u77, u78, u79, u80, u81, u82, u83, u84, u85, u86, u87, u88, u89, u90, u91, u92, u93, u94, u95, u96, u97, u98, u99, u100, u101, u102, u103, u104, u105, u106, u107, u108, u109, u110, u111, u112, u113, u114, u115, u116, u117, u118, u119, u120, u121, u122], []⟩ W := by
  have HQ := Lib.hid hQ; clear hQ
  conv => arg 2; whnf
  obtain ⟨i0, hi, hz0, hz1, hz2⟩ := info_parts (P := Tryd.prog) (e := 9) (z := .string ⟨#[]⟩) (size := 1) (bytes := 16) (by kernel_rfl)
  have C := Lib.hid (And.intro hV1 (And.intro hV2 (And.intro hg hg2))); clear hV1 hV2 hg hg2
  have K := Lib.hid hK; clear hK
  have p0 := (C.out.2.2.1 _ K.out.p).cell
  have p1 := (C.out.2.2.2 _ K.out.p).cell
  refine wp_region_noPanic ?_
  go_region_held3 (fun w' => (∀ j, w'.cell? ⟨g, j, none⟩ = (#[.int .i64 k1, .string o1, .int .i64 a1, .int .i64 b1, .string s1, .string v1, .string f1, .slice A1 n1 c1] : Array Value)[j]?) ∧ (∀ j, w'.cell? ⟨g2, j, none⟩ = (#[.int .i64 k2, .string o2, .int .i64 a2, .int .i64 b2, .string s2, .string v2, .string f2, .slice A2 n2 c2] : Array Value)[j]?)) (exact ⟨(C.out.2.2.1 _ (by first | exact KF.out.p.1 | exact KF.out.drw.p.1 | exact K.out.p | exact K.out.p.1 | exact K.out.p.1.1 | exact K.out.p.1.1.1 | exact K.out.drw.p | exact K.out.drw.p.1 | exact K.out.drw.p.1.1 | exact K.out.drw.p.1.1.1)).cell, (C.out.2.2.2 _ (by first | exact KF.out.p.1 | exact KF.out.drw.p.1 | exact K.out.p | exact K.out.p.1 | exact K.out.p.1.1 | exact K.out.p.1.1.1 | exact K.out.drw.p | exact K.out.drw.p.1 | exact K.out.drw.p.1.1 | exact K.out.drw.p.1.1.1)).cell⟩) (first
    | (go_at_call 15; ((with_reducible refine (C.out.1 _ (by first | exact KF.out.p.1 | exact KF.out.drw.p.1 | exact K.out.p | exact K.out.p.1 | exact K.out.p.1.1 | exact K.out.p.1.1.1 | exact K.out.drw.p | exact K.out.drw.p.1 | exact K.out.drw.p.1.1 | exact K.out.drw.p.1.1.1)).mono ?_); rintro e w1 ⟨⟨v1', r1, rfl, hO, hS⟩, hb⟩; have S1 := Lib.hid (And.intro hS (Nat.le_trans (sorted_len hS) hL1)); obtain ⟨VA1, Vc1, rfl, -, -, -⟩ := hO.shape; (first | replace K := Lib.hid ((K.out.go hb).and (Q := fun X => At X 1 scV (.slice VA1 r1.length Vc1) r1) (Own.at_ (f := scV) (fun _ => rfl) hO) (fun _ _ hb h => h.later hb)) | replace K := Lib.hid ((K.out.drw.go hb).and (Q := fun X => At X 1 scV (.slice VA1 r1.length Vc1) r1) (Own.at_ (f := scV) (fun _ => rfl) hO) (fun _ _ hb h => h.later hb))); clear hb hO hS))
    | (go_at_call 15; ((with_reducible refine (C.out.2.1 _ (by first | exact KF.out.p.1 | exact KF.out.drw.p.1 | exact K.out.p | exact K.out.p.1 | exact K.out.p.1.1 | exact K.out.p.1.1.1 | exact K.out.drw.p | exact K.out.drw.p.1 | exact K.out.drw.p.1.1 | exact K.out.drw.p.1.1.1)).mono ?_); rintro e w1 ⟨⟨v2', r2, rfl, hO, hS⟩, hb⟩; have S2 := Lib.hid (And.intro hS (Nat.le_trans (sorted_len hS) hL2)); obtain ⟨VA2, Vc2, rfl, -, -, -⟩ := hO.shape; (first | replace K := Lib.hid ((K.out.go hb).and (Q := fun X => At X 1 scV (.slice VA2 r2.length Vc2) r2) (Own.at_ (f := scV) (fun _ => rfl) hO) (fun _ _ hb h => h.later hb)) | replace K := Lib.hid ((K.out.drw.go hb).and (Q := fun X => At X 1 scV (.slice VA2 r2.length Vc2) r2) (Own.at_ (f := scV) (fun _ => rfl) hO) (fun _ _ hb h => h.later hb))); clear hb hO hS))
    | ((refine step_append_at rfl (.const (.slice none 0 0)) (.tmp 57) 38 rfl _ 9 i0 (.string ⟨#[]⟩) 1 16 Tryd.underlying38 hi hz0 hz1 hz2 rfl (by decide) (f := scV) (fun _ => rfl) sc_one (.slice none 0 0) ([] : List ByteArray) rfl (Own.nil _ _ _ _ _) _ _ _ r1 rfl rfl (by first | exact K.out.p.2 | exact K.out.p.1.2 | exact K.out.drw.p.2 | exact K.out.drw.p.1.2) (by have := S1.out.2; unfold maxLen; rw [List.length_nil]; omega) (by have := S1.out.2; rw [List.length_nil]; omega) (Nat.le_refl _) ?_); intro v5 w5 hO5 hg5; obtain ⟨X5, Y5, Z5, rfl⟩ := own_shape hO5; (first | (have KB0 := Lib.hid (K.out.weak (Q := P) (fun X h => h.1) hPs); replace K := Lib.hid (K.out.app hO5 hg5); have KB := KB0; clear KB0) | (have KB0 := Lib.hid (K.out.weak (Q := P) (fun X h => h.1.1) hPs); replace K := Lib.hid (K.out.app hO5 hg5); have KB := KB0; clear KB0) | (have KB0 := Lib.hid (K.out.drw.weak (Q := P) (fun X h => h.1) hPs); replace K := Lib.hid (K.out.drw.app hO5 hg5); have KB := KB0; clear KB0) | (have KB0 := Lib.hid (K.out.drw.weak (Q := P) (fun X h => h.1.1) hPs); replace K := Lib.hid (K.out.drw.app hO5 hg5); have KB := KB0; clear KB0)); clear hO5 hg5)
    | ((refine step_append_at rfl (.tmp 58) (.tmp 60) 38 rfl _ 9 i0 (.string ⟨#[]⟩) 1 16 Tryd.underlying38 hi hz0 hz1 hz2 rfl (by decide) (f := scV) (fun _ => rfl) sc_one (.slice X5 Y5 Z5) r1 rfl (by first | exact K.out.p.1.2.2 | exact K.out.p.2.2 | exact K.out.drw.p.1.2.2 | exact K.out.drw.p.2.2) _ _ _ r2 rfl rfl (by first | exact K.out.p.2 | exact K.out.p.1.2 | exact K.out.drw.p.2 | exact K.out.drw.p.1.2) (by have := S1.out.2; have := S2.out.2; unfold maxLen; omega) (by have := S1.out.2; have := S2.out.2; omega) (by first | exact K.out.p.1.2.1.size | exact K.out.p.2.1.size | exact K.out.drw.p.1.2.1.size | exact K.out.drw.p.2.1.size) ?_); intro v6 w6 hO6 hg6; obtain ⟨X6, Y6, Z6, rfl⟩ := own_shape hO6; (first | have KF := Lib.hid (KB.out.app2 K.out.p.1.2 hO6 hg6) | have KF := Lib.hid (KB.out.app2 K.out.p.2 hO6 hg6) | have KF := Lib.hid (KB.out.app2 K.out.drw.p.1.2 hO6 hg6) | have KF := Lib.hid (KB.out.app2 K.out.drw.p.2 hO6 hg6)); have NF := Lib.hid (show Y6 = (r1 ++ r2).length from own_len hO6); clear hO6 hg6))
  
  all_goals exact NoPanic.normal (HQ.out _ _ _ _ _  X6 Y6 Z6 r1 r2 _ ⟨KF.out, NF.out, S1.out.1, S2.out.1, by have := NF.out; rw [List.length_append] at this; have := S1.out.2; have := S2.out.2; omega⟩)
end Go.Proofs.YtfkcjlpocfjmdaaDoor
namespace Go.Proofs.YtfkcjlpocfjmdaaDoor
open Go.ChangeShapes Go.WideShapes Go.ChangeAt Go.RowKit
open Rk (inR)
set_option linter.unusedVariables false
set_option linter.unusedSimpArgs false

theorem has_no (v : Value) (l : List ByteArray) (s : ByteArray) (w : World) (h : At w 1 scV v l) (hs : ¬ s ∈ l) :
    Calls Tryd.prog 27 #[v, .string s] w fun e w' => e = .returned (.bool false) ∧ Below w.heap.size w w' := by
  refine (has_any v l s w h).mono ?_
  rintro e w' ⟨⟨b, rfl, hb⟩, h2⟩
  cases b
  · exact ⟨rfl, h2⟩
  · exact absurd (hb.1 rfl) hs
set_option maxRecDepth 20000 in
set_option maxHeartbeats 4000000 in
theorem sizes25b (u0 u1 u2 u3 u4 u5 u6 u7 u10 u11 u13 u14 u15 u17 u18 u19 u20 u21 u22 u23 u24 u25 u26 u27 u28 u29 u30 u31 u32 u33 u34 u35 u36 u37 u38 u39 u40 u41 u42 u43 u44 u45 u46 u47 u48 u49 u50 u51 u52 u53 u54 u55 u56 u57 u58 u59 u60 u61 u62 u63 u64 u65 u66 u67 u68 u69 u70 u71 u72 u73 u74 u75 u76 u77 u78 u79 u80 u81 u82 u83 u84 u85 u86 u87 u88 u89 u90 u91 u92 u93 u94 u95 u96 u97 u98 u99 u100 u101 u102 u103 u104 u105 u106 u107 u108 u109 u110 u111 u112 u113 u114 u115 u116 u117 u118 u119 u120 u121 u122 : Value) {w W : World} {N : Nat} {P : World → Prop} {g g2 i n c : Nat} {va : Addr} {x : ByteArray} {ta tb : Tr} {k1 : Int} {o1 : ByteArray} {a1 b1 : Int} {s1 v1 f1 : ByteArray} {A1 : Option Addr} {n1 c1 : Nat} {k2 : Int} {o2 : ByteArray} {a2 b2 : Int} {s2 v2 f2 : ByteArray} {A2 : Option Addr} {n2 c2 : Nat}
    (hi : i < n) (hK : Keep w W N [] P) (hPs : ∀ A B : World, Below A.heap.size A B → P A → P B) (hg : ∀ X, P X → Blk X g 26 #[.int .i64 k1, .string o1, .int .i64 a1, .int .i64 b1, .string s1, .string v1, .string f1, .slice A1 n1 c1]) (hg2 : ∀ X, P X → Blk X g2 26 #[.int .i64 k2, .string o2, .int .i64 a2, .int .i64 b2, .string s2, .string v2, .string f2, .slice A2 n2 c2]) (hc : ∀ X, P X → X.cell? (va.add i) = some (.string x))
    (hV1 : ∀ X, P X → Calls Tryd.prog 15 #[ev k1 o1 a1 b1 s1 v1 f1 (.slice A1 n1 c1)] X fun e w' => VarsT X ta e w' ∧ Below X.heap.size X w')
    (hV2 : ∀ X, P X → Calls Tryd.prog 15 #[ev k2 o2 a2 b2 s2 v2 f2 (.slice A2 n2 c2)] X fun e w' => VarsT X tb e w' ∧ Below X.heap.size X w') (hm : ¬ x ∈ ta.vars ∧ x ∈ tb.vars) {Q : Exit → Act → World → Prop}
    (hQ : ∀ (x78 x79 x80 x81 x82 x83 x84 x85 x86 x87 x88 x89 x90 x91 x92 x93 x94 : Value)  (wx : World), (∃ N', Keep w wx N' [] P) → Q .normal ⟨#[u0, u1, u2, u3, u4, u5, u6, u7, .pointer (some ⟨g, 0, none⟩), .pointer (some ⟨g2, 0, none⟩), u10, u11, .slice (some va) n c, u13, u14, u15, .int .i64 i, u17, u18, u19, u20, u21, u22, u23, u24, u25, u26, u27, u28, u29, u30, u31, u32, u33, u34, u35, u36, u37, u38, u39, u40, u41, u42, u43, u44, u45, u46, u47, u48, u49, u50, u51, u52, u53, u54, u55, u56, u57, u58, u59, u60, u61, u62, u63, u64, u65, u66, u67, u68, u69, u70, u71, u72, u73, u74, u75, u76, u77, x78, x79, x80, x81, x82, x83, x84, x85, x86, x87, x88, x89, x90, x91, x92, x93, x94, .bool false, u96, u97, u98, u99, u100, u101, u102, u103, u104, u105, u106, u107, u108, u109, u110, u111, u112, u113, u114, u115, u116, u117, u118, u119, u120, u121, u122], []⟩ wx) :
    Code.wp Tryd.prog ((Tryd.f5.body.bind (regionN 25)).getD .skip) Q ⟨#[u0, u1, u2, u3, u4, u5, u6, u7, .pointer (some ⟨g, 0, none⟩), .pointer (some ⟨g2, 0, none⟩), u10, u11, .slice (some va) n c, u13, u14, u15, .int .i64 i, u17, u18, u19, u20, u21, u22, u23, u24, u25, u26, u27, u28, u29, u30, u31, u32, u33, u34, u35, u36, u37, u38, u39, u40, u41, u42, u43, u44, u45, u46, u47, u48, u49, u50, u51, u52, u53, u54, u55, u56, u57, u58, u59, u60, u61, u62, u63, u64, u65, u66, u67, u68, u69, u70, u71, u72, u73, u74, u75, u76, u77, u78, u79, u80, u81, u82, u83, u84, u85, u86, u87, u88, u89, u90, u91, u92, u93, u94, u95, u96, u97, u98, u99, u100, u101, u102, u103, u104, u105, u106, u107, u108, u109, u110, u111, u112, u113, u114, u115, u116, u117, u118, u119, u120, u121, u122], []⟩ W := by
  have HQ := Lib.hid hQ; clear hQ
  conv => arg 2; whnf
  have hi0 : (0 : Int) ≤ (i : Int) := by omega
  have hi1 : (i : Int) < (n : Int) := by omega
  have C := Lib.hid (And.intro hV1 (And.intro hV2 (And.intro hg (And.intro hg2 (And.intro hc hm))))); clear hV1 hV2 hg hg2 hc hm
  have K := Lib.hid hK; clear hK
  have p0 := (C.out.2.2.1 _ K.out.p).cell
  have p1 := (C.out.2.2.2.1 _ K.out.p).cell
  have p2 := C.out.2.2.2.2.1 _ K.out.p
  go_wp2_with fail
  refine wp_region_noPanic ?_
  go_region_held3 (fun w' => (∀ j, w'.cell? ⟨g, j, none⟩ = (#[.int .i64 k1, .string o1, .int .i64 a1, .int .i64 b1, .string s1, .string v1, .string f1, .slice A1 n1 c1] : Array Value)[j]?) ∧ (∀ j, w'.cell? ⟨g2, j, none⟩ = (#[.int .i64 k2, .string o2, .int .i64 a2, .int .i64 b2, .string s2, .string v2, .string f2, .slice A2 n2 c2] : Array Value)[j]?) ∧ w'.cell? (va.add i) = some (.string x)) (exact ⟨(C.out.2.2.1 _ (by first | exact K.out.p | exact K.out.p.1 | exact K.out.p.1.1 | exact K.out.drw.p | exact K.out.drw.p.1 | exact K.out.drw.p.1.1)).cell, (C.out.2.2.2.1 _ (by first | exact K.out.p | exact K.out.p.1 | exact K.out.p.1.1 | exact K.out.drw.p | exact K.out.drw.p.1 | exact K.out.drw.p.1.1)).cell, C.out.2.2.2.2.1 _ (by first | exact K.out.p | exact K.out.p.1 | exact K.out.p.1.1 | exact K.out.drw.p | exact K.out.drw.p.1 | exact K.out.drw.p.1.1)⟩) (first
    | (go_at_call 15; ((with_reducible refine (C.out.1 _ (by first | exact K.out.p | exact K.out.p.1 | exact K.out.p.1.1 | exact K.out.drw.p | exact K.out.drw.p.1 | exact K.out.drw.p.1.1)).mono ?_); rintro e w1 ⟨⟨v1', r1, rfl, hO, hS⟩, hb⟩; have S1 := Lib.hid hS.2; obtain ⟨VA1, Vc1, rfl, -, -, -⟩ := hO.shape; (first | replace K := Lib.hid ((K.out.go hb).and (Q := fun X => At X 1 scV (.slice VA1 r1.length Vc1) r1) (Own.at_ (f := scV) (fun _ => rfl) hO) (fun _ _ hb h => h.later hb)) | replace K := Lib.hid ((K.out.drw.go hb).and (Q := fun X => At X 1 scV (.slice VA1 r1.length Vc1) r1) (Own.at_ (f := scV) (fun _ => rfl) hO) (fun _ _ hb h => h.later hb))); clear hb hO hS))
    | (go_at_call 15; ((with_reducible refine (C.out.2.1 _ (by first | exact K.out.p | exact K.out.p.1 | exact K.out.p.1.1 | exact K.out.drw.p | exact K.out.drw.p.1 | exact K.out.drw.p.1.1)).mono ?_); rintro e w1 ⟨⟨v2', r2, rfl, hO, hS⟩, hb⟩; have S2 := Lib.hid hS.2; obtain ⟨VA2, Vc2, rfl, -, -, -⟩ := hO.shape; (first | replace K := Lib.hid ((K.out.go hb).and (Q := fun X => At X 1 scV (.slice VA2 r2.length Vc2) r2) (Own.at_ (f := scV) (fun _ => rfl) hO) (fun _ _ hb h => h.later hb)) | replace K := Lib.hid ((K.out.drw.go hb).and (Q := fun X => At X 1 scV (.slice VA2 r2.length Vc2) r2) (Own.at_ (f := scV) (fun _ => rfl) hO) (fun _ _ hb h => h.later hb))); clear hb hO hS))
    | (go_at_call 27; ((with_reducible refine (has_no _ r1 _ _ (by first | exact K.out.p.2 | exact K.out.drw.p.2) (fun h => absurd ((S1.out _).1 h) C.out.2.2.2.2.2.1)).mono ?_); rintro e w1 ⟨rfl, hb⟩; (first | replace K := Lib.hid (K.out.go hb) | replace K := Lib.hid (K.out.drw.go hb)); clear hb))
    | (go_at_call 27; ((with_reducible refine (has_yes _ r2 _ _ (by first | exact K.out.p.2 | exact K.out.drw.p.2) ((S2.out _).2 C.out.2.2.2.2.2.2)).mono ?_); rintro e w1 ⟨rfl, hb⟩; (first | replace K := Lib.hid (K.out.go hb) | replace K := Lib.hid (K.out.drw.go hb)); clear hb)))
  all_goals
    first
    | exact NoPanic.normal (HQ.out _ _ _ _ _ _ _ _ _ _ _ _ _ _ _ _ _  _ ⟨_, K.out.weak (Q := P) (fun X h => h.1.1) hPs⟩)
    | exact NoPanic.normal (HQ.out _ _ _ _ _ _ _ _ _ _ _ _ _ _ _ _ _  _ ⟨_, K.out.drw.weak (Q := P) (fun X h => h.1.1) hPs⟩)
set_option maxRecDepth 20000 in
set_option maxHeartbeats 4000000 in
theorem sizes25a (u0 u1 u2 u3 u4 u5 u6 u7 u10 u11 u13 u14 u15 u17 u18 u19 u20 u21 u22 u23 u24 u25 u26 u27 u28 u29 u30 u31 u32 u33 u34 u35 u36 u37 u38 u39 u40 u41 u42 u43 u44 u45 u46 u47 u48 u49 u50 u51 u52 u53 u54 u55 u56 u57 u58 u59 u60 u61 u62 u63 u64 u65 u66 u67 u68 u69 u70 u71 u72 u73 u74 u75 u76 u77 u78 u79 u80 u81 u82 u83 u84 u85 u86 u87 u88 u89 u90 u91 u92 u93 u94 u95 u96 u97 u98 u99 u100 u101 u102 u103 u104 u105 u106 u107 u108 u109 u110 u111 u112 u113 u114 u115 u116 u117 u118 u119 u120 u121 u122 : Value) {w W : World} {N : Nat} {P : World → Prop} {g g2 i n c : Nat} {va : Addr} {x : ByteArray} {ta tb : Tr} {k1 : Int} {o1 : ByteArray} {a1 b1 : Int} {s1 v1 f1 : ByteArray} {A1 : Option Addr} {n1 c1 : Nat} {k2 : Int} {o2 : ByteArray} {a2 b2 : Int} {s2 v2 f2 : ByteArray} {A2 : Option Addr} {n2 c2 : Nat}
    (hi : i < n) (hK : Keep w W N [] P) (hPs : ∀ A B : World, Below A.heap.size A B → P A → P B) (hg : ∀ X, P X → Blk X g 26 #[.int .i64 k1, .string o1, .int .i64 a1, .int .i64 b1, .string s1, .string v1, .string f1, .slice A1 n1 c1]) (hg2 : ∀ X, P X → Blk X g2 26 #[.int .i64 k2, .string o2, .int .i64 a2, .int .i64 b2, .string s2, .string v2, .string f2, .slice A2 n2 c2]) (hc : ∀ X, P X → X.cell? (va.add i) = some (.string x))
    (hV1 : ∀ X, P X → Calls Tryd.prog 15 #[ev k1 o1 a1 b1 s1 v1 f1 (.slice A1 n1 c1)] X fun e w' => VarsT X ta e w' ∧ Below X.heap.size X w')
    (hV2 : ∀ X, P X → Calls Tryd.prog 15 #[ev k2 o2 a2 b2 s2 v2 f2 (.slice A2 n2 c2)] X fun e w' => VarsT X tb e w' ∧ Below X.heap.size X w') (hm : x ∈ ta.vars) {Q : Exit → Act → World → Prop}
    (hQ : ∀ (x78 x79 x80 x81 x82 x83 x84 x85 x86 x87 x88 x89 x90 x91 x92 x93 x94 : Value)  (wx : World), (∃ N', Keep w wx N' [] P) → Q .normal ⟨#[u0, u1, u2, u3, u4, u5, u6, u7, .pointer (some ⟨g, 0, none⟩), .pointer (some ⟨g2, 0, none⟩), u10, u11, .slice (some va) n c, u13, u14, u15, .int .i64 i, u17, u18, u19, u20, u21, u22, u23, u24, u25, u26, u27, u28, u29, u30, u31, u32, u33, u34, u35, u36, u37, u38, u39, u40, u41, u42, u43, u44, u45, u46, u47, u48, u49, u50, u51, u52, u53, u54, u55, u56, u57, u58, u59, u60, u61, u62, u63, u64, u65, u66, u67, u68, u69, u70, u71, u72, u73, u74, u75, u76, u77, x78, x79, x80, x81, x82, x83, x84, x85, x86, x87, x88, x89, x90, x91, x92, x93, x94, .bool false, u96, u97, u98, u99, u100, u101, u102, u103, u104, u105, u106, u107, u108, u109, u110, u111, u112, u113, u114, u115, u116, u117, u118, u119, u120, u121, u122], []⟩ wx) :
    Code.wp Tryd.prog ((Tryd.f5.body.bind (regionN 25)).getD .skip) Q ⟨#[u0, u1, u2, u3, u4, u5, u6, u7, .pointer (some ⟨g, 0, none⟩), .pointer (some ⟨g2, 0, none⟩), u10, u11, .slice (some va) n c, u13, u14, u15, .int .i64 i, u17, u18, u19, u20, u21, u22, u23, u24, u25, u26, u27, u28, u29, u30, u31, u32, u33, u34, u35, u36, u37, u38, u39, u40, u41, u42, u43, u44, u45, u46, u47, u48, u49, u50, u51, u52, u53, u54, u55, u56, u57, u58, u59, u60, u61, u62, u63, u64, u65, u66, u67, u68, u69, u70, u71, u72, u73, u74, u75, u76, u77, u78, u79, u80, u81, u82, u83, u84, u85, u86, u87, u88, u89, u90, u91, u92, u93, u94, u95, u96, u97, u98, u99, u100, u101, u102, u103, u104, u105, u106, u107, u108, u109, u110, u111, u112, u113, u114, u115, u116, u117, u118, u119, u120, u121, u122], []⟩ W := by
  have HQ := Lib.hid hQ; clear hQ
  conv => arg 2; whnf
  have hi0 : (0 : Int) ≤ (i : Int) := by omega
  have hi1 : (i : Int) < (n : Int) := by omega
  have C := Lib.hid (And.intro hV1 (And.intro hV2 (And.intro hg (And.intro hg2 (And.intro hc hm))))); clear hV1 hV2 hg hg2 hc hm
  have K := Lib.hid hK; clear hK
  go_wp2_with fail
  refine wp_region_noPanic ?_
  refine wp_region_held_drew (S := (fun w' => (∀ j, w'.cell? ⟨g, j, none⟩ = (#[.int .i64 k1, .string o1, .int .i64 a1, .int .i64 b1, .string s1, .string v1, .string f1, .slice A1 n1 c1] : Array Value)[j]?) ∧ (∀ j, w'.cell? ⟨g2, j, none⟩ = (#[.int .i64 k2, .string o2, .int .i64 a2, .int .i64 b2, .string s2, .string v2, .string f2, .slice A2 n2 c2] : Array Value)[j]?) ∧ w'.cell? (va.add i) = some (.string x))) (by kernel_rfl) ?_ (fun hHeld => ?_)
  · exact ⟨(C.out.2.2.1 _ K.out.drw.p).cell, (C.out.2.2.2.1 _ K.out.drw.p).cell, C.out.2.2.2.2.1 _ K.out.drw.p⟩
  refine wpAnyH_take (i := 0) (v := ?v0) rfl (by kernel_rfl) (by kernel_rfl) (by kernel_rfl) (fun _ _ _ h => h) (Or.inl ⟨by rfl, ?hy0⟩) (by assumption) ?rest0
  case hy0 => (intro w hSw; (try dsimp only at hSw); go_simp; try with_reducible rfl)
  try simp only [Act.put, List.setIfInBounds_toArray, List.set_cons_zero, List.set_cons_succ]
  refine wpAnyH_take (i := 2) (v := ?v2) rfl (by kernel_rfl) (by kernel_rfl) (by kernel_rfl) (fun _ _ _ h => h) (Or.inl ⟨by rfl, ?hy2⟩) (by assumption) ?rest2
  case hy2 => (intro w hSw; (try dsimp only at hSw); go_simp; try with_reducible rfl)
  try simp only [Act.put, List.setIfInBounds_toArray, List.set_cons_zero, List.set_cons_succ]
  refine wpAnyH_take (i := 3) (v := ?v3) rfl (by kernel_rfl) (by kernel_rfl) (by kernel_rfl) (fun _ _ _ h => h) (Or.inl ⟨by rfl, ?hy3⟩) (by assumption) ?rest3
  case hy3 => (intro w hSw; (try dsimp only at hSw); go_simp; try with_reducible rfl)
  try simp only [Act.put, List.setIfInBounds_toArray, List.set_cons_zero, List.set_cons_succ]
  refine wpAnyH_take (i := 4) (v := ?v4) rfl (by kernel_rfl) (by kernel_rfl) (by kernel_rfl) (fun _ _ _ h => h) (Or.inl ⟨by rfl, ?hy4⟩) (by assumption) ?rest4
  case hy4 => (intro w hSw; (try dsimp only at hSw); go_simp; try with_reducible rfl)
  try simp only [Act.put, List.setIfInBounds_toArray, List.set_cons_zero, List.set_cons_succ]
  refine wpAnyH_take (i := 5) (v := ?v5) rfl (by kernel_rfl) (by kernel_rfl) (by kernel_rfl) (fun _ _ _ h => h) (Or.inl ⟨by rfl, ?hy5⟩) (by assumption) ?rest5
  case hy5 => (intro w hSw; (try dsimp only at hSw); go_simp; try with_reducible rfl)
  try simp only [Act.put, List.setIfInBounds_toArray, List.set_cons_zero, List.set_cons_succ]
  refine wpAnyH_ready (rs := [1]) (by kernel_rfl) (by simp) ?_
  refine AllReadyH.cons rfl (fun K' hK => ?_) AllReadyH.nil
  go_simp
  go_at_call 15
  refine (C.out.1 _ K.out.drw.p).mono ?_
  rintro e w1 ⟨⟨v1', r1, rfl, hO, hS⟩, hb⟩
  have S1 := Lib.hid hS.2
  obtain ⟨VA1, Vc1, rfl, -, -, -⟩ := hO.shape
  replace K := Lib.hid ((K.out.drw.go hb).and (Q := fun X => At X 1 scV (.slice VA1 r1.length Vc1) r1) (Own.at_ (f := scV) (fun _ => rfl) hO) (fun _ _ hb h => h.later hb)); clear hb hO hS
  refine hK.out _ _ ?_ (fun hHeld => ?_)
  · exact ⟨(C.out.2.2.1 _ K.out.p.1).cell, (C.out.2.2.2.1 _ K.out.p.1).cell, C.out.2.2.2.2.1 _ K.out.p.1⟩
  clear hK K'
  try simp only [Act.put, List.setIfInBounds_toArray, List.set_cons_zero, List.set_cons_succ]
  refine wpAnyH_ready (rs := [6]) (by kernel_rfl) (by simp) ?_
  refine AllReadyH.cons rfl (fun K' hK => ?_) AllReadyH.nil
  go_simp
  go_at_call 27
  refine (has_yes _ r1 _ _ K.out.p.2 ((S1.out _).2 C.out.2.2.2.2.2)).mono ?_
  rintro e w2 ⟨rfl, hb⟩
  replace K := Lib.hid (K.out.go hb); clear hb
  refine hK.out _ _ ?_ (fun hHeld => ?_)
  · exact ⟨(C.out.2.2.1 _ K.out.p.1).cell, (C.out.2.2.2.1 _ K.out.p.1).cell, C.out.2.2.2.2.1 _ K.out.p.1⟩
  clear hK K'
  try simp only [Act.put, List.setIfInBounds_toArray, List.set_cons_zero, List.set_cons_succ]
  refine wpAnyH_take (i := 7) (v := ?v7) rfl (by kernel_rfl) (by kernel_rfl) (by kernel_rfl) (fun _ _ _ h => h) (Or.inl ⟨by rfl, ?hy7⟩) (by assumption) ?rest7
  case hy7 => (intro w hSw; (try dsimp only at hSw); go_simp; try with_reducible rfl)
  try simp only [Act.put, List.setIfInBounds_toArray, List.set_cons_zero, List.set_cons_succ]
  refine wpAnyH_take (i := 8) (v := ?v8) rfl (by kernel_rfl) (by kernel_rfl) (by kernel_rfl) (fun _ _ _ h => h) (Or.inl ⟨by rfl, ?hy8⟩) (by assumption) ?rest8
  case hy8 => (intro w hSw; (try dsimp only at hSw); go_simp; try with_reducible rfl)
  try simp only [Act.put, List.setIfInBounds_toArray, List.set_cons_zero, List.set_cons_succ]
  refine wpAnyH_take (i := 9) (v := undef) rfl (by kernel_rfl) (by kernel_rfl) (by kernel_rfl) (fun _ _ _ h => h) (Or.inr ⟨by first | (go_simp; done) | kernel_rfl, rfl⟩) (by assumption) ?_
  try simp only [Act.put, List.setIfInBounds_toArray, List.set_cons_zero, List.set_cons_succ]
  refine wpAnyH_take (i := 10) (v := undef) rfl (by kernel_rfl) (by kernel_rfl) (by kernel_rfl) (fun _ _ _ h => h) (Or.inr ⟨by first | (go_simp; done) | kernel_rfl, rfl⟩) (by assumption) ?_
  try simp only [Act.put, List.setIfInBounds_toArray, List.set_cons_zero, List.set_cons_succ]
  refine wpAnyH_take (i := 11) (v := undef) rfl (by kernel_rfl) (by kernel_rfl) (by kernel_rfl) (fun _ _ _ h => h) (Or.inr ⟨by first | (go_simp; done) | kernel_rfl, rfl⟩) (by assumption) ?_
  try simp only [Act.put, List.setIfInBounds_toArray, List.set_cons_zero, List.set_cons_succ]
  refine wpAnyH_take (i := 12) (v := undef) rfl (by kernel_rfl) (by kernel_rfl) (by kernel_rfl) (fun _ _ _ h => h) (Or.inr ⟨by first | (go_simp; done) | kernel_rfl, rfl⟩) (by assumption) ?_
  try simp only [Act.put, List.setIfInBounds_toArray, List.set_cons_zero, List.set_cons_succ]
  refine wpAnyH_take (i := 13) (v := undef) rfl (by kernel_rfl) (by kernel_rfl) (by kernel_rfl) (fun _ _ _ h => h) (Or.inr ⟨by first | (go_simp; done) | kernel_rfl, rfl⟩) (by assumption) ?_
  try simp only [Act.put, List.setIfInBounds_toArray, List.set_cons_zero, List.set_cons_succ]
  refine wpAnyH_take (i := 14) (v := undef) rfl (by kernel_rfl) (by kernel_rfl) (by kernel_rfl) (fun _ _ _ h => h) (Or.inr ⟨by first | (go_simp; done) | kernel_rfl, rfl⟩) (by assumption) ?_
  try simp only [Act.put, List.setIfInBounds_toArray, List.set_cons_zero, List.set_cons_succ]
  refine wpAnyH_take (i := 15) (v := undef) rfl (by kernel_rfl) (by kernel_rfl) (by kernel_rfl) (fun _ _ _ h => h) (Or.inr ⟨by first | (go_simp; done) | kernel_rfl, rfl⟩) (by assumption) ?_
  try simp only [Act.put, List.setIfInBounds_toArray, List.set_cons_zero, List.set_cons_succ]
  refine wpAnyH_take (i := 16) (v := undef) rfl (by kernel_rfl) (by kernel_rfl) (by kernel_rfl) (fun _ _ _ h => h) (Or.inr ⟨by first | (go_simp; done) | kernel_rfl, rfl⟩) (by assumption) ?_
  try simp only [Act.put, List.setIfInBounds_toArray, List.set_cons_zero, List.set_cons_succ]
  refine wpAnyH_take (i := 17) (v := ?v17) rfl (by kernel_rfl) (by kernel_rfl) (by kernel_rfl) (fun _ _ _ h => h) (Or.inl ⟨by rfl, ?hy17⟩) (by assumption) ?rest17
  case hy17 => (intro w hSw; (try dsimp only at hSw); go_simp; try with_reducible rfl)
  try simp only [Act.put, List.setIfInBounds_toArray, List.set_cons_zero, List.set_cons_succ]
  refine wpAnyH_done (by kernel_rfl) ?_ _
  go_simp
  exact NoPanic.normal (HQ.out _ _ _ _ _ _ _ _ _ _ _ _ _ _ _ _ _  _ ⟨_, K.out.weak (Q := P) (fun X h => h.1) hPs⟩)
end Go.Proofs.YtfkcjlpocfjmdaaDoor
namespace Go.Proofs.YtfkcjlpocfjmdaaDoor
open Go.ChangeShapes Go.WideShapes Go.ChangeAt Go.RowKit
open Rk (inR)
set_option linter.unusedVariables false
set_option linter.unusedSimpArgs false

theorem un_at {x : Tr} {kx : Value} {k1 : Int} {o1 : ByteArray} {a1 b1 : Int} {s1 v1 f1 : ByteArray} {A1 : Option Addr} {n1 c1 : Nat} {g : Nat} {w : World}
    (hx : TrAt w x kx) (ex : x.val kx = ev k1 o1 a1 b1 s1 v1 f1 (.slice A1 n1 c1)) (hB : Blk w g 26 #[.int .i64 k1, .string o1, .int .i64 a1, .int .i64 b1, .string s1, .string v1, .string f1, .slice A1 n1 c1]) : TrAt w (.un bBan x) (.slice (some ⟨g, 0, none⟩) 1 1) :=
  ⟨_, 1, rfl, by decide, by decide, kx, hx, by rw [node_of_val ex]; exact ⟨hB.cell 0, hB.cell 1, hB.cell 2, hB.cell 3, hB.cell 4, hB.cell 5, hB.cell 6, hB.cell 7⟩⟩
theorem size_in {t : Tr} {n : Nat} (h : t.nodes = n) (hn : n ≤ 1000) : wrap64 (t.nodes : Int) = (n : Int) := by
  rw [h]; unfold wrap64; omega
set_option maxRecDepth 20000 in
set_option maxHeartbeats 4000000 in
theorem sizes28 (u0 u1 u2 u3 u4 u5 u6 u10 u12 u13 u14 u15 u16 u18 u19 u20 u21 u22 u23 u24 u25 u26 u27 u28 u29 u30 u31 u32 u33 u34 u35 u36 u37 u38 u39 u40 u41 u42 u43 u44 u45 u46 u47 u48 u49 u50 u51 u52 u53 u54 u55 u56 u57 u58 u59 u60 u61 u62 u63 u64 u65 u66 u67 u68 u69 u70 u71 u72 u73 u74 u75 u76 u77 u78 u79 u80 u81 u82 u83 u84 u85 u86 u87 u88 u89 u90 u91 u92 u93 u94 u95 u96 u97 u98 u99 u100 u101 u102 u103 u104 u105 u106 u107 u108 u109 u110 u111 u112 u113 u114 u115 u116 u117 u118 u119 u120 u121 u122 : Value) {w : World} {g g2 h h17 gN gk : Nat} {ta tb : Tr} {ka kb : Value} {o : ByteArray} {k1 : Int} {o1 : ByteArray} {a1 b1 : Int} {s1 v1 f1 : ByteArray} {A1 : Option Addr} {n1 c1 : Nat} {k2 : Int} {o2 : ByteArray} {a2 b2 : Int} {s2 v2 f2 : ByteArray} {A2 : Option Addr} {n2 c2 : Nat}
    (hp : TrAt w ta ka ∧ TrAt w tb kb ∧ TrAt w (.bin o ta tb) (.slice (some ⟨gN, 0, none⟩) 2 2) ∧ TrAt w (.un bBan ta) (.slice (some ⟨gk, 0, none⟩) 1 1)) (hr : Blk w g 26 #[.int .i64 k1, .string o1, .int .i64 a1, .int .i64 b1, .string s1, .string v1, .string f1, .slice A1 n1 c1] ∧ Blk w g2 26 #[.int .i64 k2, .string o2, .int .i64 a2, .int .i64 b2, .string s2, .string v2, .string f2, .slice A2 n2 c2] ∧ Blk w h 26 (NC o (some ⟨gN, 0, none⟩) 2 2) ∧ Blk w h17 26 (NN gk)) (F1 : Hid (ta.val ka = ev k1 o1 a1 b1 s1 v1 f1 (.slice A1 n1 c1) ∧ ta.few)) (F2 : Hid (tb.val kb = ev k2 o2 a2 b2 s2 v2 f2 (.slice A2 n2 c2) ∧ tb.few)) (ho : 0 < lvl o) {Q : Exit → Act → World → Prop}
    (hQ : ∀ (x99 x100 x101 x102 x103 x104 x105 x106 x107 x108 x109 x110 x111 x112 x113 x114 x115 x116 x117 x118 x119 x120 x121 x122 : Value)  (wx : World), Below w.heap.size w wx → Q .normal ⟨#[u0, u1, u2, u3, u4, u5, .bool true, .bool true, .pointer (some ⟨g, 0, none⟩), .pointer (some ⟨g2, 0, none⟩), u10, .pointer (some ⟨h, 0, none⟩), u12, u13, u14, u15, u16, .pointer (some ⟨h17, 0, none⟩), u18, u19, u20, u21, u22, u23, u24, u25, u26, u27, u28, u29, u30, u31, u32, u33, u34, u35, u36, u37, u38, u39, u40, u41, u42, u43, u44, u45, u46, u47, u48, u49, u50, u51, u52, u53, u54, u55, u56, u57, u58, u59, u60, u61, u62, u63, u64, u65, u66, u67, u68, u69, u70, u71, u72, u73, u74, u75, u76, u77, u78, u79, u80, u81, u82, u83, u84, u85, u86, u87, u88, u89, u90, u91, u92, u93, u94, u95, u96, u97, u98, x99, x100, x101, x102, x103, x104, x105, x106, x107, x108, x109, x110, x111, x112, x113, x114, x115, x116, x117, x118, x119, x120, x121, x122], []⟩ wx) :
    Code.wp Tryd.prog ((Tryd.f5.body.bind (regionN 28)).getD .skip) Q ⟨#[u0, u1, u2, u3, u4, u5, u6, .bool true, .pointer (some ⟨g, 0, none⟩), .pointer (some ⟨g2, 0, none⟩), u10, .pointer (some ⟨h, 0, none⟩), u12, u13, u14, u15, u16, .pointer (some ⟨h17, 0, none⟩), u18, u19, u20, u21, u22, u23, u24, u25, u26, u27, u28, u29, u30, u31, u32, u33, u34, u35, u36, u37, u38, u39, u40, u41, u42, u43, u44, u45, u46, u47, u48, u49, u50, u51, u52, u53, u54, u55, u56, u57, u58, u59, u60, u61, u62, u63, u64, u65, u66, u67, u68, u69, u70, u71, u72, u73, u74, u75, u76, u77, u78, u79, u80, u81, u82, u83, u84, u85, u86, u87, u88, u89, u90, u91, u92, u93, u94, u95, u96, u97, u98, u99, u100, u101, u102, u103, u104, u105, u106, u107, u108, u109, u110, u111, u112, u113, u114, u115, u116, u117, u118, u119, u120, u121, u122], []⟩ w := by
  have HQ := Lib.hid hQ; clear hQ
  conv => arg 2; whnf
  have oE : (Tr.bin o ta tb).ok = true := by show (decide (0 < lvl o) && ta.ok && tb.ok) = true; rw [F1.out.2.1, F2.out.2.1, decide_eq_true ho]; rfl
  obtain ⟨na, hna⟩ : ∃ na, ta.nodes = na := ⟨_, rfl⟩
  obtain ⟨nb, hnb⟩ : ∃ nb, tb.nodes = nb := ⟨_, rfl⟩
  have la : na ≤ 243 := by rw [← hna]; exact F1.out.2.2.2.2
  have lb : nb ≤ 243 := by rw [← hnb]; exact F2.out.2.2.2.2
  have zE : wrap64 (((Tr.bin o ta tb).nodes : Nat) : Int) = (na : Int) + (nb : Int) + 1 := by rw [size_in (n := na + nb + 1) (by rw [Tr.nodes, hna, hnb]) (by omega)]; omega
  have zN : wrap64 (((Tr.un bBan ta).nodes : Nat) : Int) = (na : Int) + 1 := by rw [size_in (n := na + 1) (by rw [Tr.nodes, hna]) (by omega)]; omega
  have q1 := fun d os => Right_v (v := ev 4 o 0 0 e0 e0 e0 (.slice (some ⟨gN, 0, none⟩) 2 2)) rfl _ (hp.2.2.1.later (below_regrown w d os)) oE
  have q2 := fun d os => Size_v (v := ev 4 o 0 0 e0 e0 e0 (.slice (some ⟨gN, 0, none⟩) 2 2)) rfl zE _ (hp.2.2.1.later (below_regrown w d os))
  have q3 := fun d os => Size_v F1.out.1 (size_in hna (by omega)) _ (hp.1.later (below_regrown w d os))
  have q4 := fun d os => Size_v F2.out.1 (size_in hnb (by omega)) _ (hp.2.1.later (below_regrown w d os))
  have q5 := fun d os => Size_v (v := ev 3 bBan 0 0 e0 e0 e0 (.slice (some ⟨gk, 0, none⟩) 1 1)) rfl zN _ (hp.2.2.2.later (below_regrown w d os))
  have y10 := fun d os => cell_regrown (hr.1.cell 0) d os
  have y11 := fun d os => cell_regrown (hr.1.cell 1) d os
  have y12 := fun d os => cell_regrown (hr.1.cell 2) d os
  have y13 := fun d os => cell_regrown (hr.1.cell 3) d os
  have y14 := fun d os => cell_regrown (hr.1.cell 4) d os
  have y15 := fun d os => cell_regrown (hr.1.cell 5) d os
  have y16 := fun d os => cell_regrown (hr.1.cell 6) d os
  have y17 := fun d os => cell_regrown (hr.1.cell 7) d os
  have y20 := fun d os => cell_regrown (hr.2.1.cell 0) d os
  have y21 := fun d os => cell_regrown (hr.2.1.cell 1) d os
  have y22 := fun d os => cell_regrown (hr.2.1.cell 2) d os
  have y23 := fun d os => cell_regrown (hr.2.1.cell 3) d os
  have y24 := fun d os => cell_regrown (hr.2.1.cell 4) d os
  have y25 := fun d os => cell_regrown (hr.2.1.cell 5) d os
  have y26 := fun d os => cell_regrown (hr.2.1.cell 6) d os
  have y27 := fun d os => cell_regrown (hr.2.1.cell 7) d os
  have y30 := fun d os => cell_regrown (hr.2.2.1.cell 0) d os
  have y31 := fun d os => cell_regrown (hr.2.2.1.cell 1) d os
  have y32 := fun d os => cell_regrown (hr.2.2.1.cell 2) d os
  have y33 := fun d os => cell_regrown (hr.2.2.1.cell 3) d os
  have y34 := fun d os => cell_regrown (hr.2.2.1.cell 4) d os
  have y35 := fun d os => cell_regrown (hr.2.2.1.cell 5) d os
  have y36 := fun d os => cell_regrown (hr.2.2.1.cell 6) d os
  have y37 := fun d os => cell_regrown (hr.2.2.1.cell 7) d os
  have y40 := fun d os => cell_regrown (hr.2.2.2.cell 0) d os
  have y41 := fun d os => cell_regrown (hr.2.2.2.cell 1) d os
  have y42 := fun d os => cell_regrown (hr.2.2.2.cell 2) d os
  have y43 := fun d os => cell_regrown (hr.2.2.2.cell 3) d os
  have y44 := fun d os => cell_regrown (hr.2.2.2.cell 4) d os
  have y45 := fun d os => cell_regrown (hr.2.2.2.cell 5) d os
  have y46 := fun d os => cell_regrown (hr.2.2.2.cell 6) d os
  have y47 := fun d os => cell_regrown (hr.2.2.2.cell 7) d os
  clear hp hr F1 F2 oE zE zN hna hnb ho
  have w1 : IntKind.i64.wrap ((na : Int) + (nb : Int)) = (na : Int) + (nb : Int) := IntWalk.i64_in _ (by omega)
  have w2 : IntKind.i64.wrap ((na : Int) + (nb : Int) + 1) = (na : Int) + (nb : Int) + 1 := IntWalk.i64_in _ (by omega)
  have w3 : IntKind.i64.wrap ((na : Int) + 1) = (na : Int) + 1 := IntWalk.i64_in _ (by omega)
  have HC := Lib.hid (And.intro q1 (And.intro q2 (And.intro q3 (And.intro q4 q5))))
  clear q1 q2 q3 q4 q5
  go_wp2_with fail
  refine wp_region_noPanic ?_
  refine wp_region_quiet_below (by kernel_rfl) (by kernel_rfl) ?_
  repeat (go_big_quiet_step (first
    | (go_at_call 12; with_reducible exact Calls.regrown_of (HC.out.1 _ _))
    | (go_at_call 24; with_reducible exact Calls.regrown_of (HC.out.2.1 _ _))
    | (go_at_call 24; with_reducible exact Calls.regrown_of (HC.out.2.2.1 _ _))
    | (go_at_call 24; with_reducible exact Calls.regrown_of (HC.out.2.2.2.1 _ _))
    | (go_at_call 24; with_reducible exact Calls.regrown_of (HC.out.2.2.2.2 _ _))))
  refine wpQuiet_nil ?_
  intro wq hw'
  have bq : Below w.heap.size w wq := by obtain ⟨p, rfl⟩ := hw'; exact below_regrown _ _ _
  clear hw'
  go_wp2_with fail
  exact NoPanic.normal (HQ.out _ _ _ _ _ _ _ _ _ _ _ _ _ _ _ _ _ _ _ _ _ _ _ _  _ bq)
end Go.Proofs.YtfkcjlpocfjmdaaDoor
