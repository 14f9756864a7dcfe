/- ReckonLast: one more event. -/
import Derived.Test.YtjddfjapopdciaaBindsE
import Derived.Test.YtjddfjapopdciaaMadeE
import Derived.Deep.RegionLaw
import Derived.OwnWalk
import Derived.Deep.RegionHeld3
namespace Go.Proofs.Ytjddfjapopdciaa
open Go.ChangeShapes Go.WideShapes Go.ChangeAt Go.RowKit
open Rk (inR)
set_option linter.unusedVariables false
set_option linter.unusedSimpArgs false

set_option maxRecDepth 20000 in
set_option maxHeartbeats 4000000 in
theorem last9_0 (u0 u1 u2 u3 u4 u5 u6 u7 u10 u12 u13 u14 u15 u16 u17 u18 u19 u20 u21 u22 u23 u24 u25 u26 u27 u28 u29 u30 u31 u32 u33 u34 u35 u36 u37 u38 u39 u40 u41 u42 u43 u44 u45 u46 u47 u48 u49 u50 u51 u52 u53 u54 u55 u56 u57 u58 u59 u60 u61 u62 u63 u64 u65 u66 u67 u68 u69 u70 u71 u72 u73 u74 u75 u76 u77 u78 u79 u80 u81 u82 u83 u84 u85 u86 u87 u88 u89 u90 u91 u92 u93 u94 u95 u96 u97 u98 u99 u100 u101 u102 u103 u104 u105 u106 u107 u108 u109 u110 u111 u112 u113 u114 u115 u116 u117 u118 u119 u120 u121 u122 u123 u124 u125 u126 u127 u128 u129 u130 u131 u132 u133 u134 : Value) {w : World} {g gm gv base : Nat} {a1 b1 : ByteArray} {F1 G1 V1 : Option Addr} {m1 c1 p1 q1 V3 : Nat} {U : Value} {M : List (Int × SV)}
    (hB : Blk w g 59 #[.string a1, .slice F1 m1 c1, .slice V1 M.length V3, .string b1, .slice G1 p1 q1, U]) (hM : Blk w gm 62 #[.int .i64 0, .slice (some ⟨gv, 0, none⟩) 4 4]) (hO : Own w base 62 2 ec (.slice V1 M.length V3) M) (hl : M.length ≤ 3) (hb : base ≤ w.heap.size) {Q : Exit → Act → World → Prop}
    (hQ : ∀ (x51 x52 x53 x54 x55 x56 x57 x58 x59 x60 x61 x62 : Value) (A5 : Option Addr) (n5 c5 : Nat) (wx : World), (∃ w4 w5, Below w.heap.size w w4 ∧ w4.grownBy w5 (Value.slice V1 M.length V3).ownBlock ∧ w5.ownsRow base 62 2 (.slice A5 n5 c5) (M.length + 1) (M.flatMap ec ++ ec (0, some ⟨gv, 0, none⟩, 4, 4)) ∧ wx = w5.setCell ⟨g, 2, none⟩ (.slice A5 n5 c5)) → Q .normal ⟨#[u0, u1, u2, u3, u4, u5, u6, u7, .slice (some ⟨g, 0, none⟩) 2 2, .int .i64 0, u10, .pointer (some ⟨gm, 0, none⟩), u12, u13, u14, u15, u16, u17, u18, u19, u20, u21, u22, u23, u24, u25, u26, u27, u28, u29, u30, u31, u32, u33, u34, u35, u36, u37, u38, u39, u40, u41, u42, u43, u44, u45, u46, u47, u48, u49, u50, x51, x52, x53, x54, x55, x56, x57, x58, x59, x60, x61, x62, u63, u64, u65, u66, u67, u68, u69, u70, u71, u72, u73, u74, u75, u76, u77, u78, u79, u80, u81, u82, u83, u84, u85, u86, u87, u88, u89, u90, u91, u92, u93, u94, u95, u96, u97, u98, u99, u100, u101, u102, u103, u104, u105, u106, u107, u108, u109, u110, u111, u112, u113, u114, u115, u116, u117, u118, u119, u120, u121, u122, u123, u124, u125, u126, u127, u128, u129, u130, u131, u132, u133, u134], []⟩ wx) :
    Code.wp Try.prog ((Try.f8.body.bind (regionN 9)).getD .skip) Q ⟨#[u0, u1, u2, u3, u4, u5, u6, u7, .slice (some ⟨g, 0, none⟩) 2 2, .int .i64 0, u10, .pointer (some ⟨gm, 0, none⟩), u12, u13, u14, u15, u16, u17, u18, u19, u20, u21, u22, u23, u24, u25, u26, u27, u28, u29, u30, u31, u32, u33, u34, u35, u36, u37, u38, u39, u40, u41, u42, u43, u44, u45, u46, u47, u48, u49, u50, u51, u52, u53, u54, u55, u56, u57, u58, u59, u60, u61, u62, u63, u64, u65, u66, u67, u68, u69, u70, u71, u72, u73, u74, u75, u76, u77, u78, u79, u80, u81, u82, u83, u84, u85, u86, u87, u88, u89, u90, u91, u92, u93, u94, u95, u96, u97, u98, u99, u100, u101, u102, u103, u104, u105, u106, u107, u108, u109, u110, u111, u112, u113, u114, u115, u116, u117, u118, u119, u120, u121, u122, u123, u124, u125, u126, u127, u128, u129, u130, u131, u132, u133, u134], []⟩ w := by
  have HQ := Lib.hid hQ; clear hQ
  conv => arg 2; whnf
  obtain ⟨i0, hi, hz0, hz1, hz2⟩ := info_parts Try.infoEv
  have d2 := hB.cell 2
  have f2 := hB.frozen 2
  have e0' := hM.cell 0
  have e1' := hM.cell 1
  have bl := hB.lt
  have bl3 : g < w.heap.size + 1 := by omega
  have b3 := Lib.hid (ba w (.cells #[.int .i64 0, .slice (some ⟨gv, 0, none⟩) 4 4] 62))
  have nE : ∀ j u, (#[.int .i64 0, .slice (some ⟨gv, 0, none⟩) 4 4] : Array Value).toList[j]? = some u → (w.alloc (.cells #[.int .i64 0, .slice (some ⟨gv, 0, none⟩) 4 4] 62)).cell? ((⟨w.heap.size, 0, none⟩ : Addr).add j) = some u := blk_cells (Blk.new w 62 #[.int .i64 0, .slice (some ⟨gv, 0, none⟩) 4 4])
  have NE := Lib.hid nE; clear nE
  have H := Lib.hid (And.intro hO (And.intro hB hM)); clear hO hB hM
  refine wp_region_noPanic ?_
  go_region_law (refine step_append_own rfl (.tmp 57) (.tmp 59) 57 rfl base 62 i0 (.agg #[.int .i64 0, .slice none 0 0]) 2 32 Try.underlying57 hi hz0 hz1 hz2 rfl (by decide) (.slice V1 M.length V3) M.length (M.flatMap ec) (by simp [Act.eval, Act.put]) (World.ownsRow.drew (Own.later H.out.1 b3.out)) ⟨w.heap.size, 0, none⟩ 1 1 (ec (0, some ⟨gv, 0, none⟩, 4, 4)) (by simp [Act.eval, Act.put]) rfl NE.out (by simp [Value.oneCell']) (by unfold maxLen; omega) (by omega) (by have := b3.out.size; simp only [World.size_drew]; omega) ?_; intro v5 w5 hO5 hg5 _; obtain ⟨A5, n5, c5, rfl⟩ := own_shape hO5; have hB5 := (blk_drew (H.out.2.1.later b3.out)).grown hg5 (fun e => own_ne_blk H.out.1 H.out.2.1 (by decide) e.symm); have d5 := hB5.cell 2; have f5 := hB5.frozen 2; have X := Lib.hid (And.intro hO5 hg5); clear hO5 hg5 hB5)
  all_goals
    go_simp
    exact NoPanic.normal (HQ.out _ _ _ _ _ _ _ _ _ _ _ _ A5 n5 c5 _ ⟨_, w5, below_drew b3.out, X.out.2, X.out.1, rfl⟩)
set_option maxRecDepth 20000 in
set_option maxHeartbeats 4000000 in
theorem last9_1 (u0 u1 u2 u3 u4 u5 u6 u7 u10 u12 u13 u14 u15 u16 u17 u18 u19 u20 u21 u22 u23 u24 u25 u26 u27 u28 u29 u30 u31 u32 u33 u34 u35 u36 u37 u38 u39 u40 u41 u42 u43 u44 u45 u46 u47 u48 u49 u50 u51 u52 u53 u54 u55 u56 u57 u58 u59 u60 u61 u62 u63 u64 u65 u66 u67 u68 u69 u70 u71 u72 u73 u74 u75 u76 u77 u78 u79 u80 u81 u82 u83 u84 u85 u86 u87 u88 u89 u90 u91 u92 u93 u94 u95 u96 u97 u98 u99 u100 u101 u102 u103 u104 u105 u106 u107 u108 u109 u110 u111 u112 u113 u114 u115 u116 u117 u118 u119 u120 u121 u122 u123 u124 u125 u126 u127 u128 u129 u130 u131 u132 u133 u134 : Value) {w : World} {g gm gv base : Nat} {a1 b1 : ByteArray} {F1 G1 V1 : Option Addr} {m1 c1 p1 q1 V3 : Nat} {U : Value} {M : List (Int × SV)}
    (hB : Blk w g 59 #[.string a1, .slice F1 m1 c1, U, .string b1, .slice G1 p1 q1, .slice V1 M.length V3]) (hM : Blk w gm 62 #[.int .i64 0, .slice (some ⟨gv, 0, none⟩) 4 4]) (hO : Own w base 62 2 ec (.slice V1 M.length V3) M) (hl : M.length ≤ 3) (hb : base ≤ w.heap.size) {Q : Exit → Act → World → Prop}
    (hQ : ∀ (x51 x52 x53 x54 x55 x56 x57 x58 x59 x60 x61 x62 : Value) (A5 : Option Addr) (n5 c5 : Nat) (wx : World), (∃ w4 w5, Below w.heap.size w w4 ∧ w4.grownBy w5 (Value.slice V1 M.length V3).ownBlock ∧ w5.ownsRow base 62 2 (.slice A5 n5 c5) (M.length + 1) (M.flatMap ec ++ ec (0, some ⟨gv, 0, none⟩, 4, 4)) ∧ wx = w5.setCell ⟨g, 5, none⟩ (.slice A5 n5 c5)) → Q .normal ⟨#[u0, u1, u2, u3, u4, u5, u6, u7, .slice (some ⟨g, 0, none⟩) 2 2, .int .i64 1, u10, .pointer (some ⟨gm, 0, none⟩), u12, u13, u14, u15, u16, u17, u18, u19, u20, u21, u22, u23, u24, u25, u26, u27, u28, u29, u30, u31, u32, u33, u34, u35, u36, u37, u38, u39, u40, u41, u42, u43, u44, u45, u46, u47, u48, u49, u50, x51, x52, x53, x54, x55, x56, x57, x58, x59, x60, x61, x62, u63, u64, u65, u66, u67, u68, u69, u70, u71, u72, u73, u74, u75, u76, u77, u78, u79, u80, u81, u82, u83, u84, u85, u86, u87, u88, u89, u90, u91, u92, u93, u94, u95, u96, u97, u98, u99, u100, u101, u102, u103, u104, u105, u106, u107, u108, u109, u110, u111, u112, u113, u114, u115, u116, u117, u118, u119, u120, u121, u122, u123, u124, u125, u126, u127, u128, u129, u130, u131, u132, u133, u134], []⟩ wx) :
    Code.wp Try.prog ((Try.f8.body.bind (regionN 9)).getD .skip) Q ⟨#[u0, u1, u2, u3, u4, u5, u6, u7, .slice (some ⟨g, 0, none⟩) 2 2, .int .i64 1, u10, .pointer (some ⟨gm, 0, none⟩), u12, u13, u14, u15, u16, u17, u18, u19, u20, u21, u22, u23, u24, u25, u26, u27, u28, u29, u30, u31, u32, u33, u34, u35, u36, u37, u38, u39, u40, u41, u42, u43, u44, u45, u46, u47, u48, u49, u50, u51, u52, u53, u54, u55, u56, u57, u58, u59, u60, u61, u62, u63, u64, u65, u66, u67, u68, u69, u70, u71, u72, u73, u74, u75, u76, u77, u78, u79, u80, u81, u82, u83, u84, u85, u86, u87, u88, u89, u90, u91, u92, u93, u94, u95, u96, u97, u98, u99, u100, u101, u102, u103, u104, u105, u106, u107, u108, u109, u110, u111, u112, u113, u114, u115, u116, u117, u118, u119, u120, u121, u122, u123, u124, u125, u126, u127, u128, u129, u130, u131, u132, u133, u134], []⟩ w := by
  have HQ := Lib.hid hQ; clear hQ
  conv => arg 2; whnf
  obtain ⟨i0, hi, hz0, hz1, hz2⟩ := info_parts Try.infoEv
  have d2 := hB.cell 5
  have f2 := hB.frozen 5
  have e0' := hM.cell 0
  have e1' := hM.cell 1
  have bl := hB.lt
  have bl3 : g < w.heap.size + 1 := by omega
  have b3 := Lib.hid (ba w (.cells #[.int .i64 0, .slice (some ⟨gv, 0, none⟩) 4 4] 62))
  have nE : ∀ j u, (#[.int .i64 0, .slice (some ⟨gv, 0, none⟩) 4 4] : Array Value).toList[j]? = some u → (w.alloc (.cells #[.int .i64 0, .slice (some ⟨gv, 0, none⟩) 4 4] 62)).cell? ((⟨w.heap.size, 0, none⟩ : Addr).add j) = some u := blk_cells (Blk.new w 62 #[.int .i64 0, .slice (some ⟨gv, 0, none⟩) 4 4])
  have NE := Lib.hid nE; clear nE
  have H := Lib.hid (And.intro hO (And.intro hB hM)); clear hO hB hM
  refine wp_region_noPanic ?_
  go_region_law (refine step_append_own rfl (.tmp 57) (.tmp 59) 57 rfl base 62 i0 (.agg #[.int .i64 0, .slice none 0 0]) 2 32 Try.underlying57 hi hz0 hz1 hz2 rfl (by decide) (.slice V1 M.length V3) M.length (M.flatMap ec) (by simp [Act.eval, Act.put]) (World.ownsRow.drew (Own.later H.out.1 b3.out)) ⟨w.heap.size, 0, none⟩ 1 1 (ec (0, some ⟨gv, 0, none⟩, 4, 4)) (by simp [Act.eval, Act.put]) rfl NE.out (by simp [Value.oneCell']) (by unfold maxLen; omega) (by omega) (by have := b3.out.size; simp only [World.size_drew]; omega) ?_; intro v5 w5 hO5 hg5 _; obtain ⟨A5, n5, c5, rfl⟩ := own_shape hO5; have hB5 := (blk_drew (H.out.2.1.later b3.out)).grown hg5 (fun e => own_ne_blk H.out.1 H.out.2.1 (by decide) e.symm); have d5 := hB5.cell 5; have f5 := hB5.frozen 5; have X := Lib.hid (And.intro hO5 hg5); clear hO5 hg5 hB5)
  all_goals
    go_simp
    exact NoPanic.normal (HQ.out _ _ _ _ _ _ _ _ _ _ _ _ A5 n5 c5 _ ⟨_, w5, below_drew b3.out, X.out.2, X.out.1, rfl⟩)
end Go.Proofs.Ytjddfjapopdciaa
