/- Texts that several proofs stand on, part 11. -/
import Derived.Test.YtenmbahfgfmjjaaDoorQ9
import Derived.Test.YtenmbahfgfmjjaaDoorQ10
import Derived.BigGuard
import Derived.Deep.RegionWith
namespace Go.Proofs.YtenmbahfgfmjjaaDoor
open Go.ChangeShapes Go.WideShapes Go.ChangeAt Go.RowKit
open Rk (inR)
set_option linter.unusedVariables false
set_option linter.unusedSimpArgs false

def regionN (n : Nat) : Code → Option Code
  | .seq a b => match regionN n a with
    | some c => some c
    | none => regionN n b
  | .cond v a b => match regionN n a with
    | some c => some c
    | none => regionN n b
  | .loop c => regionN n c
  | .block _ c => regionN n c
  | .scope c => regionN n c
  | .region i o d => if i = n then some (.region i o d) else none
  | _ => none
theorem wp_of_eq {P : Program} {c c' : Code} {Q : Exit → Act → World → Prop} {a : Act} {w : World} (h : Code.wp P c' Q a w) (e : c' = c) : Code.wp P c Q a w := e ▸ h
theorem two_new (w : World) (t u : TypeId) (c d : Array Value) : Below w.heap.size w ((w.alloc (.cells c t)).alloc (.cells d u)).drew ∧ Blk ((w.alloc (.cells c t)).alloc (.cells d u)).drew w.heap.size t c ∧ Blk ((w.alloc (.cells c t)).alloc (.cells d u)).drew (w.heap.size + 1) u d :=
  ⟨below_drew (bt (ba _ _) (ba _ _)), blk_drew ((Blk.new w t c).alloc _), blk_drew (by have := Blk.new (w.alloc (.cells c t)) u d; rwa [World.size_alloc] at this)⟩
theorem row8_drew {w : World} {a : Addr} {k : Int} {op : ByteArray} {vk vn : Int} {vs va f : ByteArray} {K : Value} (h : Row8 w a k op vk vn vs va f K) : Row8 w.drew a k op vk vn vs va f K := h.later (below_drew (Below.refl _ _))
theorem lvl_bd (op : ByteArray) : 0 ≤ lvl op ∧ lvl op ≤ 6 := by
  rcases op_or op with h | h | h | h | h | h | h | h | h | h | h | h | h | ⟨h0, h1, h2, h3, h4, h5, h6, h7, h8, h9, h10, h11, h12⟩
  all_goals first | (unfold lvl; rw [h]; decide) | skip
  unfold lvl
  rw [if_neg h0, if_neg h1, if_neg h2, if_neg h3, if_neg h4, if_neg h5, if_neg h6, if_neg h7, if_neg h8, if_neg h9, if_neg h10, if_neg h11, if_neg h12]
  decide
set_option maxRecDepth 20000 in
set_option maxHeartbeats 4000000 in
theorem lay10 (u0 u1 u2 u4 u5 u6 u7 u8 u9 u10 u11 u12 u13 u14 u15 u16 u17 u18 u19 u20 u21 u22 u23 u24 u25 u26 u27 u28 u29 u30 u31 u32 u33 u34 u35 u36 u37 u38 u39 u40 u41 u42 u43 u44 u45 u46 u47 u48 u49 u50 u51 u52 u53 u54 u55 u56 u57 u58 u59 u60 u61 u62 u63 u64 u65 u66 u67 u68 u69 u70 u71 u72 u73 u74 u75 u76 u77 u78 u79 u80 u81 u82 u83 u84 u85 u86 u87 u88 u89 u90 u91 u92 u93 : Value) {w : World} {b : Nat} {a : Addr} {cc : Nat} {op : ByteArray} {k1 : Int} {o1 : ByteArray} {a1 b1 : Int} {s1 v1 f1 : ByteArray} {A1 : Option Addr} {n1 c1 : Nat} {k2 : Int} {o2 : ByteArray} {a2 b2 : Int} {s2 v2 f2 : ByteArray} {A2 : Option Addr} {n2 c2 : Nat}
    (hB : Blk w b 42 #[.int .i64 4, .string op, .int .i64 0, .int .i64 0, .string e0, .string e0, .string e0, .slice (some a) 2 cc]) (hR1 : Row8 w a k1 o1 a1 b1 s1 v1 f1 (.slice A1 n1 c1)) (hR2 : Row8 w (a.add 8) k2 o2 a2 b2 s2 v2 f2 (.slice A2 n2 c2)) (hcc : 2 ≤ cc) {Q : Exit → Act → World → Prop}
    (hQ : ∀ (x51 x52 x53 x54 x55 x56 x57 x58 x59 x60 x61 : Value) (g1 g2 : Nat) (wx : World), Below w.heap.size w wx ∧ Blk wx g1 42 #[.int .i64 k1, .string o1, .int .i64 a1, .int .i64 b1, .string s1, .string v1, .string f1, .slice A1 n1 c1] ∧ Blk wx g2 42 #[.int .i64 k2, .string o2, .int .i64 a2, .int .i64 b2, .string s2, .string v2, .string f2, .slice A2 n2 c2] → Q .normal ⟨#[u0, u1, u2, .pointer (some ⟨b, 0, none⟩), u4, .pointer (some ⟨g1, 0, none⟩), .pointer (some ⟨g2, 0, none⟩), .int .i64 (lvl op), u8, u9, u10, u11, u12, u13, u14, u15, u16, u17, u18, u19, u20, u21, u22, u23, u24, u25, u26, u27, u28, u29, u30, u31, u32, u33, u34, u35, u36, u37, u38, u39, u40, u41, u42, u43, u44, u45, u46, u47, u48, u49, u50, x51, x52, x53, x54, x55, x56, x57, x58, x59, x60, x61, u62, u63, u64, u65, u66, u67, u68, u69, u70, u71, u72, u73, u74, u75, u76, u77, u78, u79, u80, u81, u82, u83, u84, u85, u86, u87, u88, u89, u90, u91, u92, u93], []⟩ wx) :
    Code.wp Tryd.prog ((Tryd.f66.body.bind (regionN 10)).getD .skip) Q ⟨#[u0, u1, u2, .pointer (some ⟨b, 0, none⟩), u4, u5, u6, u7, u8, u9, u10, u11, u12, u13, u14, u15, u16, u17, u18, u19, u20, u21, u22, u23, u24, u25, u26, u27, u28, u29, u30, u31, u32, u33, u34, u35, u36, u37, u38, u39, u40, u41, u42, u43, u44, u45, u46, u47, u48, u49, u50, u51, u52, u53, u54, u55, u56, u57, u58, u59, u60, u61, u62, u63, u64, u65, u66, u67, u68, u69, u70, u71, u72, u73, u74, u75, u76, u77, u78, u79, u80, u81, u82, u83, u84, u85, u86, u87, u88, u89, u90, u91, u92, u93], []⟩ w := by
  have HQ := Lib.hid hQ; clear hQ
  conv => arg 2; whnf
  have H := Lib.hid (And.intro hB (And.intro hR1 hR2)); clear hB hR1 hR2
  have p0 := H.out.1.cell
  refine wp_region_noPanic ?_
  go_region_held3 (fun w' => (∀ j, w'.cell? ⟨b, j, none⟩ = (#[.int .i64 4, .string op, .int .i64 0, .int .i64 0, .string e0, .string e0, .string e0, .slice (some a) 2 cc] : Array Value)[j]?) ∧ (w'.cell? a = some (.int .i64 k1) ∧ w'.cell? ⟨a.block, a.off + 1, none⟩ = some (.string o1) ∧ w'.cell? ⟨a.block, a.off + 2, none⟩ = some (.int .i64 a1) ∧ w'.cell? ⟨a.block, a.off + 3, none⟩ = some (.int .i64 b1) ∧ w'.cell? ⟨a.block, a.off + 4, none⟩ = some (.string s1) ∧ w'.cell? ⟨a.block, a.off + 5, none⟩ = some (.string v1) ∧ w'.cell? ⟨a.block, a.off + 6, none⟩ = some (.string f1) ∧ w'.cell? ⟨a.block, a.off + 7, none⟩ = some (.slice A1 n1 c1)) ∧ w'.cell? ⟨a.block, a.off + 8, none⟩ = some (.int .i64 k2) ∧ w'.cell? ⟨a.block, a.off + 8 + 1, none⟩ = some (.string o2) ∧ w'.cell? ⟨a.block, a.off + 8 + 2, none⟩ = some (.int .i64 a2) ∧ w'.cell? ⟨a.block, a.off + 8 + 3, none⟩ = some (.int .i64 b2) ∧ w'.cell? ⟨a.block, a.off + 8 + 4, none⟩ = some (.string s2) ∧ w'.cell? ⟨a.block, a.off + 8 + 5, none⟩ = some (.string v2) ∧ w'.cell? ⟨a.block, a.off + 8 + 6, none⟩ = some (.string f2) ∧ w'.cell? ⟨a.block, a.off + 8 + 7, none⟩ = some (.slice A2 n2 c2)) (first | exact ⟨H.out.1.cell, H.out.2.1, H.out.2.2⟩ | exact ⟨(blk_drew H.out.1).cell, row8_drew H.out.2.1, row8_drew H.out.2.2⟩ | exact ⟨((blk_drew H.out.1).alloc _).cell, Row8.later (row8_drew H.out.2.1) (ba _ _), Row8.later (row8_drew H.out.2.2) (ba _ _)⟩ | exact ⟨(((blk_drew H.out.1).alloc _).alloc _).cell, Row8.later (Row8.later (row8_drew H.out.2.1) (ba _ _)) (ba _ _), Row8.later (Row8.later (row8_drew H.out.2.2) (ba _ _)) (ba _ _)⟩ | go_keep) ((go_at_call 75; ((with_reducible refine (Level_any op _).mono ?_); rintro e w1 ⟨rfl, rfl⟩)))
  all_goals first | exact NoPanic.normal (HQ.out _ _ _ _ _ _ _ _ _ _ _ _ _ _ (two_new w _ _ _ _)) | exact NoPanic.normal (HQ.out _ _ _ _ _ _ _ _ _ _ _ _ _ _ ⟨(two_new w _ _ _ _).1, (two_new w _ _ _ _).2.2, (two_new w _ _ _ _).2.1⟩)
set_option maxRecDepth 20000 in
set_option maxHeartbeats 4000000 in
theorem lay11 (u1 u2 u3 u4 u6 u8 u9 u10 u11 u12 u13 u14 u15 u16 u17 u18 u19 u20 u21 u22 u23 u24 u25 u26 u27 u28 u29 u30 u31 u32 u33 u34 u35 u36 u37 u38 u39 u40 u41 u42 u43 u44 u45 u46 u47 u48 u49 u50 u51 u52 u53 u54 u55 u56 u57 u58 u59 u60 u61 u75 u76 u77 u78 u79 u80 u81 u82 u83 u84 u85 u86 u87 u88 u89 u90 u91 u92 u93 : Value) {w : World} {v : Value} {B g m : Nat} {l p : List UInt8} {L : Int} {k1 : Int} {o1 : ByteArray} {a1 b1 : Int} {s1 v1 f1 : ByteArray} {A1 : Option Addr} {n1 c1 : Nat}
    (hO : OwnB w B v l) (hb : B ≤ w.heap.size) (hl : l.length + 1 ≤ m) (hlp : l.length + p.length + 2 ≤ 1000000000) (hB : Blk w g 42 #[.int .i64 k1, .string o1, .int .i64 a1, .int .i64 b1, .string s1, .string v1, .string f1, .slice A1 n1 c1])
    (HL : ∀ W v' l', Below B w W → OwnB W B v' l' → l'.length ≤ m → Calls Tryd.prog 66 #[v', ev k1 o1 a1 b1 s1 v1 f1 (.slice A1 n1 c1)] W fun e w' => LayT W v' B (l' ++ p) e w') {Q : Exit → Act → World → Prop}
    (hQ : ∀ (x62 x63 x64 x65 x66 x67 x68 x69 x70 x71 x72 x73 x74 : Value) (A6 : Option Addr) (n6 c6 : Nat) (wx : World), OwnB wx B (.slice A6 n6 c6) (l ++ brk ((k1 == 4) && decide (lvl o1 < L)) p) ∧ Wr w v wx (.slice A6 n6 c6) → Q .normal ⟨#[.slice A6 n6 c6, u1, u2, u3, u4, .pointer (some ⟨g, 0, none⟩), u6, .int .i64 L, u8, u9, u10, u11, u12, u13, u14, u15, u16, u17, u18, u19, u20, u21, u22, u23, u24, u25, u26, u27, u28, u29, u30, u31, u32, u33, u34, u35, u36, u37, u38, u39, u40, u41, u42, u43, u44, u45, u46, u47, u48, u49, u50, u51, u52, u53, u54, u55, u56, u57, u58, u59, u60, u61, x62, x63, x64, x65, x66, x67, x68, x69, x70, x71, x72, x73, x74, u75, u76, u77, u78, u79, u80, u81, u82, u83, u84, u85, u86, u87, u88, u89, u90, u91, u92, u93], []⟩ wx) :
    Code.wp Tryd.prog ((Tryd.f66.body.bind (regionN 11)).getD .skip) Q ⟨#[v, u1, u2, u3, u4, .pointer (some ⟨g, 0, none⟩), u6, .int .i64 L, u8, u9, u10, u11, u12, u13, u14, u15, u16, u17, u18, u19, u20, u21, u22, u23, u24, u25, u26, u27, u28, u29, u30, u31, u32, u33, u34, u35, u36, u37, u38, u39, u40, u41, u42, u43, u44, u45, u46, u47, u48, u49, u50, u51, u52, u53, u54, u55, u56, u57, u58, u59, u60, u61, undef, undef, undef, undef, undef, undef, undef, undef, undef, undef, undef, undef, undef, u75, u76, u77, u78, u79, u80, u81, u82, u83, u84, u85, u86, u87, u88, u89, u90, u91, u92, u93], []⟩ w := by
  have HQ := Lib.hid hQ; clear hQ
  conv => arg 2; whnf
  have H := Lib.hid (And.intro hO (And.intro hB HL)); clear hO hB HL
  by_cases hk : k1 = 4
  · subst hk
    have hlv := lvl_bd o1
    refine wp_region_noPanic ?_
    go_region_held3 (fun w' => ∀ j, w'.cell? ⟨g, j, none⟩ = (#[.int .i64 4, .string o1, .int .i64 a1, .int .i64 b1, .string s1, .string v1, .string f1, .slice A1 n1 c1] : Array Value)[j]?) (first | exact H.out.2.1.cell | exact (blk_drew H.out.2.1).cell | exact E6.out.cell | go_keep) (first
      | ((go_at_call 75; ((with_reducible refine (Level_any o1 _).mono ?_); rintro e w1 ⟨rfl, rfl⟩)))
      | ((go_at_call 79; refine (kid_any 4 o1 a1 b1 s1 v1 f1 (.slice A1 n1 c1) (decide (lvl o1 < L)) w.drew _ B m l p (World.ownsRow.drew H.out.1) hb hl hlp (fun W v' l' h1 h2 h3 => H.out.2.2 W v' l' ((below_drew (Below.refl B w)).trans h1) h2 h3) ⟨_, _, _, rfl⟩).mono ?_; rintro e w6 ⟨A6, n6, c6, rfl, hO6, hW6⟩; have W6 := Lib.hid (And.intro hO6 (Wr.pre (w := w) (below_drew (Below.refl _ _)) hW6)); have E6 := Lib.hid (blk_wr W6.out.2 H.out.2.1 (own_nb H.out.1 H.out.2.1 (by decide))); clear hO6 hW6))
      | ((go_at_call 79; refine (kid_any 4 o1 a1 b1 s1 v1 f1 (.slice A1 n1 c1) (decide (lvl o1 < L)) _ _ B m l p H.out.1 hb hl hlp (fun W v' l' h1 h2 h3 => H.out.2.2 W v' l' h1 h2 h3) ⟨_, _, _, rfl⟩).mono ?_; rintro e w6 ⟨A6, n6, c6, rfl, hO6, hW6⟩; have W6 := Lib.hid (And.intro hO6 hW6); have E6 := Lib.hid (blk_wr hW6 H.out.2.1 (own_nb H.out.1 H.out.2.1 (by decide))); clear hO6 hW6)))
    all_goals exact NoPanic.normal (HQ.out _ _ _ _ _ _ _ _ _ _ _ _ _ _ _ _ _ W6.out)
  · have hk4 : (k1 == 4) = false := beq_eq_false_iff_ne.2 hk
    rw [show ((k1 == 4) && decide (lvl o1 < L)) = false by rw [hk4]; rfl] at HQ
    refine wp_region_noPanic ?_
    refine wp_region_held_drew (S := (fun w' => ∀ j, w'.cell? ⟨g, j, none⟩ = (#[.int .i64 k1, .string o1, .int .i64 a1, .int .i64 b1, .string s1, .string v1, .string f1, .slice A1 n1 c1] : Array Value)[j]?)) (by kernel_rfl) ?_ (fun hHeld => ?_)
    · exact (blk_drew H.out.2.1).cell
    refine wpAnyH_take (i := 0) (v := ?v0) rfl (by kernel_rfl) (by kernel_rfl) (by kernel_rfl) (fun _ _ _ h => h) (Or.inl ⟨by rfl, ?hy0⟩) (by assumption) ?rest0
    case hy0 => (intro w hSw; (try dsimp only at hSw); go_simp; try with_reducible rfl)
    try simp only [Act.put, List.setIfInBounds_toArray, List.set_cons_zero, List.set_cons_succ]
    refine wpAnyH_take (i := 1) (v := ?v1) rfl (by kernel_rfl) (by kernel_rfl) (by kernel_rfl) (fun _ _ _ h => h) (Or.inl ⟨by rfl, ?hy1⟩) (by assumption) ?rest1
    case hy1 => (intro w hSw; (try dsimp only at hSw); go_simp; try with_reducible rfl)
    try simp only [Act.put, List.setIfInBounds_toArray, List.set_cons_zero, List.set_cons_succ]
    refine wpAnyH_take (i := 2) (v := ?v2) rfl (by kernel_rfl) (by kernel_rfl) (by kernel_rfl) (fun _ _ _ h => h) (Or.inl ⟨by rfl, ?hy2⟩) (by assumption) ?rest2
    case hy2 => (intro w hSw; (try dsimp only at hSw); go_simp; try with_reducible rfl)
    try simp only [Act.put, List.setIfInBounds_toArray, List.set_cons_zero, List.set_cons_succ]
    refine wpAnyH_take (i := 3) (v := ?v3) rfl (by kernel_rfl) (by kernel_rfl) (by kernel_rfl) (fun _ _ _ h => h) (Or.inl ⟨by rfl, ?hy3⟩) (by assumption) ?rest3
    case hy3 => (intro w hSw; (try dsimp only at hSw); go_simp; try with_reducible rfl)
    try simp only [Act.put, List.setIfInBounds_toArray, List.set_cons_zero, List.set_cons_succ]
    refine wpAnyH_take (i := 4) (v := ?v4) rfl (by kernel_rfl) (by kernel_rfl) (by kernel_rfl) (fun _ _ _ h => h) (Or.inl ⟨by rfl, ?hy4⟩) (by assumption) ?rest4
    case hy4 => (intro w hSw; (try dsimp only at hSw); go_simp; try with_reducible rfl)
    try simp only [Act.put, List.setIfInBounds_toArray, List.set_cons_zero, List.set_cons_succ]
    refine wpAnyH_take (i := 5) (v := ?v5) rfl (by kernel_rfl) (by kernel_rfl) (by kernel_rfl) (fun _ _ _ h => h) (Or.inl ⟨by rfl, ?hy5⟩) (by assumption) ?rest5
    case hy5 => (intro w hSw; (try dsimp only at hSw); go_simp; try with_reducible rfl)
    try simp only [Act.put, List.setIfInBounds_toArray, List.set_cons_zero, List.set_cons_succ]
    refine wpAnyH_take (i := 6) (v := undef) rfl (by kernel_rfl) (by kernel_rfl) (by kernel_rfl) (fun _ _ _ h => h) (Or.inr ⟨by first | (go_simp; done) | kernel_rfl, rfl⟩) (by assumption) ?_
    try simp only [Act.put, List.setIfInBounds_toArray, List.set_cons_zero, List.set_cons_succ]
    refine wpAnyH_take (i := 7) (v := undef) rfl (by kernel_rfl) (by kernel_rfl) (by kernel_rfl) (fun _ _ _ h => h) (Or.inr ⟨by first | (go_simp; done) | kernel_rfl, rfl⟩) (by assumption) ?_
    try simp only [Act.put, List.setIfInBounds_toArray, List.set_cons_zero, List.set_cons_succ]
    refine wpAnyH_take (i := 8) (v := undef) rfl (by kernel_rfl) (by kernel_rfl) (by kernel_rfl) (fun _ _ _ h => h) (Or.inr ⟨by first | (go_simp; done) | kernel_rfl, rfl⟩) (by assumption) ?_
    try simp only [Act.put, List.setIfInBounds_toArray, List.set_cons_zero, List.set_cons_succ]
    refine wpAnyH_take (i := 9) (v := undef) rfl (by kernel_rfl) (by kernel_rfl) (by kernel_rfl) (fun _ _ _ h => h) (Or.inr ⟨by first | (go_simp; done) | kernel_rfl, rfl⟩) (by assumption) ?_
    try simp only [Act.put, List.setIfInBounds_toArray, List.set_cons_zero, List.set_cons_succ]
    refine wpAnyH_take (i := 10) (v := undef) rfl (by kernel_rfl) (by kernel_rfl) (by kernel_rfl) (fun _ _ _ h => h) (Or.inr ⟨by first | (go_simp; done) | kernel_rfl, rfl⟩) (by assumption) ?_
    try simp only [Act.put, List.setIfInBounds_toArray, List.set_cons_zero, List.set_cons_succ]
    refine wpAnyH_take (i := 11) (v := ?v11) rfl (by kernel_rfl) (by kernel_rfl) (by kernel_rfl) (fun _ _ _ h => h) (Or.inl ⟨by rfl, ?hy11⟩) (by assumption) ?rest11
    case hy11 => (intro w hSw; (try dsimp only at hSw); go_simp; try with_reducible rfl)
    try simp only [Act.put, List.setIfInBounds_toArray, List.set_cons_zero, List.set_cons_succ]
    refine wpAnyH_ready (rs := [12]) (by kernel_rfl) (by simp) ?_
    refine AllReadyH.cons rfl (fun K' hK => ?_) AllReadyH.nil
    go_simp
    go_at_call 79
    refine (kid_any k1 o1 a1 b1 s1 v1 f1 (.slice A1 n1 c1) false w.drew _ B m l p (World.ownsRow.drew H.out.1) hb hl hlp (fun W v' l' h1 h2 h3 => H.out.2.2 W v' l' ((below_drew (Below.refl B w)).trans h1) h2 h3) ⟨_, _, _, rfl⟩).mono ?_
    rintro e w6 ⟨A6, n6, c6, rfl, hO6, hW6⟩
    have W6 := Lib.hid (And.intro hO6 (Wr.pre (w := w) (below_drew (Below.refl _ _)) hW6))
    have E6 := Lib.hid (blk_wr W6.out.2 H.out.2.1 (own_nb H.out.1 H.out.2.1 (by decide)))
    clear hO6 hW6
    refine hK.out _ _ ?_ (fun hHeld2 => ?_)
    · exact E6.out.cell
    clear hK K'
    try simp only [Act.put, List.setIfInBounds_toArray, List.set_cons_zero, List.set_cons_succ]
    refine wpAnyH_take (i := 13) (v := ?v13) rfl (by kernel_rfl) (by kernel_rfl) (by kernel_rfl) (fun _ _ _ h => h) (Or.inl ⟨by rfl, ?hy13⟩) (by assumption) ?rest13
    case hy13 => (intro w hSw; (try dsimp only at hSw); go_simp; try with_reducible rfl)
    try simp only [Act.put, List.setIfInBounds_toArray, List.set_cons_zero, List.set_cons_succ]
    refine wpAnyH_done (by kernel_rfl) ?_ _
    exact NoPanic.normal (HQ.out _ _ _ _ _ _ _ _ _ _ _ _ _ _ _ _ _ W6.out)
set_option maxRecDepth 20000 in
set_option maxHeartbeats 4000000 in
theorem lay13 (u1 u2 u3 u4 u5 u8 u9 u10 u11 u12 u13 u14 u15 u16 u17 u18 u19 u20 u21 u22 u23 u24 u25 u26 u27 u28 u29 u30 u31 u32 u33 u34 u35 u36 u37 u38 u39 u40 u41 u42 u43 u44 u45 u46 u47 u48 u49 u50 u51 u52 u53 u54 u55 u56 u57 u58 u59 u60 u61 u62 u63 u64 u65 u66 u67 u68 u69 u70 u71 u72 u73 u74 u75 u76 u77 u78 u79 u80 : Value) {w : World} {v : Value} {B g m : Nat} {l p : List UInt8} {L : Int} {k1 : Int} {o1 : ByteArray} {a1 b1 : Int} {s1 v1 f1 : ByteArray} {A1 : Option Addr} {n1 c1 : Nat}
    (hO : OwnB w B v l) (hb : B ≤ w.heap.size) (hl : l.length + 1 ≤ m) (hlp : l.length + p.length + 2 ≤ 1000000000) (hB : Blk w g 42 #[.int .i64 k1, .string o1, .int .i64 a1, .int .i64 b1, .string s1, .string v1, .string f1, .slice A1 n1 c1])
    (HL : ∀ W v' l', Below B w W → OwnB W B v' l' → l'.length ≤ m → Calls Tryd.prog 66 #[v', ev k1 o1 a1 b1 s1 v1 f1 (.slice A1 n1 c1)] W fun e w' => LayT W v' B (l' ++ p) e w') {Q : Exit → Act → World → Prop}
    (hQ : ∀ (x81 x82 x83 x84 x85 x86 x87 x88 x89 x90 x91 x92 x93 : Value) (A6 : Option Addr) (n6 c6 : Nat) (wx : World), OwnB wx B (.slice A6 n6 c6) (l ++ brk ((k1 == 4) && decide (lvl o1 ≤ L)) p) ∧ Wr w v wx (.slice A6 n6 c6) → Q .normal ⟨#[v, u1, u2, u3, .slice A6 n6 c6, u5, .pointer (some ⟨g, 0, none⟩), .int .i64 L, u8, u9, u10, u11, u12, u13, u14, u15, u16, u17, u18, u19, u20, u21, u22, u23, u24, u25, u26, u27, u28, u29, u30, u31, u32, u33, u34, u35, u36, u37, u38, u39, u40, u41, u42, u43, u44, u45, u46, u47, u48, u49, u50, u51, u52, u53, u54, u55, u56, u57, u58, u59, u60, u61, u62, u63, u64, u65, u66, u67, u68, u69, u70, u71, u72, u73, u74, u75, u76, u77, u78, u79, u80, x81, x82, x83, x84, x85, x86, x87, x88, x89, x90, x91, x92, x93], []⟩ wx) :
    Code.wp Tryd.prog ((Tryd.f66.body.bind (regionN 13)).getD .skip) Q ⟨#[v, u1, u2, u3, u4, u5, .pointer (some ⟨g, 0, none⟩), .int .i64 L, u8, u9, u10, u11, u12, u13, u14, u15, u16, u17, u18, u19, u20, u21, u22, u23, u24, u25, u26, u27, u28, u29, u30, u31, u32, u33, u34, u35, u36, u37, u38, u39, u40, u41, u42, u43, u44, u45, u46, u47, u48, u49, u50, u51, u52, u53, u54, u55, u56, u57, u58, u59, u60, u61, u62, u63, u64, u65, u66, u67, u68, u69, u70, u71, u72, u73, u74, u75, u76, u77, u78, u79, u80, undef, undef, undef, undef, undef, undef, undef, undef, undef, undef, undef, undef, undef], []⟩ w := by
  have HQ := Lib.hid hQ; clear hQ
  conv => arg 2; whnf
  have H := Lib.hid (And.intro hO (And.intro hB HL)); clear hO hB HL
  by_cases hk : k1 = 4
  · subst hk
    have hlv := lvl_bd o1
    refine wp_region_noPanic ?_
    go_region_held3 (fun w' => ∀ j, w'.cell? ⟨g, j, none⟩ = (#[.int .i64 4, .string o1, .int .i64 a1, .int .i64 b1, .string s1, .string v1, .string f1, .slice A1 n1 c1] : Array Value)[j]?) (first | exact H.out.2.1.cell | exact (blk_drew H.out.2.1).cell | exact E6.out.cell | go_keep) (first
      | ((go_at_call 75; ((with_reducible refine (Level_any o1 _).mono ?_); rintro e w1 ⟨rfl, rfl⟩)))
      | ((go_at_call 79; refine (kid_any 4 o1 a1 b1 s1 v1 f1 (.slice A1 n1 c1) (decide (lvl o1 ≤ L)) w.drew _ B m l p (World.ownsRow.drew H.out.1) hb hl hlp (fun W v' l' h1 h2 h3 => H.out.2.2 W v' l' ((below_drew (Below.refl B w)).trans h1) h2 h3) ⟨_, _, _, rfl⟩).mono ?_; rintro e w6 ⟨A6, n6, c6, rfl, hO6, hW6⟩; have W6 := Lib.hid (And.intro hO6 (Wr.pre (w := w) (below_drew (Below.refl _ _)) hW6)); have E6 := Lib.hid (blk_wr W6.out.2 H.out.2.1 (own_nb H.out.1 H.out.2.1 (by decide))); clear hO6 hW6))
      | ((go_at_call 79; refine (kid_any 4 o1 a1 b1 s1 v1 f1 (.slice A1 n1 c1) (decide (lvl o1 ≤ L)) _ _ B m l p H.out.1 hb hl hlp (fun W v' l' h1 h2 h3 => H.out.2.2 W v' l' h1 h2 h3) ⟨_, _, _, rfl⟩).mono ?_; rintro e w6 ⟨A6, n6, c6, rfl, hO6, hW6⟩; have W6 := Lib.hid (And.intro hO6 hW6); have E6 := Lib.hid (blk_wr hW6 H.out.2.1 (own_nb H.out.1 H.out.2.1 (by decide))); clear hO6 hW6)))
    all_goals exact NoPanic.normal (HQ.out _ _ _ _ _ _ _ _ _ _ _ _ _ _ _ _ _ W6.out)
  · have hk4 : (k1 == 4) = false := beq_eq_false_iff_ne.2 hk
    rw [show ((k1 == 4) && decide (lvl o1 ≤ L)) = false by rw [hk4]; rfl] at HQ
    refine wp_region_noPanic ?_
    refine wp_region_held_drew (S := (fun w' => ∀ j, w'.cell? ⟨g, j, none⟩ = (#[.int .i64 k1, .string o1, .int .i64 a1, .int .i64 b1, .string s1, .string v1, .string f1, .slice A1 n1 c1] : Array Value)[j]?)) (by kernel_rfl) ?_ (fun hHeld => ?_)
    · exact (blk_drew H.out.2.1).cell
    refine wpAnyH_take (i := 0) (v := ?v0) rfl (by kernel_rfl) (by kernel_rfl) (by kernel_rfl) (fun _ _ _ h => h) (Or.inl ⟨by rfl, ?hy0⟩) (by assumption) ?rest0
    case hy0 => (intro w hSw; (try dsimp only at hSw); go_simp; try with_reducible rfl)
    try simp only [Act.put, List.setIfInBounds_toArray, List.set_cons_zero, List.set_cons_succ]
    refine wpAnyH_take (i := 1) (v := ?v1) rfl (by kernel_rfl) (by kernel_rfl) (by kernel_rfl) (fun _ _ _ h => h) (Or.inl ⟨by rfl, ?hy1⟩) (by assumption) ?rest1
    case hy1 => (intro w hSw; (try dsimp only at hSw); go_simp; try with_reducible rfl)
    try simp only [Act.put, List.setIfInBounds_toArray, List.set_cons_zero, List.set_cons_succ]
    refine wpAnyH_take (i := 2) (v := ?v2) rfl (by kernel_rfl) (by kernel_rfl) (by kernel_rfl) (fun _ _ _ h => h) (Or.inl ⟨by rfl, ?hy2⟩) (by assumption) ?rest2
    case hy2 => (intro w hSw; (try dsimp only at hSw); go_simp; try with_reducible rfl)
    try simp only [Act.put, List.setIfInBounds_toArray, List.set_cons_zero, List.set_cons_succ]
    refine wpAnyH_take (i := 3) (v := ?v3) rfl (by kernel_rfl) (by kernel_rfl) (by kernel_rfl) (fun _ _ _ h => h) (Or.inl ⟨by rfl, ?hy3⟩) (by assumption) ?rest3
    case hy3 => (intro w hSw; (try dsimp only at hSw); go_simp; try with_reducible rfl)
    try simp only [Act.put, List.setIfInBounds_toArray, List.set_cons_zero, List.set_cons_succ]
    refine wpAnyH_take (i := 4) (v := ?v4) rfl (by kernel_rfl) (by kernel_rfl) (by kernel_rfl) (fun _ _ _ h => h) (Or.inl ⟨by rfl, ?hy4⟩) (by assumption) ?rest4
    case hy4 => (intro w hSw; (try dsimp only at hSw); go_simp; try with_reducible rfl)
    try simp only [Act.put, List.setIfInBounds_toArray, List.set_cons_zero, List.set_cons_succ]
    refine wpAnyH_take (i := 5) (v := ?v5) rfl (by kernel_rfl) (by kernel_rfl) (by kernel_rfl) (fun _ _ _ h => h) (Or.inl ⟨by rfl, ?hy5⟩) (by assumption) ?rest5
    case hy5 => (intro w hSw; (try dsimp only at hSw); go_simp; try with_reducible rfl)
    try simp only [Act.put, List.setIfInBounds_toArray, List.set_cons_zero, List.set_cons_succ]
    refine wpAnyH_take (i := 6) (v := undef) rfl (by kernel_rfl) (by kernel_rfl) (by kernel_rfl) (fun _ _ _ h => h) (Or.inr ⟨by first | (go_simp; done) | kernel_rfl, rfl⟩) (by assumption) ?_
    try simp only [Act.put, List.setIfInBounds_toArray, List.set_cons_zero, List.set_cons_succ]
    refine wpAnyH_take (i := 7) (v := undef) rfl (by kernel_rfl) (by kernel_rfl) (by kernel_rfl) (fun _ _ _ h => h) (Or.inr ⟨by first | (go_simp; done) | kernel_rfl, rfl⟩) (by assumption) ?_
    try simp only [Act.put, List.setIfInBounds_toArray, List.set_cons_zero, List.set_cons_succ]
    refine wpAnyH_take (i := 8) (v := undef) rfl (by kernel_rfl) (by kernel_rfl) (by kernel_rfl) (fun _ _ _ h => h) (Or.inr ⟨by first | (go_simp; done) | kernel_rfl, rfl⟩) (by assumption) ?_
    try simp only [Act.put, List.setIfInBounds_toArray, List.set_cons_zero, List.set_cons_succ]
    refine wpAnyH_take (i := 9) (v := undef) rfl (by kernel_rfl) (by kernel_rfl) (by kernel_rfl) (fun _ _ _ h => h) (Or.inr ⟨by first | (go_simp; done) | kernel_rfl, rfl⟩) (by assumption) ?_
    try simp only [Act.put, List.setIfInBounds_toArray, List.set_cons_zero, List.set_cons_succ]
    refine wpAnyH_take (i := 10) (v := undef) rfl (by kernel_rfl) (by kernel_rfl) (by kernel_rfl) (fun _ _ _ h => h) (Or.inr ⟨by first | (go_simp; done) | kernel_rfl, rfl⟩) (by assumption) ?_
    try simp only [Act.put, List.setIfInBounds_toArray, List.set_cons_zero, List.set_cons_succ]
    refine wpAnyH_take (i := 11) (v := ?v11) rfl (by kernel_rfl) (by kernel_rfl) (by kernel_rfl) (fun _ _ _ h => h) (Or.inl ⟨by rfl, ?hy11⟩) (by assumption) ?rest11
    case hy11 => (intro w hSw; (try dsimp only at hSw); go_simp; try with_reducible rfl)
    try simp only [Act.put, List.setIfInBounds_toArray, List.set_cons_zero, List.set_cons_succ]
    refine wpAnyH_ready (rs := [12]) (by kernel_rfl) (by simp) ?_
    refine AllReadyH.cons rfl (fun K' hK => ?_) AllReadyH.nil
    go_simp
    go_at_call 79
    refine (kid_any k1 o1 a1 b1 s1 v1 f1 (.slice A1 n1 c1) false w.drew _ B m l p (World.ownsRow.drew H.out.1) hb hl hlp (fun W v' l' h1 h2 h3 => H.out.2.2 W v' l' ((below_drew (Below.refl B w)).trans h1) h2 h3) ⟨_, _, _, rfl⟩).mono ?_
    rintro e w6 ⟨A6, n6, c6, rfl, hO6, hW6⟩
    have W6 := Lib.hid (And.intro hO6 (Wr.pre (w := w) (below_drew (Below.refl _ _)) hW6))
    have E6 := Lib.hid (blk_wr W6.out.2 H.out.2.1 (own_nb H.out.1 H.out.2.1 (by decide)))
    clear hO6 hW6
    refine hK.out _ _ ?_ (fun hHeld2 => ?_)
    · exact E6.out.cell
    clear hK K'
    try simp only [Act.put, List.setIfInBounds_toArray, List.set_cons_zero, List.set_cons_succ]
    refine wpAnyH_take (i := 13) (v := ?v13) rfl (by kernel_rfl) (by kernel_rfl) (by kernel_rfl) (fun _ _ _ h => h) (Or.inl ⟨by rfl, ?hy13⟩) (by assumption) ?rest13
    case hy13 => (intro w hSw; (try dsimp only at hSw); go_simp; try with_reducible rfl)
    try simp only [Act.put, List.setIfInBounds_toArray, List.set_cons_zero, List.set_cons_succ]
    refine wpAnyH_done (by kernel_rfl) ?_ _
    exact NoPanic.normal (HQ.out _ _ _ _ _ _ _ _ _ _ _ _ _ _ _ _ _ W6.out)
end Go.Proofs.YtenmbahfgfmjjaaDoor
