/- Texts of the proof of RingTells, part 24. -/
import Derived.Test.YtbbjlefldpgckaaPRingTells20
import Derived.Test.YtbbjlefldpgckaaPRingTells7
import Derived.Deep.RegionHeld3
import Derived.Test.YtbbjlefldpgckaaPRingTells23
import Derived.Test.YtbbjlefldpgckaaPRingTells22
import Derived.Test.YtbbjlefldpgckaaPRingTells12
namespace Go.Proofs.Ytbbjlefldpgckaa
open Go.ChangeShapes Go.WideShapes Go.ChangeAt Go.RowKit Go.Maps
open Ev (V3 rightV OkV)
set_option linter.unusedVariables false
set_option linter.unusedSimpArgs false
set_option maxRecDepth 20000
/-- What a call of ref from a world answers. -/
abbrev RefC (t : Int) (v : Value) (l : List V3) (W : World) : Prop := Calls Try.prog 50 #[ev t v] W fun e w' => ∃ v', (e = .returned (ev t v') ∧ Own w' W.heap.size 98 3 row3 v' l) ∧ Below W.heap.size W w'
set_option maxHeartbeats 2000000 in
theorem refItem_of (m : Bool) (t : Int) (A : Option Addr) (n cap : Nat) (l : List V3) (w : World) (cR : ∀ W, Below w.heap.size w W → RefC t (.slice A n cap) l W) :
    Calls Try.prog 33 #[item m t (.slice A n cap)] w fun e w' => ∃ v', (e = .returned (item m t v') ∧ Own w' w.heap.size 98 3 row3 v' l) ∧ Below w.heap.size w w' := by
  have q1 := (Blk.new w 37 #[.bool m, .int .i64 t, .slice A n cap]).alloc (.cells #[.bool false, .int .i64 0, .slice none 0 0] 73)
  have q2 := Blk.new (w.alloc (.cells #[.bool m, .int .i64 t, .slice A n cap] 37)) 73 #[.bool false, .int .i64 0, .slice none 0 0]
  rw [World.size_alloc] at q2
  have bA : Below w.heap.size w ((w.alloc (.cells #[.bool m, .int .i64 t, .slice A n cap] 37)).alloc (.cells #[.bool false, .int .i64 0, .slice none 0 0] 73)) := bt (ba _ _) (ba _ _)
  obtain ⟨W1, hW1⟩ : ∃ W1, W1 = (w.alloc (.cells #[.bool m, .int .i64 t, .slice A n cap] 37)).alloc (.cells #[.bool false, .int .i64 0, .slice none 0 0] 73) := ⟨_, rfl⟩
  rw [← hW1] at q1 q2 bA
  have hS := fun (X : World) (hX : Below W1.heap.size W1 X) => q1.later hX
  have hT := fun (X : World) (hX : Below W1.heap.size W1 X) => q2.later hX
  have H := Lib.hid (And.intro cR (And.intro hS (And.intro hT bA))); clear cR hS hT q1 q2
  go_enter Try.func33, Try.ntmps33
  go_wp2_with fail
  rw [← hW1]
  clear hW1 bA
  obtain ⟨s0, s1, s2⟩ := (H.out.2.1 W1 (Below.refl _ _)).three
  refine wp_region_noPanic ?_
  go_region_held3 (fun X => X.cell? ⟨w.heap.size, 0, none⟩ = some (.bool m) ∧ X.cell? ⟨w.heap.size, 1, none⟩ = some (.int .i64 t) ∧ X.cell? ⟨w.heap.size, 2, none⟩ = some (.slice A n cap)) (first | exact (H.out.2.1 _ (Below.refl _ _)).three | exact (H.out.2.1 _ (below_drew (Below.refl _ _))).three | exact (H.out.2.1 _ K7.out.1).three | exact hE.out) ((go_at_call 50; refine (H.out.1 _ (by first | exact below_drew H.out.2.2.2 | exact H.out.2.2.2)).mono ?_; rintro e w7 ⟨v7, ⟨rfl, hO7⟩, b7⟩; obtain ⟨A7, n7, c7, rfl⟩ := own_shape hO7; have K7 := Lib.hid (And.intro (show Below W1.heap.size W1 w7 from (below_drew (Below.refl W1.heap.size W1)).trans b7) (show Own w7 W1.heap.size 98 3 row3 (.slice A7 n7 c7) l from hO7)); have B7 := H.out.2.2.1 w7 K7.out.1; obtain ⟨r0, r1, r2⟩ := B7.three; have rf := B7.frozen; have rl := B7.lt; have hE := Lib.hid (((((H.out.2.1 w7 K7.out.1).far (p := ⟨w.heap.size + 1, 0, none⟩) (by show w.heap.size ≠ w.heap.size + 1; omega) (.bool m)).far (p := ⟨w.heap.size + 1, 1, none⟩) (by show w.heap.size ≠ w.heap.size + 1; omega) (.int .i64 t)).far (p := ⟨w.heap.size + 1, 2, none⟩) (by show w.heap.size ≠ w.heap.size + 1; omega) (.slice A7 n7 c7)).three); have B8 := B7.put3 (.bool m) (.int .i64 t) (.slice A7 n7 c7); obtain ⟨z0, z1, z2⟩ := B8.three; clear B7 B8 b7 hO7))
  all_goals
    refine NoPanic.normal ?_
    go_wp2
    refine bodyPost_ret (v := item m t (.slice A7 n7 c7)) (by simp only [results, Try.results33]; simp [go_sem, Act.put, z0, z1, z2]) rfl ?_
    have hlt := (H.out.2.2.1 W1 (Below.refl _ _)).lt
    have hO := K7.out.2
    exact ⟨_, ⟨rfl, (((hO.far (p := ⟨w.heap.size + 1, 0, none⟩) hlt (.bool m)).far (p := ⟨w.heap.size + 1, 1, none⟩) hlt (.int .i64 t)).far (p := ⟨w.heap.size + 1, 2, none⟩) hlt (.slice A7 n7 c7)).lift (by omega)⟩, below_put3 (bt H.out.2.2.2 K7.out.1) (by omega) _ _ _⟩
end Go.Proofs.Ytbbjlefldpgckaa
namespace Go.Proofs.Ytbbjlefldpgckaa
open Go.ChangeShapes Go.WideShapes Go.ChangeAt Go.RowKit Go.Maps
open Ev (V3 rightV OkV)
theorem refItem_any (m : Bool) (t : Int) (v : Value) (l : List V3) (w : World) (hv : ValsAt w v l) (hl : l.length * 32 ≤ 140737488355328) :
    Calls Try.prog 33 #[item m t v] w fun e w' => ∃ v', (e = .returned (item m t v') ∧ Own w' w.heap.size 98 3 row3 v' l) ∧ Below w.heap.size w w' := by
  have hv0 := hv
  obtain ⟨A, cap, rfl, _, _, _⟩ := hv
  exact refItem_of m t A l.length cap l w (fun W hW => ref_any t _ l W (hv0.later hW) hl)
end Go.Proofs.Ytbbjlefldpgckaa
namespace Go.Proofs.Ytbbjlefldpgckaa
open Go.ChangeShapes Go.WideShapes Go.ChangeAt Go.RowKit Go.Maps
open Ev (V3 rightV OkV)
set_option linter.unusedVariables false
set_option linter.unusedSimpArgs false
set_option maxRecDepth 20000

theorem own_vals {w : World} {b : Nat} {e : TypeId} {v : Value} {l : List V3} (h : Own w b e 3 row3 v l) : ValsAt w v l := valsAt_own (by first | exact h | (have h' := h; unfold Own at h'; first | exact h' | simpa [cells3, row3] using h'))
theorem rsame_true (m : Bool) (t : Int) (l : List V3) (v v' : Value) (w : World) (hv : ValsAt w v l) (hv' : ValsAt w v' l) :
    Calls Try.prog 37 #[item m t v, item m t v'] w fun e w' => e = .returned (.bool true) ∧ Below w.heap.size w w' :=
  (rSameItem_any m t v l m t v' l w hv hv').mono fun e w' ⟨he, hb⟩ => ⟨he.trans (by simp), hb⟩
set_option maxRecDepth 20000 in
set_option maxHeartbeats 4000000 in
theorem alike8 (u2 u3 u4 u10 u11 u12 u13 u14 u15 u16 u17 u18 u19 u20 u21 u22 u23 u24 u25 u26 u27 u28 u29 u30 u31 u32 u33 u34 u35 u36 u37 u38 u39 u40 u41 u42 u43 u44 u45 u46 u47 u48 u49 u50 u51 u52 u53 u54 u55 u56 u57 u58 u59 u60 u61 u62 u63 u64 u65 u66 u67 u68 u69 u70 u71 u72 u73 u74 u75 u76 u77 u78 u79 u80 u81 u82 u83 u84 u85 u86 u87 u88 u89 u90 u91 u92 u93 u94 u95 u96 u97 u98 u99 u100 u101 u102 u103 u104 u105 u106 u107 u108 u109 u110 u111 u112 u113 u114 u115 u116 u117 u118 u119 u120 u121 : Value) {w : World} {B B' d p gi gm n1 c1 n2 c2 : Nat} {A1 A2 : Option Addr} {bb m : Bool} {t id : Int} {l : List V3} {vl vq : Value} {L : List Raw} {Q' : List Qr} {s : Rg} (hi : wfI id) (h : RS w B d s) (hm : RM w B' p vl vq L Q' s) (hp : Blk w gi 37 #[.bool m, .int .i64 t, .slice A1 n1 c1]) (hp' : Blk w gm 73 #[.bool m, .int .i64 t, .slice A2 n2 c2]) (hv : ValsAt w (.slice A1 n1 c1) l) (hv' : ValsAt w (.slice A2 n2 c2) l) (hl : l.length * 32 ≤ 140737488355328) {Q : Exit → Act → World → Prop}
    (hQ : ∀ (x85 x86 x87 x88 x89 x90 x91 x92 x93 x94 x95 x96 x97 x98 x99 x100 x101 x102 x103 x104 x105 x106 x107 x108 x109 x110 x111 x112 x113 x114 x115 x116 x117 x118 x119 x120 : Value)  (wx : World), Below w.heap.size w wx → Q .normal ⟨#[.pointer (some ⟨d, 0, none⟩), .pointer (some ⟨p, 0, none⟩), u2, u3, u4, .int .i64 id, .pointer (some ⟨gi, 0, none⟩), .bool bb, .pointer (some ⟨gm, 0, none⟩), .bool bb, u10, u11, u12, u13, u14, u15, u16, u17, u18, u19, u20, u21, u22, u23, u24, u25, u26, u27, u28, u29, u30, u31, u32, u33, u34, u35, u36, u37, u38, u39, u40, u41, u42, u43, u44, u45, u46, u47, u48, u49, u50, u51, u52, u53, u54, u55, u56, u57, u58, u59, u60, u61, u62, u63, u64, u65, u66, u67, u68, u69, u70, u71, u72, u73, u74, u75, u76, u77, u78, u79, u80, u81, u82, u83, u84, x85, x86, x87, x88, x89, x90, x91, x92, x93, x94, x95, x96, x97, x98, x99, x100, x101, x102, x103, x104, x105, x106, x107, x108, x109, x110, x111, x112, x113, x114, x115, x116, x117, x118, x119, x120, .bool false], []⟩ wx) :
    Code.wp Try.prog ((Try.f13.body.bind (regionN 8)).getD .skip) Q ⟨#[.pointer (some ⟨d, 0, none⟩), .pointer (some ⟨p, 0, none⟩), u2, u3, u4, .int .i64 id, .pointer (some ⟨gi, 0, none⟩), .bool bb, .pointer (some ⟨gm, 0, none⟩), .bool bb, u10, u11, u12, u13, u14, u15, u16, u17, u18, u19, u20, u21, u22, u23, u24, u25, u26, u27, u28, u29, u30, u31, u32, u33, u34, u35, u36, u37, u38, u39, u40, u41, u42, u43, u44, u45, u46, u47, u48, u49, u50, u51, u52, u53, u54, u55, u56, u57, u58, u59, u60, u61, u62, u63, u64, u65, u66, u67, u68, u69, u70, u71, u72, u73, u74, u75, u76, u77, u78, u79, u80, u81, u82, u83, u84, u85, u86, u87, u88, u89, u90, u91, u92, u93, u94, u95, u96, u97, u98, u99, u100, u101, u102, u103, u104, u105, u106, u107, u108, u109, u110, u111, u112, u113, u114, u115, u116, u117, u118, u119, u120, u121], []⟩ w := by
  have HQ := Lib.hid hQ; clear hQ
  conv => arg 2; whnf
  obtain ⟨c0, c1', c2'⟩ := hp.three
  obtain ⟨d0, d1', d2'⟩ := hp'.three
  have K := Lib.hid (Below.refl w.heap.size w)
  have C := Lib.hid (And.intro hi (And.intro h (And.intro hm (And.intro hp (And.intro hp' (And.intro hv (And.intro hv' hl))))))); clear hi h hm hp hp' hv hv' hl
  refine wp_region_noPanic ?_
  go_region_held3 (fun X => (X.cell? ⟨gi, 0, none⟩ = some (.bool m) ∧ X.cell? ⟨gi, 1, none⟩ = some (.int .i64 t) ∧ X.cell? ⟨gi, 2, none⟩ = some (.slice A1 n1 c1)) ∧ X.cell? ⟨gm, 0, none⟩ = some (.bool m) ∧ X.cell? ⟨gm, 1, none⟩ = some (.int .i64 t) ∧ X.cell? ⟨gm, 2, none⟩ = some (.slice A2 n2 c2)) (exact ⟨(C.out.2.2.2.1.later (by first | exact K.out | exact below_drew K.out)).three, (C.out.2.2.2.2.1.later (by first | exact K.out | exact below_drew K.out)).three⟩) (first
      | (go_at_call 23; ((refine (Wait_any _ _ _ _ _ C.out.1 (C.out.2.1.later (by first | exact K.out | exact below_drew K.out))).mono ?_); rintro e w1 ⟨rfl, hb⟩; (first | replace K := Lib.hid (K.out.trans (hb.mono K.out.size)) | replace K := Lib.hid ((below_drew K.out).trans (hb.mono K.out.size))); clear hb))
      | (go_at_call 40; ((refine (mWait_any _ (C.out.2.2.1.later (by first | exact K.out | exact below_drew K.out))).mono ?_); rintro e w1 ⟨rfl, hb⟩; (first | replace K := Lib.hid (K.out.trans (hb.mono K.out.size)) | replace K := Lib.hid ((below_drew K.out).trans (hb.mono K.out.size))); clear hb))
      | (go_at_call 25; ((refine (Low_any _ _ _ _ _ C.out.1 (C.out.2.1.later (by first | exact K.out | exact below_drew K.out))).mono ?_); rintro e w1 ⟨rfl, hb⟩; (first | replace K := Lib.hid (K.out.trans (hb.mono K.out.size)) | replace K := Lib.hid ((below_drew K.out).trans (hb.mono K.out.size))); clear hb))
      | (go_at_call 41; ((refine (mLow_any _ (C.out.2.2.1.later (by first | exact K.out | exact below_drew K.out))).mono ?_); rintro e w1 ⟨rfl, hb⟩; (first | replace K := Lib.hid (K.out.trans (hb.mono K.out.size)) | replace K := Lib.hid ((below_drew K.out).trans (hb.mono K.out.size))); clear hb))
      | (go_at_call 28; ((refine (Ended_any _ _ _ _ _ C.out.1 (C.out.2.1.later (by first | exact K.out | exact below_drew K.out))).mono ?_); rintro e w1 ⟨rfl, hb⟩; (first | replace K := Lib.hid (K.out.trans (hb.mono K.out.size)) | replace K := Lib.hid ((below_drew K.out).trans (hb.mono K.out.size))); clear hb))
      | (go_at_call 42; ((refine (mEnded_any _ (C.out.2.2.1.later (by first | exact K.out | exact below_drew K.out))).mono ?_); rintro e w1 ⟨rfl, hb⟩; (first | replace K := Lib.hid (K.out.trans (hb.mono K.out.size)) | replace K := Lib.hid ((below_drew K.out).trans (hb.mono K.out.size))); clear hb))
      | (go_at_call 33; ((refine (refItem_any _ _ _ l _ (C.out.2.2.2.2.2.1.later (by first | exact K.out | exact below_drew K.out)) C.out.2.2.2.2.2.2.2).mono ?_); rintro e w1 ⟨v9, ⟨rfl, hO⟩, hb⟩; (first | replace K := Lib.hid (K.out.trans (hb.mono K.out.size)) | replace K := Lib.hid ((below_drew K.out).trans (hb.mono K.out.size))); have M := Lib.hid (own_vals hO); clear hb hO))
      | (go_at_call 37; ((refine (rsame_true _ _ l _ _ _ M.out (C.out.2.2.2.2.2.2.1.later (by first | exact K.out | exact below_drew K.out))).mono ?_); rintro e w1 ⟨rfl, hb⟩; (first | replace K := Lib.hid (K.out.trans (hb.mono K.out.size)) | replace K := Lib.hid ((below_drew K.out).trans (hb.mono K.out.size))); clear hb)))
  all_goals exact NoPanic.normal (HQ.out _ _ _ _ _ _ _ _ _ _ _ _ _ _ _ _ _ _ _ _ _ _ _ _ _ _ _ _ _ _ _ _ _ _ _ _ _ K.out)
end Go.Proofs.Ytbbjlefldpgckaa
