/- Texts of the proof of RingTells, part 34. -/
import Derived.Test.YtbbjlefldpgckaaPRingTells30
import Derived.Test.YtbbjlefldpgckaaPRingTells31
import Derived.Test.YtbbjlefldpgckaaPRingTells33
import Derived.Test.YtbbjlefldpgckaaPRingTells16
import Derived.Test.YtbbjlefldpgckaaPRingTells24
namespace Go.Proofs.Ytbbjlefldpgckaa
open Go.ChangeShapes Go.WideShapes Go.ChangeAt Go.RowKit Go.Maps
open Ev (V3 rightV OkV)
set_option linter.unusedVariables false
set_option linter.unusedSimpArgs false
set_option maxRecDepth 20000

/-- What holds while both put: the program's ring has one state, the document's one; the item's box; its values. -/
structure KP (w0 w1 : World) (X : Nat → Prop) (B d p gi : Nat) (mk : Bool) (t : Int) (A : Option Addr) (n c : Nat) (l : List V3) (s1 s2 : Rg) (W : World) : Prop where
  rx : RX (fun k => k = gi ∨ X k) W B d s1
  ms : MS W B p s2
  box : Blk W gi 37 #[.bool mk, .int .i64 t, .slice A n c]
  vals : (At w0 3 row3 (.slice A n c) l ∧ w0.heap.size ≤ B ∧ Below w0.heap.size w0 w1) ∨ NewAt 0 W (.slice A n c) l
  bel : Below B w1 W
  low : B ≤ W.heap.size
section
variable {w0 w1 W W' : World} {X : Nat → Prop} {B d p gi : Nat} {mk : Bool} {t : Int} {A : Option Addr} {n c : Nat} {l : List V3} {s1 s2 s1' s2' : Rg}
theorem KP.at_ (h : KP w0 w1 X B d p gi mk t A n c l s1 s2 W) : At W 3 row3 (.slice A n c) l := by
  rcases h.vals with ⟨h1, h2, h3⟩ | h1
  · exact h1.later (h3.trans (h.bel.mono h2))
  · exact new_at h1
theorem KP.later (h : KP w0 w1 X B d p gi mk t A n c l s1 s2 W) (hb : Below W.heap.size W W') : KP w0 w1 X B d p gi mk t A n c l s1 s2 W' :=
  ⟨(h.rx.later hb).1, h.ms.later hb, h.box.later hb, by
    rcases h.vals with h1 | h1
    · exact Or.inl h1
    · exact Or.inr (h1.later hb), h.bel.trans (hb.mono h.low), Nat.le_trans h.low hb.size⟩
theorem KP.drw (h : KP w0 w1 X B d p gi mk t A n c l s1 s2 W) : KP w0 w1 X B d p gi mk t A n c l s1 s2 W.drew := h.later (below_drew (Below.refl _ _))
theorem KP.put (h : KP w0 w1 X B d p gi mk t A n c l s1 s2 W) (hX : RX (fun k => k = gi ∨ X k) W' B d s1') (hC : Chg B W W') (hK : Kx (fun k => k = gi ∨ X k) W W') : KP w0 w1 X B d p gi mk t A n c l s1' s2 W' :=
  ⟨hX, h.ms.frr hC.frm, hK.blk h.box (Or.inl rfl), by
    rcases h.vals with h1 | h1
    · exact Or.inl h1
    · exact Or.inr (h1.frr hC.frm), h.bel.trans hC.bel, Nat.le_trans h.low hC.bel.size⟩
theorem KP.mput (h : KP w0 w1 X B d p gi mk t A n c l s1 s2 W) (hM : MS W' B p s2') (hC : ChM B W W') : KP w0 w1 X B d p gi mk t A n c l s1 s2' W' :=
  ⟨h.rx.frm hC.frm, hM, h.box.frm hC.frm (by decide), by
    rcases h.vals with h1 | h1
    · exact Or.inl h1
    · refine Or.inr ?_
      have h2 : Own W 0 84 3 row3 (.slice A n c) l := h1
      exact (Own.frm h2 hC.frm (by decide) : Own W' 0 84 3 row3 (.slice A n c) l), h.bel.trans hC.bel, Nat.le_trans h.low hC.bel.size⟩
theorem RX.q {w : World} {s : Rg} (h : RX X w B d s) : ∃ q, IsLen s.hist.length s.rd q ∧ q ≤ s.room := by
  obtain ⟨_, _, L, h', _⟩ := h
  exact ⟨_, h'.len, h'.fits⟩
end
theorem mPut_ms {w : World} {B p : Nat} {s : Rg} (h : MS w B p s) (mk : Bool) (t : Int) {v : Value} {l : List V3} (hv : Own w B tMv 3 row3 v l) (hs : ∀ x ∈ l, x.2.2.size ≤ maxLen) (hT : s.hist.length < 1000000) {q : Nat} (hq : IsLen s.hist.length s.rd q) (hqr : q ≤ s.room) :
    Calls Try.prog 32 #[.pointer (some ⟨p, 0, none⟩), item mk t v] w (mPutP B p s mk t l w) := by
  obtain ⟨vl, vq, L, Q, h⟩ := h
  exact mPut_any mk t v l h hv hs hT hq hqr
set_option maxRecDepth 20000 in
set_option maxHeartbeats 4000000 in
theorem do5 (u2 u3 u4 u5 u6 u7 u8 u10 u11 u12 u13 u14 u15 u16 u17 u18 u19 u20 u21 u22 u23 u24 u25 u26 u27 u28 u29 u30 u31 u32 u33 u34 u35 u36 u37 u38 u39 u40 u41 u42 u43 u44 u45 u46 u47 u48 u49 u50 u51 u52 u53 u54 u55 u56 u57 u58 u59 u60 u61 u62 u63 u64 u65 u66 u67 u68 u69 u70 u71 u72 u73 u74 u75 u76 u77 u78 u79 u80 u81 u82 u83 u84 u85 u86 u87 u88 u89 u90 u91 u92 u93 u94 u95 u96 u97 u98 u99 u100 : Value) {w0 w1 w : World} {X : Nat → Prop} {B d p gi n c : Nat} {A : Option Addr} {mk : Bool} {t : Int} {l : List V3} {s : Rg} (h : KP w0 w1 X B d p gi mk t A n c l s s w) (hs : ∀ x ∈ l, x.2.2.size ≤ maxLen) (hl : l.length * 32 ≤ 140737488355328) (hT : s.hist.length < 1000000) {Q : Exit → Act → World → Prop}
    (hQ : ∀ (x41 x42 x43 x44 x45 x46 x47 x48 : Value) (s' : Rg) (wx : World), (KP w0 w1 X B d p gi mk t A n c l s' s' wx ∧ ∃ c, PutR s mk t l c s') → Q .normal ⟨#[.pointer (some ⟨d, 0, none⟩), .pointer (some ⟨p, 0, none⟩), u2, u3, u4, u5, .bool true, u7, u8, .pointer (some ⟨gi, 0, none⟩), u10, u11, u12, u13, u14, u15, u16, u17, u18, u19, u20, u21, u22, u23, u24, u25, u26, u27, u28, u29, u30, u31, u32, u33, u34, u35, u36, u37, u38, u39, u40, x41, x42, x43, x44, x45, x46, x47, x48, u49, u50, u51, u52, u53, u54, u55, u56, u57, u58, u59, u60, u61, u62, u63, u64, u65, u66, u67, u68, u69, u70, u71, u72, u73, u74, u75, u76, u77, u78, u79, u80, u81, u82, u83, u84, u85, u86, u87, u88, u89, u90, u91, u92, u93, u94, u95, u96, u97, u98, u99, u100], []⟩ wx) :
    Code.wp Try.prog ((Try.f12.body.bind (regionN 5)).getD .skip) Q ⟨#[.pointer (some ⟨d, 0, none⟩), .pointer (some ⟨p, 0, none⟩), u2, u3, u4, u5, u6, u7, u8, .pointer (some ⟨gi, 0, none⟩), u10, u11, u12, u13, u14, u15, u16, u17, u18, u19, u20, u21, u22, u23, u24, u25, u26, u27, u28, u29, u30, u31, u32, u33, u34, u35, u36, u37, u38, u39, u40, u41, u42, u43, u44, u45, u46, u47, u48, u49, u50, u51, u52, u53, u54, u55, u56, u57, u58, u59, u60, u61, u62, u63, u64, u65, u66, u67, u68, u69, u70, u71, u72, u73, u74, u75, u76, u77, u78, u79, u80, u81, u82, u83, u84, u85, u86, u87, u88, u89, u90, u91, u92, u93, u94, u95, u96, u97, u98, u99, u100], []⟩ w := by
  have HQ := Lib.hid hQ; clear hQ
  conv => arg 2; whnf
  obtain ⟨c0, c1', c2'⟩ := h.box.three
  obtain ⟨q0, hq, hqr⟩ := h.rx.q
  have K := Lib.hid h
  have C := Lib.hid (And.intro hs (And.intro hl (And.intro hT (And.intro hq hqr)))); clear h hs hl hT hq hqr
  refine wp_region_noPanic ?_
  go_region_held3 (fun X => X.cell? ⟨gi, 0, none⟩ = some (.bool mk) ∧ X.cell? ⟨gi, 1, none⟩ = some (.int .i64 t) ∧ X.cell? ⟨gi, 2, none⟩ = some (.slice A n c)) (exact (KP.box (by first | exact K.out | exact K.out.drw)).three) (first
      | (go_at_call 15; ((refine (Put_any _ B d s mk t _ l _ (KP.rx (by first | exact K.out | exact K.out.drw)) (KP.at_ (by first | exact K.out | exact K.out.drw)) C.out.1 (Nat.lt_of_lt_of_le C.out.2.2.1 (by decide))).mono ?_); rintro e w7 ⟨c1, s', ⟨rfl, hR, hX⟩, hC, hK⟩; (try (replace M := Lib.hid (Own.frr (by first | exact M.out | exact M.out.later (below_drew (Below.refl _ _))) hC.frm (by decide) (by decide)))); replace K := Lib.hid (KP.put (by first | exact K.out | exact K.out.drw) hX hC hK); have R1 := Lib.hid hR; clear hR hX hC hK))
      | (go_at_call 33; ((refine (refItem_any _ _ _ l _ (at_vals (KP.at_ (by first | exact K.out | exact K.out.drw))) C.out.2.1).mono ?_); rintro e w7 ⟨v9, ⟨rfl, hO⟩, hb⟩; have M := Lib.hid (hO.lift (KP.low (by first | exact K.out | exact K.out.drw))); replace K := Lib.hid (KP.later (by first | exact K.out | exact K.out.drw) hb); clear hb hO))
      | (go_at_call 32; ((refine (mPut_ms (KP.ms (by first | exact K.out | exact K.out.drw)) mk t (by first | exact M.out | exact M.out.later (below_drew (Below.refl _ _))) C.out.1 C.out.2.2.1 C.out.2.2.2.1 C.out.2.2.2.2).mono ?_); rintro e w7 ⟨c2, s'', ⟨rfl, hR, hM⟩, hC⟩; replace K := Lib.hid (KP.mput (by first | exact K.out | exact K.out.drw) hM hC); have R2 := Lib.hid hR; clear hR hM hC)))
  all_goals
    obtain ⟨e1, e2⟩ := R1.out.same R2.out
    subst e1
    subst e2
    refine NoPanic.normal ?_
    simp only [beq_self_eq_true, decide_true]
    exact HQ.out _ _ _ _ _ _ _ _ _ _ ⟨K.out, _, R1.out⟩
end Go.Proofs.Ytbbjlefldpgckaa
namespace Go.Proofs.Ytbbjlefldpgckaa
open Go.ChangeShapes Go.WideShapes Go.ChangeAt Go.RowKit Go.Maps
open Ev (V3 rightV OkV)
set_option linter.unusedVariables false
set_option linter.unusedSimpArgs false
set_option maxRecDepth 20000

set_option maxRecDepth 20000 in
set_option maxHeartbeats 4000000 in
theorem do16 (u0 u1 u2 u3 u4 u5 u6 u7 u8 u9 u14 u15 u16 u17 u18 u19 u20 u21 u22 u23 u24 u25 u26 u27 u28 u29 u30 u31 u32 u33 u34 u35 u36 u37 u38 u39 u40 u41 u42 u43 u44 u45 u46 u47 u48 u49 u50 u51 u52 u53 u54 u55 u56 u57 u58 u59 u60 u61 u62 u63 u64 u65 u66 u67 u68 u69 u70 u71 u72 u73 u74 u75 u76 u77 u78 u79 u80 u81 u82 u83 u84 u85 u86 u87 u88 u89 u90 u91 u92 u93 u94 u95 u96 u97 u98 u99 u100 : Value) {w : World} {gi gm n1 c1 n2 c2 : Nat} {A1 A2 : Option Addr} {bb m : Bool} {t : Int} {l : List V3} (hp : Blk w gi 37 #[.bool m, .int .i64 t, .slice A1 n1 c1]) (hp' : Blk w gm 73 #[.bool m, .int .i64 t, .slice A2 n2 c2]) (hv : ValsAt w (.slice A1 n1 c1) l) (hv' : ValsAt w (.slice A2 n2 c2) l) (hl : l.length * 32 ≤ 140737488355328) {Q : Exit → Act → World → Prop}
    (hQ : ∀ (x92 x93 x94 x95 x96 x97 x98 x99 x100 : Value)  (wx : World), Below w.heap.size w wx → Q .normal ⟨#[u0, u1, u2, u3, u4, u5, .bool true, u7, u8, u9, .pointer (some ⟨gi, 0, none⟩), .bool bb, .pointer (some ⟨gm, 0, none⟩), .bool bb, u14, u15, u16, u17, u18, u19, u20, u21, u22, u23, u24, u25, u26, u27, u28, u29, u30, u31, u32, u33, u34, u35, u36, u37, u38, u39, u40, u41, u42, u43, u44, u45, u46, u47, u48, u49, u50, u51, u52, u53, u54, u55, u56, u57, u58, u59, u60, u61, u62, u63, u64, u65, u66, u67, u68, u69, u70, u71, u72, u73, u74, u75, u76, u77, u78, u79, u80, u81, u82, u83, u84, u85, u86, u87, u88, u89, u90, u91, x92, x93, x94, x95, x96, x97, x98, x99, x100], []⟩ wx) :
    Code.wp Try.prog ((Try.f12.body.bind (regionN 16)).getD .skip) Q ⟨#[u0, u1, u2, u3, u4, u5, u6, u7, u8, u9, .pointer (some ⟨gi, 0, none⟩), .bool bb, .pointer (some ⟨gm, 0, none⟩), .bool bb, u14, u15, u16, u17, u18, u19, u20, u21, u22, u23, u24, u25, u26, u27, u28, u29, u30, u31, u32, u33, u34, u35, u36, u37, u38, u39, u40, u41, u42, u43, u44, u45, u46, u47, u48, u49, u50, u51, u52, u53, u54, u55, u56, u57, u58, u59, u60, u61, u62, u63, u64, u65, u66, u67, u68, u69, u70, u71, u72, u73, u74, u75, u76, u77, u78, u79, u80, u81, u82, u83, u84, u85, u86, u87, u88, u89, u90, u91, u92, u93, u94, u95, u96, u97, u98, u99, u100], []⟩ w := by
  have HQ := Lib.hid hQ; clear hQ
  conv => arg 2; whnf
  obtain ⟨c0, c1', c2'⟩ := hp.three
  obtain ⟨d0, d1', d2'⟩ := hp'.three
  have K := Lib.hid (Below.refl w.heap.size w)
  have C := Lib.hid (And.intro hp (And.intro hp' (And.intro hv (And.intro hv' hl)))); clear hp hp' hv hv' hl
  refine wp_region_noPanic ?_
  go_region_held3 (fun X => (X.cell? ⟨gi, 0, none⟩ = some (.bool m) ∧ X.cell? ⟨gi, 1, none⟩ = some (.int .i64 t) ∧ X.cell? ⟨gi, 2, none⟩ = some (.slice A1 n1 c1)) ∧ X.cell? ⟨gm, 0, none⟩ = some (.bool m) ∧ X.cell? ⟨gm, 1, none⟩ = some (.int .i64 t) ∧ X.cell? ⟨gm, 2, none⟩ = some (.slice A2 n2 c2)) (exact ⟨(C.out.1.later (by first | exact K.out | exact below_drew K.out)).three, (C.out.2.1.later (by first | exact K.out | exact below_drew K.out)).three⟩) (first
      | (go_at_call 33; ((refine (refItem_any _ _ _ l _ (C.out.2.2.1.later (by first | exact K.out | exact below_drew K.out)) C.out.2.2.2.2).mono ?_); rintro e w1 ⟨v9, ⟨rfl, hO⟩, hb⟩; (first | replace K := Lib.hid (K.out.trans (hb.mono K.out.size)) | replace K := Lib.hid ((below_drew K.out).trans (hb.mono K.out.size))); have M := Lib.hid (own_vals hO); clear hb hO))
      | (go_at_call 37; ((refine (rsame_true _ _ l _ _ _ M.out (C.out.2.2.2.1.later (by first | exact K.out | exact below_drew K.out))).mono ?_); rintro e w1 ⟨rfl, hb⟩; (first | replace K := Lib.hid (K.out.trans (hb.mono K.out.size)) | replace K := Lib.hid ((below_drew K.out).trans (hb.mono K.out.size))); clear hb)))
  all_goals exact NoPanic.normal (HQ.out _ _ _ _ _ _ _ _ _ _ K.out)
end Go.Proofs.Ytbbjlefldpgckaa
