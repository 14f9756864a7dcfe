/- Texts of the proof of RingTells, part 29. -/
import Derived.Test.YtbbjlefldpgckaaPRingTells28
import Derived.Test.YtbbjlefldpgckaaPRingTells25
import Derived.Test.YtbbjlefldpgckaaPRingTells22
import Derived.Deep.RegionHeld3
namespace Go.Proofs.Ytbbjlefldpgckaa
open Go.ChangeShapes Go.WideShapes Go.ChangeAt Go.RowKit Go.Maps
open Ev (V3 rightV OkV)
set_option linter.unusedVariables false
set_option linter.unusedSimpArgs false
set_option maxRecDepth 20000

theorem ActOk.later {W W' : World} {x : ActD} (h : ActOk W x) (hb : Below W.heap.size W W') : ActOk W' x := ⟨h.k, h.n, h.t, h.tm, h.vs.later hb, h.sz⟩
theorem act_cells {W : World} {a : Addr} {n c : Nat} {L : List ActD} (h : At W 6 rowAct (.slice (some a) n c) L) (i : Nat) (hi : i < L.length) :
    W.cell? (a.add (i * 6)) = some (.int .u8 (L[i]'hi).k) ∧ W.cell? ⟨(a.add (i * 6)).block, (a.add (i * 6)).off + 1, none⟩ = some (.int .u8 (L[i]'hi).n) ∧ W.cell? ⟨(a.add (i * 6)).block, (a.add (i * 6)).off + 2, none⟩ = some (.int .u8 (L[i]'hi).t) ∧ W.cell? ⟨(a.add (i * 6)).block, (a.add (i * 6)).off + 3, none⟩ = some (.bool (L[i]'hi).ma) ∧ W.cell? ⟨(a.add (i * 6)).block, (a.add (i * 6)).off + 4, none⟩ = some (.int .i64 (L[i]'hi).tm) ∧ W.cell? ⟨(a.add (i * 6)).block, (a.add (i * 6)).off + 5, none⟩ = some (.slice (L[i]'hi).sv.1 (L[i]'hi).sv.2.1 (L[i]'hi).sv.2.2) := by
  obtain ⟨A, c', hv, h1, h2, h3, h4⟩ := h
  simp only [Value.slice.injEq] at hv
  obtain ⟨rfl, rfl, rfl⟩ := hv
  have hc := fun j u hu => h4 a rfl i hi j u hu
  refine ⟨hc 0 _ rfl, ?_, ?_, ?_, ?_, ?_⟩
  · rw [addr_in _ _ 1 (by decide)]; exact hc 1 _ rfl
  · rw [addr_in _ _ 2 (by decide)]; exact hc 2 _ rfl
  · rw [addr_in _ _ 3 (by decide)]; exact hc 3 _ rfl
  · rw [addr_in _ _ 4 (by decide)]; exact hc 4 _ rfl
  · rw [addr_in _ _ 5 (by decide)]; exact hc 5 _ rfl
/-- What region 15 leaves: a box of the item. -/
def Box15 (w : World) (x : ActD) (edge : Int) (wx : World) (g : Nat) (v : Value) : Prop :=
  w.heap.size ≤ g ∧ Blk wx g 37 #[.bool (itA x edge).1, .int .i64 (itA x edge).2.1, v] ∧ At wx 3 row3 v (itA x edge).2.2 ∧ Below w.heap.size w wx
def Vx (w W : World) (v : Value) (l : List V3) : Prop := At w 3 row3 v l ∨ NewAt 0 W v l
theorem vshape {x : ActD} {b : Nat} {W : World} {v : Value} {l : List V3} (hv : (v = sl x.sv ∧ l = x.vs) ∨ NewAt b W v l) : ∃ A n c, v = .slice A n c := by
  rcases hv with ⟨hv, _⟩ | hv
  · exact ⟨_, _, _, hv⟩
  · obtain ⟨A, c, hv⟩ := hv.shape
    exact ⟨_, _, _, hv⟩
theorem vx_of {x : ActD} {b : Nat} {w W : World} {v : Value} {l : List V3} (hv : (v = sl x.sv ∧ l = x.vs) ∨ NewAt b W v l) (hx : At w 3 row3 (sl x.sv) x.vs) : Vx w W v l := by
  rcases hv with ⟨rfl, rfl⟩ | hv
  · exact Or.inl hx
  · exact Or.inr (hv.weak (Nat.zero_le _))
theorem Vx.at_ {w W : World} {v : Value} {l : List V3} (h : Vx w W v l) (hb : Below w.heap.size w W) : At W 3 row3 v l := by
  rcases h with h | h
  · exact h.later hb
  · exact new_at h
theorem fin1 {w W : World} {N : Nat} {P : World → Prop} {x : ActD} {edge : Int} {v : Value} (K : Keep w W N [] P) (hv : Vx w W v (itA x edge).2.2) :
    Box15 w x edge (W.alloc (.cells #[.bool (itA x edge).1, .int .i64 (itA x edge).2.1, v] 37)) W.heap.size v :=
  ⟨K.bel.size, Blk.new W _ _, (hv.at_ K.bel).later (ba W _), bt K.bel (ba W _)⟩
theorem fin2 {w W : World} {N g : Nat} {P : World → Prop} {x : ActD} {edge : Int} {a b c : Value} {v : Value} (K : Keep w W N [(g, 37, #[a, b, c])] P) (hv : Vx w W v (itA x edge).2.2) :
    Box15 w x edge (((W.setCell ⟨g, 0, none⟩ (.bool (itA x edge).1)).setCell ⟨g, 1, none⟩ (.int .i64 (itA x edge).2.1)).setCell ⟨g, 2, none⟩ v) g v := by
  have hr := K.rows _ (List.mem_cons_self ..)
  have K3 := K.put3 (.bool (itA x edge).1) (.int .i64 (itA x edge).2.1) v
  refine ⟨Nat.le_trans K.low hr.2, K3.blk (List.mem_cons_self ..), ?_, K3.bel⟩
  rcases hv with h | h
  · exact h.later K3.bel
  · exact new_at (h.frr (chg_put3 (Nat.le_trans K.low hr.2) rfl hr.1 _ _ _).frm)
set_option maxRecDepth 20000 in
set_option maxHeartbeats 4000000 in
theorem rises15 (u1 u2 u3 u5 u6 u7 u8 u9 u11 u12 u13 u14 u15 u16 u17 u18 u19 u20 u21 u22 u23 u24 u25 u26 u27 u28 u29 u30 u31 u32 u33 u34 u35 u36 u37 u38 u39 u40 u41 u42 u43 u44 u45 u46 u47 u48 u49 u50 u51 u52 u53 u54 u55 u56 u57 u58 u59 u60 u61 u62 u63 u64 u65 u66 u67 u68 u69 u70 u71 u72 u73 u74 u75 u76 u77 u78 u79 u80 u81 u82 u83 u84 u85 u86 u87 u88 u89 u90 u91 u92 u93 u94 u95 u96 u97 u98 u99 u100 u101 u102 u103 u104 u105 u106 u107 u108 u109 u110 u111 u112 u113 u114 u115 u116 u117 u118 u119 u120 u121 u122 u123 u124 u125 u126 u127 u128 u129 u130 u131 u132 u133 u134 u135 u136 u137 u138 u139 u140 u141 u142 u143 u144 u145 : Value) {w : World} {B d ql n0 i : Nat} {aa : Addr} {s : Rg} {L : List ActD} {x : ActD} (h : RS w B d s) (hA : At w 6 rowAct (.slice (some aa) ql n0) L) (hok : ActOk w x) (hi : i < L.length) (hql : ql = L.length) (hqm : ql ≤ maxLen) (hxe : L[i]'hi = x) {Q : Exit → Act → World → Prop}
    (hQ : ∀ (x43 x44 x45 x46 x47 x48 x49 : Value) (g : Nat) (v : Value) (wx : World), Box15 w x s.edge wx g v → Q .normal ⟨#[.slice (some aa) ql n0, u1, u2, u3, .pointer (some ⟨d, 0, none⟩), u5, u6, u7, u8, u9, .int .i64 (i : Int), .pointer (some ⟨g, 0, none⟩), u12, u13, u14, u15, u16, u17, u18, u19, u20, u21, u22, u23, u24, u25, u26, u27, u28, u29, u30, u31, u32, u33, u34, u35, u36, u37, u38, u39, u40, u41, u42, x43, x44, x45, x46, x47, x48, x49, u50, u51, u52, u53, u54, u55, u56, u57, u58, u59, u60, u61, u62, u63, u64, u65, u66, u67, u68, u69, u70, u71, u72, u73, u74, u75, u76, u77, u78, u79, u80, u81, u82, u83, u84, u85, u86, u87, u88, u89, u90, u91, u92, u93, u94, u95, u96, u97, u98, u99, u100, u101, u102, u103, u104, u105, u106, u107, u108, u109, u110, u111, u112, u113, u114, u115, u116, u117, u118, u119, u120, u121, u122, u123, u124, u125, u126, u127, u128, u129, u130, u131, u132, u133, u134, u135, u136, u137, u138, u139, u140, u141, u142, u143, u144, u145], []⟩ wx) :
    Code.wp Try.prog ((Try.f6.body.bind (regionN 15)).getD .skip) Q ⟨#[.slice (some aa) ql n0, u1, u2, u3, .pointer (some ⟨d, 0, none⟩), u5, u6, u7, u8, u9, .int .i64 (i : Int), u11, u12, u13, u14, u15, u16, u17, u18, u19, u20, u21, u22, u23, u24, u25, u26, u27, u28, u29, u30, u31, u32, u33, u34, u35, u36, u37, u38, u39, u40, u41, u42, u43, u44, u45, u46, u47, u48, u49, u50, u51, u52, u53, u54, u55, u56, u57, u58, u59, u60, u61, u62, u63, u64, u65, u66, u67, u68, u69, u70, u71, u72, u73, u74, u75, u76, u77, u78, u79, u80, u81, u82, u83, u84, u85, u86, u87, u88, u89, u90, u91, u92, u93, u94, u95, u96, u97, u98, u99, u100, u101, u102, u103, u104, u105, u106, u107, u108, u109, u110, u111, u112, u113, u114, u115, u116, u117, u118, u119, u120, u121, u122, u123, u124, u125, u126, u127, u128, u129, u130, u131, u132, u133, u134, u135, u136, u137, u138, u139, u140, u141, u142, u143, u144, u145], []⟩ w := by
  have HQ := Lib.hid hQ; clear hQ
  conv => arg 2; whnf
  have hedge : 0 ≤ s.edge ∧ s.edge ≤ 2305843009213693953 := by
    obtain ⟨_, _, _, h'⟩ := h
    exact h'.pre.ok.edge
  have K := Lib.hid (Keep.start w (fun X => RS X B d s ∧ At X 6 rowAct (.slice (some aa) ql n0) L ∧ ActOk X x) ⟨h, hA, hok⟩ (fun A B hb hp => ⟨hp.1.later hb, hp.2.1.later hb, hp.2.2.later hb⟩)); clear h hA
  have C := Lib.hid (And.intro (fun (X : World) (h : At X 6 rowAct (.slice (some aa) ql n0) L) => (by have := act_cells h i hi; rw [hxe] at this; exact this : (fun w' => w'.cell? (aa.add (i * 6)) = some (.int .u8 x.k) ∧ w'.cell? ⟨(aa.add (i * 6)).block, (aa.add (i * 6)).off + 1, none⟩ = some (.int .u8 x.n) ∧ w'.cell? ⟨(aa.add (i * 6)).block, (aa.add (i * 6)).off + 2, none⟩ = some (.int .u8 x.t) ∧ w'.cell? ⟨(aa.add (i * 6)).block, (aa.add (i * 6)).off + 3, none⟩ = some (.bool x.ma) ∧ w'.cell? ⟨(aa.add (i * 6)).block, (aa.add (i * 6)).off + 4, none⟩ = some (.int .i64 x.tm) ∧ w'.cell? ⟨(aa.add (i * 6)).block, (aa.add (i * 6)).off + 5, none⟩ = some (.slice x.sv.1 x.sv.2.1 x.sv.2.2)) X)) (And.intro hok.vs hedge))
  have hiI : (i : Int) < (ql : Int) := by omega
  have hiN : ¬ (ql : Int) ≤ (i : Int) := by omega
  obtain ⟨p0, p1, p2, p3, p4, p5⟩ := C.out.1 w K.out.p.2.1
  clear hok hedge hxe hql
  refine wp_region_noPanic ?_
  go_region_held3 (fun w' => w'.cell? (aa.add (i * 6)) = some (.int .u8 x.k) ∧ w'.cell? ⟨(aa.add (i * 6)).block, (aa.add (i * 6)).off + 1, none⟩ = some (.int .u8 x.n) ∧ w'.cell? ⟨(aa.add (i * 6)).block, (aa.add (i * 6)).off + 2, none⟩ = some (.int .u8 x.t) ∧ w'.cell? ⟨(aa.add (i * 6)).block, (aa.add (i * 6)).off + 3, none⟩ = some (.bool x.ma) ∧ w'.cell? ⟨(aa.add (i * 6)).block, (aa.add (i * 6)).off + 4, none⟩ = some (.int .i64 x.tm) ∧ w'.cell? ⟨(aa.add (i * 6)).block, (aa.add (i * 6)).off + 5, none⟩ = some (.slice x.sv.1 x.sv.2.1 x.sv.2.2)) (exact C.out.1 _ (by first | exact (K.out.put3 _ _ _).p.2.1 | exact K.out.p.2.1 | exact K.out.drw.p.2.1 | exact (K.out.more _ _).p.2.1 | exact (K.out.dmore _ _).p.2.1)) (first
    | (go_at_call 20; ((refine (Edge_any B d s _ (by first | exact K.out.p.1 | exact K.out.drw.p.1 | exact (K.out.more _ _).p.1 | exact (K.out.dmore _ _).p.1)).mono ?_); rintro e w1 ⟨rfl, hb⟩; (first | replace K := Lib.hid (K.out.go hb) | replace K := Lib.hid (K.out.drw.go hb) | replace K := Lib.hid ((K.out.more _ _).go hb) | replace K := Lib.hid ((K.out.dmore _ _).go hb)); clear hb))
    | (go_at_call 24; ((refine (Item_any x s.edge _ (by first | exact K.out.p.2.2 | exact K.out.drw.p.2.2 | exact (K.out.more _ _).p.2.2 | exact (K.out.dmore _ _).p.2.2) C.out.2.2).mono ?_); rintro e w1 ⟨v5, ⟨rfl, hv⟩, hb⟩; obtain ⟨A5, n5, c5, hv5⟩ := vshape hv; subst hv5; have M := Lib.hid (vx_of hv C.out.2.1); (first | replace K := Lib.hid (K.out.go hb) | replace K := Lib.hid (K.out.drw.go hb) | replace K := Lib.hid ((K.out.more _ _).go hb) | replace K := Lib.hid ((K.out.dmore _ _).go hb)); (try clear q0 q1 q2); (try obtain ⟨q0, q1, q2⟩ := K.out.head); clear hb hv)))
  all_goals
    first
    | exact NoPanic.normal (HQ.out _ _ _ _ _ _ _ _ _ _ (fin1 K.out M.out))
    | exact NoPanic.normal (HQ.out _ _ _ _ _ _ _ _ _ _ (fin2 K.out M.out))
  
end Go.Proofs.Ytbbjlefldpgckaa
