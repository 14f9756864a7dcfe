/- Texts of the proof of RingTells, part 30. -/
import Derived.Test.YtbbjlefldpgckaaPRingTells24
import Derived.Test.YtbbjlefldpgckaaPRingTells29
import Derived.Test.YtbbjlefldpgckaaPRingTells18
namespace Go.Proofs.Ytbbjlefldpgckaa
open Go.ChangeShapes Go.WideShapes Go.ChangeAt Go.RowKit Go.Maps
open Ev (V3 rightV OkV)
set_option linter.unusedVariables false
set_option linter.unusedSimpArgs false
set_option maxRecDepth 20000

theorem vx1 {w W : World} {v : Value} {l : List V3} {o : Obj} (hv : Vx w W v l) : Vx w (W.alloc o) v l := by
  rcases hv with h | h
  · exact Or.inl h
  · exact Or.inr (h.later (ba W _))
theorem vx2 {w W : World} {N g : Nat} {P : World → Prop} {a b c : Value} {v v' : Value} {m : Bool} {t : Int} {l : List V3} (K : Keep w W N [(g, 37, #[a, b, c])] P) (hv : Vx w W v l) :
    Vx w (((W.setCell ⟨g, 0, none⟩ (.bool m)).setCell ⟨g, 1, none⟩ (.int .i64 t)).setCell ⟨g, 2, none⟩ v') v l := by
  have hr := K.rows _ (List.mem_cons_self ..)
  rcases hv with h | h
  · exact Or.inl h
  · exact Or.inr (h.frr (chg_put3 (Nat.le_trans K.low hr.2) rfl hr.1 _ _ _).frm)
set_option maxRecDepth 20000 in
set_option maxHeartbeats 4000000 in
theorem do4 (u0 u2 u3 u4 u6 u7 u8 u9 u10 u11 u12 u13 u14 u15 u16 u17 u18 u19 u20 u21 u22 u23 u24 u25 u26 u27 u28 u29 u30 u31 u32 u33 u34 u35 u36 u37 u38 u39 u40 u41 u42 u43 u44 u45 u46 u47 u48 u49 u50 u51 u52 u53 u54 u55 u56 u57 u58 u59 u60 u61 u62 u63 u64 u65 u66 u67 u68 u69 u70 u71 u72 u73 u74 u75 u76 u77 u78 u79 u80 u81 u82 u83 u84 u85 u86 u87 u88 u89 u90 u91 u92 u93 u94 u95 u96 u97 u98 u99 u100 : Value) {w : World} {p ga : Nat} {x : ActD} {edge : Int} (h5 : w.cell? ⟨p, 5, none⟩ = some (.int .i64 edge)) (hA : Blk w ga 39 #[.int .u8 x.k, .int .u8 x.n, .int .u8 x.t, .bool x.ma, .int .i64 x.tm, .slice x.sv.1 x.sv.2.1 x.sv.2.2]) (hok : ActOk w x) (hedge : 0 ≤ edge ∧ edge ≤ 2305843009213693953) {Q : Exit → Act → World → Prop}
    (hQ : ∀ (x35 x36 x37 x38 x39 x40 : Value) (g : Nat) (v : Value) (wx : World), (Box15 w x edge wx g v ∧ Vx w wx v (itA x edge).2.2) → Q .normal ⟨#[u0, .pointer (some ⟨p, 0, none⟩), u2, u3, u4, .pointer (some ⟨ga, 0, none⟩), u6, u7, u8, .pointer (some ⟨g, 0, none⟩), u10, u11, u12, u13, u14, u15, u16, u17, u18, u19, u20, u21, u22, u23, u24, u25, u26, u27, u28, u29, u30, u31, u32, u33, u34, x35, x36, x37, x38, x39, x40, u41, u42, u43, u44, u45, u46, u47, u48, u49, u50, u51, u52, u53, u54, u55, u56, u57, u58, u59, u60, u61, u62, u63, u64, u65, u66, u67, u68, u69, u70, u71, u72, u73, u74, u75, u76, u77, u78, u79, u80, u81, u82, u83, u84, u85, u86, u87, u88, u89, u90, u91, u92, u93, u94, u95, u96, u97, u98, u99, u100], []⟩ wx) :
    Code.wp Try.prog ((Try.f12.body.bind (regionN 4)).getD .skip) Q ⟨#[u0, .pointer (some ⟨p, 0, none⟩), u2, u3, u4, .pointer (some ⟨ga, 0, none⟩), u6, u7, u8, u9, u10, u11, u12, u13, u14, u15, u16, u17, u18, u19, u20, u21, u22, u23, u24, u25, u26, u27, u28, u29, u30, u31, u32, u33, u34, u35, u36, u37, u38, u39, u40, u41, u42, u43, u44, u45, u46, u47, u48, u49, u50, u51, u52, u53, u54, u55, u56, u57, u58, u59, u60, u61, u62, u63, u64, u65, u66, u67, u68, u69, u70, u71, u72, u73, u74, u75, u76, u77, u78, u79, u80, u81, u82, u83, u84, u85, u86, u87, u88, u89, u90, u91, u92, u93, u94, u95, u96, u97, u98, u99, u100], []⟩ w := by
  have HQ := Lib.hid hQ; clear hQ
  conv => arg 2; whnf
  have K := Lib.hid (Keep.start w (fun X => X.cell? ⟨p, 5, none⟩ = some (.int .i64 edge) ∧ Blk X ga 39 #[.int .u8 x.k, .int .u8 x.n, .int .u8 x.t, .bool x.ma, .int .i64 x.tm, .slice x.sv.1 x.sv.2.1 x.sv.2.2] ∧ ActOk X x) ⟨h5, hA, hok⟩ (fun A B hb hp => ⟨by rw [hb.cell (World.block_lt_of_cell? A _ hp.1)]; exact hp.1, hp.2.1.later hb, hp.2.2.later hb⟩)); clear h5 hA
  have C := Lib.hid (And.intro (fun (X : World) (h : X.cell? ⟨p, 5, none⟩ = some (.int .i64 edge) ∧ Blk X ga 39 #[.int .u8 x.k, .int .u8 x.n, .int .u8 x.t, .bool x.ma, .int .i64 x.tm, .slice x.sv.1 x.sv.2.1 x.sv.2.2] ∧ ActOk X x) => (show X.cell? ⟨ga, 0, none⟩ = some (.int .u8 x.k) ∧ X.cell? ⟨ga, 1, none⟩ = some (.int .u8 x.n) ∧ X.cell? ⟨ga, 2, none⟩ = some (.int .u8 x.t) ∧ X.cell? ⟨ga, 3, none⟩ = some (.bool x.ma) ∧ X.cell? ⟨ga, 4, none⟩ = some (.int .i64 x.tm) ∧ X.cell? ⟨ga, 5, none⟩ = some (.slice x.sv.1 x.sv.2.1 x.sv.2.2) ∧ X.cell? ⟨p, 5, none⟩ = some (.int .i64 edge) from ⟨h.2.1.cell 0, h.2.1.cell 1, h.2.1.cell 2, h.2.1.cell 3, h.2.1.cell 4, h.2.1.cell 5, h.1⟩)) (And.intro hok.vs hedge))
  obtain ⟨p0, p1, p2, p3, p4, p5, p6⟩ := C.out.1 w K.out.p
  clear hok hedge
  refine wp_region_noPanic ?_
  go_region_held3 (fun X => X.cell? ⟨ga, 0, none⟩ = some (.int .u8 x.k) ∧ X.cell? ⟨ga, 1, none⟩ = some (.int .u8 x.n) ∧ X.cell? ⟨ga, 2, none⟩ = some (.int .u8 x.t) ∧ X.cell? ⟨ga, 3, none⟩ = some (.bool x.ma) ∧ X.cell? ⟨ga, 4, none⟩ = some (.int .i64 x.tm) ∧ X.cell? ⟨ga, 5, none⟩ = some (.slice x.sv.1 x.sv.2.1 x.sv.2.2) ∧ X.cell? ⟨p, 5, none⟩ = some (.int .i64 edge)) (exact C.out.1 _ (by first | exact (K.out.put3 _ _ _).p | exact K.out.p | exact K.out.drw.p | exact (K.out.more _ _).p | exact (K.out.dmore _ _).p)) (first
      | (go_at_call 24; ((refine (Item_any x edge _ (by first | exact K.out.p.2.2 | exact K.out.drw.p.2.2 | exact (K.out.more _ _).p.2.2 | exact (K.out.dmore _ _).p.2.2) C.out.2.2).mono ?_); rintro e w1 ⟨v5, ⟨rfl, hv⟩, hb⟩; obtain ⟨A5, n5, c5, hv5⟩ := vshape hv; subst hv5; have M := Lib.hid (vx_of hv C.out.2.1); (first | replace K := Lib.hid (K.out.go hb) | replace K := Lib.hid (K.out.drw.go hb) | replace K := Lib.hid ((K.out.more _ _).go hb) | replace K := Lib.hid ((K.out.dmore _ _).go hb)); (try clear q0 q1 q2); (try obtain ⟨q0, q1, q2⟩ := K.out.head); clear hb hv)))
  all_goals
    first
      | exact NoPanic.normal (HQ.out _ _ _ _ _ _ _ _ _ ⟨fin1 K.out M.out, vx1 M.out⟩)
      | exact NoPanic.normal (HQ.out _ _ _ _ _ _ _ _ _ ⟨fin2 K.out M.out, vx2 K.out M.out⟩)
end Go.Proofs.Ytbbjlefldpgckaa
namespace Go.Proofs.Ytbbjlefldpgckaa
open Go.ChangeShapes Go.WideShapes Go.ChangeAt Go.RowKit Go.Maps
open Ev (V3 rightV OkV)
set_option linter.unusedVariables false
set_option linter.unusedSimpArgs false
set_option maxRecDepth 20000

/-- The values are the act's own, or new. -/
def Vy (x : ActD) (W : World) (v : Value) (l : List V3) : Prop := (v = sl x.sv ∧ l = x.vs) ∨ NewAt 0 W v l
theorem vy_of {x : ActD} {b : Nat} {W : World} {v : Value} {l : List V3} (hv : (v = sl x.sv ∧ l = x.vs) ∨ NewAt b W v l) : Vy x W v l := by
  rcases hv with hv | hv
  · exact Or.inl hv
  · exact Or.inr (hv.weak (Nat.zero_le _))
theorem vy1 {x : ActD} {W : World} {v : Value} {l : List V3} {o : Obj} (hv : Vy x W v l) : Vy x (W.alloc o) v l := by
  rcases hv with h | h
  · exact Or.inl h
  · exact Or.inr (h.later (ba W _))
theorem vy2 {x : ActD} {w W : World} {N g : Nat} {P : World → Prop} {a b c : Value} {v v' : Value} {m : Bool} {t : Int} {l : List V3} (K : Keep w W N [(g, 37, #[a, b, c])] P) (hv : Vy x W v l) :
    Vy x (((W.setCell ⟨g, 0, none⟩ (.bool m)).setCell ⟨g, 1, none⟩ (.int .i64 t)).setCell ⟨g, 2, none⟩ v') v l := by
  have hr := K.rows _ (List.mem_cons_self ..)
  rcases hv with h | h
  · exact Or.inl h
  · exact Or.inr (h.frr (chg_put3 (Nat.le_trans K.low hr.2) rfl hr.1 _ _ _).frm)
set_option maxRecDepth 20000 in
set_option maxHeartbeats 4000000 in
theorem do4y (u0 u2 u3 u4 u6 u7 u8 u9 u10 u11 u12 u13 u14 u15 u16 u17 u18 u19 u20 u21 u22 u23 u24 u25 u26 u27 u28 u29 u30 u31 u32 u33 u34 u35 u36 u37 u38 u39 u40 u41 u42 u43 u44 u45 u46 u47 u48 u49 u50 u51 u52 u53 u54 u55 u56 u57 u58 u59 u60 u61 u62 u63 u64 u65 u66 u67 u68 u69 u70 u71 u72 u73 u74 u75 u76 u77 u78 u79 u80 u81 u82 u83 u84 u85 u86 u87 u88 u89 u90 u91 u92 u93 u94 u95 u96 u97 u98 u99 u100 : Value) {w : World} {p ga : Nat} {x : ActD} {edge : Int} (h5 : w.cell? ⟨p, 5, none⟩ = some (.int .i64 edge)) (hA : Blk w ga 39 #[.int .u8 x.k, .int .u8 x.n, .int .u8 x.t, .bool x.ma, .int .i64 x.tm, .slice x.sv.1 x.sv.2.1 x.sv.2.2]) (hok : ActOk w x) (hedge : 0 ≤ edge ∧ edge ≤ 2305843009213693953) {Q : Exit → Act → World → Prop}
    (hQ : ∀ (x35 x36 x37 x38 x39 x40 : Value) (g : Nat) (v : Value) (wx : World), (Box15 w x edge wx g v ∧ Vy x wx v (itA x edge).2.2) → Q .normal ⟨#[u0, .pointer (some ⟨p, 0, none⟩), u2, u3, u4, .pointer (some ⟨ga, 0, none⟩), u6, u7, u8, .pointer (some ⟨g, 0, none⟩), u10, u11, u12, u13, u14, u15, u16, u17, u18, u19, u20, u21, u22, u23, u24, u25, u26, u27, u28, u29, u30, u31, u32, u33, u34, x35, x36, x37, x38, x39, x40, u41, u42, u43, u44, u45, u46, u47, u48, u49, u50, u51, u52, u53, u54, u55, u56, u57, u58, u59, u60, u61, u62, u63, u64, u65, u66, u67, u68, u69, u70, u71, u72, u73, u74, u75, u76, u77, u78, u79, u80, u81, u82, u83, u84, u85, u86, u87, u88, u89, u90, u91, u92, u93, u94, u95, u96, u97, u98, u99, u100], []⟩ wx) :
    Code.wp Try.prog ((Try.f12.body.bind (regionN 4)).getD .skip) Q ⟨#[u0, .pointer (some ⟨p, 0, none⟩), u2, u3, u4, .pointer (some ⟨ga, 0, none⟩), u6, u7, u8, u9, u10, u11, u12, u13, u14, u15, u16, u17, u18, u19, u20, u21, u22, u23, u24, u25, u26, u27, u28, u29, u30, u31, u32, u33, u34, u35, u36, u37, u38, u39, u40, u41, u42, u43, u44, u45, u46, u47, u48, u49, u50, u51, u52, u53, u54, u55, u56, u57, u58, u59, u60, u61, u62, u63, u64, u65, u66, u67, u68, u69, u70, u71, u72, u73, u74, u75, u76, u77, u78, u79, u80, u81, u82, u83, u84, u85, u86, u87, u88, u89, u90, u91, u92, u93, u94, u95, u96, u97, u98, u99, u100], []⟩ w := by
  have HQ := Lib.hid hQ; clear hQ
  conv => arg 2; whnf
  have K := Lib.hid (Keep.start w (fun X => X.cell? ⟨p, 5, none⟩ = some (.int .i64 edge) ∧ Blk X ga 39 #[.int .u8 x.k, .int .u8 x.n, .int .u8 x.t, .bool x.ma, .int .i64 x.tm, .slice x.sv.1 x.sv.2.1 x.sv.2.2] ∧ ActOk X x) ⟨h5, hA, hok⟩ (fun A B hb hp => ⟨by rw [hb.cell (World.block_lt_of_cell? A _ hp.1)]; exact hp.1, hp.2.1.later hb, hp.2.2.later hb⟩)); clear h5 hA
  have C := Lib.hid (And.intro (fun (X : World) (h : X.cell? ⟨p, 5, none⟩ = some (.int .i64 edge) ∧ Blk X ga 39 #[.int .u8 x.k, .int .u8 x.n, .int .u8 x.t, .bool x.ma, .int .i64 x.tm, .slice x.sv.1 x.sv.2.1 x.sv.2.2] ∧ ActOk X x) => (show X.cell? ⟨ga, 0, none⟩ = some (.int .u8 x.k) ∧ X.cell? ⟨ga, 1, none⟩ = some (.int .u8 x.n) ∧ X.cell? ⟨ga, 2, none⟩ = some (.int .u8 x.t) ∧ X.cell? ⟨ga, 3, none⟩ = some (.bool x.ma) ∧ X.cell? ⟨ga, 4, none⟩ = some (.int .i64 x.tm) ∧ X.cell? ⟨ga, 5, none⟩ = some (.slice x.sv.1 x.sv.2.1 x.sv.2.2) ∧ X.cell? ⟨p, 5, none⟩ = some (.int .i64 edge) from ⟨h.2.1.cell 0, h.2.1.cell 1, h.2.1.cell 2, h.2.1.cell 3, h.2.1.cell 4, h.2.1.cell 5, h.1⟩)) (And.intro hok.vs hedge))
  obtain ⟨p0, p1, p2, p3, p4, p5, p6⟩ := C.out.1 w K.out.p
  clear hok hedge
  refine wp_region_noPanic ?_
  go_region_held3 (fun X => X.cell? ⟨ga, 0, none⟩ = some (.int .u8 x.k) ∧ X.cell? ⟨ga, 1, none⟩ = some (.int .u8 x.n) ∧ X.cell? ⟨ga, 2, none⟩ = some (.int .u8 x.t) ∧ X.cell? ⟨ga, 3, none⟩ = some (.bool x.ma) ∧ X.cell? ⟨ga, 4, none⟩ = some (.int .i64 x.tm) ∧ X.cell? ⟨ga, 5, none⟩ = some (.slice x.sv.1 x.sv.2.1 x.sv.2.2) ∧ X.cell? ⟨p, 5, none⟩ = some (.int .i64 edge)) (exact C.out.1 _ (by first | exact (K.out.put3 _ _ _).p | exact K.out.p | exact K.out.drw.p | exact (K.out.more _ _).p | exact (K.out.dmore _ _).p)) (first
      | (go_at_call 24; ((refine (Item_any x edge _ (by first | exact K.out.p.2.2 | exact K.out.drw.p.2.2 | exact (K.out.more _ _).p.2.2 | exact (K.out.dmore _ _).p.2.2) C.out.2.2).mono ?_); rintro e w1 ⟨v5, ⟨rfl, hv⟩, hb⟩; obtain ⟨A5, n5, c5, hv5⟩ := vshape hv; subst hv5; have M := Lib.hid (And.intro (vx_of hv C.out.2.1) (vy_of hv)); (first | replace K := Lib.hid (K.out.go hb) | replace K := Lib.hid (K.out.drw.go hb) | replace K := Lib.hid ((K.out.more _ _).go hb) | replace K := Lib.hid ((K.out.dmore _ _).go hb)); (try clear q0 q1 q2); (try obtain ⟨q0, q1, q2⟩ := K.out.head); clear hb hv)))
  all_goals
    first
      | exact NoPanic.normal (HQ.out _ _ _ _ _ _ _ _ _ ⟨fin1 K.out M.out.1, vy1 M.out.2⟩)
      | exact NoPanic.normal (HQ.out _ _ _ _ _ _ _ _ _ ⟨fin2 K.out M.out.1, vy2 K.out M.out.2⟩)
end Go.Proofs.Ytbbjlefldpgckaa
namespace Go.Proofs.Ytbbjlefldpgckaa
open Go.ChangeShapes Go.WideShapes Go.ChangeAt Go.RowKit Go.Maps
open Ev (V3 rightV OkV)
set_option linter.unusedVariables false
set_option linter.unusedSimpArgs false
set_option maxRecDepth 20000

/-- What a Peek answers: the item m t l, and whether there is one. -/
def PkP (bb m : Bool) (t : Int) (l : List V3) (w : World) (e : Ending) (w' : World) : Prop := ∃ A n c, (e = .returned (.tuple #[item m t (.slice A n c), .bool bb]) ∧ ValsAt w' (.slice A n c) l) ∧ Below w.heap.size w w'
theorem wait_pos {s : Rg} {id : Int} {r : Nat × Int} {x : It} (h : s.rd id = some r) (hx : s.hist[r.1]? = some x) : waitR s id ≠ 0 := by
  have := (List.getElem?_eq_some_iff.1 hx).1
  simp only [waitR, h]
  omega
theorem peeks (s : Rg) (id : Int) (hi : wfI id) : ∃ (bb m : Bool) (t : Int) (l : List V3), (l = [] ∨ ∃ x ∈ s.hist, l = x.2.2) ∧
    (∀ w B d, RS w B d s → Calls Try.prog 27 #[.pointer (some ⟨d, 0, none⟩), .int .i64 id] w (PkP bb m t l w)) ∧
    (∀ w B p vl vq L Q, RM w B p vl vq L Q s → Calls Try.prog 39 #[.pointer (some ⟨p, 0, none⟩), .int .i64 id] w (PkP bb m t l w)) := by
  by_cases h0 : waitR s id = 0
  · refine ⟨false, false, 0, [], Or.inl rfl, fun w B d h => (Peek_any B d s w id hi h).mono ?_, fun w B p vl vq L Q h => (mPeek_any id h).mono ?_⟩
    · rintro e w' ⟨⟨_, rfl⟩ | ⟨r, x, v, ⟨hr, hx⟩, _⟩, hb⟩
      · exact ⟨_, _, _, ⟨rfl, ValsAt.nil _⟩, hb⟩
      · exact absurd h0 (wait_pos hr hx)
    · rintro e w' ⟨⟨_, rfl⟩ | ⟨r, x, v, ⟨hr, hx⟩, _⟩, hb⟩
      · exact ⟨_, _, _, ⟨rfl, ValsAt.nil _⟩, hb⟩
      · exact absurd h0 (wait_pos hr hx)
  · by_cases hE : ∃ r x, s.rd id = some r ∧ s.hist[r.1]? = some x
    · obtain ⟨r, x, hr, hx⟩ := hE
      refine ⟨true, x.1, x.2.1, x.2.2, Or.inr ⟨x, List.mem_of_getElem? hx, rfl⟩, fun w B d h => (Peek_any B d s w id hi h).mono ?_, fun w B p vl vq L Q h => (mPeek_any id h).mono ?_⟩
      · rintro e w' ⟨⟨h1, _⟩ | ⟨r', x', v, ⟨hr', hx'⟩, rfl, hN⟩, hb⟩
        · exact absurd h1 h0
        · obtain rfl : r = r' := by rw [hr] at hr'; exact Option.some.inj hr'
          obtain rfl : x = x' := by rw [hx] at hx'; exact Option.some.inj hx'
          have hV := hN.vals
          obtain ⟨A, c, rfl, _, _, _⟩ := (show ValsAt _ _ _ from hV)
          exact ⟨_, _, _, ⟨rfl, hV⟩, hb⟩
      · rintro e w' ⟨⟨h1, _⟩ | ⟨r', x', v, ⟨hr', hx'⟩, rfl, hN⟩, hb⟩
        · exact absurd h1 h0
        · obtain rfl : r = r' := by rw [hr] at hr'; exact Option.some.inj hr'
          obtain rfl : x = x' := by rw [hx] at hx'; exact Option.some.inj hx'
          have hV := own_vals hN
          obtain ⟨A, c, rfl, _, _, _⟩ := (show ValsAt _ _ _ from hV)
          exact ⟨_, _, _, ⟨rfl, hV⟩, hb⟩
    · refine ⟨false, false, 0, [], Or.inl rfl, fun w B d h => (Peek_any B d s w id hi h).mono ?_, fun w B p vl vq L Q h => (mPeek_any id h).mono ?_⟩
      · rintro e w' ⟨⟨h1, _⟩ | ⟨r', x', v, ⟨hr', hx'⟩, rfl, hN⟩, hb⟩
        · exact absurd h1 h0
        · exact absurd ⟨r', x', hr', hx'⟩ hE
      · rintro e w' ⟨⟨h1, _⟩ | ⟨r', x', v, ⟨hr', hx'⟩, rfl, hN⟩, hb⟩
        · exact absurd h1 h0
        · exact absurd ⟨r', x', hr', hx'⟩ hE
end Go.Proofs.Ytbbjlefldpgckaa
