/- Texts of the proof of RingTells, part 40. -/
import Derived.Test.YtbbjlefldpgckaaPRingTells34
import Derived.Test.YtbbjlefldpgckaaPRingTells35
import Derived.Test.YtbbjlefldpgckaaPRingTells36
import Derived.Test.YtbbjlefldpgckaaPRingTells39
import Derived.Test.YtbbjlefldpgckaaPRingTells22
import Derived.Test.YtbbjlefldpgckaaPRingTells12
import Derived.Deep.RegionHeld3
namespace Go.Proofs.Ytbbjlefldpgckaa
open Go.ChangeShapes Go.WideShapes Go.ChangeAt Go.RowKit Go.Maps
open Ev (V3 rightV OkV)
set_option linter.unusedVariables false
set_option linter.unusedSimpArgs false
set_option maxRecDepth 20000

theorem PutR.grow {s s' : Rg} {mk : Bool} {t : Int} {l : List V3} {c : Int} (h : PutR s mk t l c s') : Grow s s' := by
  rcases h with ⟨_, _, rfl⟩ | ⟨_, _, _, rfl⟩ | ⟨_, _, _, _, rfl⟩ | ⟨_, _, _, _, _, rfl⟩ | ⟨_, _, _, _, _, rfl⟩
  · exact ⟨Nat.le_succ _, Nat.le_succ _, rfl⟩
  · exact ⟨Nat.le_succ _, Nat.le_succ _, rfl⟩
  · exact ⟨Nat.le_succ _, Nat.le_succ _, rfl⟩
  · exact ⟨Nat.le_succ _, Nat.le_succ _, rfl⟩
  · exact ⟨by simp, Nat.le_succ _, rfl⟩
theorem itA_len {x : ActD} (h : x.vs.length * 32 ≤ 140737488355328) (edge : Int) : (itA x edge).2.2.length * 32 ≤ 140737488355328 := by
  unfold itA
  split
  · exact h
  · simp only
    split
    · simp
    · simp
theorem vy_shape {x : ActD} {W : World} {v : Value} {l : List V3} (hv : Vy x W v l) : ∃ A n c, v = .slice A n c := by
  rcases hv with ⟨hv, _⟩ | hv
  · exact ⟨_, _, _, hv⟩
  · obtain ⟨A, c, hv⟩ := hv.shape
    exact ⟨_, _, _, hv⟩
set_option maxHeartbeats 4000000 in
theorem do_put {w0 w : World} {X : Nat → Prop} {B d p : Nat} {s : Rg} {x : ActD} (h : RX X w B d s) (hm : MS w B p s) (hok0 : ActOk w0 x) (hB : w0.heap.size ≤ B) (hbw : Below w0.heap.size w0 w) (hxl : x.vs.length * 32 ≤ 140737488355328) (hk : x.k % 16 < 6) (hG : s.given < 4000000000000000000) (hT : s.hist.length < 1000000) :
    Calls Try.prog 12 #[.pointer (some ⟨d, 0, none⟩), .pointer (some ⟨p, 0, none⟩), actV x] w (DoP X B d p s w) := by
  have hok : ActOk w x := hok0.later hbw
  obtain ⟨vl, vq, L, Q', hm⟩ := hm
  have hx := hok.n
  have ht := hok.t
  have hkk := hok.k
  have e1 : x.k.tmod 16 = x.k % 16 := Int.tmod_eq_emod_of_nonneg (by omega)
  have d1 : decide (x.k % 16 < 6) = true := decide_eq_true hk
  have hA := Blk.new w 39 #[.int .u8 x.k, .int .u8 x.n, .int .u8 x.t, .bool x.ma, .int .i64 x.tm, .slice x.sv.1 x.sv.2.1 x.sv.2.2]
  obtain ⟨W1, hW1⟩ : ∃ W1, W1 = w.alloc (.cells #[.int .u8 x.k, .int .u8 x.n, .int .u8 x.t, .bool x.ma, .int .i64 x.tm, .slice x.sv.1 x.sv.2.1 x.sv.2.2] 39) := ⟨_, rfl⟩
  have b1 : Below w.heap.size w W1 := by rw [hW1]; exact ba _ _
  rw [← hW1] at hA
  have hBw := hm.low'
  have hedge := hm.ok.edge
  have hit := (itA_ok hok s.edge hedge).2
  have hil := itA_len hxl s.edge
  have C := Lib.hid (And.intro h (And.intro hm (And.intro hA (And.intro b1 (And.intro hx (And.intro ht (And.intro hBw hG)))))))
  have C2 := Lib.hid (And.intro hok (And.intro hok0.vs (And.intro hB (And.intro hbw (And.intro hedge (And.intro hit (And.intro hil hT)))))))
  clear h hm hA b1 hx ht hok hok0 hkk hBw hG hB hbw hxl hedge hit hil hT
  go_enter Try.func12, Try.ntmps12
  go_wp2_with fail
  rw [← hW1]
  clear hW1
  refine wp_of_eq (c' := (((Try.f12.body.bind (regionN 1)).getD .skip))) ?_ (by kernel_rfl)
  refine do1 _ _ _ _ _ _ _ _ _ _ _ _ _ _ _ _ _ _ _ _ _ _ _ _ _ _ _ _ _ _ _ _ _ _ _ _ _ _ _ _ _ _ _ _ _ _ _ _ _ _ _ _ _ _ _ _ _ _ _ _ _ _ _ _ _ _ _ _ _ _ _ _ _ _ _ _ _ _ _ _ _ _ _ _ _ _ _ _ _ _ _ _ _ _ _ _ _ _ _ ((C.out.2.1.later C.out.2.2.2.1).cells.2.2.2.1) (C.out.2.2.1.cell 1) (C.out.2.2.1.cell 2) C.out.2.2.2.2.1 C.out.2.2.2.2.2.1 (Nat.le_of_lt C.out.2.2.2.2.2.2.2) (fun _ _ _ _ _ _ _ _ _ _ _ _ _ _ _ wx hx => ?_)
  have hA2 := C.out.2.2.1.later hx
  have f0 := hA2.cell 0
  have K := Lib.hid (And.intro (bt C.out.2.2.2.1 hx) hA2); clear hx hA2
  go_wp2_with fail
  refine wp_of_eq (c' := (((Try.f12.body.bind (regionN 4)).getD .skip))) ?_ (by kernel_rfl)
  refine do4y _ _ _ _ _ _ _ _ _ _ _ _ _ _ _ _ _ _ _ _ _ _ _ _ _ _ _ _ _ _ _ _ _ _ _ _ _ _ _ _ _ _ _ _ _ _ _ _ _ _ _ _ _ _ _ _ _ _ _ _ _ _ _ _ _ _ _ _ _ _ _ _ _ _ _ _ _ _ _ _ _ _ _ _ _ _ _ _ _ _ _ _ _ _ _ _ _ _ _ (edge := s.edge) ((C.out.2.1.later K.out.1).cells.2.2.2.2.2.1) K.out.2 (C2.out.1.later K.out.1) C2.out.2.2.2.2.1 (fun _ _ _ _ _ _ g v w4 hb4 => ?_)
  obtain ⟨⟨g1, g2, g3, g4⟩, g5⟩ := hb4
  obtain ⟨A4, n4, c4, hv4⟩ := vy_shape g5
  subst hv4
  have hR0 := (C.out.1.later K.out.1).1
  have hKP : KP w0 w X B d p g (itA x s.edge).1 (itA x s.edge).2.1 A4 n4 c4 (itA x s.edge).2.2 s s w4 :=
    ⟨hR0.add g4 g1 g2.lt, (MS.later ⟨_, _, _, _, C.out.2.1⟩ K.out.1).later g4, g2, by
      rcases g5 with ⟨e5, e6⟩ | g5
      · rw [e5, e6]; exact Or.inl ⟨C2.out.2.1, C2.out.2.2.1, C2.out.2.2.2.1⟩
      · exact Or.inr g5, (K.out.1.trans (g4.mono K.out.1.size)).mono C.out.2.2.2.2.2.2.1, Nat.le_trans C.out.2.2.2.2.2.2.1 (Nat.le_trans K.out.1.size g4.size)⟩
  clear g1 g2 g3 g4 g5 hR0
  have hKP := Lib.hid hKP
  go_wp2_with fail
  refine wp_of_eq (c' := (((Try.f12.body.bind (regionN 5)).getD .skip))) ?_ (by kernel_rfl)
  refine do5 _ _ _ _ _ _ _ _ _ _ _ _ _ _ _ _ _ _ _ _ _ _ _ _ _ _ _ _ _ _ _ _ _ _ _ _ _ _ _ _ _ _ _ _ _ _ _ _ _ _ _ _ _ _ _ _ _ _ _ _ _ _ _ _ _ _ _ _ _ _ _ _ _ _ _ _ _ _ _ _ _ _ _ _ _ _ _ _ _ _ _ _ _ _ _ _ _ _ hKP.out C2.out.2.2.2.2.2.1 C2.out.2.2.2.2.2.2.1 C2.out.2.2.2.2.2.2.2 (fun _ _ _ _ _ _ _ _ s' w5 hb5 => ?_)
  obtain ⟨hb5, cc, hP⟩ := hb5
  have R := Lib.hid (And.intro (hb5.rx.of (X' := X) (fun k hk => Or.inr hk)) (And.intro hb5.ms (And.intro hP.grow hb5.bel))); clear hb5 hP
  go_wp2
  go_ret
  exact ⟨_, ⟨rfl, R.out.1, R.out.2.1, R.out.2.2.1⟩, R.out.2.2.2⟩
theorem do_any {w0 w : World} {X : Nat → Prop} {B d p : Nat} {s : Rg} {x : ActD} (h : RX X w B d s) (hm : MS w B p s) (hok0 : ActOk w0 x) (hB : w0.heap.size ≤ B) (hbw : Below w0.heap.size w0 w) (hxl : x.vs.length * 32 ≤ 140737488355328) (hG : s.given < 4000000000000000000) (hT : s.hist.length < 1000000) :
    Calls Try.prog 12 #[.pointer (some ⟨d, 0, none⟩), .pointer (some ⟨p, 0, none⟩), actV x] w (DoP X B d p s w) := by
  have hok : ActOk w x := hok0.later hbw
  by_cases h1 : x.k % 16 < 6
  · exact do_put h hm hok0 hB hbw hxl h1 hG hT
  · by_cases h2 : x.k % 16 < 8
    · exact do_add h hm hok (by omega) h2 hG
    · by_cases h3 : x.k % 16 = 8
      · exact do_drop h hm hok h3 hG
      · by_cases h4 : x.k % 16 = 15
        · by_cases h5 : 200 < x.t
          · exact do_close h hm hok h4 h5 hG
          · exact do_next2 h hm hok (by omega) ⟨h4, h5⟩ hG
        · exact do_next1 h hm hok (by omega) h4 hG
theorem MS.weak {w : World} {B B' p : Nat} {s : Rg} (h : MS w B p s) (hB : B' ≤ B) : MS w B' p s := by
  obtain ⟨vl, vq, L, Q, h⟩ := h
  exact ⟨vl, vq, L, Q, ⟨Nat.le_trans hB h.low, h.blk, h.l.lift hB, ⟨h.its.1, fun j h1 h2 => ⟨(h.its.2 j h1 h2).1, (h.its.2 j h1 h2).2.1, (h.its.2 j h1 h2).2.2.lift hB⟩⟩, h.q.lift hB, h.qok, h.ok⟩⟩
end Go.Proofs.Ytbbjlefldpgckaa
namespace Go.Proofs.Ytbbjlefldpgckaa
open Go.ChangeShapes Go.WideShapes Go.ChangeAt Go.RowKit Go.Maps
open Ev (V3 rightV OkV)
set_option linter.unusedVariables false
set_option linter.unusedSimpArgs false
set_option maxRecDepth 20000

/-- Both lengths, by the number. -/
theorem len_q {w : World} {B d q : Nat} {s : Rg} (h : RS w B d s) (hq : IsLen s.hist.length s.rd q) : Calls Try.prog 22 #[.pointer (some ⟨d, 0, none⟩)] w fun e w' => e = .returned (.int .i64 (q : Int)) ∧ Below w.heap.size w w' := by
  obtain ⟨v, m, L, h⟩ := h
  exact (Len_any B d v m L s w h.pre).mono fun e w' ⟨q', ⟨he, h1⟩, b⟩ => ⟨by rw [he, h1.one hq], b⟩
theorem mLen_q {w : World} {B p q : Nat} {vl vq : Value} {L : List Raw} {Q : List Qr} {s : Rg} (h : RM w B p vl vq L Q s) (hq : IsLen s.hist.length s.rd q) : Calls Try.prog 38 #[.pointer (some ⟨p, 0, none⟩)] w fun e w' => e = .returned (.int .i64 (q : Int)) ∧ Below w.heap.size w w' :=
  (mLen_any h).mono fun e w' ⟨q', ⟨he, h1⟩, b⟩ => ⟨by rw [he, h1.one hq], b⟩
theorem free_q {w : World} {B d q : Nat} {s : Rg} (h : RS w B d s) (hq : IsLen s.hist.length s.rd q) : Calls Try.prog 21 #[.pointer (some ⟨d, 0, none⟩)] w fun e w' => e = .returned (.int .i64 ((s.room : Int) - (q : Int))) ∧ Below w.heap.size w w' :=
  (Free_any _ _ _ _ h).mono fun e w' ⟨q', ⟨he, h1, _⟩, b⟩ => ⟨by rw [he, h1.one hq], b⟩
set_option maxRecDepth 20000 in
set_option maxHeartbeats 4000000 in
theorem alike1 (u2 u3 u4 u5 u6 u7 u8 u9 u10 u11 u12 u13 u14 u15 u16 u17 u18 u19 u20 u21 u22 u23 u24 u25 u26 u27 u28 u29 u30 u31 u32 u33 u34 u35 u36 u37 u38 u39 u40 u41 u42 u43 u44 u45 u46 u47 u48 u49 u50 u51 u52 u53 u54 u55 u56 u57 u58 u59 u60 u61 u62 u63 u64 u65 u66 u67 u68 u69 u70 u71 u72 u73 u74 u75 u76 u77 u78 u79 u80 u81 u82 u83 u84 u85 u86 u87 u88 u89 u90 u91 u92 u93 u94 u95 u96 u97 u98 u99 u100 u101 u102 u103 u104 u105 u106 u107 u108 u109 u110 u111 u112 u113 u114 u115 u116 u117 u118 u119 u120 u121 : Value) {w : World} {B B' d p q cL : Nat} {AL : Option Addr} {vq : Value} {L : List Raw} {Q' : List Qr} {s : Rg} (h : RS w B d s) (hm : RM w B' p (.slice AL s.hist.length cL) vq L Q' s) (hq : IsLen s.hist.length s.rd q) (hqr : q ≤ s.room) (hr : s.room ≤ 256) {Q : Exit → Act → World → Prop}
    (hQ : ∀ (x10 x11 x12 x13 x14 x15 x16 x17 x18 x19 x20 x21 x22 x23 x24 x25 x26 x27 x28 x29 x30 x31 x32 x33 x34 x35 x36 x37 x38 x39 x40 x41 x42 x43 x44 x45 x46 x47 x48 x49 x50 x51 x52 x53 x54 x55 x56 x57 x58 x59 x60 x61 x62 : Value)  (wx : World), Below w.heap.size w wx → Q .normal ⟨#[.pointer (some ⟨d, 0, none⟩), .pointer (some ⟨p, 0, none⟩), u2, u3, u4, u5, u6, u7, u8, u9, x10, x11, x12, x13, x14, x15, x16, x17, x18, x19, x20, x21, x22, x23, x24, x25, x26, x27, x28, x29, x30, x31, x32, x33, x34, x35, x36, x37, x38, x39, x40, x41, x42, x43, x44, x45, x46, x47, x48, x49, x50, x51, x52, x53, x54, x55, x56, x57, x58, x59, x60, x61, x62, .bool false, u64, u65, u66, u67, u68, u69, u70, u71, u72, u73, u74, u75, u76, u77, u78, u79, u80, u81, u82, u83, u84, u85, u86, u87, u88, u89, u90, u91, u92, u93, u94, u95, u96, u97, u98, u99, u100, u101, u102, u103, u104, u105, u106, u107, u108, u109, u110, u111, u112, u113, u114, u115, u116, u117, u118, u119, u120, u121], []⟩ wx) :
    Code.wp Try.prog ((Try.f13.body.bind (regionN 1)).getD .skip) Q ⟨#[.pointer (some ⟨d, 0, none⟩), .pointer (some ⟨p, 0, none⟩), u2, u3, u4, u5, u6, u7, u8, u9, u10, u11, u12, u13, u14, u15, u16, u17, u18, u19, u20, u21, u22, u23, u24, u25, u26, u27, u28, u29, u30, u31, u32, u33, u34, u35, u36, u37, u38, u39, u40, u41, u42, u43, u44, u45, u46, u47, u48, u49, u50, u51, u52, u53, u54, u55, u56, u57, u58, u59, u60, u61, u62, u63, u64, u65, u66, u67, u68, u69, u70, u71, u72, u73, u74, u75, u76, u77, u78, u79, u80, u81, u82, u83, u84, u85, u86, u87, u88, u89, u90, u91, u92, u93, u94, u95, u96, u97, u98, u99, u100, u101, u102, u103, u104, u105, u106, u107, u108, u109, u110, u111, u112, u113, u114, u115, u116, u117, u118, u119, u120, u121], []⟩ w := by
  have HQ := Lib.hid hQ; clear hQ
  conv => arg 2; whnf
  obtain ⟨c0, c1, c2, c3, c4, c5, dl, df⟩ := hm.cells
  have hw : IntKind.i64.wrap ((s.room : Int) - (q : Int)) = (s.room : Int) - (q : Int) := IntWalk.i64_in _ (by omega)
  have K := Lib.hid (Below.refl w.heap.size w)
  have C := Lib.hid (And.intro h (And.intro hm (And.intro hq trivial))); clear h hm hq
  refine wp_region_noPanic ?_
  go_region_held3 (fun X => X.cell? ⟨p, 0, none⟩ = some (.int .i64 (s.room : Int)) ∧ X.cell? ⟨p, 1, none⟩ = some (.slice AL s.hist.length cL) ∧ X.cell? ⟨p, 5, none⟩ = some (.int .i64 s.edge) ∧ X.cell? ⟨p, 4, none⟩ = some (.bool s.shut)) (exact (fun h6 => ⟨h6.1, h6.2.1, h6.2.2.2.2.2.1, h6.2.2.2.2.1⟩) (C.out.2.1.later (by first | exact K.out | exact below_drew K.out)).cells) (first
      | (go_at_call 30; ((refine (Cap_any _ _ _ _ (C.out.1.later (by first | exact K.out | exact below_drew K.out))).mono ?_); rintro e w1 ⟨rfl, hb⟩; (first | replace K := Lib.hid (K.out.trans (hb.mono K.out.size)) | replace K := Lib.hid ((below_drew K.out).trans (hb.mono K.out.size))); clear hb))
      | (go_at_call 19; ((refine (Total_any _ _ _ _ (C.out.1.later (by first | exact K.out | exact below_drew K.out))).mono ?_); rintro e w1 ⟨rfl, hb⟩; (first | replace K := Lib.hid (K.out.trans (hb.mono K.out.size)) | replace K := Lib.hid ((below_drew K.out).trans (hb.mono K.out.size))); clear hb))
      | (go_at_call 22; ((refine (len_q (C.out.1.later (by first | exact K.out | exact below_drew K.out)) C.out.2.2.1).mono ?_); rintro e w1 ⟨rfl, hb⟩; (first | replace K := Lib.hid (K.out.trans (hb.mono K.out.size)) | replace K := Lib.hid ((below_drew K.out).trans (hb.mono K.out.size))); clear hb))
      | (go_at_call 38; ((refine (mLen_q (C.out.2.1.later (by first | exact K.out | exact below_drew K.out)) C.out.2.2.1).mono ?_); rintro e w1 ⟨rfl, hb⟩; (first | replace K := Lib.hid (K.out.trans (hb.mono K.out.size)) | replace K := Lib.hid ((below_drew K.out).trans (hb.mono K.out.size))); clear hb))
      | (go_at_call 21; ((refine (free_q (C.out.1.later (by first | exact K.out | exact below_drew K.out)) C.out.2.2.1).mono ?_); rintro e w1 ⟨rfl, hb⟩; (first | replace K := Lib.hid (K.out.trans (hb.mono K.out.size)) | replace K := Lib.hid ((below_drew K.out).trans (hb.mono K.out.size))); clear hb))
      | (go_at_call 20; ((refine (Edge_any _ _ _ _ (C.out.1.later (by first | exact K.out | exact below_drew K.out))).mono ?_); rintro e w1 ⟨rfl, hb⟩; (first | replace K := Lib.hid (K.out.trans (hb.mono K.out.size)) | replace K := Lib.hid ((below_drew K.out).trans (hb.mono K.out.size))); clear hb))
      | (go_at_call 31; ((refine (Closed_any _ _ _ _ (C.out.1.later (by first | exact K.out | exact below_drew K.out))).mono ?_); rintro e w1 ⟨rfl, hb⟩; (first | replace K := Lib.hid (K.out.trans (hb.mono K.out.size)) | replace K := Lib.hid ((below_drew K.out).trans (hb.mono K.out.size))); clear hb)))
  all_goals exact NoPanic.normal (HQ.out _ _ _ _ _ _ _ _ _ _ _ _ _ _ _ _ _ _ _ _ _ _ _ _ _ _ _ _ _ _ _ _ _ _ _ _ _ _ _ _ _ _ _ _ _ _ _ _ _ _ _ _ _ _ K.out)
end Go.Proofs.Ytbbjlefldpgckaa
