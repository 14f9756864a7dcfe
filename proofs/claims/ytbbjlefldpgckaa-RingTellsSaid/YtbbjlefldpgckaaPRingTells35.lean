/- Texts of the proof of RingTells, part 35. -/
import Derived.Test.YtbbjlefldpgckaaPRingTells24
import Derived.Test.YtbbjlefldpgckaaPRingTells28
import Derived.Test.YtbbjlefldpgckaaPRingTells32
import Derived.Test.YtbbjlefldpgckaaPRingTells31
import Derived.Test.YtbbjlefldpgckaaPRingTells34
import Derived.Test.YtbbjlefldpgckaaPRingTells30
namespace Go.Proofs.Ytbbjlefldpgckaa
open Go.ChangeShapes Go.WideShapes Go.ChangeAt Go.RowKit Go.Maps
open Ev (V3 rightV OkV)
set_option linter.unusedVariables false
set_option linter.unusedSimpArgs false
set_option maxRecDepth 20000

set_option maxRecDepth 20000 in
set_option maxHeartbeats 4000000 in
theorem do1 (u0 u2 u3 u4 u6 u7 u8 u9 u10 u11 u12 u13 u14 u15 u16 u17 u18 u19 u20 u21 u22 u23 u24 u25 u26 u27 u28 u29 u30 u31 u32 u33 u34 u35 u36 u37 u38 u39 u40 u41 u42 u43 u44 u45 u46 u47 u48 u49 u50 u51 u52 u53 u54 u55 u56 u57 u58 u59 u60 u61 u62 u63 u64 u65 u66 u67 u68 u69 u70 u71 u72 u73 u74 u75 u76 u77 u78 u79 u80 u81 u82 u83 u84 u85 u86 u87 u88 u89 u90 u91 u92 u93 u94 u95 u96 u97 u98 u99 u100 : Value) {w : World} {p ga g : Nat} {n t : Int} (h3 : w.cell? ⟨p, 3, none⟩ = some (.int .i64 (g : Int))) (hn : w.cell? ⟨ga, 1, none⟩ = some (.int .u8 n)) (ht : w.cell? ⟨ga, 2, none⟩ = some (.int .u8 t)) (hn0 : 0 ≤ n ∧ n ≤ 255) (ht0 : 0 ≤ t ∧ t ≤ 255) (hg : g ≤ 4000000000000000000) {Q : Exit → Act → World → Prop}
    (hQ : ∀ (x14 x15 x16 x17 x18 x19 x20 x21 x22 x23 x24 x25 x26 x27 x28 : Value)  (wx : World), Below w.heap.size w wx → Q .normal ⟨#[u0, .pointer (some ⟨p, 0, none⟩), u2, u3, u4, .pointer (some ⟨ga, 0, none⟩), u6, .int .i64 (n % ((g : Int) + 2) - t % 8 / 7), u8, u9, u10, u11, u12, u13, x14, x15, x16, x17, x18, x19, x20, x21, x22, x23, x24, x25, x26, x27, x28, u29, u30, u31, u32, u33, u34, u35, u36, u37, u38, u39, u40, u41, u42, u43, u44, u45, u46, u47, u48, u49, u50, u51, u52, u53, u54, u55, u56, u57, u58, u59, u60, u61, u62, u63, u64, u65, u66, u67, u68, u69, u70, u71, u72, u73, u74, u75, u76, u77, u78, u79, u80, u81, u82, u83, u84, u85, u86, u87, u88, u89, u90, u91, u92, u93, u94, u95, u96, u97, u98, u99, u100], []⟩ wx) :
    Code.wp Try.prog ((Try.f12.body.bind (regionN 1)).getD .skip) Q ⟨#[u0, .pointer (some ⟨p, 0, none⟩), u2, u3, u4, .pointer (some ⟨ga, 0, none⟩), u6, u7, u8, u9, u10, u11, u12, u13, u14, u15, u16, u17, u18, u19, u20, u21, u22, u23, u24, u25, u26, u27, u28, u29, u30, u31, u32, u33, u34, u35, u36, u37, u38, u39, u40, u41, u42, u43, u44, u45, u46, u47, u48, u49, u50, u51, u52, u53, u54, u55, u56, u57, u58, u59, u60, u61, u62, u63, u64, u65, u66, u67, u68, u69, u70, u71, u72, u73, u74, u75, u76, u77, u78, u79, u80, u81, u82, u83, u84, u85, u86, u87, u88, u89, u90, u91, u92, u93, u94, u95, u96, u97, u98, u99, u100], []⟩ w := by
  have HQ := Lib.hid hQ; clear hQ
  conv => arg 2; whnf
  have e1 : IntKind.i64.wrap n = n := IntWalk.i64_in _ (by omega)
  have e2 : (t.tmod 8).tdiv 7 = t % 8 / 7 := by rw [Int.tmod_eq_emod_of_nonneg (by omega), Int.tdiv_eq_ediv_of_nonneg (by omega)]
  have e3 : IntKind.u8.wrap (t % 8 / 7) = t % 8 / 7 := by rcases (show t % 8 / 7 = 0 ∨ t % 8 / 7 = 1 by omega) with e | e <;> rw [e] <;> decide
  have e4 : IntKind.i64.wrap (t % 8 / 7) = t % 8 / 7 := IntWalk.i64_in _ (by omega)
  have e5 : n.tmod ((g : Int) + 2) = n % ((g : Int) + 2) := Int.tmod_eq_emod_of_nonneg (by omega)
  have e7 := Int.emod_nonneg n (show (g : Int) + 2 ≠ 0 by omega)
  have e8 := Int.emod_lt_of_pos n (show (0 : Int) < (g : Int) + 2 by omega)
  have e6 : IntKind.i64.wrap (n % ((g : Int) + 2) - t % 8 / 7) = n % ((g : Int) + 2) - t % 8 / 7 := IntWalk.i64_in _ (by omega)
  clear e7 e8
  have hw : IntKind.i64.wrap ((g : Int) + 2) = (g : Int) + 2 := IntWalk.i64_in _ (by omega)
  have hz : ¬ ((g : Int) + 2 = 0) := by omega
  have hzb : (((g : Int) + 2) == 0) = false := by simp; omega
  have C := Lib.hid (fun (X : World) (hb : Below w.heap.size w X) => (show X.cell? ⟨p, 3, none⟩ = some (.int .i64 (g : Int)) ∧ X.cell? ⟨ga, 1, none⟩ = some (.int .u8 n) ∧ X.cell? ⟨ga, 2, none⟩ = some (.int .u8 t) from ⟨by rw [hb.cell (World.block_lt_of_cell? w _ h3)]; exact h3, by rw [hb.cell (World.block_lt_of_cell? w _ hn)]; exact hn, by rw [hb.cell (World.block_lt_of_cell? w _ ht)]; exact ht⟩))
  refine wp_region_noPanic ?_
  go_region_held3 (fun X => X.cell? ⟨p, 3, none⟩ = some (.int .i64 (g : Int)) ∧ X.cell? ⟨ga, 1, none⟩ = some (.int .u8 n) ∧ X.cell? ⟨ga, 2, none⟩ = some (.int .u8 t)) (first | exact C.out _ (Below.refl _ _) | exact C.out _ (below_drew (Below.refl _ _))) (fail)
  all_goals
    try simp only [e1, e2, e3, e4, e5, e6]
    exact NoPanic.normal (HQ.out _ _ _ _ _ _ _ _ _ _ _ _ _ _ _ _ (below_drew (Below.refl _ _)))
end Go.Proofs.Ytbbjlefldpgckaa
namespace Go.Proofs.Ytbbjlefldpgckaa
open Go.ChangeShapes Go.WideShapes Go.ChangeAt Go.RowKit Go.Maps
open Ev (V3 rightV OkV)
set_option linter.unusedVariables false
set_option linter.unusedSimpArgs false

theorem RM.shut_ {w : World} {B p : Nat} {vl vq : Value} {L : List Raw} {Q : List Qr} {s : Rg} (h : RM w B p vl vq L Q s) :
    RM (w.setCell ⟨p, 4, none⟩ (.bool true)) B p vl vq L Q { s with shut := true } ∧ ChM B w (w.setCell ⟨p, 4, none⟩ (.bool true)) := by
  obtain ⟨r1, r2, r3, r4⟩ := h.rest 4 (.bool true)
  have hb := h.blk.set_ 4 (.bool true)
  exact ⟨⟨h.low, by simpa [mgCells] using hb, r1, r2, r3, ⟨h.qok.nd, h.qok.rd, h.qok.cnt⟩, ⟨h.ok.room, h.ok.cnt, h.ok.rd, h.ok.edge, h.ok.total, h.ok.given, h.ok.items⟩⟩, r4⟩
end Go.Proofs.Ytbbjlefldpgckaa
namespace Go.Proofs.Ytbbjlefldpgckaa
open Go.ChangeShapes Go.WideShapes Go.ChangeAt Go.RowKit Go.Maps
open Ev (V3 rightV OkV)
set_option linter.unusedVariables false
set_option linter.unusedSimpArgs false
set_option maxRecDepth 20000

def mNewP (room : Nat) (w : World) (e : Ending) (w' : World) : Prop := ∃ p, (e = .returned (.tuple #[.pointer (some ⟨p, 0, none⟩), .int .i64 0]) ∧ MS w' w.heap.size p (g0 room)) ∧ Below w.heap.size w w'
theorem mNew_any (room : Nat) (h1 : 1 ≤ room) (h2 : room ≤ 256) (w : World) : Calls Try.prog 11 #[.int .i64 (room : Int)] w (mNewP room w) := by
  have HN := Lib.hid (And.intro h1 h2)
  have k1 : ¬ (room : Int) < 1 := by omega
  have k2 : ¬ 256 < (room : Int) := by omega
  have d1 := decide_eq_false k1
  have d2 := decide_eq_false k2
  clear h1 h2
  go_enter Try.func11, Try.ntmps11
  go_wp2
  refine bodyPost_ret (v := .tuple #[.pointer (some ⟨w.heap.size, 0, none⟩), .int .i64 0]) (by simp [results, Try.results11, go_sem]) rfl ?_
  refine ⟨_, ⟨rfl, ⟨.slice none 0 0, .slice none 0 0, [], [], ⟨Nat.le_refl _, Blk.new w tMr (mgCells (g0 room) (.slice none 0 0) (.slice none 0 0)), Own.nil _ _ _ _ _, ⟨rfl, fun j h => absurd h (by simp)⟩, Own.nil _ _ _ _ _, ⟨by simp, fun id => rfl, rfl⟩, ⟨HN.out, Nat.zero_le _, fun id r hr => (by cases hr), ⟨Int.le_refl _, by show (0 : Int) ≤ _; decide⟩, by show (0 : Nat) ≤ _; decide, by show (0 : Nat) ≤ _; decide, fun x hx => by cases hx⟩⟩⟩⟩, ba _ _⟩
theorem mNew_no (c : Int) (hc : c < 1 ∨ 256 < c) (w : World) : Calls Try.prog 11 #[.int .i64 c] w fun e w' => e = .returned (.tuple #[.pointer none, .int .i64 1]) ∧ Below w.heap.size w w' := by
  have hc' : c < 1 ∨ (¬ c < 1 ∧ 256 < c) := by omega
  clear hc
  rcases hc' with k1 | ⟨k1, k2⟩
  · have d1 := decide_eq_true k1
    go_enter Try.func11, Try.ntmps11
    go_wp2
    refine bodyPost_ret (v := .tuple #[.pointer none, .int .i64 1]) (by simp [results, Try.results11, go_sem]) rfl ?_
    exact ⟨rfl, Below.refl _ _⟩
  · have d1 := decide_eq_false k1
    have d2 := decide_eq_true k2
    go_enter Try.func11, Try.ntmps11
    go_wp2
    refine bodyPost_ret (v := .tuple #[.pointer none, .int .i64 1]) (by simp [results, Try.results11, go_sem]) rfl ?_
    exact ⟨rfl, Below.refl _ _⟩
theorem New_bad (c : Int) (hc : c < 1 ∨ 256 < c) (w : World) : Calls Try.prog 10 #[.int .i64 c] w fun e w' => e = .returned (.tuple #[.pointer none, .int .i64 1]) ∧ Below w.heap.size w w' := by
  have hc' : c < 1 ∨ (¬ c < 1 ∧ 256 < c) := by omega
  clear hc
  rcases hc' with k1 | ⟨k1, k2⟩
  · have d1 := decide_eq_true k1
    go_enter Try.func10, Try.ntmps10
    go_wp2
    refine bodyPost_ret (v := .tuple #[.pointer none, .int .i64 1]) (by simp [results, Try.results10, go_sem]) rfl ?_
    exact ⟨rfl, Below.refl _ _⟩
  · have d1 := decide_eq_false k1
    have d2 := decide_eq_true k2
    go_enter Try.func10, Try.ntmps10
    go_wp2
    refine bodyPost_ret (v := .tuple #[.pointer none, .int .i64 1]) (by simp [results, Try.results10, go_sem]) rfl ?_
    exact ⟨rfl, Below.refl _ _⟩
def mAddP (B p : Nat) (s : Rg) (w : World) (e : Ending) (w' : World) : Prop := ∃ n s', (e = .returned (.int .i64 n) ∧ AddR s n s' ∧ MS w' B p s') ∧ ChM B w w'
theorem mAdd_any {w : World} {B p : Nat} {vl vq : Value} {L : List Raw} {Q : List Qr} {s : Rg} (h : RM w B p vl vq L Q s) (hG : s.given < 4000000000000000000) :
    Calls Try.prog 34 #[.pointer (some ⟨p, 0, none⟩)] w (mAddP B p s w) := by
  by_cases hf : s.cnt < 16
  · exact mAdd_some h hG hf
  · obtain ⟨_, _, c2, _, _, _, dl, df⟩ := h.cells
    obtain ⟨A, c, rfl, _, hc1, hc2⟩ := h.q.shape
    obtain ⟨n, hn⟩ : ∃ n, n = Q.length := ⟨_, rfl⟩
    rw [← hn] at c2
    have hn16 : 16 ≤ (n : Int) := by have := h.qok.cnt; omega
    have hd := decide_eq_true hn16
    have hm : n ≤ 9223372036854775807 := by unfold maxLen at hc2; omega
    have H := Lib.hid (And.intro h (show 16 ≤ s.cnt by omega)); clear h hf hn hc1
    go_enter Try.func34, Try.ntmps34
    go_wp2
    go_ret
    exact ⟨0, s, ⟨rfl, Or.inl ⟨H.out.2, rfl, rfl⟩, ⟨_, _, _, _, H.out.1⟩⟩, ChM.refl _ _⟩
end Go.Proofs.Ytbbjlefldpgckaa
namespace Go.Proofs.Ytbbjlefldpgckaa
open Go.ChangeShapes Go.WideShapes Go.ChangeAt Go.RowKit Go.Maps
open Ev (V3 rightV OkV)
set_option linter.unusedVariables false
set_option linter.unusedSimpArgs false
set_option maxRecDepth 20000

/-- What an act makes of the state: bounds. -/
def Grow (s s' : Rg) : Prop := s'.hist.length ≤ s.hist.length + 1 ∧ s'.given ≤ s.given + 1 ∧ s'.room = s.room
def DoP (X : Nat → Prop) (B d p : Nat) (s : Rg) (w : World) (e : Ending) (w' : World) : Prop := ∃ s', (e = .returned (.bool true) ∧ RX X w' B d s' ∧ MS w' B p s' ∧ Grow s s') ∧ Below B w w'
theorem AddR.grow {s s' : Rg} {n : Int} (h : AddR s n s') : Grow s s' := by
  rcases h with ⟨_, _, rfl⟩ | ⟨_, _, _, rfl⟩
  · exact ⟨Nat.le_succ _, Nat.le_succ _, rfl⟩
  · exact ⟨Nat.le_succ _, Nat.le_refl _, rfl⟩
set_option maxHeartbeats 4000000 in
theorem do_add {w : World} {X : Nat → Prop} {B d p : Nat} {s : Rg} {x : ActD} (h : RX X w B d s) (hm : MS w B p s) (hok : ActOk w x) (hk : 6 ≤ x.k % 16) (hk' : x.k % 16 < 8) (hG : s.given < 4000000000000000000) :
    Calls Try.prog 12 #[.pointer (some ⟨d, 0, none⟩), .pointer (some ⟨p, 0, none⟩), actV x] w (DoP X B d p s w) := by
  obtain ⟨vl, vq, L, Q', hm⟩ := hm
  have hx := hok.n
  have ht := hok.t
  have hkk := hok.k
  have e1 : x.k.tmod 16 = x.k % 16 := Int.tmod_eq_emod_of_nonneg (by omega)
  have q1 : ¬ x.k % 16 < 6 := by omega
  have d1 : decide (x.k % 16 < 6) = false := decide_eq_false q1
  have d2 : decide (x.k % 16 < 8) = true := decide_eq_true hk'
  have hA := Blk.new w 39 #[.int .u8 x.k, .int .u8 x.n, .int .u8 x.t, .bool x.ma, .int .i64 x.tm, .slice x.sv.1 x.sv.2.1 x.sv.2.2]
  obtain ⟨W1, hW1⟩ : ∃ W1, W1 = w.alloc (.cells #[.int .u8 x.k, .int .u8 x.n, .int .u8 x.t, .bool x.ma, .int .i64 x.tm, .slice x.sv.1 x.sv.2.1 x.sv.2.2] 39) := ⟨_, rfl⟩
  have b1 : Below w.heap.size w W1 := by rw [hW1]; exact ba _ _
  rw [← hW1] at hA
  have hBw := hm.low'
  have C := Lib.hid (And.intro h (And.intro hm (And.intro hA (And.intro b1 (And.intro hx (And.intro ht (And.intro hBw hG))))))); clear h hm hA b1 hx ht hok hkk hBw hG
  go_enter Try.func12, Try.ntmps12
  go_wp2_with fail
  rw [← hW1]
  clear hW1
  refine wp_of_eq (c' := (((Try.f12.body.bind (regionN 1)).getD .skip))) ?_ (by kernel_rfl)
  refine do1 _ _ _ _ _ _ _ _ _ _ _ _ _ _ _ _ _ _ _ _ _ _ _ _ _ _ _ _ _ _ _ _ _ _ _ _ _ _ _ _ _ _ _ _ _ _ _ _ _ _ _ _ _ _ _ _ _ _ _ _ _ _ _ _ _ _ _ _ _ _ _ _ _ _ _ _ _ _ _ _ _ _ _ _ _ _ _ _ _ _ _ _ _ _ _ _ _ _ _ ((C.out.2.1.later C.out.2.2.2.1).cells.2.2.2.1) (C.out.2.2.1.cell 1) (C.out.2.2.1.cell 2) C.out.2.2.2.2.1 C.out.2.2.2.2.2.1 (Nat.le_of_lt C.out.2.2.2.2.2.2.2) (fun _ _ _ _ _ _ _ _ _ _ _ _ _ _ _ wx hx => ?_)
  have hA2 := C.out.2.2.1.later hx
  have f0 := hA2.cell 0
  have K := Lib.hid (And.intro (bt C.out.2.2.2.1 hx) hA2); clear hx hA2
  go_wp2_with fail
  go_at_call 14
  refine (Add_any X B d s _ (C.out.1.later K.out.1).1 C.out.2.2.2.2.2.2.2).mono ?_
  rintro e w3 ⟨n, s', ⟨rfl, hR, hX⟩, hC, _⟩
  obtain ⟨vl3, vq3, L3, Q3, hm3⟩ := (MS.later ⟨_, _, _, _, C.out.2.1⟩ K.out.1).frr hC.frm
  have N := Lib.hid (And.intro hR (And.intro hX (And.intro hm3 hC.bel))); clear hR hX hm3 hC
  go_wp2_with fail
  go_at_call 34
  refine (mAdd_any N.out.2.2.1 C.out.2.2.2.2.2.2.2).mono ?_
  rintro e w4 ⟨n', s'', ⟨rfl, hR', hM⟩, hC'⟩
  obtain ⟨h1, h2⟩ := N.out.1.same hR'
  subst h1
  subst h2
  have M := Lib.hid (And.intro hM hC'); clear hR' hM hC'
  go_wp2
  go_ret
  exact ⟨_, ⟨by simp, N.out.2.1.frm M.out.2.frm, M.out.1, N.out.1.grow⟩, ((K.out.1.mono C.out.2.2.2.2.2.2.1).trans N.out.2.2.2).trans M.out.2.bel⟩
end Go.Proofs.Ytbbjlefldpgckaa
