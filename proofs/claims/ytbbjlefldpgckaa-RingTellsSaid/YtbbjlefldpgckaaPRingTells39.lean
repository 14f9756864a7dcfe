/- Texts of the proof of RingTells, part 39. -/
import Derived.Test.YtbbjlefldpgckaaPRingTells35
import Derived.Test.YtbbjlefldpgckaaPRingTells38
namespace Go.Proofs.Ytbbjlefldpgckaa
open Go.ChangeShapes Go.WideShapes Go.ChangeAt Go.RowKit Go.Maps
open Ev (V3 rightV OkV)
set_option linter.unusedVariables false
set_option linter.unusedSimpArgs false
set_option maxRecDepth 20000

/-- What a Next answers, by what it found. -/
def pk (x : Option It) : Bool × Bool × Int × List V3 := match x with
  | none => (false, false, 0, [])
  | some y => (true, y.1, y.2.1, y.2.2)
def NxP (tv : TypeId) (Keep' : World → Rg → Prop) (s : Rg) (id : Int) (e : Ending) (w' : World) : Prop := ∃ x s' A n c, e = .returned (.tuple #[item (pk x).2.1 (pk x).2.2.1 (.slice A n c), .bool (pk x).1]) ∧ Own w' 0 tv 3 row3 (.slice A n c) (pk x).2.2.2 ∧ NextR s id x s' ∧ Keep' w' s'
theorem nx_of {tv : TypeId} {Keep' : World → Rg → Prop} {s s' : Rg} {id : Int} {e : Ending} {w' : World} {x : Option It} {v' : Value} (h : e = .returned (itemOf x v')) (hR : NextR s id x s') (hv : ∀ y, x = some y → Own w' 0 tv 3 row3 v' y.2.2) (hK : Keep' w' s') : NxP tv Keep' s id e w' := by
  rcases x with _ | y
  · exact ⟨none, s', none, 0, 0, h, Own.nil _ _ _ _ _, hR, hK⟩
  · have h1 := hv y rfl
    obtain ⟨A, c, rfl, _, _, _⟩ := h1.shape
    exact ⟨some y, s', A, _, c, h, h1, hR, hK⟩
theorem NextR.grow {s s' : Rg} {id : Int} {x : Option It} (h : NextR s id x s') : Grow s s' := by
  rcases h with ⟨_, _, rfl⟩ | ⟨_, _, _, _, _, rfl⟩
  · exact ⟨Nat.le_succ _, Nat.le_succ _, rfl⟩
  · exact ⟨Nat.le_succ _, Nat.le_succ _, rfl⟩
theorem NextR.len {s s' : Rg} {id : Int} {x : Option It} (h : NextR s id x s') (hi : ∀ x ∈ s.hist, x.2.2.length ≤ 6) : (pk x).2.2.2.length * 32 ≤ 140737488355328 := by
  rcases h with ⟨_, rfl, _⟩ | ⟨_, y, _, hy, rfl, _⟩
  · simp [pk]
  · have := hi y (List.mem_of_getElem? hy)
    simp only [pk]
    omega
theorem Next_nx (X : Nat → Prop) (B d : Nat) (s : Rg) (id : Int) (w : World) (h : RX X w B d s) (hi : wfI id) : Calls Try.prog 17 #[.pointer (some ⟨d, 0, none⟩), .int .i64 id] w (NxP 84 (fun w' s' => RX X w' B d s' ∧ Chg B w w') s id) :=
  (Next_any X B d s w id hi h).mono fun e w' ⟨x, s', v', ⟨h1, h2, h3, h4⟩, hC, _⟩ => nx_of h1 h2 (fun y hy => (show Own w' 0 84 3 row3 v' y.2.2 from (h3 y hy).weak (Nat.zero_le _))) ⟨h4, hC⟩
theorem mNext_nx {w : World} {B p : Nat} {vl vq : Value} {L : List Raw} {Q : List Qr} {s : Rg} (id : Int) (h : RM w B p vl vq L Q s) (ht : ∀ x ∈ s.hist, behindI x.1 x.2.1 ≤ s.edge) : Calls Try.prog 36 #[.pointer (some ⟨p, 0, none⟩), .int .i64 id] w (NxP 98 (fun w' s' => MS w' B p s' ∧ ChM B w w') s id) :=
  (mNext_any id h ht).mono fun e w' ⟨x, s', v', ⟨h1, h2, h3, h4⟩, hC⟩ => nx_of h1 h2 h3 ⟨h4, hC⟩
end Go.Proofs.Ytbbjlefldpgckaa
namespace Go.Proofs.Ytbbjlefldpgckaa
open Go.ChangeShapes Go.WideShapes Go.ChangeAt Go.RowKit Go.Maps
open Ev (V3 rightV OkV)
set_option linter.unusedVariables false
set_option linter.unusedSimpArgs false
set_option maxRecDepth 20000

set_option maxHeartbeats 4000000 in
theorem do_next1 {w : World} {X : Nat → Prop} {B d p : Nat} {s : Rg} {x : ActD} (h : RX X w B d s) (hm : MS w B p s) (hok : ActOk w x) (hk : 8 < x.k % 16) (hk2 : ¬ x.k % 16 = 15) (hG : s.given < 4000000000000000000) :
    Calls Try.prog 12 #[.pointer (some ⟨d, 0, none⟩), .pointer (some ⟨p, 0, none⟩), actV x] w (DoP X B d p s w) := by
  obtain ⟨vl, vq, L, Q', hm⟩ := hm
  have hx := hok.n
  have ht := hok.t
  have hkk := hok.k
  have e1 : x.k.tmod 16 = x.k % 16 := Int.tmod_eq_emod_of_nonneg (by omega)
  have q1 : ¬ x.k % 16 < 6 := by omega
  have d1 : decide (x.k % 16 < 6) = false := decide_eq_false q1
  have q2 : ¬ x.k % 16 < 8 := by omega
  have d2 : decide (x.k % 16 < 8) = false := decide_eq_false q2
  have q3 : ¬ x.k % 16 = 8 := by omega
  have d3 : decide (x.k % 16 = 8) = false := decide_eq_false q3
  have d3' : (x.k % 16 == 8) = false := by simpa using q3
  have q4 : ¬ x.k % 16 = 15 := hk2
  have d4 : decide (x.k % 16 = 15) = false := decide_eq_false q4
  have d4' : (x.k % 16 == 15) = false := by simpa using q4
  have hi : wfI (x.n % ((s.given : Int) + 2) - x.t % 8 / 7) := by
    have e7 := Int.emod_nonneg x.n (show (s.given : Int) + 2 ≠ 0 by omega)
    have e8 := Int.emod_lt_of_pos x.n (show (0 : Int) < (s.given : Int) + 2 by omega)
    constructor <;> omega
  have hA := Blk.new w 39 #[.int .u8 x.k, .int .u8 x.n, .int .u8 x.t, .bool x.ma, .int .i64 x.tm, .slice x.sv.1 x.sv.2.1 x.sv.2.2]
  obtain ⟨W1, hW1⟩ : ∃ W1, W1 = w.alloc (.cells #[.int .u8 x.k, .int .u8 x.n, .int .u8 x.t, .bool x.ma, .int .i64 x.tm, .slice x.sv.1 x.sv.2.1 x.sv.2.2] 39) := ⟨_, rfl⟩
  have b1 : Below w.heap.size w W1 := by rw [hW1]; exact ba _ _
  rw [← hW1] at hA
  have hBw := hm.low'
  have hi' := Lib.hid hi; clear hi
  obtain ⟨hlen, htm⟩ : (∀ x ∈ s.hist, x.2.2.length ≤ 6) ∧ (∀ x ∈ s.hist, behindI x.1 x.2.1 ≤ s.edge) := by
    obtain ⟨_, _, _, hR, _⟩ := h
    exact ⟨fun x hx => (hR.pre.ok.items x hx).1, hR.times⟩
  have T := Lib.hid (And.intro hlen htm); clear hlen htm
  have C := Lib.hid (And.intro h (And.intro hm (And.intro hA (And.intro b1 (And.intro hx (And.intro ht (And.intro hBw hG))))))); clear h hm hA b1 hx ht hok hkk hBw hG
  go_enter Try.func12, Try.ntmps12
  go_wp2_with fail
  rw [← hW1]
  clear hW1
  refine wp_of_eq (c' := (((Try.f12.body.bind (regionN 1)).getD .skip))) ?_ (by kernel_rfl)
  refine do1 _ _ _ _ _ _ _ _ _ _ _ _ _ _ _ _ _ _ _ _ _ _ _ _ _ _ _ _ _ _ _ _ _ _ _ _ _ _ _ _ _ _ _ _ _ _ _ _ _ _ _ _ _ _ _ _ _ _ _ _ _ _ _ _ _ _ _ _ _ _ _ _ _ _ _ _ _ _ _ _ _ _ _ _ _ _ _ _ _ _ _ _ _ _ _ _ _ _ _ ((C.out.2.1.later C.out.2.2.2.1).cells.2.2.2.1) (C.out.2.2.1.cell 1) (C.out.2.2.1.cell 2) C.out.2.2.2.2.1 C.out.2.2.2.2.2.1 (Nat.le_of_lt C.out.2.2.2.2.2.2.2) (fun _ _ _ _ _ _ _ _ _ _ _ _ _ _ _ wx hx => ?_)
  have hA2 := C.out.2.2.1.later hx
  have f0 := hA2.cell 0
  have f2 := hA2.cell 2
  have K := Lib.hid (And.intro (bt C.out.2.2.2.1 hx) hA2); clear hx hA2
  go_wp2_with fail
  go_at_call 17
  refine (Next_nx X B d s _ _ (C.out.1.later K.out.1).1 hi'.out).mono ?_
  rintro e w3 ⟨y, s', A1, n1, c1, rfl, hV1, hR, hX, hC⟩
  obtain ⟨vl3, vq3, L3, Q3, hm3⟩ := (MS.later ⟨_, _, _, _, C.out.2.1⟩ K.out.1).frr hC.frm
  have N := Lib.hid (And.intro hV1 (And.intro hR (And.intro hX (And.intro hm3 hC.bel)))); clear hV1 hR hX hm3 hC
  go_wp2_with fail
  go_at_call 36
  refine (mNext_nx _ (N.out.2.2.2.1.later (ba w3 (.cells #[.bool (pk y).2.1, .int .i64 (pk y).2.2.1, .slice A1 n1 c1] 37))) T.out.2).mono ?_
  rintro e w4 ⟨y', s'', A2, n2, c2, rfl, hV2, hR', hM, hC'⟩
  obtain ⟨h1, h2⟩ := N.out.2.1.same hR'
  rw [h1] at hV2 ⊢
  subst h2
  have P1 := (Blk.new w3 37 #[.bool (pk y).2.1, .int .i64 (pk y).2.2.1, .slice A1 n1 c1]).frm hC'.frm (by decide)
  have V1 := Own.frm (N.out.1.later (ba w3 (.cells #[.bool (pk y).2.1, .int .i64 (pk y).2.2.1, .slice A1 n1 c1] 37))) hC'.frm (by decide)
  have X1 := (N.out.2.2.1.later (ba w3 (.cells #[.bool (pk y).2.1, .int .i64 (pk y).2.2.1, .slice A1 n1 c1] 37))).1.frm hC'.frm
  have b4 := ((K.out.1.mono C.out.2.2.2.2.2.2.1).trans N.out.2.2.2.2).trans (((ba w3 (.cells #[.bool (pk y).2.1, .int .i64 (pk y).2.2.1, .slice A1 n1 c1] 37)).mono (Nat.le_trans C.out.2.2.2.2.2.2.1 (Nat.le_trans K.out.1.size N.out.2.2.2.2.size))).trans hC'.bel)
  have M := Lib.hid (And.intro hM (And.intro P1 (And.intro V1 (And.intro X1 (And.intro hV2 b4))))); clear hR' hM hC' P1 V1 X1 hV2 b4 h1
  go_wp2_with fail
  have P2 := Blk.new w4 73 #[.bool (pk y).2.1, .int .i64 (pk y).2.2.1, .slice A2 n2 c2]
  have b5 := ba w4 (.cells #[.bool (pk y).2.1, .int .i64 (pk y).2.2.1, .slice A2 n2 c2] 73)
  refine wp_of_eq (c' := (((Try.f12.body.bind (regionN 16)).getD .skip))) ?_ (by kernel_rfl)
  refine do16 _ _ _ _ _ _ _ _ _ _ _ _ _ _ _ _ _ _ _ _ _ _ _ _ _ _ _ _ _ _ _ _ _ _ _ _ _ _ _ _ _ _ _ _ _ _ _ _ _ _ _ _ _ _ _ _ _ _ _ _ _ _ _ _ _ _ _ _ _ _ _ _ _ _ _ _ _ _ _ _ _ _ _ _ _ _ _ _ _ _ _ _ _ _ _ _ _ (M.out.2.1.later b5) P2 (own_vals (M.out.2.2.1.later b5)) (own_vals (M.out.2.2.2.2.1.later b5)) (N.out.2.1.len T.out.1) (fun _ _ _ _ _ _ _ _ _ wx hx => ?_)
  have b6 := bt b5 hx
  have R := Lib.hid (And.intro (M.out.2.2.2.1.later b6).1 (And.intro (M.out.1.later b6) (M.out.2.2.2.2.2.trans (b6.mono (Nat.le_trans (Nat.le_trans C.out.2.2.2.2.2.2.1 (Nat.le_refl _)) M.out.2.2.2.2.2.size))))); clear hx b5 b6 P2
  go_wp2
  go_ret
  exact ⟨_, ⟨rfl, R.out.1, R.out.2.1, N.out.2.1.grow⟩, R.out.2.2⟩
set_option maxHeartbeats 4000000 in
theorem do_next2 {w : World} {X : Nat → Prop} {B d p : Nat} {s : Rg} {x : ActD} (h : RX X w B d s) (hm : MS w B p s) (hok : ActOk w x) (hk : 8 < x.k % 16) (hk2 : x.k % 16 = 15 ∧ ¬ 200 < x.t) (hG : s.given < 4000000000000000000) :
    Calls Try.prog 12 #[.pointer (some ⟨d, 0, none⟩), .pointer (some ⟨p, 0, none⟩), actV x] w (DoP X B d p s w) := by
  obtain ⟨vl, vq, L, Q', hm⟩ := hm
  have hx := hok.n
  have ht := hok.t
  have hkk := hok.k
  have e1 : x.k.tmod 16 = x.k % 16 := Int.tmod_eq_emod_of_nonneg (by omega)
  have q1 : ¬ x.k % 16 < 6 := by omega
  have d1 : decide (x.k % 16 < 6) = false := decide_eq_false q1
  have q2 : ¬ x.k % 16 < 8 := by omega
  have d2 : decide (x.k % 16 < 8) = false := decide_eq_false q2
  have q3 : ¬ x.k % 16 = 8 := by omega
  have d3 : decide (x.k % 16 = 8) = false := decide_eq_false q3
  have d3' : (x.k % 16 == 8) = false := by simpa using q3
  have d4 : decide (x.k % 16 = 15) = true := decide_eq_true hk2.1
  have d4' : (x.k % 16 == 15) = true := by simpa using hk2.1
  have q5 : ¬ 200 < x.t := hk2.2
  have d5 : decide (200 < x.t) = false := decide_eq_false q5
  have hi : wfI (x.n % ((s.given : Int) + 2) - x.t % 8 / 7) := by
    have e7 := Int.emod_nonneg x.n (show (s.given : Int) + 2 ≠ 0 by omega)
    have e8 := Int.emod_lt_of_pos x.n (show (0 : Int) < (s.given : Int) + 2 by omega)
    constructor <;> omega
  have hA := Blk.new w 39 #[.int .u8 x.k, .int .u8 x.n, .int .u8 x.t, .bool x.ma, .int .i64 x.tm, .slice x.sv.1 x.sv.2.1 x.sv.2.2]
  obtain ⟨W1, hW1⟩ : ∃ W1, W1 = w.alloc (.cells #[.int .u8 x.k, .int .u8 x.n, .int .u8 x.t, .bool x.ma, .int .i64 x.tm, .slice x.sv.1 x.sv.2.1 x.sv.2.2] 39) := ⟨_, rfl⟩
  have b1 : Below w.heap.size w W1 := by rw [hW1]; exact ba _ _
  rw [← hW1] at hA
  have hBw := hm.low'
  have hi' := Lib.hid hi; clear hi
  obtain ⟨hlen, htm⟩ : (∀ x ∈ s.hist, x.2.2.length ≤ 6) ∧ (∀ x ∈ s.hist, behindI x.1 x.2.1 ≤ s.edge) := by
    obtain ⟨_, _, _, hR, _⟩ := h
    exact ⟨fun x hx => (hR.pre.ok.items x hx).1, hR.times⟩
  have T := Lib.hid (And.intro hlen htm); clear hlen htm
  have C := Lib.hid (And.intro h (And.intro hm (And.intro hA (And.intro b1 (And.intro hx (And.intro ht (And.intro hBw hG))))))); clear h hm hA b1 hx ht hok hkk hBw hG
  go_enter Try.func12, Try.ntmps12
  go_wp2_with fail
  rw [← hW1]
  clear hW1
  refine wp_of_eq (c' := (((Try.f12.body.bind (regionN 1)).getD .skip))) ?_ (by kernel_rfl)
  refine do1 _ _ _ _ _ _ _ _ _ _ _ _ _ _ _ _ _ _ _ _ _ _ _ _ _ _ _ _ _ _ _ _ _ _ _ _ _ _ _ _ _ _ _ _ _ _ _ _ _ _ _ _ _ _ _ _ _ _ _ _ _ _ _ _ _ _ _ _ _ _ _ _ _ _ _ _ _ _ _ _ _ _ _ _ _ _ _ _ _ _ _ _ _ _ _ _ _ _ _ ((C.out.2.1.later C.out.2.2.2.1).cells.2.2.2.1) (C.out.2.2.1.cell 1) (C.out.2.2.1.cell 2) C.out.2.2.2.2.1 C.out.2.2.2.2.2.1 (Nat.le_of_lt C.out.2.2.2.2.2.2.2) (fun _ _ _ _ _ _ _ _ _ _ _ _ _ _ _ wx hx => ?_)
  have hA2 := C.out.2.2.1.later hx
  have f0 := hA2.cell 0
  have f2 := hA2.cell 2
  have K := Lib.hid (And.intro (bt C.out.2.2.2.1 hx) hA2); clear hx hA2
  go_wp2_with fail
  go_at_call 17
  refine (Next_nx X B d s _ _ (C.out.1.later K.out.1).1 hi'.out).mono ?_
  rintro e w3 ⟨y, s', A1, n1, c1, rfl, hV1, hR, hX, hC⟩
  obtain ⟨vl3, vq3, L3, Q3, hm3⟩ := (MS.later ⟨_, _, _, _, C.out.2.1⟩ K.out.1).frr hC.frm
  have N := Lib.hid (And.intro hV1 (And.intro hR (And.intro hX (And.intro hm3 hC.bel)))); clear hV1 hR hX hm3 hC
  go_wp2_with fail
  go_at_call 36
  refine (mNext_nx _ (N.out.2.2.2.1.later (ba w3 (.cells #[.bool (pk y).2.1, .int .i64 (pk y).2.2.1, .slice A1 n1 c1] 37))) T.out.2).mono ?_
  rintro e w4 ⟨y', s'', A2, n2, c2, rfl, hV2, hR', hM, hC'⟩
  obtain ⟨h1, h2⟩ := N.out.2.1.same hR'
  rw [h1] at hV2 ⊢
  subst h2
  have P1 := (Blk.new w3 37 #[.bool (pk y).2.1, .int .i64 (pk y).2.2.1, .slice A1 n1 c1]).frm hC'.frm (by decide)
  have V1 := Own.frm (N.out.1.later (ba w3 (.cells #[.bool (pk y).2.1, .int .i64 (pk y).2.2.1, .slice A1 n1 c1] 37))) hC'.frm (by decide)
  have X1 := (N.out.2.2.1.later (ba w3 (.cells #[.bool (pk y).2.1, .int .i64 (pk y).2.2.1, .slice A1 n1 c1] 37))).1.frm hC'.frm
  have b4 := ((K.out.1.mono C.out.2.2.2.2.2.2.1).trans N.out.2.2.2.2).trans (((ba w3 (.cells #[.bool (pk y).2.1, .int .i64 (pk y).2.2.1, .slice A1 n1 c1] 37)).mono (Nat.le_trans C.out.2.2.2.2.2.2.1 (Nat.le_trans K.out.1.size N.out.2.2.2.2.size))).trans hC'.bel)
  have M := Lib.hid (And.intro hM (And.intro P1 (And.intro V1 (And.intro X1 (And.intro hV2 b4))))); clear hR' hM hC' P1 V1 X1 hV2 b4 h1
  go_wp2_with fail
  have P2 := Blk.new w4 73 #[.bool (pk y).2.1, .int .i64 (pk y).2.2.1, .slice A2 n2 c2]
  have b5 := ba w4 (.cells #[.bool (pk y).2.1, .int .i64 (pk y).2.2.1, .slice A2 n2 c2] 73)
  refine wp_of_eq (c' := (((Try.f12.body.bind (regionN 16)).getD .skip))) ?_ (by kernel_rfl)
  refine do16 _ _ _ _ _ _ _ _ _ _ _ _ _ _ _ _ _ _ _ _ _ _ _ _ _ _ _ _ _ _ _ _ _ _ _ _ _ _ _ _ _ _ _ _ _ _ _ _ _ _ _ _ _ _ _ _ _ _ _ _ _ _ _ _ _ _ _ _ _ _ _ _ _ _ _ _ _ _ _ _ _ _ _ _ _ _ _ _ _ _ _ _ _ _ _ _ _ (M.out.2.1.later b5) P2 (own_vals (M.out.2.2.1.later b5)) (own_vals (M.out.2.2.2.2.1.later b5)) (N.out.2.1.len T.out.1) (fun _ _ _ _ _ _ _ _ _ wx hx => ?_)
  have b6 := bt b5 hx
  have R := Lib.hid (And.intro (M.out.2.2.2.1.later b6).1 (And.intro (M.out.1.later b6) (M.out.2.2.2.2.2.trans (b6.mono (Nat.le_trans (Nat.le_trans C.out.2.2.2.2.2.2.1 (Nat.le_refl _)) M.out.2.2.2.2.2.size))))); clear hx b5 b6 P2
  go_wp2
  go_ret
  exact ⟨_, ⟨rfl, R.out.1, R.out.2.1, N.out.2.1.grow⟩, R.out.2.2⟩
end Go.Proofs.Ytbbjlefldpgckaa
