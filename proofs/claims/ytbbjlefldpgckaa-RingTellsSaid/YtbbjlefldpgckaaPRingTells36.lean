/- Texts of the proof of RingTells, part 36. -/
import Derived.Test.YtbbjlefldpgckaaPRingTells31
import Derived.Test.YtbbjlefldpgckaaPRingTells35
namespace Go.Proofs.Ytbbjlefldpgckaa
open Go.ChangeShapes Go.WideShapes Go.ChangeAt Go.RowKit Go.Maps
open Ev (V3 rightV OkV)
set_option linter.unusedVariables false
set_option linter.unusedSimpArgs false
set_option maxRecDepth 20000

theorem rowQ_one : ∀ x : Qr, ∀ u ∈ rowQ x, u.oneCell' = true := fun x u hu => by
  simp only [List.mem_cons, List.not_mem_nil, or_false] at hu
  rcases hu with rfl | rfl | rfl <;> rfl
theorem undQ : Try.prog.underlying 65 = some (.slice (Try.prog.elem 65)) := by kernel_rfl
theorem szQ : ∀ W, (sizeOf (Try.prog.elem 65)).run Try.prog W = .ok 3 W := fun W => by kernel_rfl
theorem qcut_at {Q : List Qr} {k : Nat} (hk : k < Q.length) : Q = Q.take k ++ Q[k] :: Q.drop (k + 1) := by
  conv => lhs; rw [← List.take_append_drop k Q, List.drop_eq_getElem_cons hk]
theorem QOk.cut {A B : List Qr} {x : Qr} {s s' : Rg} (h : QOk (A ++ x :: B) s) (e1 : s'.rd = upd s.rd x.1 none) (e2 : s'.cnt = s.cnt - 1) : QOk (A ++ B) s' := by
  have hnd := h.nd
  rw [List.map_append, List.map_cons, List.nodup_append] at hnd
  obtain ⟨n1, n2, n3⟩ := hnd
  rw [List.nodup_cons] at n2
  refine ⟨?_, fun id => ?_, by rw [e2, h.cnt]; simp⟩
  · rw [List.map_append, List.nodup_append]
    exact ⟨n1, n2.2, fun a ha b hb => n3 a ha b (List.mem_cons_of_mem _ hb)⟩
  · rw [e1]
    by_cases he : id = x.1
    · subst he
      rw [upd_same]
      have hn : (A ++ B).find? (fun y => y.1 == x.1) = none := by
        rw [List.find?_eq_none]
        intro y hy
        simp only [beq_iff_eq]
        intro e
        rcases List.mem_append.1 hy with hy | hy
        · exact n3 y.1 (List.mem_map.2 ⟨y, hy, rfl⟩) x.1 (List.mem_cons_self ..) e
        · exact n2.1 (List.mem_map.2 ⟨y, hy, e⟩)
      rw [hn]; rfl
    · have hne : (x.1 == id) = false := by simpa using fun e => he e.symm
      rw [upd_other _ _ he, h.rd, List.find?_append, List.find?_append, List.find?_cons, hne]
def mDropP (B p : Nat) (s : Rg) (id : Int) (w : World) (e : Ending) (w' : World) : Prop := ∃ ok s', (e = .returned (.bool ok) ∧ DropR s id ok s' ∧ MS w' B p s') ∧ ChM B w w'
set_option maxHeartbeats 8000000 in
theorem mDrop_any {w : World} {B p : Nat} {vl vq : Value} {L : List Raw} {Q : List Qr} {s : Rg} (id : Int) (h : RM w B p vl vq L Q s) :
    Calls Try.prog 35 #[.pointer (some ⟨p, 0, none⟩), .int .i64 id] w (mDropP B p s id w) := by
  obtain ⟨i0, hi, hz0, hz1, hz2⟩ := info_parts (P := Try.prog) (e := tMq) (z := .agg #[.int .i64 0, .int .i64 0, .int .i64 0]) (size := 3) (bytes := 24) (by kernel_rfl)
  have cF := Find_any id h
  obtain ⟨_, _, c2, _, _, _, dl, df⟩ := h.cells
  have hB := h.low'
  have hq16 := h.qlen
  have H := Lib.hid (And.intro h (And.intro cF (And.intro hB hq16))); clear h cF hB hq16
  go_enter Try.func35, Try.ntmps35
  go_wp2_with fail
  go_at_call 51
  refine H.out.2.1.mono ?_
  rintro e w1 ⟨i, ⟨rfl, hF⟩, rfl⟩
  rcases hF with ⟨k, r, hk, hx, rfl⟩ | ⟨hno, rfl⟩
  · obtain ⟨A, c, rfl, _, _, _⟩ := H.out.1.q.shape
    obtain ⟨n, hn⟩ : ∃ n, n = Q.length := ⟨_, rfl⟩
    rw [← hn] at c2
    have hkn : k < n := by rw [hn]; exact hk
    have hn16 : n ≤ 16 := by rw [hn]; exact H.out.2.2.2
    have hat := Own.at_ (f := rowQ) (k := 3) (fun _ => rfl) H.out.1.q
    rw [← hn] at hat
    obtain ⟨A1, c1, hr1, hat1⟩ := At.upto (P := Try.prog) undQ szQ hat k (by omega)
    obtain ⟨A2, c3, hr2, hat2⟩ := At.from_ (P := Try.prog) undQ szQ hat (k + 1) (by omega)
    simp only [Int.natCast_add, Int.natCast_one] at hr2
    have hw1 : IntKind.i64.wrap ((k : Int) + 1) = (k : Int) + 1 := IntWalk.i64_in _ (by omega)
    obtain ⟨m2, hm2⟩ : ∃ m2, m2 = Q.length - (k + 1) := ⟨_, rfl⟩
    rw [← hm2] at hr2 hat2
    have hl1 : (Q.take k).length = k := by rw [List.length_take]; omega
    have hl2 : (Q.drop (k + 1)).length = m2 := by rw [List.length_drop]; omega
    have hge : ¬ (k : Int) < 0 := by omega
    have hged : decide ((k : Int) < 0) = false := decide_eq_false hge
    have hm16 : m2 ≤ 16 := by omega
    have KM := Lib.hid (And.intro hat1 (And.intro hat2 (And.intro hl1 (And.intro hl2 (And.intro hn hx))))); clear hat hat1 hat2 hl1 hl2 hm2 hn hx
    go_wp2_with fail
    have hpp := Lib.hid (fun X (hb : Below w.heap.size w X) => (H.out.1.later hb).cells)
    go_region_law (first
      | (refine step_append_at rfl (.tmp 18) (.tmp 25) 65 rfl w.heap.size tMq i0 (.agg #[.int .i64 0, .int .i64 0, .int .i64 0]) 3 24 Try.underlying65 hi hz0 hz1 hz2 rfl (by decide) (f := rowQ) (fun _ => rfl) rowQ_one _ (Q.take k) rfl hO6 A2 m2 c3 (Q.drop (k + 1)) KM.out.2.2.2.1.symm rfl (KM.out.2.1.later b6) (by have := KM.out.2.2.1; unfold maxLen; omega) (by have := KM.out.2.2.1; omega) b6.size ?_; intro v7 w7 hO7 hg7; have b7 := own_past b6 hg7 hO6; obtain ⟨A7, n7, c7, rfl⟩ := own_shape hO7; have y2 : w7.cell? ⟨p, 2, none⟩ = some (.slice A n c) := (by rw [b7.cell dl]; exact c2); have yl : p < w7.heap.size := Nat.lt_of_lt_of_le dl b7.size; have yf : w7.frozen? ⟨p, 2, none⟩ = false := (by rw [b7.frozen dl]; exact df 2); have K7 := Lib.hid (And.intro hO7 b7); clear hg7 hO7 b7)
      | (refine step_append_at rfl (.const (.slice none 0 0)) (.tmp 17) 65 rfl w.heap.size tMq i0 (.agg #[.int .i64 0, .int .i64 0, .int .i64 0]) 3 24 Try.underlying65 hi hz0 hz1 hz2 rfl (by decide) (f := rowQ) (fun _ => rfl) rowQ_one _ [] rfl (Own.nil _ _ _ _ _) A1 k c1 (Q.take k) KM.out.2.2.1.symm rfl (KM.out.1.later (by first | exact below_drew (Below.refl _ _) | exact Below.refl _ _)) (by unfold maxLen; simp only [List.length_nil]; omega) (by simp only [List.length_nil]; omega) (Nat.le_refl _) ?_; intro v5 w6 hO6 hg6; rw [List.nil_append] at hO6; have b6 : Below w.heap.size w w6 := own_past (w1 := w.drew) (by first | exact below_drew (Below.refl _ _) | exact Below.refl _ _) hg6 (Own.nil w _ tMq 3 rowQ); obtain ⟨A5, n5, c5, rfl⟩ := own_shape hO6; have x2 : w6.cell? ⟨p, 2, none⟩ = some (.slice A n c) := (by rw [b6.cell dl]; exact c2); clear hg6))
    all_goals go_wp2
    all_goals go_ret
    all_goals
      have hx := KM.out.2.2.2.2.2
      have e := qcut_at hk
      rw [hx] at e
      have hrd := H.out.1.qok.at_ hk
      rw [hx] at hrd
      have hqo := H.out.1.qok
      rw [e] at hqo
      have hN := H.out.1.newQ (s' := { s with cnt := s.cnt - 1, rd := upd s.rd id none }) (below_grown K7.out.2) (K7.out.1.lift H.out.2.2.1) rfl rfl rfl rfl rfl (hqo.cut rfl rfl) (by
        have ho := H.out.1.ok
        refine ⟨ho.room, by show s.cnt - 1 ≤ 16; have := ho.cnt; omega, fun id' r' hr => ?_, ho.edge, ho.total, ho.given, ho.items⟩
        have hr' : upd s.rd id none id' = some r' := hr
        by_cases he : id' = id
        · subst he
          rw [upd_same] at hr'
          cases hr'
        · rw [upd_other _ _ he] at hr'
          exact ho.rd id' r' hr')
      exact ⟨true, _, ⟨rfl, Or.inr ⟨⟨_, hrd⟩, rfl, rfl⟩, ⟨_, _, _, _, hN.1⟩⟩, hN.2⟩
  · have hrd := H.out.1.qok.none_ hno
    have hrd := Lib.hid hrd; clear hno
    go_wp2
    go_ret
    exact ⟨false, s, ⟨rfl, Or.inl ⟨hrd.out, rfl, rfl⟩, ⟨_, _, _, _, H.out.1⟩⟩, ChM.refl _ _⟩
end Go.Proofs.Ytbbjlefldpgckaa
namespace Go.Proofs.Ytbbjlefldpgckaa
open Go.ChangeShapes Go.WideShapes Go.ChangeAt Go.RowKit Go.Maps
open Ev (V3 rightV OkV)
set_option linter.unusedVariables false
set_option linter.unusedSimpArgs false
set_option maxRecDepth 20000

theorem DropR.grow {s s' : Rg} {id : Int} {b : Bool} (h : DropR s id b s') : Grow s s' := by
  rcases h with ⟨_, _, rfl⟩ | ⟨_, _, rfl⟩
  · exact ⟨Nat.le_succ _, Nat.le_succ _, rfl⟩
  · exact ⟨Nat.le_succ _, Nat.le_succ _, rfl⟩
set_option maxHeartbeats 4000000 in
theorem do_drop {w : World} {X : Nat → Prop} {B d p : Nat} {s : Rg} {x : ActD} (h : RX X w B d s) (hm : MS w B p s) (hok : ActOk w x) (hk : x.k % 16 = 8) (hG : s.given < 4000000000000000000) :
    Calls Try.prog 12 #[.pointer (some ⟨d, 0, none⟩), .pointer (some ⟨p, 0, none⟩), actV x] w (DoP X B d p s w) := by
  obtain ⟨vl, vq, L, Q', hm⟩ := hm
  have hx := hok.n
  have ht := hok.t
  have hkk := hok.k
  have e1 : x.k.tmod 16 = x.k % 16 := Int.tmod_eq_emod_of_nonneg (by omega)
  have q1 : ¬ x.k % 16 < 6 := by omega
  have d1 : decide (x.k % 16 < 6) = false := decide_eq_false q1
  have q2 : ¬ x.k % 16 < 8 := by omega
  have d2 : decide (x.k % 16 < 8) = false := decide_eq_false q2
  have d3 : decide (x.k % 16 = 8) = true := decide_eq_true hk
  have d4 : (x.k % 16 == 8) = true := by simpa using hk
  have hi : wfI (x.n % ((s.given : Int) + 2) - x.t % 8 / 7) := by
    have e7 := Int.emod_nonneg x.n (show (s.given : Int) + 2 ≠ 0 by omega)
    have e8 := Int.emod_lt_of_pos x.n (show (0 : Int) < (s.given : Int) + 2 by omega)
    constructor <;> omega
  have hA := Blk.new w 39 #[.int .u8 x.k, .int .u8 x.n, .int .u8 x.t, .bool x.ma, .int .i64 x.tm, .slice x.sv.1 x.sv.2.1 x.sv.2.2]
  obtain ⟨W1, hW1⟩ : ∃ W1, W1 = w.alloc (.cells #[.int .u8 x.k, .int .u8 x.n, .int .u8 x.t, .bool x.ma, .int .i64 x.tm, .slice x.sv.1 x.sv.2.1 x.sv.2.2] 39) := ⟨_, rfl⟩
  have b1 : Below w.heap.size w W1 := by rw [hW1]; exact ba _ _
  rw [← hW1] at hA
  have hBw := hm.low'
  have hi' := Lib.hid hi; clear hi
  have C := Lib.hid (And.intro h (And.intro hm (And.intro hA (And.intro b1 (And.intro hx (And.intro ht (And.intro hBw hG))))))); clear h hm hA b1 hx ht hok hkk hBw hG
  go_enter Try.func12, Try.ntmps12
  go_wp2_with fail
  rw [← hW1]
  clear hW1
  refine wp_of_eq (c' := (((Try.f12.body.bind (regionN 1)).getD .skip))) ?_ (by kernel_rfl)
  refine do1 _ _ _ _ _ _ _ _ _ _ _ _ _ _ _ _ _ _ _ _ _ _ _ _ _ _ _ _ _ _ _ _ _ _ _ _ _ _ _ _ _ _ _ _ _ _ _ _ _ _ _ _ _ _ _ _ _ _ _ _ _ _ _ _ _ _ _ _ _ _ _ _ _ _ _ _ _ _ _ _ _ _ _ _ _ _ _ _ _ _ _ _ _ _ _ _ _ _ _ ((C.out.2.1.later C.out.2.2.2.1).cells.2.2.2.1) (C.out.2.2.1.cell 1) (C.out.2.2.1.cell 2) C.out.2.2.2.2.1 C.out.2.2.2.2.2.1 (Nat.le_of_lt C.out.2.2.2.2.2.2.2) (fun _ _ _ _ _ _ _ _ _ _ _ _ _ _ _ wx hx => ?_)
  have hA2 := C.out.2.2.1.later hx
  have f0 := hA2.cell 0
  have K := Lib.hid (And.intro (bt C.out.2.2.2.1 hx) hA2); clear hx hA2
  go_wp2_with fail
  go_at_call 26
  refine (Drop_any X B d s _ _ hi'.out (C.out.1.later K.out.1).1).mono ?_
  rintro e w3 ⟨n, s', ⟨rfl, hR, hX⟩, hC, _⟩
  obtain ⟨vl3, vq3, L3, Q3, hm3⟩ := (MS.later ⟨_, _, _, _, C.out.2.1⟩ K.out.1).frr hC.frm
  have N := Lib.hid (And.intro hR (And.intro hX (And.intro hm3 hC.bel))); clear hR hX hm3 hC
  go_wp2_with fail
  go_at_call 35
  refine (mDrop_any _ N.out.2.2.1).mono ?_
  rintro e w4 ⟨n', s'', ⟨rfl, hR', hM⟩, hC'⟩
  obtain ⟨h1, h2⟩ := N.out.1.same hR'
  subst h1
  subst h2
  have M := Lib.hid (And.intro hM hC'); clear hR' hM hC'
  go_wp2
  go_ret
  exact ⟨_, ⟨by simp, N.out.2.1.frm M.out.2.frm, M.out.1, N.out.1.grow⟩, ((K.out.1.mono C.out.2.2.2.2.2.2.1).trans N.out.2.2.2).trans M.out.2.bel⟩
end Go.Proofs.Ytbbjlefldpgckaa
namespace Go.Proofs.Ytbbjlefldpgckaa
open Go.ChangeShapes Go.WideShapes Go.ChangeAt Go.RowKit Go.Maps
open Ev (V3 rightV OkV)
set_option linter.unusedVariables false
set_option linter.unusedSimpArgs false
set_option maxRecDepth 20000

set_option maxHeartbeats 4000000 in
theorem do_close {w : World} {X : Nat → Prop} {B d p : Nat} {s : Rg} {x : ActD} (h : RX X w B d s) (hm : MS w B p s) (hok : ActOk w x) (hk : x.k % 16 = 15) (hk2 : 200 < x.t) (hG : s.given < 4000000000000000000) :
    Calls Try.prog 12 #[.pointer (some ⟨d, 0, none⟩), .pointer (some ⟨p, 0, none⟩), actV x] w (DoP X B d p s w) := by
  obtain ⟨vl, vq, L, Q', hm⟩ := hm
  have hx := hok.n
  have ht := hok.t
  have hkk := hok.k
  have e1 : x.k.tmod 16 = x.k % 16 := Int.tmod_eq_emod_of_nonneg (by omega)
  have q1 : ¬ x.k % 16 < 6 := by omega
  have d1 : decide (x.k % 16 < 6) = false := decide_eq_false q1
  have q2 : ¬ x.k % 16 < 8 := by omega
  have d2 : decide (x.k % 16 < 8) = false := decide_eq_false q2
  have q3 : ¬ x.k % 16 = 8 := by omega
  have d3 : decide (x.k % 16 = 8) = false := decide_eq_false q3
  have d3' : (x.k % 16 == 8) = false := by simpa using q3
  have d4 : decide (x.k % 16 = 15) = true := decide_eq_true hk
  have d4' : (x.k % 16 == 15) = true := by simpa using hk
  have d5 : decide (200 < x.t) = true := decide_eq_true hk2
  have hA := Blk.new w 39 #[.int .u8 x.k, .int .u8 x.n, .int .u8 x.t, .bool x.ma, .int .i64 x.tm, .slice x.sv.1 x.sv.2.1 x.sv.2.2]
  obtain ⟨W1, hW1⟩ : ∃ W1, W1 = w.alloc (.cells #[.int .u8 x.k, .int .u8 x.n, .int .u8 x.t, .bool x.ma, .int .i64 x.tm, .slice x.sv.1 x.sv.2.1 x.sv.2.2] 39) := ⟨_, rfl⟩
  have b1 : Below w.heap.size w W1 := by rw [hW1]; exact ba _ _
  rw [← hW1] at hA
  have hBw := hm.low'
  have C := Lib.hid (And.intro h (And.intro hm (And.intro hA (And.intro b1 (And.intro hx (And.intro ht (And.intro hBw hG))))))); clear h hm hA b1 hx ht hok hkk hBw hG
  go_enter Try.func12, Try.ntmps12
  go_wp2_with fail
  rw [← hW1]
  clear hW1
  refine wp_of_eq (c' := (((Try.f12.body.bind (regionN 1)).getD .skip))) ?_ (by kernel_rfl)
  refine do1 _ _ _ _ _ _ _ _ _ _ _ _ _ _ _ _ _ _ _ _ _ _ _ _ _ _ _ _ _ _ _ _ _ _ _ _ _ _ _ _ _ _ _ _ _ _ _ _ _ _ _ _ _ _ _ _ _ _ _ _ _ _ _ _ _ _ _ _ _ _ _ _ _ _ _ _ _ _ _ _ _ _ _ _ _ _ _ _ _ _ _ _ _ _ _ _ _ _ _ ((C.out.2.1.later C.out.2.2.2.1).cells.2.2.2.1) (C.out.2.2.1.cell 1) (C.out.2.2.1.cell 2) C.out.2.2.2.2.1 C.out.2.2.2.2.2.1 (Nat.le_of_lt C.out.2.2.2.2.2.2.2) (fun _ _ _ _ _ _ _ _ _ _ _ _ _ _ _ wx hx => ?_)
  have hA2 := C.out.2.2.1.later hx
  have f0 := hA2.cell 0
  have f2 := hA2.cell 2
  have K := Lib.hid (And.intro (bt C.out.2.2.2.1 hx) hA2); clear hx hA2
  go_wp2_with fail
  go_at_call 29
  refine (Close_any X B d s _ (C.out.1.later K.out.1).1).mono ?_
  rintro e w3 ⟨⟨⟨r, rfl⟩, hX⟩, hC, _⟩
  obtain ⟨vl3, vq3, L3, Q3, hm3⟩ := (MS.later ⟨_, _, _, _, C.out.2.1⟩ K.out.1).frr hC.frm
  obtain ⟨_, _, _, _, y4, _, yl, yf⟩ := hm3.cells
  have N := Lib.hid (And.intro hX (And.intro hm3.shut_ hC.bel)); clear hX hm3 hC
  go_wp2
  go_ret
  exact ⟨{ s with shut := true }, ⟨rfl, N.out.1.frm N.out.2.1.2.frm, ⟨_, _, _, _, N.out.2.1.1⟩, ⟨Nat.le_succ _, Nat.le_succ _, rfl⟩⟩, ((K.out.1.mono C.out.2.2.2.2.2.2.1).trans N.out.2.2).trans N.out.2.1.2.bel⟩
end Go.Proofs.Ytbbjlefldpgckaa
