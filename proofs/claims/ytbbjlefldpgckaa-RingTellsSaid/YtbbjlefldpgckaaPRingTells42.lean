/- Texts of the proof of RingTells, part 42. -/
import Derived.Test.YtbbjlefldpgckaaPRingTells40
import Derived.Test.YtbbjlefldpgckaaPRingTells41
import Derived.Test.YtbbjlefldpgckaaPRingTells35
import Derived.Test.YtbbjlefldpgckaaPRingTells26
import Derived.Test.YtbbjlefldpgckaaPRingTells29
namespace Go.Proofs.Ytbbjlefldpgckaa
open Go.ChangeShapes Go.WideShapes Go.ChangeAt Go.RowKit Go.Maps
open Ev (V3 rightV OkV)
set_option linter.unusedVariables false
set_option linter.unusedSimpArgs false
set_option maxRecDepth 20000

/-- What the law keeps: both rings, of one state, after i acts. -/
structure Rt (w x1 W : World) (d p i : Nat) (s : Rg) : Prop where
  rx : RX (fun _ => False) W x1.heap.size d s
  ms : MS W x1.heap.size p s
  hist : s.hist.length ≤ i
  given : s.given ≤ i
  bel : Below x1.heap.size x1 W
theorem Rt.later {w x1 W W' : World} {d p i : Nat} {s : Rg} (h : Rt w x1 W d p i s) (hb : Below W.heap.size W W') : Rt w x1 W' d p i s :=
  ⟨(h.rx.later hb).1, h.ms.later hb, h.hist, h.given, bt h.bel hb⟩
theorem rt_alike {w x1 W : World} {d p i : Nat} {s : Rg} (h : Rt w x1 W d p i s) (hi : i ≤ 60) :
    Calls Try.prog 13 #[.pointer (some ⟨d, 0, none⟩), .pointer (some ⟨p, 0, none⟩)] W fun e w' => e = .returned (.bool true) ∧ Rt w x1 w' d p i s := by
  obtain ⟨q, hq, hqr⟩ := h.rx.q
  obtain ⟨vl, vq, L, Q, hm⟩ := h.ms
  have ho := hm.ok
  refine (alike_any h.rx.rs hm hq hqr ho.room.2 ho.given (fun x hx => by have := (ho.items x hx).1; omega)).mono ?_
  rintro e w' ⟨he, hb⟩
  exact ⟨he, h.later hb⟩
theorem bad_or (c : Int) : (c < 1 ∨ 256 < c) ∨ ∃ room : Nat, 1 ≤ room ∧ room ≤ 256 ∧ c = (room : Int) := by
  by_cases h : c < 1 ∨ 256 < c
  · exact Or.inl h
  · exact Or.inr ⟨c.toNat, by omega, by omega, by omega⟩
theorem u64_nn (c : Int) : 0 ≤ IntKind.u64.wrap c := by
  show 0 ≤ c % _
  exact Int.emod_nonneg _ (by decide)
set_option maxHeartbeats 4000000 in
theorem tells_bad (c : Int) (v0 : Value) (w : World) (hc : c < 1 ∨ 256 < c) :
    Calls Try.prog 3 #[.int .i64 c, .bool false, v0] w fun e w' => e = .returned (.bool true) ∧ Below w.heap.size w w' := by
  go_enter Try.func3, Try.ntmps3
  go_wp2_with (go_at_call 9; ((with_reducible refine (examples_any _).mono ?_); rintro e x1 ⟨rfl, bx1⟩))
  go_at_call 10
  refine (New_bad c hc _).mono ?_
  rintro e x2 ⟨rfl, b2⟩
  go_wp2_with fail
  go_at_call 11
  refine (mNew_no c hc _).mono ?_
  rintro e x3 ⟨rfl, b3⟩
  go_wp2
  go_ret
  exact ⟨rfl, bt bx1 (bt b2 b3)⟩
set_option maxHeartbeats 4000000 in
theorem tells_good (c : Int) (nb : Bool) (room : Nat) (v0 : Value) (LA : List ActD) (w : World) (r1 : 1 ≤ room) (r2 : room ≤ 256) (hc : (nb = true ∧ 1 + IntKind.u64.wrap c % 5 = (room : Int)) ∨ (nb = false ∧ c = (room : Int))) (h0 : ActsAt w v0 LA) (b0 : LA.length ≤ maxLen ∧ ∀ x ∈ LA, x.vs.length * 32 ≤ 140737488355328) :
    Calls Try.prog 3 #[.int .i64 c, .bool nb, v0] w fun e w' => e = .returned (.bool true) ∧ Below w.heap.size w w' := by
  obtain ⟨A0, n0, rfl, a0, a1, hA0⟩ := h0.1.shape
  obtain ⟨m, hm⟩ : ∃ m, m = min LA.length 60 := ⟨_, rfl⟩
  have hm60 : m ≤ 60 := by omega
  have H := Lib.hid (And.intro h0 (And.intro hm b0.2)); clear h0 hm hA0
  replace b0 := b0.1
  obtain ⟨ql, hq0⟩ : ∃ ql, ql = LA.length := ⟨_, rfl⟩
  rw [← hq0] at b0 a0 H ⊢
  have hqm : ql ≤ 9223372036854775807 := by unfold maxLen at b0; omega
  have hql := Lib.hid hq0; clear hq0
  rcases hc with ⟨rfl, hr⟩ | ⟨rfl, rfl⟩
  · obtain ⟨y, hy⟩ : ∃ y, IntKind.u64.wrap c = y := ⟨_, rfl⟩
    have hy0 : 0 ≤ y := by rw [← hy]; exact u64_nn c
    rw [hy] at hr
    have y5 : y.tmod 5 = y % 5 := Int.tmod_eq_emod_of_nonneg hy0
    have ym : 0 ≤ y % 5 ∧ y % 5 < 5 := by omega
    obtain ⟨z, hz⟩ : ∃ z, y % 5 = z := ⟨_, rfl⟩
    rw [hz] at hr ym y5
    have w1 : IntKind.u64.wrap z = z := by
      rcases (show z = 0 ∨ z = 1 ∨ z = 2 ∨ z = 3 ∨ z = 4 by omega) with e | e | e | e | e <;> rw [e] <;> decide
    have w2 : IntKind.i64.wrap z = z := IntWalk.i64_in _ (by omega)
    have w3 : IntKind.i64.wrap (1 + z) = (room : Int) := by rw [hr]; exact IntWalk.i64_in _ (by omega)
    clear hr
    go_enter Try.func3, Try.ntmps3
    go_wp2_with (go_at_call 9; ((with_reducible refine (examples_any _).mono ?_); rintro e x1 ⟨rfl, bx1⟩))
    have B1 := Lib.hid bx1; clear bx1
    go_at_call 10
    refine (New_any room r1 r2 _).mono ?_
    rintro e x2 ⟨d, ⟨rfl, hS⟩, b2⟩
    have K2 := Lib.hid (And.intro hS b2); clear hS b2
    go_wp2_with fail
    go_at_call 11
    refine (mNew_any room r1 r2 _).mono ?_
    rintro e x3 ⟨p, ⟨rfl, hM⟩, b3⟩
    have K3 := Lib.hid (⟨(RX.later K2.out.1.rx b3).1, hM.weak K2.out.2.size, Nat.zero_le _, Nat.zero_le _, bt K2.out.2 b3⟩ : Rt w x1 x3 d p 0 (g0 room)); clear hM b3 K2
    go_wp2_with fail
    go_loopw [12] (fun iv wr => ∃ (i : Nat) (s : Rg), i ≤ m ∧ iv = .int .i64 (i : Int) ∧ Rt w x1 wr d p i s) (fun i _ => m - (intOf i).toNat)
    case atStart => exact ⟨0, _, Nat.zero_le _, rfl, K3.out⟩
    case round =>
      clear K3
      obtain ⟨i, s, hi, rfl, hK⟩ := hrel
      have K := Lib.hid hK; clear hK
      by_cases hlt : i < ql ∧ i < 60
      · obtain ⟨c1, c2⟩ := hlt
        have him : i < m := by have := H.out.2.1; have := hql.out; omega
        have hil : i < LA.length := by rw [← hql.out]; exact c1
        obtain ⟨aa, rfl⟩ : ∃ aa, A0 = some aa := by
          obtain ⟨A, c', hv, _, _, hA0', _⟩ := H.out.1.1
          cases A0 with
          | some aa => exact ⟨aa, rfl⟩
          | none =>
            simp only [Value.slice.injEq] at hv
            obtain ⟨rfl, rfl, rfl⟩ := hv
            have := hA0' rfl
            omega
        have hAw := Lib.hid (H.out.1.1.later (bt B1.out K.out.bel))
        have hok := Lib.hid (And.intro (H.out.1.2 _ (List.getElem_mem hil)) (H.out.2.2 _ (List.getElem_mem hil)))
        obtain ⟨p0, p1, p2, p3, p4, p5⟩ := act_cells hAw.out i hil
        obtain ⟨x, hx⟩ : ∃ x, LA[i]'hil = x := ⟨_, rfl⟩
        rw [hx] at p0 p1 p2 p3 p4 p5 hok
        clear hx
        go_wp2_with fail
        go_at_call 12
        refine (do_any K.out.rx K.out.ms hok.out.1 B1.out.size (bt B1.out K.out.bel) hok.out.2 (by have := K.out.given; omega) (by have := K.out.hist; omega)).mono ?_
        rintro e x5 ⟨s', ⟨rfl, hX, hM, hg1, hg2, hg3⟩, hb⟩
        have K5 := Lib.hid (⟨hX, hM, Nat.le_trans hg1 (Nat.succ_le_succ K.out.hist), Nat.le_trans hg2 (Nat.succ_le_succ K.out.given), K.out.bel.trans hb⟩ : Rt w x1 x5 d p (i + 1) s'); clear hX hM hg1 hg2 hg3 hb
        go_wp2_with fail
        go_at_call 13
        refine (rt_alike K5.out (by omega)).mono ?_
        rintro e x6 ⟨rfl, hK6⟩
        have K6 := Lib.hid hK6; clear hK6 K5
        go_wp2
        go_roundw
        case rel => exact ⟨i + 1, s', by omega, by go_num, K6.out⟩
        case measure => simp [intOf]; omega
      · have hway : ¬ i < ql ∨ (i < ql ∧ ¬ i < 60) := by omega
        clear hlt
        rcases hway with c1 | ⟨c1, c2⟩
        all_goals
          go_wp2
          go_ret
          exact ⟨rfl, bt B1.out K.out.bel⟩
  · go_enter Try.func3, Try.ntmps3
    go_wp2_with (go_at_call 9; ((with_reducible refine (examples_any _).mono ?_); rintro e x1 ⟨rfl, bx1⟩))
    have B1 := Lib.hid bx1; clear bx1
    go_at_call 10
    refine (New_any room r1 r2 _).mono ?_
    rintro e x2 ⟨d, ⟨rfl, hS⟩, b2⟩
    have K2 := Lib.hid (And.intro hS b2); clear hS b2
    go_wp2_with fail
    go_at_call 11
    refine (mNew_any room r1 r2 _).mono ?_
    rintro e x3 ⟨p, ⟨rfl, hM⟩, b3⟩
    have K3 := Lib.hid (⟨(RX.later K2.out.1.rx b3).1, hM.weak K2.out.2.size, Nat.zero_le _, Nat.zero_le _, bt K2.out.2 b3⟩ : Rt w x1 x3 d p 0 (g0 room)); clear hM b3 K2
    go_wp2_with fail
    go_loopw [12] (fun iv wr => ∃ (i : Nat) (s : Rg), i ≤ m ∧ iv = .int .i64 (i : Int) ∧ Rt w x1 wr d p i s) (fun i _ => m - (intOf i).toNat)
    case atStart => exact ⟨0, _, Nat.zero_le _, rfl, K3.out⟩
    case round =>
      clear K3
      obtain ⟨i, s, hi, rfl, hK⟩ := hrel
      have K := Lib.hid hK; clear hK
      by_cases hlt : i < ql ∧ i < 60
      · obtain ⟨c1, c2⟩ := hlt
        have him : i < m := by have := H.out.2.1; have := hql.out; omega
        have hil : i < LA.length := by rw [← hql.out]; exact c1
        obtain ⟨aa, rfl⟩ : ∃ aa, A0 = some aa := by
          obtain ⟨A, c', hv, _, _, hA0', _⟩ := H.out.1.1
          cases A0 with
          | some aa => exact ⟨aa, rfl⟩
          | none =>
            simp only [Value.slice.injEq] at hv
            obtain ⟨rfl, rfl, rfl⟩ := hv
            have := hA0' rfl
            omega
        have hAw := Lib.hid (H.out.1.1.later (bt B1.out K.out.bel))
        have hok := Lib.hid (And.intro (H.out.1.2 _ (List.getElem_mem hil)) (H.out.2.2 _ (List.getElem_mem hil)))
        obtain ⟨p0, p1, p2, p3, p4, p5⟩ := act_cells hAw.out i hil
        obtain ⟨x, hx⟩ : ∃ x, LA[i]'hil = x := ⟨_, rfl⟩
        rw [hx] at p0 p1 p2 p3 p4 p5 hok
        clear hx
        go_wp2_with fail
        go_at_call 12
        refine (do_any K.out.rx K.out.ms hok.out.1 B1.out.size (bt B1.out K.out.bel) hok.out.2 (by have := K.out.given; omega) (by have := K.out.hist; omega)).mono ?_
        rintro e x5 ⟨s', ⟨rfl, hX, hM, hg1, hg2, hg3⟩, hb⟩
        have K5 := Lib.hid (⟨hX, hM, Nat.le_trans hg1 (Nat.succ_le_succ K.out.hist), Nat.le_trans hg2 (Nat.succ_le_succ K.out.given), K.out.bel.trans hb⟩ : Rt w x1 x5 d p (i + 1) s'); clear hX hM hg1 hg2 hg3 hb
        go_wp2_with fail
        go_at_call 13
        refine (rt_alike K5.out (by omega)).mono ?_
        rintro e x6 ⟨rfl, hK6⟩
        have K6 := Lib.hid hK6; clear hK6 K5
        go_wp2
        go_roundw
        case rel => exact ⟨i + 1, s', by omega, by go_num, K6.out⟩
        case measure => simp [intOf]; omega
      · have hway : ¬ i < ql ∨ (i < ql ∧ ¬ i < 60) := by omega
        clear hlt
        rcases hway with c1 | ⟨c1, c2⟩
        all_goals
          go_wp2
          go_ret
          exact ⟨rfl, bt B1.out K.out.bel⟩
theorem walk_RingTells (c : Int) (nb : Bool) (v0 : Value) (LA : List ActD) (w : World) (c0 : -9223372036854775808 ≤ c) (c1 : c ≤ 9223372036854775807) (h0 : ActsAt w v0 LA) (b0 : LA.length ≤ maxLen ∧ ∀ x ∈ LA, x.vs.length * 32 ≤ 140737488355328) :
    Calls Try.prog 3 #[.int .i64 c, .bool nb, v0] w fun e w' => e = .returned (.bool true) ∧ Below w.heap.size w w' := by
  cases nb with
  | true => exact tells_good c true (1 + IntKind.u64.wrap c % 5).toNat v0 LA w (by have := u64_nn c; omega) (by have := u64_nn c; omega) (Or.inl ⟨rfl, by have := u64_nn c; omega⟩) h0 b0
  | false =>
    rcases bad_or c with hc | ⟨room, r1, r2, rfl⟩
    · exact tells_bad c v0 w hc
    · exact tells_good _ false room v0 LA w r1 r2 (Or.inr ⟨rfl, rfl⟩) h0 b0
end Go.Proofs.Ytbbjlefldpgckaa
