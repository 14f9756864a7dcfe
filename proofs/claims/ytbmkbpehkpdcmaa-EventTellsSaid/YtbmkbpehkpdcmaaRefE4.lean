/- Contracts of the document's own answer to chapter 4: Plain, Right, Same, SameItem. -/
import Derived.Test.YtbmkbpehkpdcmaaRefV
import Derived.Test.YtbmkbpehkpdcmaaEventI
namespace Go.Proofs.Ytbmkbpehkpdcmaa
open Go.ChangeShapes Go.WideShapes Go.ChangeAt Go.RowKit
open Ev (V3 rightV OkV)
set_option linter.unusedVariables false
set_option linter.unusedSimpArgs false

theorem rall_take {l : List V3} {k : Nat} (h : k < l.length) (ha : (l.take k).all rightV = true) (hk : rightV (l[k]'h) = true) : (l.take (k + 1)).all rightV = true := by
  rw [List.take_succ_eq_append_getElem h, List.all_append, ha]
  simp [hk]
theorem rall_not {l : List V3} {k : Nat} (h : k < l.length) (hk : rightV (l[k]'h) = false) : l.all rightV = false := by
  rw [List.all_eq_false]
  exact ⟨_, List.getElem_mem h, by rw [hk]; decide⟩
set_option maxHeartbeats 1000000 in
theorem rPlain_any (t : Int) (v : Value) (l : List V3) (w : World) (hv : ValsAt w v l) (hs : ∀ x ∈ l, x.2.2.size ≤ maxLen) :
    Calls Try.prog 21 #[ev t v] w fun e w' => e = .returned (.bool (Ev.plain t l)) ∧ Below w.heap.size w w' := by
  obtain ⟨A, cap, rfl, h1, h2, h3⟩ := hv
  obtain ⟨n, hn⟩ : ∃ n, n = l.length := ⟨_, rfl⟩
  have hp : Ev.plain t l = (decide (0 ≤ t) && decide (t ≤ 2305843009213693952) && decide (n ≤ 6) && l.all rightV) := by rw [hn]; rfl
  rw [hp, ← hn]
  rw [← hn] at h1
  clear hp
  have hm : n ≤ 9223372036854775807 := by unfold maxLen at h2; omega
  have bA := ba w (.cells #[.int .i64 t, .slice A n cap] 44)
  have hB := Blk.new w 44 #[.int .i64 t, .slice A n cap]
  have H := Lib.hid (And.intro h3 (And.intro hs (And.intro bA (And.intro hB hn)))); clear h3 hs bA hB
  by_cases c1 : t < 0
  · have q1 : decide (0 ≤ t) = false := decide_eq_false (by omega)
    rw [q1]
    clear hn
    go_enter Try.func21, Try.ntmps21
    go_wp2
    go_ret
    exact ⟨rfl, H.out.2.2.1⟩
  · have q1 : decide (0 ≤ t) = true := decide_eq_true (by omega)
    rw [q1]
    by_cases c2 : 2305843009213693952 < t
    · have q2 : decide (t ≤ 2305843009213693952) = false := decide_eq_false (by omega)
      rw [q2]
      clear hn
      go_enter Try.func21, Try.ntmps21
      go_wp2
      go_ret
      exact ⟨rfl, H.out.2.2.1⟩
    · have q2 : decide (t ≤ 2305843009213693952) = true := decide_eq_true (by omega)
      rw [q2]
      by_cases c3 : 6 < n
      · have q3 : decide (n ≤ 6) = false := decide_eq_false (by omega)
        rw [q3]
        clear hn
        go_enter Try.func21, Try.ntmps21
        go_wp2
        go_ret
        exact ⟨rfl, H.out.2.2.1⟩
      · have q3 : decide (n ≤ 6) = true := decide_eq_true (by omega)
        rw [q3]
        have c3' : n ≤ 6 := by omega
        clear hn q1 q2 q3
        simp only [Bool.and_self, Bool.true_and]
        go_enter Try.func21, Try.ntmps21
        go_wp2
        go_loopw [3] (fun i wr => ∃ k : Nat, k ≤ n ∧ i = .int .i64 k ∧ (l.take k).all rightV = true ∧ Below w.heap.size w wr ∧ Blk wr w.heap.size 44 #[.int .i64 t, .slice A n cap]) (fun i _ => n - (intOf i).toNat)
        case atStart => exact ⟨0, Nat.zero_le _, rfl, by simp, H.out.2.2.1, H.out.2.2.2.1⟩
        case round =>
          obtain ⟨k, hk, rfl, hall, hb, hB⟩ := hrel
          obtain ⟨z0, z1⟩ := hB.two
          have K := Lib.hid (And.intro hall (And.intro hb hB)); clear hall hb hB
          by_cases hlt : k < n
          · have hll : k < l.length := by rw [← H.out.2.2.2.2]; exact hlt
            obtain ⟨a, rfl, hc⟩ := H.out.1 (by omega)
            obtain ⟨d0, d1, d2⟩ := (hc k hll).later K.out.2.1
            have E := Lib.hid (And.intro (fun h => rall_take hll K.out.1 h) (And.intro (fun h => rall_not hll h) (H.out.2.1 _ (List.getElem_mem hll)))); clear hc
            generalize hx : l[k]'hll = x at *
            obtain ⟨x1, x2, x3⟩ := x
            simp only at d0 d1 d2
            clear hx
            rcases hr : Val.right x1 x2 x3 with _ | _
            · have hr := Lib.hid hr
              go_wp2_with (go_at_call 36; ((refine (rRight_any x1 x2 x3 _ E.out.2.2).mono ?_); rintro e w1 ⟨he, hb⟩; rw [hr.out] at he; subst he; have K1 := Lib.hid (K.out.2.1.trans (hb.mono K.out.2.1.size)); clear hb))
              go_ret
              exact ⟨by rw [E.out.2.1 hr.out]; rfl, K1.out⟩
            · have hr := Lib.hid hr
              go_wp2_with (go_at_call 36; ((refine (rRight_any x1 x2 x3 _ E.out.2.2).mono ?_); rintro e w1 ⟨he, hb⟩; rw [hr.out] at he; subst he; have K1 := Lib.hid (And.intro (K.out.2.1.trans (hb.mono K.out.2.1.size)) (K.out.2.2.later hb)); clear hb))
              go_roundw
              case rel => exact ⟨k + 1, by omega, by go_num, E.out.1 hr.out, K1.out.1, K1.out.2⟩
              case measure => simp [intOf]; omega
          · obtain rfl : k = n := by omega
            go_wp2
            go_ret
            refine ⟨?_, K.out.2.1⟩
            have h1 := K.out.1
            rw [List.take_of_length_le (by rw [← H.out.2.2.2.2]; exact Nat.le_refl _)] at h1
            rw [h1]; rfl
theorem rRight_i (m : Bool) (t : Int) (v : Value) (l : List V3) (w : World) (hv : ValsAt w v l) (hs : ∀ x ∈ l, x.2.2.size ≤ maxLen) :
    Calls Try.prog 23 #[item m t v] w fun e w' => e = .returned (.bool (Ev.rightI m t l)) ∧ Below w.heap.size w w' := by
  have bA := ba w (.cells #[.bool m, .int .i64 t, v] 46)
  have cP := fun (w0 : World) (b : Below w.heap.size w w0) => rPlain_any t v l w0 (hv.later b) hs
  have B0 := Box3.new w (.bool m) (.int .i64 t) v 46
  obtain ⟨A, cap, rfl, h1, h2, h3⟩ := hv
  have hm : l.length ≤ 9223372036854775807 := by unfold maxLen at h2; omega
  have H := Lib.hid (And.intro cP B0); clear cP B0 h3 hs
  have hr : Ev.rightI m t l = (Ev.plain t l && (!m || decide (l.length = 0))) := rfl
  rw [hr]; clear hr
  generalize Ev.plain t l = p at *
  cases p
  · go_enter Try.func23, Try.ntmps23
    go_wp2_with (go_at_call 21; ((with_reducible refine (H.out.1 _ bA).mono ?_); rintro e w1 ⟨rfl, b1⟩; obtain ⟨c0, c1, c2⟩ := H.out.2.later b1))
    go_ret
    exact ⟨by simp, bt bA b1⟩
  · cases m
    · go_enter Try.func23, Try.ntmps23
      go_wp2_with (go_at_call 21; ((with_reducible refine (H.out.1 _ bA).mono ?_); rintro e w1 ⟨rfl, b1⟩; obtain ⟨c0, c1, c2⟩ := H.out.2.later b1))
      go_ret
      exact ⟨by simp, bt bA b1⟩
    · go_enter Try.func23, Try.ntmps23
      go_wp2_with (go_at_call 21; ((with_reducible refine (H.out.1 _ bA).mono ?_); rintro e w1 ⟨rfl, b1⟩; obtain ⟨c0, c1, c2⟩ := H.out.2.later b1))
      go_ret
      have hh : (((l.length : Nat) : Int) == 0) = decide (l.length = 0) := by rw [Bool.eq_iff_iff]; simp
      exact ⟨by simp [hh], bt bA b1⟩
set_option maxHeartbeats 1000000 in
theorem rSame_any (t : Int) (v : Value) (l : List V3) (t' : Int) (u : Value) (m : List V3) (w : World) (hv : ValsAt w v l) (hu : ValsAt w u m) :
    Calls Try.prog 16 #[ev t v, ev t' u] w fun e w' => e = .returned (.bool (decide (t = t') && decide (l = m))) ∧ Below w.heap.size w w' := by
  obtain ⟨A, cap, rfl, h1, h2, h3⟩ := hv
  obtain ⟨B, dap, rfl, k1, k2, k3⟩ := hu
  obtain ⟨n, hn0⟩ : ∃ n, n = l.length := ⟨_, rfl⟩
  obtain ⟨n', hn0'⟩ : ∃ n', n' = m.length := ⟨_, rfl⟩
  rw [← hn0] at h1
  rw [← hn0'] at k1
  rw [← hn0, ← hn0']
  have hm : n ≤ 9223372036854775807 := by unfold maxLen at h2; omega
  have hm' : n' ≤ 9223372036854775807 := by unfold maxLen at k2; omega
  have bA : Below w.heap.size w ((w.alloc (.cells #[.int .i64 t, .slice A n cap] 44)).alloc (.cells #[.int .i64 t', .slice B n' dap] 44)) := bt (ba _ _) (ba _ _)
  have hB1 := (Blk.new w 44 #[.int .i64 t, .slice A n cap]).alloc (.cells #[.int .i64 t', .slice B n' dap] 44)
  have hB2 := Blk.new (w.alloc (.cells #[.int .i64 t, .slice A n cap] 44)) 44 #[.int .i64 t', .slice B n' dap]
  rw [World.size_alloc] at hB2
  have HL := Lib.hid (And.intro hn0 hn0'); clear hn0 hn0'
  have H := Lib.hid (And.intro h3 (And.intro k3 (And.intro bA (And.intro hB1 hB2)))); clear h3 k3 bA hB1 hB2
  by_cases ht : t = t'
  · subst ht
    rw [decide_eq_true rfl]
    by_cases hn : n = n'
    · subst hn
      go_enter Try.func16, Try.ntmps16
      go_wp2
      go_loopw [5] (fun i wr => ∃ k : Nat, k ≤ n ∧ i = .int .i64 k ∧ l.take k = m.take k ∧ Below w.heap.size w wr ∧ Blk wr w.heap.size 44 #[.int .i64 t, .slice A n cap] ∧ Blk wr (w.heap.size + 1) 44 #[.int .i64 t, .slice B n dap]) (fun i _ => n - (intOf i).toNat)
      case atStart => exact ⟨0, Nat.zero_le _, rfl, rfl, H.out.2.2.1, H.out.2.2.2.1, H.out.2.2.2.2⟩
      case round =>
        obtain ⟨k, hk, rfl, hall, hb, hB1, hB2⟩ := hrel
        obtain ⟨y0, y1⟩ := hB1.two
        obtain ⟨z0, z1⟩ := hB2.two
        have K := Lib.hid (And.intro hall (And.intro hb (And.intro hB1 hB2))); clear hall hb hB1 hB2
        by_cases hlt : k < n
        · have hll : k < l.length := by rw [← HL.out.1]; exact hlt
          have hlm : k < m.length := by rw [← HL.out.2]; exact hlt
          have hlen : l.length = m.length := by rw [← HL.out.1]; exact HL.out.2
          obtain ⟨a, rfl, hc⟩ := H.out.1 (by omega)
          obtain ⟨b, rfl, hd⟩ := H.out.2.1 (by omega)
          have q1 := (hc k hll).later K.out.2.1
          have q2 := (hd k hlm).later K.out.2.1
          have e1 : (l[k]'hll).1 = (m[k]'hlm).1 ∧ (l[k]'hll).2.1 = (m[k]'hlm).2.1 ∧ (l[k]'hll).2.2 = (m[k]'hlm).2.2 → l.take (k + 1) = m.take (k + 1) := fun h => take_same hlen hll K.out.1 ((sameV _ _).2 h)
          have e2 : ¬ ((l[k]'hll).1 = (m[k]'hlm).1 ∧ (l[k]'hll).2.1 = (m[k]'hlm).2.1 ∧ (l[k]'hll).2.2 = (m[k]'hlm).2.2) → decide (l = m) = false := fun h => decide_eq_false (not_same hlen hll (fun h' => h ((sameV _ _).1 h')))
          clear hc hd hlen
          generalize (l[k]'hll).1 = x1 at *
          generalize (l[k]'hll).2.1 = y1' at *
          generalize (l[k]'hll).2.2 = z1' at *
          generalize (m[k]'_).1 = x2 at *
          generalize (m[k]'_).2.1 = y2 at *
          generalize (m[k]'_).2.2 = z2 at *
          obtain ⟨c0, c1, c2⟩ := q1
          obtain ⟨d0, d1, d2⟩ := q2
          rcases same3 x1 y1' z1' x2 y2 z2 with ⟨rfl, rfl, rfl⟩ | ⟨hne, hway⟩
          · have HE := Lib.hid (e1 ⟨rfl, rfl, rfl⟩); clear e1 e2
            go_wp2
            go_quiet (fail)
            go_wp2
            go_roundw
            case rel => exact ⟨k + 1, by omega, by go_num, HE.out, below_drewN K.out.2.1 _, K.out.2.2.1, K.out.2.2.2⟩
            case measure => simp [intOf]; omega
          · have HE := Lib.hid (e2 hne); clear e1 e2 hne
            rcases hway with h | h | ⟨h, hb⟩
            all_goals
              go_wp2
              go_quiet (fail)
              go_wp2
              go_ret
              exact ⟨by rw [HE.out]; rfl, below_drewN K.out.2.1 _⟩
        · have hE : decide (l = m) = true := decide_eq_true (by have h1 := K.out.1; have h2 := HL.out.1; have h3 := HL.out.2; rwa [List.take_of_length_le (by omega), List.take_of_length_le (by omega)] at h1)
          have HE := Lib.hid hE; clear hE
          go_wp2
          go_ret
          exact ⟨by rw [HE.out]; rfl, K.out.2.1⟩
    · have hE : decide (l = m) = false := decide_eq_false (fun h => hn (by rw [HL.out.1, HL.out.2, h]))
      have HE := Lib.hid hE; clear hE
      have hn' : ¬ (n : Int) = (n' : Int) := by omega
      clear hn
      go_enter Try.func16, Try.ntmps16
      go_wp2
      go_ret
      exact ⟨by rw [HE.out]; rfl, H.out.2.2.1⟩
  · rw [decide_eq_false ht]
    have htb : (t == t') = false := by simpa using ht
    go_enter Try.func16, Try.ntmps16
    go_wp2
    go_ret
    exact ⟨rfl, H.out.2.2.1⟩
end Go.Proofs.Ytbmkbpehkpdcmaa
