/- HoldDue: what is due at two times, one behind the other, is what is due at the later one at once. -/
import Derived.Test.YticjfhagpmlieaaWalkHoldCut
namespace Go.Proofs.Yticjfhagpmlieaa
open Go.ChangeShapes Go.WideShapes Go.ChangeAt Go.RowKit
open Ho
set_option linter.unusedVariables false
set_option linter.unusedSimpArgs false

theorem findIdx_le {α : Type} (p q : α → Bool) : ∀ (l : List α), (∀ x ∈ l, q x = true → p x = true) → l.findIdx p ≤ l.findIdx q
  | [], _ => by simp
  | x :: r, h => by
    have ih := findIdx_le p q r (fun y hy => h y (List.mem_cons_of_mem _ hy))
    rw [List.findIdx_cons, List.findIdx_cons]
    cases hp : p x <;> cases hq : q x
    · simpa using ih
    · have := h x (List.mem_cons_self ..) hq
      rw [hp] at this; cases this
    · simp
    · simp
theorem dpos_le2 (T : List D) {a b : Int} (h : a ≤ b) : dpos a T ≤ dpos b T :=
  findIdx_le _ _ T (fun x _ hx => by simp only [decide_eq_true_eq] at hx ⊢; omega)
theorem dpos_drop (T : List D) {a b : Int} (h : a ≤ b) : dpos b (T.drop (dpos a T)) = dpos b T - dpos a T := by
  have h1 := dpos_le2 T h
  have h2 := dpos_le b T
  refine find_at _ _ _ (by rw [List.length_drop]; omega) (fun j hj hlt => ?_) (fun hlt => ?_)
  · rw [List.getElem_drop]
    have := List.not_of_lt_findIdx (show dpos a T + j < T.findIdx (fun e => decide (b ≤ e.1)) by unfold dpos at hlt ⊢; omega)
    simpa using this
  · rw [List.getElem_drop]
    rw [List.length_drop] at hlt
    have hl : dpos b T < T.length := by omega
    have := List.findIdx_getElem (xs := T) (p := fun e : D => decide (b ≤ e.1)) (w := hl)
    have e : dpos a T + (dpos b T - dpos a T) = dpos b T := by omega
    simp only [e]
    exact this
/-- What is due at a, and then at b, is what is due at b; so is what is left. -/
theorem due_twice (T : List D) {a b : Int} (h : a ≤ b) : T.take (dpos a T) ++ (T.drop (dpos a T)).take (dpos b (T.drop (dpos a T))) = T.take (dpos b T) ∧ (T.drop (dpos a T)).drop (dpos b (T.drop (dpos a T))) = T.drop (dpos b T) := by
  have h1 := dpos_le2 T h
  rw [dpos_drop T h]
  have e : dpos a T + (dpos b T - dpos a T) = dpos b T := by omega
  constructor
  · conv => rhs; rw [← e, List.take_add]
  · rw [List.drop_drop, e]
theorem due_before (T : List D) (b : Int) (x : D) (h : x ∈ T.take (dpos b T)) : x.1 < b := by
  obtain ⟨j, hj, rfl⟩ := List.getElem_of_mem h
  rw [List.getElem_take]
  rw [List.length_take] at hj
  have := List.not_of_lt_findIdx (show j < T.findIdx (fun e => decide (b ≤ e.1)) by unfold dpos at hj; omega)
  have h9 : ¬ b ≤ (T[j]'(by omega)).1 := by simpa using this
  omega
theorem due_behind {T : List D} (hs : Sorted T) (b : Int) (x : D) (h : x ∈ T.drop (dpos b T)) : b ≤ x.1 := by
  obtain ⟨j, hj, rfl⟩ := List.getElem_of_mem h
  rw [List.length_drop] at hj
  rw [List.getElem_drop]
  have hl : dpos b T < T.length := by omega
  have := List.findIdx_getElem (xs := T) (p := fun e : D => decide (b ≤ e.1)) (w := hl)
  exact dpos_mono hs b (i := dpos b T) hl (by omega) (by omega) (of_decide_eq_true this)
theorem flk_sorted (L : List Ac) : ∀ k, Sorted (flk L k)
  | 0 => by unfold flk; simp [Sorted]
  | k + 1 => by
    by_cases h : k < L.length
    · rw [flk_succ L k h]; exact sorted_ins (flk_sorted L k) _
    · have e : flk L (k + 1) = flk L k := by unfold flk; rw [List.take_of_length_le (by omega), List.take_of_length_le (by omega)]
      rw [e]; exact flk_sorted L k
theorem Row.mem {w W : World} {v : Value} {T : List D} (h : Row w W v T) : ∃ (A : Option Addr) (c : Nat), v = .slice A T.length c ∧ T.length ≤ maxLen := by
  obtain ⟨l, B, h1, h2, h3⟩ := h
  obtain ⟨A, c, rfl, _, a, b⟩ := h1.shape
  have e : l.length = T.length := by rw [← h2, List.length_map]
  exact ⟨A, c, by rw [e], by omega⟩
set_option maxRecDepth 20000 in
set_option maxHeartbeats 8000000 in
theorem walk_due (v0 : Value) (L : List Ac) (p0 q0 a b : Int) (w : World) (h0 : ActsR w v0 L) (b0 : L.length * 48 ≤ 140737488355328 ∧ ∀ a ∈ L, Fit a.p) (hab : a ≤ b) (hpq : (p0 ≤ q0 ∧ a = p0 ∧ b = q0) ∨ (¬ p0 ≤ q0 ∧ a = q0 ∧ b = p0)) :
    Calls Try.prog 5 #[v0, .int .i64 p0, .int .i64 q0] w fun e w' => e = .returned (.bool true) ∧ Below w.heap.size w w' := by
  obtain ⟨j0, hj, hy0, hy1, hy2⟩ := info_parts (P := Try.prog) (e := 35) (z := .agg #[.int .i64 0, .slice none 0 0, .int .i64 0]) (size := 3) (bytes := 40) (by kernel_rfl)
  have hA := h0.ok b0.2
  obtain ⟨A, c, rfl, a1, a2, _⟩ := hA.1.shape
  obtain ⟨m, hm⟩ : ∃ m, m = min L.length 30 := ⟨_, rfl⟩
  obtain ⟨T, hT⟩ : ∃ T, T = flk L m := ⟨_, rfl⟩
  have hTl : T.length = m := by rw [hT]; exact flk_len L m (by omega)
  have hm30 : m ≤ 30 := by omega
  have cF : ∀ W, Below w.heap.size w W → Calls Try.prog 25 #[.slice A L.length c] W (fun e w' => ∃ d, (e = .returned (.pointer (some ⟨d, 0, none⟩)) ∧ HX (fun _ => False) w' W.heap.size d T) ∧ Below W.heap.size W w') := fun W hW => by
    have := filled_any _ L W (hA.later hW)
    unfold FilP at this
    rw [← hm, ← hT] at this
    exact this
  have hmin : (if (30 : Int) < (L.length : Int) then (30 : Int) else (L.length : Int)) = (m : Int) := by split <;> omega
  have hLm : L.length ≤ 9223372036854775807 := by omega
  obtain ⟨n1, hn1⟩ : ∃ n1, n1 = T.take (dpos a T) := ⟨_, rfl⟩
  obtain ⟨r1, hr1⟩ : ∃ r1, r1 = T.drop (dpos a T) := ⟨_, rfl⟩
  obtain ⟨n2, hn2⟩ : ∃ n2, n2 = r1.take (dpos b r1) := ⟨_, rfl⟩
  obtain ⟨n3, hn3⟩ : ∃ n3, n3 = T.take (dpos b T) := ⟨_, rfl⟩
  obtain ⟨r3, hr3⟩ : ∃ r3, r3 = T.drop (dpos b T) := ⟨_, rfl⟩
  have ht := due_twice T hab
  have e12 : n1 ++ n2 = n3 := by rw [hn1, hn2, hr1, hn3]; exact ht.1
  have er2 : r1.drop (dpos b r1) = r3 := by rw [hr1, hr3]; exact ht.2
  have hlen3 : n3.length + r3.length = m := by rw [hn3, hr3, ← hTl, List.length_take, List.length_drop]; have := dpos_le b T; omega
  have hlt3 : ∀ x ∈ n3, x.1 < b := fun x hx => due_before T b x (by rw [← hn3]; exact hx)
  have hge3 : ∀ x ∈ r3, b ≤ x.1 := fun x hx => due_behind (T := T) (by rw [hT]; exact flk_sorted _ _) b x (by rw [← hr3]; exact hx)
  have cD1 : ∀ (Z : Nat → Prop) x W d1 d2 T2, Two Z x W d1 d2 T T2 → Calls Try.prog 16 #[.pointer (some ⟨d1, 0, none⟩), .int .i64 a] W (DueP Z x d1 d2 n1 r1 T2 W) := fun Z x W d1 d2 T2 h => by rw [hn1, hr1]; exact h.due1 a
  have cD2 : ∀ (Z : Nat → Prop) x W d1 d2 T2, Two Z x W d1 d2 r1 T2 → Calls Try.prog 16 #[.pointer (some ⟨d1, 0, none⟩), .int .i64 b] W (DueP Z x d1 d2 n2 r3 T2 W) := fun Z x W d1 d2 T2 h => by rw [hn2, ← er2]; exact h.due1 b
  have cD3 : ∀ (Z : Nat → Prop) x W d1 d2 T2, Two Z x W d1 d2 T T2 → Calls Try.prog 16 #[.pointer (some ⟨d1, 0, none⟩), .int .i64 b] W (DueP Z x d1 d2 n3 r3 T2 W) := fun Z x W d1 d2 T2 h => by rw [hn3, hr3]; exact h.due1 b
  have hr30 : r3.length ≤ 9223372036854775807 := by omega
  have hl12 : n1.length + n2.length = n3.length := by rw [← e12, List.length_append]
  have H := Lib.hid (And.intro cF (And.intro hTl (And.intro hm30 (And.intro cD1 (And.intro cD2 (And.intro cD3 (And.intro e12 (And.intro hlen3 (And.intro hlt3 (And.intro hge3 hl12))))))))))
  clear cF hA h0 b0 hTl a1 a2 hT hm cD1 cD2 cD3 e12 er2 hlen3 hlt3 hge3 hn1 hr1 hn2 hn3 hr3 ht hl12
  rcases hpq with ⟨hle, rfl, rfl⟩ | ⟨hle, rfl, rfl⟩
  all_goals
    first
    | (have hgt : ¬ b < a := by omega
       skip)
    | skip
    go_enter Try.func5, Try.ntmps5
    go_wp2_with fail
    go_at_call 8
    ((with_reducible refine (examples_any _).mono ?_); rintro e x1 ⟨rfl, bx1⟩)
    go_wp2_with fail
    go_at_call 25
    refine (H.out.1 _ bx1).mono ?_
    rintro e x2 ⟨d1, ⟨rfl, hX1⟩, bx2⟩
    go_wp2_with fail
    go_at_call 25
    refine (H.out.1 _ (bt bx1 bx2)).mono ?_
    rintro e x3 ⟨d2, ⟨rfl, hX2⟩, bx3⟩
    have K := Lib.hid (And.intro bx1 (Two.mk' hX1 bx2 hX2 bx3)); clear bx1 bx2 bx3 hX1 hX2
    go_wp2_with fail
    try go_at_call 16
    refine (H.out.2.2.2.1 _ _ _ _ _ _ K.out.2).mono ?_
    rintro e x4 ⟨v1, ⟨rfl, hR1, hTw⟩, hF1, _⟩
    have K1 := Lib.hid (And.intro K.out.1 (And.intro hTw hR1)); clear hTw hR1 hF1 K
    obtain ⟨A1, c1, rfl, _⟩ := K1.out.2.2.mem
    go_wp2_with fail
    try go_at_call 16
    refine (H.out.2.2.2.2.1 _ _ _ _ _ _ K1.out.2.1).mono ?_
    rintro e x5 ⟨v2, ⟨rfl, hR2, hTw⟩, hF2, hk2⟩
    have K2 := Lib.hid (And.intro K1.out.1 (And.intro hTw (And.intro (K1.out.2.2.kept hF2 (fun k hk => hk2 k (Or.inr hk))) hR2))); clear hTw hR2 hF2 hk2 K1
    obtain ⟨A2, c2, rfl, _⟩ := K2.out.2.2.2.mem
    obtain ⟨l1, C1, o1, ol1, op1⟩ := K2.out.2.2.1
    obtain ⟨l2, C2, o2, ol2, op2⟩ := K2.out.2.2.2
    have e1 : n1.length = l1.length := by rw [← ol1, List.length_map]
    have e2 : n2.length = l2.length := by rw [← ol2, List.length_map]
    have hb12 : l1.length + l2.length ≤ 30 := by have := H.out.2.2.2.2.2.2.2.2.2.2; have := H.out.2.2.2.2.2.2.2.1; have := H.out.2.2.1; omega
    have HO := Lib.hid (And.intro o1 (And.intro ol1 (And.intro op1 (And.intro o2 (And.intro ol2 op2))))); clear o1 ol1 op1 o2 ol2 op2
    rw [e1, e2] at HO
    rw [e1, e2]
    have HE := Lib.hid (And.intro e1 e2); clear e1 e2
    go_wp2_with (at_builtin; refine wpList_append_loc _ rfl (.tmp 40) (.tmp 43) 41 rfl x1.heap.size 35 j0 (.agg #[.int .i64 0, .slice none 0 0, .int .i64 0]) 3 40 Try.underlying41 hj hy0 hy1 hy2 rfl (by decide) (f := rowW) (fun _ => rfl) one_rowW _ l1 rfl HO.out.1 A2 l2.length c2 l2 rfl rfl (Own.at_ (f := rowW) (k := 3) (fun _ => rfl) HO.out.2.2.2.1) (by unfold maxLen; omega) (by omega) K2.out.2.1.bel.size ?_; intro v5 w5 hO5 hg5 hq5; have Z5 := Lib.hid (And.intro hO5 (And.intro hg5 hq5)); clear hO5 hg5 hq5)
    obtain ⟨hT5, hF5⟩ := K2.out.2.1.app HO.out.1 (fun k hk => Or.inl (Or.inr (by rw [HE.out.1]; exact hk))) Z5.out.2.1 Z5.out.1 Z5.out.2.2
    have hR5 : Row x1 w5 v5 n3 := ⟨l1 ++ l2, 0, Z5.out.1, by rw [List.map_append, HO.out.2.1, HO.out.2.2.2.2.1]; exact H.out.2.2.2.2.2.2.1, fun y hy => by
      rcases List.mem_append.1 hy with hy | hy
      · exact ((HO.out.2.2.1 y hy).lift (Nat.zero_le _)).frm hF5
      · exact ((HO.out.2.2.2.2.2 y hy).lift (Nat.zero_le _)).frm hF5⟩
    have K3 := Lib.hid (And.intro K2.out.1 (And.intro hT5 hR5)); clear hT5 hF5 hR5 HO Z5 K2 HE hb12
    obtain ⟨A5, c5, rfl, _⟩ := K3.out.2.2.mem
    go_wp2_with fail
    try go_at_call 16
    refine (H.out.2.2.2.2.2.1 _ _ _ _ _ _ K3.out.2.1.swap).mono ?_
    rintro e x6 ⟨v3, ⟨rfl, hR6, hTw⟩, hF6, hk6⟩
    have K4 := Lib.hid (And.intro K3.out.1 (And.intro hTw.swap (And.intro (K3.out.2.2.kept hF6 (fun k hk => hk6 k (Or.inr hk))) hR6))); clear hTw hR6 hF6 hk6 K3
    obtain ⟨A3, c3, rfl, hm3⟩ := K4.out.2.2.2.mem
    have hmx : n3.length ≤ 9223372036854775807 := by unfold maxLen at hm3; omega
    obtain ⟨l3, C3, o3, ol3, op3⟩ := K4.out.2.2.2
    have hR := Lib.hid (And.intro (Own.at_ (f := rowW) (k := 3) (fun _ => rfl) o3) ol3); clear o3 ol3 op3
    go_wp2_with fail
    go_loopw [13] (fun iv wr => ∃ i : Nat, i ≤ n3.length ∧ iv = .int .i64 (i : Int) ∧ Below x6.heap.size x6 wr) (fun iv _ => n3.length - (intOf iv).toNat)
    case atStart => exact ⟨0, Nat.zero_le _, rfl, Below.refl _ _⟩
    case round =>
      obtain ⟨i, hi, rfl, hbw⟩ := hrel
      by_cases hlt : i < n3.length
      · have hil : i < l3.length := by have := congrArg List.length hR.out.2; rw [List.length_map] at this; omega
        obtain ⟨ad, rfl, hc⟩ := hR.out.1.cells rfl (by omega)
        obtain ⟨y0, y1, y2⟩ := (hc.later hbw).row3 i hil rfl
        have hu := H.out.2.2.2.2.2.2.2.2.1 (l3[i]'hil).1 (by rw [← hR.out.2]; exact List.mem_map.2 ⟨_, List.getElem_mem hil, rfl⟩)
        generalize (l3[i]'hil).1.1 = u at *
        have t1 : ¬ b ≤ u := by omega
        have N := Lib.hid hbw; clear hbw hc y1 y2
        go_wp2
        go_roundw
        case rel => exact ⟨i + 1, by omega, by go_num, N.out⟩
        case measure => simp [intOf]; omega
      · obtain rfl : i = n3.length := by omega
        have K5 := Lib.hid (And.intro K4.out.1 (And.intro (K4.out.2.1.later hbw) (And.intro (K4.out.2.2.1.later hbw) (K4.out.2.2.2.later hbw)))); clear hbw K4 hR hi
        go_wp2_with fail
        go_loopw [14] (fun iv wq => ∃ i : Nat, i ≤ r3.length ∧ iv = .int .i64 (i : Int) ∧ Below wr.heap.size wr wq) (fun iv _ => r3.length - (intOf iv).toNat)
        case atStart => exact ⟨0, Nat.zero_le _, rfl, Below.refl _ _⟩
        case round =>
          rename World => wq
          obtain ⟨i, hi, rfl, hbw⟩ := hrel
          have cL : ∀ W, Below wq.heap.size wq W → _ := fun W hW => ((K5.out.2.1.later hbw).later hW).len1
          by_cases hlt : i < r3.length
          · have c1 : ∀ W, Below wq.heap.size wq W → Calls Try.prog 22 #[.pointer (some ⟨d1, 0, none⟩), .int .i64 (i : Int)] W (AtY (r3[i]'hlt) W) := fun W hW => pad_at ((K5.out.2.1.later hbw).later hW) hlt rfl
            have c2 : ∀ W, Below wq.heap.size wq W → Calls Try.prog 22 #[.pointer (some ⟨d2, 0, none⟩), .int .i64 (i : Int)] W (AtY (r3[i]'hlt) W) := fun W hW => pad_at ((K5.out.2.1.later hbw).later hW).swap hlt rfl
            have hu := H.out.2.2.2.2.2.2.2.2.2.1 (r3[i]'hlt) (List.getElem_mem hlt)
            generalize r3[i]'hlt = t at *
            obtain ⟨u, p, x⟩ := t
            have N := Lib.hid (And.intro (cL _ (Below.refl _ _)) (And.intro c1 (And.intro c2 hbw))); clear c1 c2 hbw cL
            have hu' : b ≤ u := hu
            have t1 : ¬ u < b := by omega
            have t2 : decide (u < b) = false := decide_eq_false t1
            clear hu hu'
            go_wp2_with fail
            try go_at_call 21
            refine (N.out.1).mono ?_
            rintro e y0 ⟨rfl, by0⟩
            have M0 := Lib.hid by0; clear by0
            go_wp2_with fail
            try go_at_call 22
            refine (N.out.2.1 _ M0.out).mono ?_
            rintro e y1 ⟨⟨sA, sn, sc⟩, ⟨rfl, hS1⟩, by1⟩
            obtain ⟨W1, hW1⟩ : ∃ W1, W1 = y1.alloc (.cells #[.int .i64 u, .slice sA sn sc, .int .i64 x] 35) := ⟨_, rfl⟩
            have bW2 : Below y1.heap.size y1 W1 := by rw [hW1]; exact ba _ _
            have bW1 : Below wq.heap.size wq W1 := bt M0.out (bt by1 bW2)
            have gW1 : Blk W1 y1.heap.size 35 #[.int .i64 u, .slice sA sn sc, .int .i64 x] := by rw [hW1]; exact Blk.new _ _ _
            have M1 := Lib.hid (And.intro bW1 (And.intro gW1 (hS1.later bW2))); clear bW1 gW1 hS1 by1 bW2
            go_wp2_with fail
            try go_at_call 22
            rw [← hW1]
            clear hW1
            refine (N.out.2.2.1 _ M1.out.1).mono ?_
            rintro e y2 ⟨⟨tA, tn, tc⟩, ⟨rfl, hS2⟩, by2⟩
            obtain ⟨W2, hW2⟩ : ∃ W2, W2 = y2.alloc (.cells #[.int .i64 u, .slice tA tn tc, .int .i64 x] 35) := ⟨_, rfl⟩
            have bW2 : Below y2.heap.size y2 W2 := by rw [hW2]; exact ba _ _
            have gW2 : Blk W2 y2.heap.size 35 #[.int .i64 u, .slice tA tn tc, .int .i64 x] := by rw [hW2]; exact Blk.new _ _ _
            have M2 := Lib.hid (And.intro (bt M1.out.1 (bt by2 bW2)) (And.intro gW2 (And.intro (hS2.later bW2) (And.intro (M1.out.2.1.later (bt by2 bW2)) (M1.out.2.2.later (bt by2 bW2)))))); clear by2 bW2 gW2 hS2 M1
            obtain ⟨z0, z1, z2⟩ := M2.out.2.1.three
            obtain ⟨z3, z4, z5⟩ := M2.out.2.2.2.1.three
            rw [hW2] at z0 z1 z2 z3 z4 z5
            go_wp2_with (go_at_call 24; rw [← hW2]; (refine (same_yes u (sA, sn, sc) (tA, tn, tc) x p _ M2.out.2.2.2.2.pts M2.out.2.2.1.pts).mono ?_); rintro e y3 ⟨rfl, by3⟩; obtain ⟨z3, z4, z5⟩ := (M2.out.2.2.2.1.later by3).three; have M3 := Lib.hid by3; clear by3)
            go_roundw
            case rel => exact ⟨i + 1, by omega, by go_num, bt N.out.2.2.2 (bt M2.out.1 M3.out)⟩
            case measure => simp [intOf]; omega
          · obtain rfl : i = r3.length := by omega
            have K6 := Lib.hid (And.intro K5.out.1 (And.intro (K5.out.2.1.later hbw) (And.intro (K5.out.2.2.1.later hbw) (And.intro (K5.out.2.2.2.later hbw) (cL _ (Below.refl _ _)))))); clear hbw K5 hi cL
            have hsum : (n3.length : Int) + (r3.length : Int) = (m : Int) := by have := H.out.2.2.2.2.2.2.2.1; omega
            have hwr : IntKind.i64.wrap ((n3.length : Int) + (r3.length : Int)) = (m : Int) := by rw [hsum]; exact IntWalk.i64_in _ (by have := H.out.2.2.1; omega)
            have HS := Lib.hid hsum; clear hsum
            have e1 : ((r3.length : Int) == (r3.length : Int)) = true := by simp
            have e2 : ((m : Int) == (m : Int)) = true := by simp
            go_wp2_with fail
            try go_at_call 21
            refine (K6.out.2.2.2.2).mono ?_
            rintro e y0 ⟨rfl, by0⟩
            have M0 := Lib.hid (And.intro by0 (K6.out.2.1.later by0)); clear by0
            go_wp2_with fail
            try go_at_call 15
            refine (all_yes _ _ n3 _ (K6.out.2.2.1.later M0.out.1).reads (K6.out.2.2.2.1.later M0.out.1).reads).mono ?_
            rintro e y1 ⟨rfl, by1⟩
            have M1 := Lib.hid (M0.out.2.later by1); clear by1
            go_wp2_with fail
            try go_at_call 21
            refine (M1.out.len1).mono ?_
            rintro e y2 ⟨rfl, by2⟩
            have M2 := Lib.hid (M1.out.later by2); clear by2
            go_wp2_with fail
            try go_at_call 21
            refine (M2.out.swap.len1).mono ?_
            rintro e y3 ⟨rfl, by3⟩
            have M3 := Lib.hid (M2.out.later by3); clear by3
            go_wp2_with fail
            try go_at_call 21
            refine (M3.out.swap.len1).mono ?_
            rintro e y4 ⟨rfl, by4⟩
            have M4 := Lib.hid (M3.out.later by4); clear by4
            go_wp2
            go_ret
            exact ⟨rfl, bt K6.out.1 M4.out.bel⟩
theorem walk_HoldDue (v0 : Value) (L : List Ac) (a b : Int) (w : World) (h0 : ActsR w v0 L) (b0 : L.length * 48 ≤ 140737488355328 ∧ ∀ a ∈ L, Fit a.p) (x1 : -9223372036854775808 ≤ a) (x2 : a ≤ 9223372036854775807) (x3 : -9223372036854775808 ≤ b) (x4 : b ≤ 9223372036854775807) :
    Calls Try.prog 5 #[v0, .int .i64 a, .int .i64 b] w fun e w' => e = .returned (.bool true) ∧ Below w.heap.size w w' := by
  by_cases h : a ≤ b
  · exact walk_due v0 L a b a b w h0 b0 h (Or.inl ⟨h, rfl, rfl⟩)
  · exact walk_due v0 L a b b a w h0 b0 (by omega) (Or.inr ⟨h, rfl, rfl⟩)
end Go.Proofs.Yticjfhagpmlieaa
