/- The walk of RingRises. -/
import Derived.Test.YtbbjlefldpgckaaRgM
import Derived.Test.YtbbjlefldpgckaaRises
import Derived.Test.YtbbjlefldpgckaaRises24
namespace Go.Proofs.Ytbbjlefldpgckaa
open Go.ChangeShapes Go.WideShapes Go.ChangeAt Go.RowKit Go.Maps
open Ev (V3 rightV OkV)
set_option linter.unusedVariables false
set_option linter.unusedSimpArgs false
set_option maxRecDepth 20000

/-- The edge behind the first j items. -/
def eat (l : List It) : Nat → Int
  | 0 => 0
  | j + 1 => match l[j]? with
    | some y => behindI y.1 y.2.1
    | none => 0
/-- The times rise. -/
def Up (l : List It) : Prop := ∀ j y, l[j]? = some y → eat l j ≤ y.2.1 ∧ (y.1 = true → eat l j < y.2.1)
theorem eat_succ (l : List It) (j : Nat) : eat l (j + 1) = match l[j]? with
    | some y => behindI y.1 y.2.1
    | none => 0 := rfl
theorem eat_app (l : List It) (x : It) : ∀ j, j ≤ l.length → eat (l ++ [x]) j = eat l j
  | 0, _ => rfl
  | j + 1, h => by rw [eat_succ, eat_succ, List.getElem?_append_left (by omega)]
theorem eat_end (l : List It) (x : It) : eat (l ++ [x]) (l.length + 1) = behindI x.1 x.2.1 := by
  rw [eat_succ, List.getElem?_append_right (Nat.le_refl _)]
  simp
theorem eat_next {l : List It} {j : Nat} {y : It} (h : l[j]? = some y) : eat l (j + 1) = behindI y.1 y.2.1 := by rw [eat_succ, h]
theorem Up.step {l : List It} (h : Up l) {j : Nat} (hj : j < l.length) : eat l j ≤ eat l (j + 1) := by
  have hy := List.getElem?_eq_getElem hj
  rw [eat_next hy]
  obtain ⟨h1, h2⟩ := h j _ hy
  unfold behindI
  split <;> omega
theorem Up.le {l : List It} (h : Up l) : ∀ (n : Nat) {j : Nat}, j + n ≤ l.length → eat l j ≤ eat l (j + n)
  | 0, _, _ => Int.le_refl _
  | n + 1, j, hj => Int.le_trans (h.le n (j := j) (by omega)) (h.step (j := j + n) (by omega))
theorem Up.app {l : List It} (h : Up l) {mk : Bool} {t : Int} {vs : List V3} (h1 : eat l l.length ≤ t) (h2 : mk = true → eat l l.length < t) : Up (l ++ [(mk, t, vs)]) := by
  intro j y hy
  rcases Nat.lt_or_ge j l.length with hj | hj
  · rw [List.getElem?_append_left hj] at hy
    rw [eat_app _ _ _ (Nat.le_of_lt hj)]
    exact h j y hy
  · have hl := (List.getElem?_eq_some_iff.1 hy).1
    simp only [List.length_append, List.length_cons, List.length_nil] at hl
    obtain rfl : j = l.length := by omega
    rw [List.getElem?_append_right (Nat.le_refl _)] at hy
    simp only [Nat.sub_self, List.getElem?_cons_zero, Option.some.injEq] at hy
    subst hy
    rw [eat_app _ _ _ (Nat.le_refl _)]
    exact ⟨h1, h2⟩
abbrev ri (l : List It) (q : Nat) : Rg := ⟨4, l, eat l l.length, false, upd (fun _ => none) 1 (some (q, eat l q)), 1, 1⟩
theorem ri_low (l : List It) (q : Nat) : lowR (ri l q) 1 = eat l q := by
  unfold lowR
  show ((upd (fun _ => none) 1 (some (q, eat l q)) 1).getD (0, 0)).2 = _
  rw [upd_same]
  rfl
theorem ri_wait (l : List It) (q : Nat) : waitR (ri l q) 1 = (l.length : Int) - (q : Int) := by
  unfold waitR
  show (match upd (fun _ => none) 1 (some (q, eat l q)) 1 with | none => (0 : Int) | some r => (l.length : Int) - (r.1 : Int)) = _
  rw [upd_same]
theorem ri_put {l : List It} {q : Nat} {mk : Bool} {t e : Int} {vs : List V3} {s' : Rg} (h : PutR (ri l q) mk t vs e s') (hu : Up l) (hq : q ≤ l.length) :
    (e ≠ 0 ∧ s' = ri l q) ∨ (e = 0 ∧ s' = ri (l ++ [(mk, t, vs)]) q ∧ Up (l ++ [(mk, t, vs)]) ∧ eat l l.length < eat (l ++ [(mk, t, vs)]) (l ++ [(mk, t, vs)]).length) := by
  rcases h with ⟨_, rfl, h⟩ | ⟨_, _, rfl, h⟩ | ⟨_, _, _, rfl, h⟩ | ⟨_, _, _, _, rfl, h⟩ | ⟨_, _, hl, _, rfl, h⟩
  · exact Or.inl ⟨by decide, h⟩
  · exact Or.inl ⟨by decide, h⟩
  · exact Or.inl ⟨by decide, h⟩
  · exact Or.inl ⟨by decide, h⟩
  · have n1 : ¬ t < eat l l.length := fun e => hl (Or.inl e)
    have n2 : mk = true → ¬ t = eat l l.length := fun hm e => hl (Or.inr ⟨hm, e⟩)
    have hlen : (l ++ [(mk, t, vs)]).length = l.length + 1 := by simp
    refine Or.inr ⟨rfl, h.trans ?_, hu.app (by omega) (fun hm => by have := n2 hm; omega), ?_⟩
    · show (⟨4, l ++ [(mk, t, vs)], behindI mk t, false, upd (fun _ => none) 1 (some (q, eat l q)), 1, 1⟩ : Rg) = ⟨4, l ++ [(mk, t, vs)], eat (l ++ [(mk, t, vs)]) (l ++ [(mk, t, vs)]).length, false, upd (fun _ => none) 1 (some (q, eat (l ++ [(mk, t, vs)]) q)), 1, 1⟩
      rw [hlen, eat_end, eat_app _ _ _ hq]
    · rw [hlen, eat_end]
      unfold behindI
      cases mk
      · show eat l l.length < t + 1; omega
      · have := n2 rfl; show eat l l.length < t; omega
theorem ri_next {l : List It} {q : Nat} {x : Option It} {s' : Rg} (h : NextR (ri l q) 1 x s') (hu : Up l) (hq : q ≤ l.length) :
    (x = none ∧ s' = ri l q) ∨ (∃ mk t vs, x = some (mk, t, vs) ∧ s' = ri l (q + 1) ∧ q + 1 ≤ l.length ∧ eat l q ≤ t ∧ (mk = true → eat l q < t) ∧ eat l (q + 1) = behindI mk t) := by
  rcases Nat.lt_or_ge q l.length with hlt | hge
  · have hy := List.getElem?_eq_getElem hlt
    obtain ⟨h1, h2⟩ := h.yes (r := (q, eat l q)) (show upd (fun _ => none) 1 (some (q, eat l q)) 1 = some (q, eat l q) from upd_same _ _ _) hy
    obtain ⟨u1, u2⟩ := hu q _ hy
    refine Or.inr ⟨_, _, _, h1, h2.trans ?_, hlt, u1, u2, eat_next hy⟩
    show (⟨4, l, eat l l.length, false, upd (upd (fun _ => none) 1 (some (q, eat l q))) 1 (some (q + 1, behindI (l[q]'hlt).1 (l[q]'hlt).2.1)), 1, 1⟩ : Rg) = _
    rw [upd_upd, ← eat_next hy]
  · obtain ⟨h1, h2⟩ := h.no (by rw [ri_wait]; omega)
    exact Or.inl ⟨h1, h2⟩
/-- What holds at each turn. -/
structure RiOk (l : List It) (q : Nat) (last E L : Int) : Prop where
  hup : Up l
  hq : q ≤ l.length
  he : E = eat l l.length
  hl : L = eat l q
  hlast : last < L
theorem RiOk.le {l : List It} {q : Nat} {last E L : Int} (h : RiOk l q last E L) : L ≤ E := by
  have := h.hup.le (l.length - q) (j := q) (by have := h.hq; omega)
  rw [show q + (l.length - q) = l.length by have := h.hq; omega] at this
  rw [h.he, h.hl]; exact this
set_option maxHeartbeats 4000000 in
theorem walk_RingRises (v0 : Value) (LA : List ActD) (w : World) (h0 : ActsAt w v0 LA) (b0 : LA.length ≤ maxLen) :
    Calls Try.prog 6 #[v0] w fun e w' => e = .returned (.bool true) ∧ Below w.heap.size w w' := by
  obtain ⟨A0, n0, rfl, a0, a1, hA0⟩ := h0.1.shape
  obtain ⟨m, hm⟩ : ∃ m, m = min LA.length 80 := ⟨_, rfl⟩
  have hm60 : m ≤ 80 := by omega
  have H := Lib.hid (And.intro h0 hm); clear h0 hm hA0
  obtain ⟨ql, hq0⟩ : ∃ ql, ql = LA.length := ⟨_, rfl⟩
  rw [← hq0] at b0 a0 H ⊢
  have hqm : ql ≤ 9223372036854775807 := by unfold maxLen at b0; omega
  have hql := Lib.hid hq0; clear hq0
  go_enter Try.func6, Try.ntmps6
  go_wp2_with (go_at_call 9; ((with_reducible refine (examples_any _).mono ?_); rintro e x1 ⟨rfl, bx1⟩))
  have B1 := Lib.hid bx1; clear bx1
  go_at_call 10
  refine (New_any 4 (by decide) (by decide) _).mono ?_
  rintro e x2 ⟨d, ⟨rfl, hS⟩, b2⟩
  have K2 := Lib.hid (⟨hS.rx, b2⟩ : Kr (fun _ => False) x1 x2 d (g0 4)); clear hS b2
  go_wp2_with fail
  go_at_call 14
  refine (Add_any _ x1.heap.size d (g0 4) x2 K2.out.rx (by show (0 : Nat) < _; decide)).mono ?_
  rintro e x3 ⟨n, s', ⟨rfl, hR, hS⟩, hX, hk'⟩
  obtain ⟨rfl, rfl⟩ : n = 1 ∧ s' = ri [] 0 := by obtain ⟨h1, h2⟩ := hR.yes (by show (0 : Nat) < 16; decide); exact ⟨h1, h2⟩
  have K3 := Lib.hid (K2.out.go hS hX); clear hS hX hR hk' K2
  go_wp2_with fail
  go_loopw [7, 8, 9, 10] (fun tv ev lv iv wr => ∃ (i q : Nat) (l : List It) (last E L : Int), i ≤ m ∧ l.length ≤ i ∧ iv = .int .i64 i ∧ tv = .int .i64 last ∧ ev = .int .i64 E ∧ lv = .int .i64 L ∧ RiOk l q last E L ∧ Kr (fun _ => False) x1 wr d (ri l q)) (fun _ _ _ i _ => m - (intOf i).toNat)
  case atStart => exact ⟨0, 0, [], -1, 0, 0, Nat.zero_le _, Nat.le_refl _, rfl, rfl, rfl, rfl, ⟨(fun j y hy => by cases hy), Nat.le_refl _, rfl, rfl, by decide⟩, K3.out⟩
  case round =>
    clear K3
    obtain ⟨i, q, l, last, E, L, hi, hli, rfl, rfl, rfl, rfl, hV, hK⟩ := hrel
    have V := Lib.hid hV; clear hV
    have K := Lib.hid hK; clear hK
    by_cases hlt : i < ql ∧ i < 80
    · obtain ⟨c1, c2⟩ := hlt
      have him : i < m := by have := H.out.2; have := hql.out; omega
      have hil : i < LA.length := by rw [← hql.out]; exact c1
      obtain ⟨aa, rfl⟩ : ∃ aa, A0 = some aa := by
        obtain ⟨A, c', hv, _, _, hA0', _⟩ := H.out.1.1
        cases A0 with
        | some aa => exact ⟨aa, rfl⟩
        | none =>
          simp only [Value.slice.injEq] at hv
          obtain ⟨rfl, rfl, rfl⟩ := hv
          have := hA0' rfl
          omega
      have hAw := Lib.hid (H.out.1.1.later (bt B1.out K.out.bel))
      have hok := Lib.hid ((H.out.1.2 _ (List.getElem_mem hil)).later (bt B1.out K.out.bel))
      obtain ⟨p0, _⟩ := act_cells hAw.out i hil
      obtain ⟨x, hx⟩ : ∃ x, LA[i]'hil = x := ⟨_, rfl⟩
      rw [hx] at p0 hok
      have hx := Lib.hid hx
      have k0 := hok.out.k
      obtain ⟨k1, k2⟩ := k0
      by_cases hz : 0 < x.k % 3
      · go_wp2_with fail
        refine wp_of_eq (c' := ((Try.f6.body.bind (regionN 15)).getD .skip)) ?_ (by kernel_rfl)
        refine rises15 _ _ _ _ _ _ _ _ _ _ _ _ _ _ _ _ _ _ _ _ _ _ _ _ _ _ _ _ _ _ _ _ _ _ _ _ _ _ _ _ _ _ _ _ _ _ _ _ _ _ _ _ _ _ _ _ _ _ _ _ _ _ _ _ _ _ _ _ _ _ _ _ _ _ _ _ _ _ _ _ _ _ _ _ _ _ _ _ _ _ _ _ _ _ _ _ _ _ _ _ _ _ _ _ _ _ _ _ _ _ _ _ _ _ _ _ _ _ _ _ _ _ _ _ _ _ _ _ _ _ _ _ _ _ _ _ _ _ _ _ _ _ _ K.out.rs hAw.out hok.out hil hql.out b0 hx.out (fun _ _ _ _ _ _ _ g v x5 h5 => ?_)
        obtain ⟨h51, h52, h53, h54⟩ := h5
        obtain ⟨p1, p2, p3⟩ := h52.three
        have K5 := Lib.hid (And.intro (K.out.later h54) (And.intro h53 h51)); clear K h51 h52 h53 h54 hAw p0
        have hit := (itA_ok hok.out (ri l q).edge (by obtain ⟨_, _, _, h'⟩ := K5.out.1.rs; exact h'.pre.ok.edge)).2
        obtain ⟨im, ht, hvs, hie⟩ : ∃ im it ivs, itA x (ri l q).edge = (im, it, ivs) := ⟨_, _, _, rfl⟩
        rw [hie] at p1 p2 K5 hit
        simp only at p1 p2
        have K5' := Lib.hid (And.intro K5.out hit); clear K5 hit hie
        obtain ⟨Av, nv, cv, hvv⟩ : ∃ A n c, v = .slice A n c := by
          obtain ⟨A, c, hv, _⟩ := K5'.out.1.2.1.shape
          exact ⟨_, _, _, hv⟩
        subst hvv
        go_wp2_with fail
        go_at_call 15
        refine (Put_any _ x1.heap.size d _ im ht (.slice Av nv cv) hvs _ K5'.out.1.1.rx K5'.out.1.2.1 K5'.out.2 (by show l.length < _; omega)).mono ?_
        rintro e x6 ⟨y, s', ⟨rfl, hR, hS⟩, hX, hk'⟩
        rcases ri_put hR V.out.hup V.out.hq with ⟨hy0, rfl⟩ | ⟨rfl, rfl, hup, hEE⟩
        · have K6 := Lib.hid (K5'.out.1.1.go hS hX); clear hS hX hR hk' K5' p1 p2 p3
          have hy0b : (y == 0) = false := by simpa using hy0
          have hy0d : decide (y = 0) = false := decide_eq_false hy0
          go_upto_region 24 with fail
          refine wp_of_eq (c' := ((Try.f6.body.bind (regionN 24)).getD .skip)) ?_ (by kernel_rfl)
          refine rises24 _ _ _ _ _ _ _ _ _ _ _ _ _ _ _ _ _ _ _ _ _ _ _ _ _ _ _ _ _ _ _ _ _ _ _ _ _ _ _ _ _ _ _ _ _ _ _ _ _ _ _ _ _ _ _ _ _ _ _ _ _ _ _ _ _ _ _ _ _ _ _ _ _ _ _ _ _ _ _ _ _ _ _ _ _ _ _ _ _ _ _ _ _ _ _ _ _ _ _ _ _ _ _ _ _ _ _ _ _ _ _ _ _ _ _ _ _ _ _ _ _ _ _ _ _ _ _ _ _ _ _ _ _ _ _ _ _ _ _ _ _ _ (E' := E) (L' := L) K6.out.rs V.out.he.symm (by rw [ri_low]; exact V.out.hl.symm) (ri_wait l q) (Int.le_refl _) (Int.le_refl _) V.out.le (fun h0 => by have := V.out.hq; have e1 : q = l.length := (by omega); rw [V.out.he, V.out.hl, e1]) (fun _ _ _ _ _ _ _ _ _ _ _ _ _ _ _ _ _ _ _ _ _ _ _ _ _ _ _ _ _ _ _ _ z7 h7 => ?_)
          have Z7 := Lib.hid (K6.out.later h7); clear K6 h7
          go_wp2_with fail
          go_at_call 20
          refine (Edge_any x1.heap.size d _ _ Z7.out.rs).mono ?_
          rintro e z8 ⟨rfl, hb⟩
          have Z8 := Lib.hid (Z7.out.later hb); clear hb Z7
          go_wp2_with fail
          go_at_call 25
          refine (Low_any x1.heap.size d _ _ 1 ⟨by decide, by decide⟩ Z8.out.rs).mono ?_
          rintro e z9 ⟨rfl, hb⟩
          have Z9 := Lib.hid (Z8.out.later hb); clear hb Z8
          go_wp2
          go_roundw
          case rel => exact ⟨i + 1, q, l, last, _, _, by omega, by omega, by go_num, rfl, rfl, rfl, ⟨V.out.hup, V.out.hq, rfl, by rw [ri_low], by rw [ri_low, ← V.out.hl]; exact V.out.hlast⟩, Z9.out⟩
          case measure => simp [intOf]; omega
        · have K6 := Lib.hid (K5'.out.1.1.go hS hX); clear hS hX hR hk' K5' p1 p2 p3
          obtain ⟨E', hE'⟩ : ∃ E', E' = eat (l ++ [(im, ht, hvs)]) (l ++ [(im, ht, hvs)]).length := ⟨_, rfl⟩
          rw [← hE'] at hEE
          have hEb : ¬ E' ≤ E := by have := V.out.he; omega
          have hEd : decide (E' ≤ E) = false := decide_eq_false hEb
          have hup' := Lib.hid (And.intro hup hE'); clear hup hE' hEE
          go_wp2_with fail
          go_at_call 20
          refine (Edge_any x1.heap.size d _ _ K6.out.rs).mono ?_
          rintro e x7 ⟨he, hb⟩
          obtain rfl : e = .returned (.int .i64 E') := he.trans (by rw [hup'.out.2])
          have K7 := Lib.hid (K6.out.later hb); clear hb K6 he
          go_upto_region 24 with fail
          refine wp_of_eq (c' := ((Try.f6.body.bind (regionN 24)).getD .skip)) ?_ (by kernel_rfl)
          refine rises24 _ _ _ _ _ _ _ _ _ _ _ _ _ _ _ _ _ _ _ _ _ _ _ _ _ _ _ _ _ _ _ _ _ _ _ _ _ _ _ _ _ _ _ _ _ _ _ _ _ _ _ _ _ _ _ _ _ _ _ _ _ _ _ _ _ _ _ _ _ _ _ _ _ _ _ _ _ _ _ _ _ _ _ _ _ _ _ _ _ _ _ _ _ _ _ _ _ _ _ _ _ _ _ _ _ _ _ _ _ _ _ _ _ _ _ _ _ _ _ _ _ _ _ _ _ _ _ _ _ _ _ _ _ _ _ _ _ _ _ _ _ _ (E' := E') (L' := L) K7.out.rs hup'.out.2.symm (by rw [ri_low, eat_app _ _ _ V.out.hq]; exact V.out.hl.symm) (ri_wait _ q) (by omega) (Int.le_refl _) (by have := V.out.le; omega) (fun h0 => by have := V.out.hq; simp only [List.length_append, List.length_cons, List.length_nil] at h0; omega) (fun _ _ _ _ _ _ _ _ _ _ _ _ _ _ _ _ _ _ _ _ _ _ _ _ _ _ _ _ _ _ _ _ z7 h7 => ?_)
          have Z7 := Lib.hid (K7.out.later h7); clear K7 h7
          go_wp2_with fail
          go_at_call 20
          refine (Edge_any x1.heap.size d _ _ Z7.out.rs).mono ?_
          rintro e z8 ⟨rfl, hb⟩
          have Z8 := Lib.hid (Z7.out.later hb); clear hb Z7
          go_wp2_with fail
          go_at_call 25
          refine (Low_any x1.heap.size d _ _ 1 ⟨by decide, by decide⟩ Z8.out.rs).mono ?_
          rintro e z9 ⟨rfl, hb⟩
          have Z9 := Lib.hid (Z8.out.later hb); clear hb Z8
          go_wp2
          go_roundw
          case rel => exact ⟨i + 1, q, (l ++ [(im, ht, hvs)]), last, _, _, by omega, by simp; omega, by go_num, rfl, rfl, rfl, ⟨hup'.out.1, by have := V.out.hq; simp; omega, by simp, by rw [ri_low], by rw [ri_low, eat_app _ _ _ V.out.hq, ← V.out.hl]; exact V.out.hlast⟩, Z9.out⟩
          case measure => simp [intOf]; omega
      · have hzd : decide (0 < x.k % 3) = false := decide_eq_false hz
        clear hAw
        go_wp2_with fail
        go_at_call 17
        refine (Next_any _ x1.heap.size d _ wr 1 ⟨by decide, by decide⟩ K.out.rx).mono ?_
        rintro e x5 ⟨xx, s', v', ⟨he, hR, hN, hS⟩, hX, hk'⟩
        rcases ri_next hR V.out.hup V.out.hq with ⟨rfl, rfl⟩ | ⟨im, ht, hvs, rfl, rfl, hq1, hu1, hu2, hl'⟩
        · obtain rfl : e = .returned (.tuple #[item false 0 (.slice none 0 0), .bool false]) := he
          have K6 := Lib.hid ((K.out.go hS hX).later (ba x5 (.cells #[.bool false, .int .i64 0, .slice none 0 0] 37))); clear hS hX hR hk' hN K p0
          go_upto_region 24 with fail
          refine wp_of_eq (c' := ((Try.f6.body.bind (regionN 24)).getD .skip)) ?_ (by kernel_rfl)
          refine rises24 _ _ _ _ _ _ _ _ _ _ _ _ _ _ _ _ _ _ _ _ _ _ _ _ _ _ _ _ _ _ _ _ _ _ _ _ _ _ _ _ _ _ _ _ _ _ _ _ _ _ _ _ _ _ _ _ _ _ _ _ _ _ _ _ _ _ _ _ _ _ _ _ _ _ _ _ _ _ _ _ _ _ _ _ _ _ _ _ _ _ _ _ _ _ _ _ _ _ _ _ _ _ _ _ _ _ _ _ _ _ _ _ _ _ _ _ _ _ _ _ _ _ _ _ _ _ _ _ _ _ _ _ _ _ _ _ _ _ _ _ _ _ (E' := E) (L' := L) K6.out.rs V.out.he.symm (by rw [ri_low]; exact V.out.hl.symm) (ri_wait l q) (Int.le_refl _) (Int.le_refl _) V.out.le (fun h0 => by have := V.out.hq; have e1 : q = l.length := (by omega); rw [V.out.he, V.out.hl, e1]) (fun _ _ _ _ _ _ _ _ _ _ _ _ _ _ _ _ _ _ _ _ _ _ _ _ _ _ _ _ _ _ _ _ z7 h7 => ?_)
          have Z7 := Lib.hid (K6.out.later h7); clear K6 h7
          go_wp2_with fail
          go_at_call 20
          refine (Edge_any x1.heap.size d _ _ Z7.out.rs).mono ?_
          rintro e z8 ⟨rfl, hb⟩
          have Z8 := Lib.hid (Z7.out.later hb); clear hb Z7
          go_wp2_with fail
          go_at_call 25
          refine (Low_any x1.heap.size d _ _ 1 ⟨by decide, by decide⟩ Z8.out.rs).mono ?_
          rintro e z9 ⟨rfl, hb⟩
          have Z9 := Lib.hid (Z8.out.later hb); clear hb Z8
          go_wp2
          go_roundw
          case rel => exact ⟨i + 1, q, l, last, _, _, by omega, by omega, by go_num, rfl, rfl, rfl, ⟨V.out.hup, V.out.hq, rfl, by rw [ri_low], by rw [ri_low, ← V.out.hl]; exact V.out.hlast⟩, Z9.out⟩
          case measure => simp [intOf]; omega
        · obtain ⟨A1, n1, hv⟩ := (hN _ rfl).shape
          obtain rfl : v' = .slice A1 hvs.length n1 := hv
          obtain rfl : e = .returned (.tuple #[item im ht (.slice A1 hvs.length n1), .bool true]) := he
          obtain ⟨lv, hlv⟩ : ∃ lv, lv = hvs.length := ⟨_, rfl⟩
          rw [← hlv]
          have K6 := Lib.hid ((K.out.go hS hX).later (ba x5 (.cells #[.bool im, .int .i64 ht, .slice A1 lv n1] 37))); clear hS hX hR hk' hN K p0 hlv
          have f1 : ¬ ht < L := by have := V.out.hl; omega
          have d1 := decide_eq_false f1
          have U := Lib.hid (And.intro hu1 (And.intro hu2 hl')); clear hu1 hu2 hl'
          cases im
          · have f2 : ¬ ht ≤ last := by have := V.out.hlast; omega
            have d2 := decide_eq_false f2
            go_upto_region 24 with fail
            refine wp_of_eq (c' := ((Try.f6.body.bind (regionN 24)).getD .skip)) ?_ (by kernel_rfl)
            refine rises24 _ _ _ _ _ _ _ _ _ _ _ _ _ _ _ _ _ _ _ _ _ _ _ _ _ _ _ _ _ _ _ _ _ _ _ _ _ _ _ _ _ _ _ _ _ _ _ _ _ _ _ _ _ _ _ _ _ _ _ _ _ _ _ _ _ _ _ _ _ _ _ _ _ _ _ _ _ _ _ _ _ _ _ _ _ _ _ _ _ _ _ _ _ _ _ _ _ _ _ _ _ _ _ _ _ _ _ _ _ _ _ _ _ _ _ _ _ _ _ _ _ _ _ _ _ _ _ _ _ _ _ _ _ _ _ _ _ _ _ _ _ _ (E' := E) (L' := eat l (q + 1)) K6.out.rs V.out.he.symm (ri_low l (q + 1)) (ri_wait l (q + 1)) (Int.le_refl _) (by rw [V.out.hl]; exact V.out.hup.step hq1) (by have := V.out.hup.le (l.length - (q + 1)) (j := q + 1) (by omega); rw [show q + 1 + (l.length - (q + 1)) = l.length by omega] at this; rw [V.out.he]; exact this) (fun h0 => by have e1 : q + 1 = l.length := (by omega); rw [V.out.he, e1]) (fun _ _ _ _ _ _ _ _ _ _ _ _ _ _ _ _ _ _ _ _ _ _ _ _ _ _ _ _ _ _ _ _ z7 h7 => ?_)
            have Z7 := Lib.hid (K6.out.later h7); clear K6 h7
            go_wp2_with fail
            go_at_call 20
            refine (Edge_any x1.heap.size d _ _ Z7.out.rs).mono ?_
            rintro e z8 ⟨rfl, hb⟩
            have Z8 := Lib.hid (Z7.out.later hb); clear hb Z7
            go_wp2_with fail
            go_at_call 25
            refine (Low_any x1.heap.size d _ _ 1 ⟨by decide, by decide⟩ Z8.out.rs).mono ?_
            rintro e z9 ⟨rfl, hb⟩
            have Z9 := Lib.hid (Z8.out.later hb); clear hb Z8
            go_wp2
            go_roundw
            case rel => exact ⟨i + 1, q + 1, l, ht, _, _, by omega, by omega, by go_num, rfl, rfl, rfl, ⟨V.out.hup, hq1, rfl, by rw [ri_low], by rw [ri_low, U.out.2.2]; unfold behindI; simp; omega⟩, Z9.out⟩
            case measure => simp [intOf]; omega
          · have f2 : ¬ ht ≤ L := by have := V.out.hl; have := U.out.2.1 rfl; omega
            have d2 := decide_eq_false f2
            go_upto_region 24 with fail
            refine wp_of_eq (c' := ((Try.f6.body.bind (regionN 24)).getD .skip)) ?_ (by kernel_rfl)
            refine rises24 _ _ _ _ _ _ _ _ _ _ _ _ _ _ _ _ _ _ _ _ _ _ _ _ _ _ _ _ _ _ _ _ _ _ _ _ _ _ _ _ _ _ _ _ _ _ _ _ _ _ _ _ _ _ _ _ _ _ _ _ _ _ _ _ _ _ _ _ _ _ _ _ _ _ _ _ _ _ _ _ _ _ _ _ _ _ _ _ _ _ _ _ _ _ _ _ _ _ _ _ _ _ _ _ _ _ _ _ _ _ _ _ _ _ _ _ _ _ _ _ _ _ _ _ _ _ _ _ _ _ _ _ _ _ _ _ _ _ _ _ _ _ (E' := E) (L' := eat l (q + 1)) K6.out.rs V.out.he.symm (ri_low l (q + 1)) (ri_wait l (q + 1)) (Int.le_refl _) (by rw [V.out.hl]; exact V.out.hup.step hq1) (by have := V.out.hup.le (l.length - (q + 1)) (j := q + 1) (by omega); rw [show q + 1 + (l.length - (q + 1)) = l.length by omega] at this; rw [V.out.he]; exact this) (fun h0 => by have e1 : q + 1 = l.length := (by omega); rw [V.out.he, e1]) (fun _ _ _ _ _ _ _ _ _ _ _ _ _ _ _ _ _ _ _ _ _ _ _ _ _ _ _ _ _ _ _ _ z7 h7 => ?_)
            have Z7 := Lib.hid (K6.out.later h7); clear K6 h7
            go_wp2_with fail
            go_at_call 20
            refine (Edge_any x1.heap.size d _ _ Z7.out.rs).mono ?_
            rintro e z8 ⟨rfl, hb⟩
            have Z8 := Lib.hid (Z7.out.later hb); clear hb Z7
            go_wp2_with fail
            go_at_call 25
            refine (Low_any x1.heap.size d _ _ 1 ⟨by decide, by decide⟩ Z8.out.rs).mono ?_
            rintro e z9 ⟨rfl, hb⟩
            have Z9 := Lib.hid (Z8.out.later hb); clear hb Z8
            go_wp2
            go_roundw
            case rel => exact ⟨i + 1, q + 1, l, last, _, _, by omega, by omega, by go_num, rfl, rfl, rfl, ⟨V.out.hup, hq1, rfl, by rw [ri_low], by rw [ri_low, U.out.2.2]; unfold behindI; simp; have := V.out.hlast; have := V.out.hl; omega⟩, Z9.out⟩
            case measure => simp [intOf]; omega
    · have hway : ¬ i < ql ∨ (i < ql ∧ ¬ i < 80) := by omega
      clear hlt
      rcases hway with c1 | ⟨c1, c2⟩
      all_goals
        go_wp2
        go_ret
        exact ⟨rfl, bt B1.out K.out.bel⟩
end Go.Proofs.Ytbbjlefldpgckaa
