/- The walk of LexAgain. -/
import Derived.Test.YtoaallhibgbokaaDoorLexH
import Derived.Test.YtoaallhibgbokaaDoorWalkLexPlaces
import Derived.BigQuiet
namespace Go.Proofs.YtoaallhibgbokaaDoor
open Go.ChangeShapes Go.WideShapes Go.ChangeAt Go.RowKit
set_option linter.unusedVariables false
set_option linter.unusedSimpArgs false

theorem putT_cons (x : Tk) (L : List Tk) : (putT (x :: L)).length ≤ (raw x).length + 1 + (putT L).length := by
  cases L with
  | nil => show (raw x).length ≤ _; omega
  | cons y L => show (raw x ++ 32 :: putT (y :: L)).length ≤ _; rw [List.length_append, List.length_cons]; omega
theorem lexR_put_len {f : Nat} : ∀ {s : Bs} {p : Nat} {L : List Tk}, lexR f s p = .ok L → (putT L).length ≤ 2 * s.length := by
  induction f with
  | zero => intro s p L he; cases he
  | succ f ih =>
    intro s p L he
    cases s with
    | nil => rw [lexR_nil] at he; cases he; exact Nat.le_refl _
    | cons c r =>
      rw [List.length_cons]
      cases hc : isSp c with
      | true =>
        rw [lexR_sp f p r hc] at he
        have := ih he
        omega
      | false =>
        cases hf : firstT (c :: r) with
        | none => rw [lexR_no f p hc hf] at he; cases he
        | some y =>
          obtain ⟨k, t, n, z⟩ := y
          obtain ⟨_, hz0, hz1, hz2⟩ := firstT_raw hf p
          rw [List.length_cons] at hz1
          rw [lexR_one f p hc hf] at he
          cases hl : lexR f ((c :: r).drop z) (p + z) with
          | error q' => rw [hl] at he; cases he
          | ok L' =>
            rw [hl] at he
            cases he
            have h1 := ih hl
            have h2 := putT_cons ⟨k, t, n, p⟩ L'
            rw [List.length_drop, List.length_cons] at h1
            omega
theorem lex_again {L : List Tk} (hg : ∀ x ∈ L, GoodT x) (h : (putT L).length ≤ 2048) : resT (putT L) = (place 0 L, (putT L).length, 0) := by
  unfold resT
  rw [if_neg (by omega)]
  have hh : lexL (putT L) = .ok (place 0 L) := lexR_put hg (Nat.lt_succ_self _)
  rw [hh]
theorem lexR_small {f : Nat} : ∀ {s : Bs} {p : Nat} {L : List Tk}, lexR f s p = .ok L → ∀ x ∈ L, x.t.length ≤ s.length := by
  induction f with
  | zero => intro s p L he; cases he
  | succ f ih =>
    intro s p L he
    cases s with
    | nil => rw [lexR_nil] at he; cases he; intro x hx; cases hx
    | cons c r =>
      rw [List.length_cons]
      cases hc : isSp c with
      | true =>
        rw [lexR_sp f p r hc] at he
        intro x hx
        have := ih he x hx
        omega
      | false =>
        cases hf : firstT (c :: r) with
        | none => rw [lexR_no f p hc hf] at he; cases he
        | some y =>
          obtain ⟨k, t, n, z⟩ := y
          obtain ⟨_, hz0, hz1, hz2⟩ := firstT_raw hf p
          rw [List.length_cons] at hz1
          have htl : t.length ≤ (raw ⟨k, t, n, p⟩).length := by unfold raw; split <;> simp <;> omega
          rw [lexR_one f p hc hf] at he
          cases hl : lexR f ((c :: r).drop z) (p + z) with
          | error q' => rw [hl] at he; cases he
          | ok L' =>
            rw [hl] at he
            cases he
            intro x hx
            rcases List.mem_cons.1 hx with rfl | hx
            · show t.length ≤ _; omega
            · have h1 := ih hl x hx
              rw [List.length_drop, List.length_cons] at h1
              omega
theorem good_small {s : Bs} {f p : Nat} {L : List Tk} (h : lexR f s p = .ok L) (hs : s.length ≤ 690) : ∀ x ∈ L, x.t.length ≤ 690 := fun x hx => Nat.le_trans (lexR_small h x hx) hs
theorem place_at {L : List Tk} {q : Nat} : ∀ {i pv : Nat}, (place q L).drop i = place pv (L.drop i) → ∀ (hi : i < L.length) (hi' : i < (place q L).length), (place q L)[i]'hi' = { L[i]'hi with at_ := pv } ∧ (place q L).drop (i + 1) = place (pv + (raw (L[i]'hi)).length + 1) (L.drop (i + 1)) := by
  intro i pv h hi hi'
  rw [List.drop_eq_getElem_cons hi', List.drop_eq_getElem_cons hi] at h
  have h2 : (place q L)[i]'hi' :: (place q L).drop (i + 1) = { L[i]'hi with at_ := pv } :: place (pv + (raw (L[i]'hi)).length + 1) (L.drop (i + 1)) := h
  exact List.cons.inj h2
theorem place_text : ∀ (L : List Tk) (q j : Nat) (hj : j < L.length) (hj' : j < (place q L).length), ((place q L)[j]'hj').t = (L[j]'hj).t
  | x :: L, q, 0, _, _ => rfl
  | x :: L, q, j + 1, hj, hj' => place_text L _ j (by simpa using hj) (by rw [place_len]; simpa using hj)
set_option maxRecDepth 20000 in
set_option maxHeartbeats 4000000 in
theorem walk_LexAgain (v : Value) (l : Bs) (tight : Bool) (w : World) (hv : BytesAt w v l) (hl : l.length ≤ 140737488351232) (hT : Tab w) :
    Calls Tryd.prog 4 #[v, .bool tight] w fun e w' => e = .returned (.bool true) ∧ Below w.heap.size w w' := by
  have cW := fun W (hb : Below w.heap.size w W) => words_any v l tight W (hv.later hb) hl
  have H := Lib.hid (And.intro cW hT); clear cW hT hv
  go_enter Tryd.func4, Tryd.ntmps4
  go_wp2_with (go_at_call 9; ((with_reducible refine (examples_any _ H.out.2).mono ?_); rintro e w1 ⟨rfl, b1⟩; have B1 := Lib.hid b1; clear b1))
  go_at_call 10
  refine (H.out.1 _ B1.out).mono ?_
  rintro e w2 ⟨s, ⟨rfl, hs690, _⟩, b2⟩
  have B2 := Lib.hid (bt B1.out b2); clear b2
  go_wp2_with fail
  go_at_call 11
  refine (All_any s _ (by unfold maxLen; omega) (H.out.2.later B2.out)).mono ?_
  rintro e w3 ⟨v3, ⟨rfl, hO⟩, b3⟩
  have B3 := Lib.hid (bt B2.out b3); clear b3
  rcases resT_cases s (by omega) with ⟨L, hlex, hR, hLs⟩ | ⟨p, hlex, hR, hp⟩
  · rw [hR] at hO ⊢
    have hsz : s.data.toList.length = s.size := by simp
    have hgood := lexR_ok hlex
    have hpl := lexR_put_len hlex
    rw [hsz] at hpl
    have hsm := good_small hlex (by rw [hsz]; exact hs690)
    obtain ⟨A, n, c, rfl⟩ := own_shape hO
    have hA : n = L.length := by
      have h' := Own.at_ (f := rowT) (k := 4) (fun _ => rfl) hO
      obtain ⟨A', c', hv, _⟩ := h'.shape
      simp only [Value.slice.injEq] at hv
      exact hv.2.1
    have hAt := Own.at_ (f := rowT) (k := 4) (fun _ => rfl) hO
    have hR2 := lex_again hgood (by omega)
    have hpz := mk_size (putT L)
    obtain ⟨pn, hpn⟩ : ∃ pn, (putT L).length = pn := ⟨_, rfl⟩
    have cA := fun W hT => All_any (mk (putT L)) W (by rw [hpz]; unfold maxLen; omega) hT
    unfold AllP at cA
    rw [mk_data, hR2, hpn] at cA
    have cP := Put_any _ L w3 hAt (by omega) (fun x hx => by have := hsm x hx; omega) (by omega)
    rw [hpn] at hpl hpz
    obtain ⟨pb, hpb⟩ : ∃ pb, mk (putT L) = pb := ⟨_, rfl⟩
    rw [hpb] at hpz cA cP
    have E := Lib.hid (And.intro hO (And.intro hA (And.intro hsm (And.intro cA (And.intro cP hpb))))); clear hO hA hsm cA cP hpb hR hR2 hlex hgood hAt hpn
    go_wp2_with fail
    go_at_call 16
    refine E.out.2.2.2.2.1.mono ?_
    rintro e w4 ⟨rfl, b4⟩
    have B4 := Lib.hid (And.intro (bt B3.out b4) b4); clear b4
    go_wp2_with fail
    go_at_call 11
    refine (E.out.2.2.2.1 _ (H.out.2.later B4.out.1)).mono ?_
    rintro e w5 ⟨v5, ⟨rfl, hO5⟩, b5⟩
    obtain ⟨A5, n5, c5, rfl⟩ := own_shape hO5
    have hn5 : n5 = n := by
      have h' := Own.at_ (f := rowT) (k := 4) (fun _ => rfl) hO5
      obtain ⟨A', c', hv, _⟩ := h'.shape
      simp only [Value.slice.injEq] at hv
      rw [hv.2.1, place_len, E.out.2.1]
    subst hn5
    have B5 := Lib.hid (And.intro (bt B4.out.1 b5) (And.intro (bt B4.out.2 b5) hO5)); clear b5 hO5
    have hnm : n5 ≤ 690 := by have := E.out.2.1; omega
    have g1 : ¬ 2048 < pn := by omega
    have hq := fun h0 => (tok_row E.out.1 h0).2
    have hq5 := fun h0 => (tok_row B5.out.2.2 h0).2
    have P5 := fun W (hW : Below w5.heap.size w5 W) => Put_any _ (place 0 L) W ((Own.at_ (f := rowT) (k := 4) (fun _ => rfl) B5.out.2.2).later hW) (by rw [place_len, ← E.out.2.1]; omega) (fun x hx => by
      obtain ⟨j, hj, rfl⟩ := List.getElem_of_mem hx
      have hj' : j < L.length := by rw [place_len] at hj; exact hj
      have := place_text L 0 j hj' hj
      rw [this]
      have := E.out.2.2.1 _ (List.getElem_mem hj'); omega) (by rw [putT_place]; have := mk_size (putT L); rw [E.out.2.2.2.2.2] at this; omega)
    rw [putT_place, E.out.2.2.2.2.2] at P5
    have F := Lib.hid (And.intro hq (And.intro hq5 P5)); clear hq hq5 P5
    go_wp2_with fail
    go_loopw [13, 14] (fun pv iv wr => ∃ (i q : Nat), i ≤ n5 ∧ iv = .int .i64 (i : Int) ∧ pv = .int .i64 (q : Int) ∧ q ≤ 1000 * i ∧ (place 0 L).drop i = place q (L.drop i) ∧ Below w5.heap.size w5 wr) (fun _ iv _ => n5 - (intOf iv).toNat)
    case atStart => exact ⟨0, 0, Nat.zero_le _, rfl, rfl, Nat.le_refl _, rfl, Below.refl _ _⟩
    case round =>
      obtain ⟨i, q, hi, rfl, rfl, hq1, hpl', hb⟩ := hrel
      by_cases hlt : i < n5
      · have hil : i < L.length := by rw [← E.out.2.1]; exact hlt
        have hil' : i < (place 0 L).length := by rw [place_len]; exact hil
        obtain ⟨hx, hnext⟩ := place_at hpl' hil hil'
        obtain ⟨ga, rfl, hCa⟩ := F.out.1 (by omega)
        obtain ⟨gb, rfl, hCb⟩ := F.out.2.1 (by omega)
        obtain ⟨a0, a1, a2, a3⟩ := hCa i hil
        obtain ⟨e0, e1, e2, e3⟩ := hCb i hil'
        rw [hx] at e0 e1 e2 e3
        have htl := E.out.2.2.1 _ (List.getElem_mem hil)
        have hraw : (raw (L[i]'hil)).length = if (L[i]'hil).k = 3 then (L[i]'hil).t.length + 2 else (L[i]'hil).t.length := by
          unfold raw; split <;> simp
        rw [hraw] at hnext
        clear hCa hCb hx hraw hpl'
        generalize L[i]'hil = x at *
        obtain ⟨xk, xt, xn, xa⟩ := x
        simp only at a0 a1 a2 a3 e0 e1 e2 e3 htl hnext
        have htz := mk_size xt
        obtain ⟨tn, htn⟩ : ∃ tn, xt.length = tn := ⟨_, rfl⟩
        rw [htn] at htz htl hnext
        obtain ⟨tb, htb⟩ : ∃ tb, mk xt = tb := ⟨_, rfl⟩
        rw [htb] at a1 e1 htz
        have lft : ∀ {g j : Nat} {u : Value}, w3.cell? ⟨g, j, none⟩ = some u → wr.cell? ⟨g, j, none⟩ = some u := fun {g j u} h => by
          have h5 : w5.cell? ⟨g, j, none⟩ = some u := by rw [B5.out.2.1.cell (World.block_lt_of_cell? w3 _ h)]; exact h
          rw [hb.cell (World.block_lt_of_cell? w5 _ h5)]; exact h5
        replace a0 := lft a0
        replace a1 := lft a1
        replace a2 := lft a2
        replace a3 := lft a3
        have lf5 : ∀ (o : Obj) {g j : Nat} {u : Value}, w5.cell? ⟨g, j, none⟩ = some u → (wr.alloc o).cell? ⟨g, j, none⟩ = some u := fun o {g j u} h => by
          rw [(bt hb (ba wr o)).cell (World.block_lt_of_cell? w5 _ h)]; exact h
        have f0 := fun o => lf5 o e0
        have f1 := fun o => lf5 o e1
        have f2 := fun o => lf5 o e2
        have f3 := fun o => lf5 o e3
        obtain ⟨d0, d1, d2, d3⟩ := Blk.four (Blk.new wr 40 #[.int .i64 xk, .string tb, .int .i64 xn, .int .i64 (q : Int)])
        have hbn := bt hb (ba wr (.cells #[.int .i64 xk, .string tb, .int .i64 xn, .int .i64 (q : Int)] 40))
        have G := Lib.hid (And.intro hnext hbn); clear hnext lft lf5 htb htn e0 e1 e2 e3
        by_cases h3 : xk = 3
        · subst h3
          go_wp2_with fail
          go_quiet (fail)
          go_wp2
          go_roundw
          case rel => exact ⟨i + 1, q + tn + 1 + 2, by omega, by go_num, by go_num, by omega, by rw [G.out.1, if_pos trivial, show q + (tn + 2) + 1 = q + tn + 1 + 2 by omega], below_drewN G.out.2 _⟩
          case measure => simp [intOf]; omega
        · have h3d : (xk == 3) = false := beq_eq_false_iff_ne.2 h3
          go_wp2_with fail
          go_quiet (fail)
          go_wp2
          go_roundw
          case rel => exact ⟨i + 1, q + tn + 1, by omega, by go_num, by go_num, by omega, by rw [G.out.1, if_neg h3], below_drewN G.out.2 _⟩
          case measure => simp [intOf]; omega
      · obtain rfl : i = n5 := by omega
        have HB := Lib.hid hb; clear hb hpl'
        go_wp2_with (go_at_call 16; ((with_reducible refine (F.out.2.2 _ HB.out).mono ?_); rintro e w6 ⟨rfl, b6⟩))
        go_ret
        exact ⟨rfl, bt B5.out.1 (bt HB.out b6)⟩
  · rw [hR] at hO ⊢
    obtain ⟨A, n, c, rfl⟩ := own_shape hO
    have hA : n = 0 := by
      have h' := Own.at_ (f := rowT) (k := 4) (fun _ => rfl) hO
      obtain ⟨A', c', hv, _⟩ := h'.shape
      simp only [Value.slice.injEq] at hv
      exact hv.2.1
    subst hA
    clear hR hlex hO
    go_wp2
    go_ret
    exact ⟨rfl, B3.out⟩
end Go.Proofs.YtoaallhibgbokaaDoor
