/- Layer 12: the document's own words: ranks. -/
import Derived.Test.YtinonfgehbjneaaGphY
import Derived.Test.YtinonfgehbjneaaGphP
import Derived.StillTailTactics
namespace Go.Proofs.Ytinonfgehbjneaa
open Go.ChangeShapes Go.WideShapes Go.ChangeAt Go.RowKit Go.Maps
open Gr (Nd nmAt frAt RankFull)
set_option linter.unusedVariables false
set_option linter.unusedSimpArgs false

/-- What is known of the ranks so far: p passes, places below i told in this one, of place i those below k looked at. -/
structure RkI (N : List Nd) (R : Nat → Nat) (n p i k : Nat) (O : List Nat) : Prop where
  len : O.length = n
  low : ∀ x, x < n → O.getD x 0 ≤ R x
  pas : ∀ x, x < n → R x ≤ p → O.getD x 0 = R x
  up : ∀ x, x < i → x < n → R x ≤ p + 1 → O.getD x 0 = R x
  near : ∀ j, j < k → j < n → nmAt N j ∈ frAt N i → R j ≤ p → R j + 1 ≤ O.getD i 0
theorem RkI.start {N : List Nd} {R : Nat → Nat} {n : Nat} : RkI N R n 0 0 0 (List.replicate n 0) := by
  have e : ∀ x, (List.replicate n 0).getD x 0 = 0 := fun x => by
    rw [List.getD_eq_getElem?_getD, List.getElem?_replicate]
    split <;> rfl
  exact ⟨by simp, fun x _ => by rw [e]; exact Nat.zero_le _, fun x _ h => by rw [e]; omega, fun x h => by omega, fun j h => by omega⟩
theorem RkI.pass {N : List Nd} {R : Nat → Nat} {n p k : Nat} {O : List Nat} (h : RkI N R n p n k O) : RkI N R n (p + 1) 0 0 O :=
  ⟨h.len, h.low, fun x hx hr => h.up x hx hx hr, fun x h => by omega, fun j h => by omega⟩
theorem RkI.next {N : List Nd} {R : Nat → Nat} {n p i : Nat} {O : List Nat} (h : RkI N R n p i n O) (hN : N.length = n) (hR : RankFull N R) (hi : i < n) : RkI N R n p (i + 1) 0 O := by
  refine ⟨h.len, h.low, h.pas, fun x hx hxn hr => ?_, fun j h => by omega⟩
  rcases (by omega : x < i ∨ x = i) with h1 | rfl
  · exact h.up x h1 hxn hr
  · have hl := h.low x hxn
    rcases (hR x (by omega)).2 with h0 | ⟨q, hq, hm, e⟩
    · omega
    · have := h.near q (by omega) (by omega) hm (by omega)
      omega
theorem RkI.inner {N : List Nd} {R : Nat → Nat} {n p i : Nat} {O : List Nat} (h : RkI N R n p i 0 O) : RkI N R n p i 0 O := h
theorem RkI.skip {N : List Nd} {R : Nat → Nat} {n p i k : Nat} {O : List Nat} (h : RkI N R n p i k O) (hk : ¬ nmAt N k ∈ frAt N i) : RkI N R n p i (k + 1) O := by
  refine ⟨h.len, h.low, h.pas, h.up, fun j hj hjn hm hr => ?_⟩
  rcases (by omega : j < k ∨ j = k) with h1 | rfl
  · exact h.near j h1 hjn hm hr
  · exact absurd hm hk
theorem RkI.step {N : List Nd} {R : Nat → Nat} {n p i k : Nat} {O : List Nat} (h : RkI N R n p i k O) (hN : N.length = n) (hR : RankFull N R) (hi : i < n) (hk : k < n) (hm : nmAt N k ∈ frAt N i) {mx : Nat} (hmx : mx = max (O.getD i 0) (O.getD k 0 + 1)) : RkI N R n p i (k + 1) (O.set i mx) := by
  have hO : i < O.length := by rw [h.len]; exact hi
  have h1 := (hR i (by omega)).1 k (by omega) hm
  have h2 := h.low i hi
  have h3 := h.low k hk
  refine ⟨by rw [List.length_set]; exact h.len, fun x hx => ?_, fun x hx hr => ?_, fun x hx hxn hr => ?_, fun j hj hjn hjm hr => ?_⟩
  · rw [getD_set hO]
    split
    · rename_i e; subst e; omega
    · exact h.low x hx
  · rw [getD_set hO]
    split
    · rename_i e; subst e
      have := h.pas x hx hr
      omega
    · exact h.pas x hx hr
  · rw [getD_set hO, if_neg (by omega)]
    exact h.up x hx hxn hr
  · rw [getD_set hO, if_pos rfl]
    rcases (by omega : j < k ∨ j = k) with h4 | rfl
    · have := h.near j h4 hjn hjm hr
      omega
    · have := h.pas j hjn hr
      omega
theorem row_get {w : World} {B g n : Nat} {O : List Nat} (h : Own w B 3 1 rowP (.slice (some ⟨g, 0, none⟩) n n) O) {x : Nat} (hx : x < O.length) : w.cell? ⟨g, x, none⟩ = some (.int .i64 ((O.getD x 0 : Nat) : Int)) := by
  obtain ⟨g', hg', _, _, _, oc⟩ := h.cells (f := rowP) (k := 1) (fun _ => rfl) rfl (by omega)
  obtain rfl : g = g' := by simpa using hg'
  have := oc x hx 0 _ rfl
  rw [Nat.mul_one, Nat.add_zero] at this
  rw [this, List.getD_eq_getElem?_getD, List.getElem?_eq_getElem hx]; rfl
set_option maxRecDepth 20000 in
set_option maxHeartbeats 8000000 in
theorem rranks_any (v : Value) (N : List Nd) (R : Nat → Nat) (w : World) (h : NdsAt w v N) (hn : N.length ≤ 1000) (hR : RankFull N R) :
    Calls Try.prog 25 #[v] w fun e w' => ∃ r O, (e = .returned r ∧ Own w' w.heap.size 3 1 rowP r O ∧ O.length = N.length ∧ ∀ x, x < N.length → O.getD x 0 = R x) ∧ Below w.heap.size w w' := by
  obtain ⟨j0, hj, hy0, hy1, hy2⟩ := info_parts (P := Try.prog) (e := 3) (z := .int .i64 0) (size := 1) (bytes := 8) (by kernel_rfl)
  obtain ⟨l, h1, h2, h3⟩ := h
  obtain ⟨A, c, rfl, a1, a2, _⟩ := h1.shape
  obtain ⟨n, hnl⟩ : ∃ n, n = l.length := ⟨_, rfl⟩
  have hN : N.length = n := by rw [hnl, ← h2, List.length_map]
  rw [← hnl] at h1 a1 ⊢
  rw [hN] at hn
  have hsm : ∀ x, x < n → R x < n := fun x hx => by have := rank_small hR (k := x) (by omega); omega
  have H := Lib.hid (And.intro h1 (And.intro h2 (And.intro h3 (And.intro hnl (And.intro hN (And.intro hR hsm)))))); clear h1 h2 h3 hnl hN a1 hR hsm
  have hO0 := own_madeI w n (by unfold maxLen; omega)
  have K := Lib.hid (And.intro hO0 (ba w (.cells (madeCells #[.int .i64 0] n) 3))); clear hO0
  go_enter Try.func25, Try.ntmps25
  go_wp2_with (refine wpList_make_row _ rfl _ _ 31 rfl 3 j0 (.int .i64 0) Try.underlying31 hj hy0 hy1 rfl .i64 .i64 n rfl rfl (by rw [hy2]; omega) (by omega) ?_)
  go_loopw [4] (fun pv wr => ∃ (p : Nat) (O : List Nat), p ≤ n ∧ pv = .int .i64 (p : Int) ∧ RkI N R n p 0 0 O ∧ Own wr w.heap.size 3 1 rowP (.slice (some ⟨w.heap.size, 0, none⟩) n n) O ∧ Below w.heap.size w wr) (fun pv _ => n - (intOf pv).toNat)
  case atStart => exact ⟨0, _, Nat.zero_le _, rfl, RkI.start, K.out.1, K.out.2⟩
  case round =>
    rename World => wr1
    obtain ⟨p, O, hp, rfl, hI, hO, hb⟩ := hrel
    by_cases hlt : p < n
    · have M := Lib.hid (And.intro hI (And.intro hO hb)); clear hI hO hb
      go_wp2_with fail
      go_loopw [5] (fun iv wr => ∃ (i : Nat) (O : List Nat), i ≤ n ∧ iv = .int .i64 (i : Int) ∧ RkI N R n p i 0 O ∧ Own wr w.heap.size 3 1 rowP (.slice (some ⟨w.heap.size, 0, none⟩) n n) O ∧ Below w.heap.size w wr) (fun iv _ => n - (intOf iv).toNat)
      case atStart => exact ⟨0, O, Nat.zero_le _, rfl, M.out.1, M.out.2.1, M.out.2.2⟩
      case round =>
        clear M
        rename World => wr2
        obtain ⟨i, O, hi, rfl, hI, hO, hb⟩ := hrel
        by_cases hlti : i < n
        · have M := Lib.hid (And.intro hI (And.intro hO hb)); clear hI hO hb
          go_wp2_with fail
          go_loopw [6] (fun kv wr => ∃ (k : Nat) (O : List Nat), k ≤ n ∧ kv = .int .i64 (k : Int) ∧ RkI N R n p i k O ∧ Own wr w.heap.size 3 1 rowP (.slice (some ⟨w.heap.size, 0, none⟩) n n) O ∧ Below w.heap.size w wr) (fun kv _ => n - (intOf kv).toNat)
          case atStart => exact ⟨0, O, Nat.zero_le _, rfl, M.out.1, M.out.2.1, M.out.2.2⟩
          case round =>
            clear M
            rename World => wr3
            obtain ⟨k, O, hk, rfl, hI, hO, hb⟩ := hrel
            by_cases hltk : k < n
            · have hil : i < l.length := by have := H.out.2.2.2.1; omega
              have hkl : k < l.length := by have := H.out.2.2.2.1; omega
              have hiI : (i : Int) < (n : Int) := by omega
              have hkI : (k : Int) < (n : Int) := by omega
              obtain ⟨a, rfl, hca⟩ := (H.out.1).cells rfl (by omega)
              obtain ⟨f1, f2⟩ := at_node H.out.2.1 hil
              obtain ⟨f3, _⟩ := at_node H.out.2.1 hkl
              have g1 := (H.out.2.2.1 _ (List.getElem_mem hil)).1
              have KW0 := fun X (hX : Below w.heap.size w X) => And.intro ((hca.later hX).row2 i hil rfl).2 ((hca.later hX).row2 k hkl rfl).1
              rw [← f3] at KW0
              rw [← f2] at g1
              generalize (l[i]'hil).2 = sv at *
              obtain ⟨fA, fn, fc⟩ := sv
              obtain ⟨B1, cc, hv, _, q5, _⟩ := g1.shape
              simp only [Value.slice.injEq] at hv
              obtain ⟨q1, q2, q3⟩ := hv
              subst q2
              subst q3
              subst q1
              obtain ⟨nf, hnf⟩ : ∃ nf, nf = (frAt N i).length := ⟨_, rfl⟩
              have hfr : ∀ X, Below w.heap.size w X → At X 1 scV (.slice fA nf fc) (frAt N i) := fun X hX => by rw [hnf]; exact g1.later hX
              have hms : nmAt N k ∈ frAt N i ↔ nmAt N k ∈ frAt N i := Iff.rfl
              obtain ⟨s, hs⟩ : ∃ s, s = nmAt N k := ⟨_, rfl⟩
              rw [← hs] at KW0 hms
              have KW : ∀ X, Below w.heap.size w X → X.cell? ⟨(a.add (i * 2)).block, (a.add (i * 2)).off + 1, none⟩ = some (.slice fA nf fc) ∧ X.cell? (a.add (k * 2)) = some (.string s) := fun X hX => by rw [hnf]; exact KW0 X hX
              have U := Lib.hid (And.intro hI (And.intro hO (And.intro hnf hs))); clear hI hO hnf hs KW0 g1 hca f1 f2 f3 hms
              go_upto_region 11 with fail
              refine wp_region_held_drew (S := (fun w' => w'.cell? ⟨(a.add (i * 2)).block, (a.add (i * 2)).off + 1, none⟩ = some (.slice fA nf fc) ∧ w'.cell? (a.add (k * 2)) = some (.string s))) (by kernel_rfl) ?_ (fun hHeld => ?_)
              · exact KW wr3 hb
              refine wpAnyH_take (i := 0) (v := ?v0) rfl (by kernel_rfl) (by kernel_rfl) (by kernel_rfl) (fun _ _ _ h => h) (Or.inl ⟨by rfl, ?hy0⟩) (by assumption) ?rest0
              case hy0 => (intro w hSw; (try dsimp only at hSw); go_simp; try with_reducible rfl)
              try simp only [Act.put, List.setIfInBounds_toArray, List.set_cons_zero, List.set_cons_succ]
              refine wpAnyH_take (i := 1) (v := ?v1) rfl (by kernel_rfl) (by kernel_rfl) (by kernel_rfl) (fun _ _ _ h => h) (Or.inl ⟨by rfl, ?hy1⟩) (by assumption) ?rest1
              case hy1 => (intro w hSw; (try dsimp only at hSw); go_simp; try with_reducible rfl)
              try simp only [Act.put, List.setIfInBounds_toArray, List.set_cons_zero, List.set_cons_succ]
              refine wpAnyH_take (i := 2) (v := ?v2) rfl (by kernel_rfl) (by kernel_rfl) (by kernel_rfl) (fun _ _ _ h => h) (Or.inl ⟨by rfl, ?hy2⟩) (by assumption) ?rest2
              case hy2 => (intro w hSw; (try dsimp only at hSw); go_simp; try with_reducible rfl)
              try simp only [Act.put, List.setIfInBounds_toArray, List.set_cons_zero, List.set_cons_succ]
              refine wpAnyH_take (i := 3) (v := ?v3) rfl (by kernel_rfl) (by kernel_rfl) (by kernel_rfl) (fun _ _ _ h => h) (Or.inl ⟨by rfl, ?hy3⟩) (by assumption) ?rest3
              case hy3 => (intro w hSw; (try dsimp only at hSw); go_simp; try with_reducible rfl)
              try simp only [Act.put, List.setIfInBounds_toArray, List.set_cons_zero, List.set_cons_succ]
              refine wpAnyH_take (i := 4) (v := ?v4) rfl (by kernel_rfl) (by kernel_rfl) (by kernel_rfl) (fun _ _ _ h => h) (Or.inl ⟨by rfl, ?hy4⟩) (by assumption) ?rest4
              case hy4 => (intro w hSw; (try dsimp only at hSw); go_simp; try with_reducible rfl)
              try simp only [Act.put, List.setIfInBounds_toArray, List.set_cons_zero, List.set_cons_succ]
              refine wpAnyH_take (i := 5) (v := ?v5) rfl (by kernel_rfl) (by kernel_rfl) (by kernel_rfl) (fun _ _ _ h => h) (Or.inl ⟨by rfl, ?hy5⟩) (by assumption) ?rest5
              case hy5 => (intro w hSw; (try dsimp only at hSw); go_simp; try with_reducible rfl)
              try simp only [Act.put, List.setIfInBounds_toArray, List.set_cons_zero, List.set_cons_succ]
              refine wpAnyH_take (i := 6) (v := ?v6) rfl (by kernel_rfl) (by kernel_rfl) (by kernel_rfl) (fun _ _ _ h => h) (Or.inl ⟨by rfl, ?hy6⟩) (by assumption) ?rest6
              case hy6 => (intro w hSw; (try dsimp only at hSw); go_simp; try with_reducible rfl)
              try simp only [Act.put, List.setIfInBounds_toArray, List.set_cons_zero, List.set_cons_succ]
              refine wpAnyH_take (i := 7) (v := ?v7) rfl (by kernel_rfl) (by kernel_rfl) (by kernel_rfl) (fun _ _ _ h => h) (Or.inl ⟨by rfl, ?hy7⟩) (by assumption) ?rest7
              case hy7 => (intro w hSw; (try dsimp only at hSw); go_simp; try with_reducible rfl)
              try simp only [Act.put, List.setIfInBounds_toArray, List.set_cons_zero, List.set_cons_succ]
              refine wpAnyH_take (i := 8) (v := ?v8) rfl (by kernel_rfl) (by kernel_rfl) (by kernel_rfl) (fun _ _ _ h => h) (Or.inl ⟨by rfl, ?hy8⟩) (by assumption) ?rest8
              case hy8 => (intro w hSw; (try dsimp only at hSw); go_simp; try with_reducible rfl)
              try simp only [Act.put, List.setIfInBounds_toArray, List.set_cons_zero, List.set_cons_succ]
              refine wpAnyH_take (i := 9) (v := ?v9) rfl (by kernel_rfl) (by kernel_rfl) (by kernel_rfl) (fun _ _ _ h => h) (Or.inl ⟨by rfl, ?hy9⟩) (by assumption) ?rest9
              case hy9 => (intro w hSw; (try dsimp only at hSw); go_simp; try with_reducible rfl)
              try simp only [Act.put, List.setIfInBounds_toArray, List.set_cons_zero, List.set_cons_succ]
              refine wpAnyH_ready (rs := [10]) (by kernel_rfl) (by simp) ?_
              refine AllReadyH.cons rfl (fun K' hK => ?_) AllReadyH.nil
              go_simp
              go_at_call 32
              refine (rhas_any _ (frAt N i) s wr3.drew (hfr wr3.drew (below_drew hb))).mono ?_
              rintro e w5 ⟨⟨hv, rfl, hh⟩, b5⟩
              have hb5 : Below w.heap.size w w5 := bt hb (bt (below_drew (Below.refl _ _)) b5)
              refine hK.out _ _ ?_ (fun hHeld => ?_)
              · exact KW w5 hb5
              clear hK K'
              try simp only [Act.put, List.setIfInBounds_toArray, List.set_cons_zero, List.set_cons_succ]
              refine wpAnyH_done (by kernel_rfl) ?_ _
              have hmem : hv = true ↔ nmAt N k ∈ frAt N i := by rw [← U.out.2.2.2]; exact hh
              clear hh
              have hO5 := U.out.2.1.later (bt (below_drew (Below.refl _ _)) b5)
              have hgn := hO5
              cases hv with
              | false =>
                have Y := Lib.hid (And.intro (U.out.1.skip (fun h => by have := hmem.2 h; cases this)) (And.intro hO5 hb5)); clear hO5 hgn hb5 b5 hmem hfr KW
                go_wp2_with fail
                go_roundw
                case rel => exact ⟨k + 1, O, by omega, by go_num, Y.out.1, Y.out.2.1, Y.out.2.2⟩
                case measure => simp [intOf]; omega
              | true =>
                have hm := hmem.1 rfl
                have c1 := row_get hO5 (x := i) (by rw [U.out.1.len]; exact hlti)
                have c2 := row_get hO5 (x := k) (by rw [U.out.1.len]; exact hltk)
                obtain ⟨g', hg', gB, gl, gf, _⟩ := hO5.cells (f := rowP) (k := 1) (fun _ => rfl) rfl (by rw [U.out.1.len]; omega)
                obtain rfl : g' = w.heap.size := by simpa using hg'.symm
                have l1 := U.out.1.low i hlti
                have l2 := U.out.1.low k hltk
                have l3 := H.out.2.2.2.2.2.2 i hlti
                have l4 := H.out.2.2.2.2.2.2 k hltk
                obtain ⟨mx, hmx⟩ : ∃ mx, mx = max (O.getD i 0) (O.getD k 0 + 1) := ⟨_, rfl⟩
                have hst := U.out.1.step H.out.2.2.2.2.1 H.out.2.2.2.2.2.1 hlti hltk hm hmx
                have hput := Own.put (f := rowP) (k := 1) (fun _ => rfl) hO5 i (by rw [U.out.1.len]; exact hlti) (i := 0) (by omega) (x := mx) (u := .int .i64 (mx : Int)) rfl
                rw [Nat.mul_one, Nat.add_zero] at hput
                generalize O.getD i 0 = ra at *
                generalize O.getD k 0 = rb at *
                have hmxI : max (ra : Int) (1 + (rb : Int)) = (mx : Int) := by omega
                have hwr : IntKind.i64.wrap (1 + (rb : Int)) = 1 + (rb : Int) := IntWalk.i64_in _ (by omega)
                have hbp := hb5.setCell (p := ⟨w.heap.size, i, none⟩) (Nat.le_refl _) (.int .i64 (mx : Int))
                have Y := Lib.hid (And.intro hst (And.intro (hput.later (below_drew (Below.refl _ _))) (below_drew hbp))); clear hO5 hgn hb5 b5 hmem hfr KW hm hst hput hbp hmx hg' gB l1 l2 l3 l4
                go_upto_region 12 with fail
                go_still_tail 13, (by kernel_rfl)
                go_wp2_with fail
                go_roundw
                case rel => exact ⟨k + 1, _, by omega, by go_num, Y.out.1, Y.out.2.1, Y.out.2.2⟩
                case measure => simp [intOf]; omega
            · obtain rfl : k = n := by omega
              have Y := Lib.hid (And.intro (hI.next H.out.2.2.2.2.1 H.out.2.2.2.2.2.1 hlti) (And.intro hO hb)); clear hI hO hb
              go_wp2_with fail
              go_roundw
              case rel => exact ⟨i + 1, O, by omega, by go_num, Y.out.1, Y.out.2.1, Y.out.2.2⟩
              case measure => simp [intOf]; omega
        · obtain rfl : i = n := by omega
          have Y := Lib.hid (And.intro hI.pass (And.intro hO hb)); clear hI hO hb
          go_wp2_with fail
          go_roundw
          case rel => exact ⟨p + 1, O, by omega, by go_num, Y.out.1, Y.out.2.1, Y.out.2.2⟩
          case measure => simp [intOf]; omega
    · obtain rfl : p = n := by omega
      have Y := Lib.hid (And.intro hI (And.intro hO hb)); clear hI hO hb
      go_wp2_with fail
      go_ret
      exact ⟨_, O, ⟨rfl, Y.out.2.1, Y.out.1.len.trans H.out.2.2.2.2.1.symm, fun x hx => by
        rw [H.out.2.2.2.2.1] at hx
        exact Y.out.1.pas x hx (Nat.le_of_lt (H.out.2.2.2.2.2.2 x hx))⟩, Y.out.2.2⟩
end Go.Proofs.Ytinonfgehbjneaa
