/- The walk of GraphOrder. -/
import Derived.Test.YtinonfgehbjneaaGphP
import Derived.Deep.RegionHeld3
namespace Go.Proofs.Ytinonfgehbjneaa
open Go.ChangeShapes Go.WideShapes Go.ChangeAt Go.RowKit Go.Maps
open Gr (Nd nmAt frAt Dist Loopy RankFull IsOrder LexR)
set_option linter.unusedVariables false
set_option linter.unusedSimpArgs false

theorem order_len {R : Nat → Nat} {n : Nat} {L : List Nat} (h : IsOrder R n L) : L.length = n := by
  have h1 := Gr.nodup_len h.nodup (fun k hk => (h.2 k).1 hk)
  have h2 := Gr.len_sub (List.range n) L List.nodup_range (fun k hk => (h.2 k).2 (List.mem_range.1 hk))
  simp at h2; omega
theorem order_of {N : List Nd} {R S : Nat → Nat} {L : List Nat} (hR : RankFull N R) (hS : RankFull N S) (h : IsOrder R N.length L) : IsOrder S N.length L := by
  refine ⟨h.1.imp_of_mem fun {a b} ha hb hl => ?_, h.2⟩
  have ea := hR.uniq hS (R a) a (Nat.le_refl _) ((h.2 a).1 ha)
  have eb := hR.uniq hS (R b) b (Nat.le_refl _) ((h.2 b).1 hb)
  unfold LexR at *; omega
/-- Who stands ahead. -/
theorem order_ahead {R : Nat → Nat} {n : Nat} {L : List Nat} (h : IsOrder R n L) {i : Nat} (hi : i < L.length) {k : Nat} (hk : k < n) (hlt : R k < R (L[i]'hi)) : k ∈ L.take i := by
  obtain ⟨q, hq, e⟩ := List.getElem_of_mem ((h.2 k).2 hk)
  have hp := List.pairwise_iff_getElem.1 h.1
  rcases Nat.lt_trichotomy q i with h1 | h1 | h1
  · rw [← e]
    exact List.mem_iff_getElem.2 ⟨q, by rw [List.length_take]; omega, by rw [List.getElem_take]⟩
  · subst h1
    rw [e] at hlt; omega
  · have := hp i q hi hq h1
    rw [e] at this
    unfold LexR at this; omega
theorem order_new {R : Nat → Nat} {n : Nat} {L : List Nat} (h : IsOrder R n L) {i : Nat} (hi : i < L.length) : L[i]'hi ∉ L.take i := Gr.nodup_take h.nodup hi
set_option maxRecDepth 20000 in
set_option maxHeartbeats 16000000 in
theorem walk_GraphOrder (v0 : Value) (Ls : List Lk) (t : Int) (w : World) (h0 : LksR w v0 Ls) (b0 : True) (l1 : 0 ≤ t) (u1 : t ≤ 255) :
    Calls Try.prog 4 #[v0, .int .u8 t] w fun e w' => e = .returned (.bool true) ∧ Below w.heap.size w w' := by
  obtain ⟨j0, hj, hy0, hy1, hy2⟩ := info_parts (P := Try.prog) (e := 3) (z := .int .i64 0) (size := 1) (bytes := 8) (by kernel_rfl)
  obtain ⟨tn, rfl⟩ := Int.eq_ofNat_of_zero_le l1
  obtain ⟨A, c, rfl, a1, a2, _⟩ := h0.1.shape
  have H := Lib.hid h0; clear h0 a1
  go_enter Try.func4, Try.ntmps4
  go_wp2_with fail
  try go_at_call 9
  refine (examples_any w).mono ?_
  rintro e w1 ⟨rfl, b1⟩
  have K1 := Lib.hid b1; clear b1
  go_wp2_with fail
  try go_at_call 11
  refine (down_any _ Ls tn w1 (H.out.later K1.out) (by omega)).mono ?_
  rintro e w2 ⟨r, ⟨rfl, hN⟩, b2⟩
  have hi6 : min Ls.length 6 ≤ 6 := by omega
  have hlen := downU_len Ls tn (min Ls.length 6)
  have hD := down_dist (Ls := Ls) (turn := tn) hi6
  have hLo := down_loop (Ls := Ls) (turn := tn) hi6
  have htt := down_tot (Ls := Ls) (turn := tn) (i := min Ls.length 6) (min Ls.length 6)
  generalize downU Ls tn (min Ls.length 6) = N at *
  obtain ⟨n, hn⟩ : ∃ n, n = min Ls.length 6 := ⟨_, rfl⟩
  rw [← hn] at hlen htt hi6
  clear hn
  have hat := hN.at_
  obtain ⟨l, h1, h2, h3⟩ := hat
  have hln : l.length = n := by rw [← hlen, ← h2, List.length_map]
  obtain ⟨A1, c1, rfl, _, _, _⟩ := h1.shape
  rw [hln] at hN h1 ⊢
  have K2 := Lib.hid (And.intro hN.at_ (And.intro (bt K1.out b2) (And.intro h1 (And.intro h2 (And.intro h3 (And.intro hlen (And.intro hD (And.intro hLo (And.intro (show tot N N.length ≤ 8796093022208 by rw [hlen]; omega) hln))))))))); clear hN b2 h1 h2 h3 hlen hD hLo htt hln
  go_wp2_with fail
  try go_at_call 16
  refine (Order_any _ N w2 K2.out.1 (by have := K2.out.2.2.2.2.2.1; omega) K2.out.2.2.2.2.2.2.2.2.1).mono ?_
  rintro e w3 ⟨r3, k, ⟨rfl, hA⟩, b3⟩
  obtain ⟨rfl, R', L, hF', hL', oL⟩ : k = 0 ∧ ∃ (R : Nat → Nat) (L : List Nat), RankFull N R ∧ IsOrder R N.length L ∧ Own w3 w2.heap.size 3 1 rowP r3 L := by
    rcases hA with ⟨h, _⟩ | ⟨_, h, _⟩ | ⟨_, hk, R, L, h1, h2, h3⟩
    · exact absurd K2.out.2.2.2.2.2.2.1 h
    · exact absurd h K2.out.2.2.2.2.2.2.2.1
    · exact ⟨hk, R, L, h1, h2, h3⟩
  have hLn : L.length = n := (order_len hL').trans K2.out.2.2.2.2.2.1
  obtain ⟨lA, lc, rfl, _, _, _⟩ := oL.shape
  rw [hLn] at oL ⊢
  have K3 := Lib.hid (And.intro (K2.out.1.later b3) (And.intro (bt K2.out.2.1 b3) (And.intro oL (And.intro b3 (And.intro hF' (And.intro hL' hLn)))))); clear b3 oL hA hF' hL' hLn
  go_wp2_with fail
  try go_at_call 14
  refine (Ranks_any _ N w3 K3.out.1 (by have := K2.out.2.2.2.2.2.1; omega) K2.out.2.2.2.2.2.2.2.2.1).mono ?_
  rintro e w4 ⟨r4, k, ⟨rfl, hA⟩, b4⟩
  obtain ⟨rfl, R, oR, hRl, hF⟩ : k = 0 ∧ ∃ R : List Nat, Own w4 w3.heap.size 3 1 rowP r4 R ∧ R.length = n ∧ RankFull N (fun j => R.getD j 0) := by
    rcases hA with ⟨h, _⟩ | ⟨_, h, _⟩ | ⟨_, hk, R, h1, h2, h3⟩
    · exact absurd K2.out.2.2.2.2.2.2.1 h
    · exact absurd h K2.out.2.2.2.2.2.2.2.1
    · exact ⟨hk, R, h1, h2.trans K2.out.2.2.2.2.2.1, h3⟩
  obtain ⟨rA, rc, rfl, _, _, _⟩ := oR.shape
  rw [hRl] at oR ⊢
  have e1 : ((n : Int) != (n : Int)) = false := by simp
  have hO := order_of K3.out.2.2.2.2.1 hF K3.out.2.2.2.2.2.1
  rw [K2.out.2.2.2.2.2.1] at hO
  have K4 := Lib.hid (And.intro (K3.out.1.later b4) (And.intro (bt K3.out.2.1 b4) (And.intro (K3.out.2.2.1.later b4) (And.intro oR (And.intro hRl (And.intro hF (And.intro hO (bt K3.out.2.2.2.1 b4)))))))); clear oR hRl hF b4 hA hO
  go_wp2_with fail
  go_loopw [11, 12] (fun mv iv wr => ∃ i : Nat, i ≤ n ∧ iv = .int .i64 (i : Int) ∧ Own wr w4.heap.size 3 1 rowP mv (L.take i) ∧ Below w4.heap.size w4 wr) (fun _ iv _ => n - (intOf iv).toNat)
  case atStart => exact ⟨0, Nat.zero_le _, rfl, Own.nil _ _ _ _ _, Below.refl _ _⟩
  case round =>
    rename World => wr0
    obtain ⟨i, hi, rfl, hM, hb⟩ := hrel
    by_cases hlt : i < n
    · have hiL : i < L.length := by rw [K3.out.2.2.2.2.2.2]; exact hlt
      obtain ⟨gL, rfl, _, _, _, oc⟩ := (K4.out.2.2.1.later hb).cells (f := rowP) (k := 1) (fun _ => rfl) rfl (by omega)
      have x0 := oc i hiL 0 _ rfl
      rw [Nat.mul_one, Nat.add_zero] at x0
      have hxn := (K4.out.2.2.2.2.2.2.1.2 _).1 (List.getElem_mem hiL)
      have hxm := order_new K4.out.2.2.2.2.2.2.1 hiL
      obtain ⟨mA, mc, rfl, _, _, _⟩ := hM.shape
      have hml : (L.take i).length = i := by rw [List.length_take]; omega
      rw [hml] at hM ⊢
      have hpw := List.pairwise_iff_getElem.1 K4.out.2.2.2.2.2.2.1.1
      have hC0 : ∀ d os, Calls Try.prog 23 #[.slice mA i mc, .int .i64 ((L[i]'hiL : Nat) : Int)] (Go.Sort.grow (redrawn wr0 d) os) (fun e w' => e = .returned (.bool false) ∧ Below (Go.Sort.grow (redrawn wr0 d) os).heap.size (Go.Sort.grow (redrawn wr0 d) os) w') := fun d os => by
        have := has_any _ (L.take i) (L[i]'hiL) _ ((hM.later (below_regrown wr0 d os)).at_ (f := rowP) (k := 1) (fun _ => rfl))
        rwa [decide_eq_false hxm] at this
      obtain ⟨x, hx⟩ : ∃ x, x = L[i]'hiL := ⟨_, rfl⟩
      rw [← hx] at x0 hxn
      simp only [← hx] at hC0
      have h0 := fun d os => cell_regrown x0 d os
      have hxI : ¬ (x : Int) < 0 := by omega
      have hxI2 : ¬ (n : Int) ≤ (x : Int) := by omega
      have hxd : decide ((x : Int) < 0) = false := decide_eq_false hxI
      have hxd2 : decide ((n : Int) ≤ (x : Int)) = false := decide_eq_false hxI2
      have hxd3 : decide (n ≤ x) = false := decide_eq_false (by omega)
      have hxd4 : ¬ n ≤ x := by omega
      have hxd5 : decide ((x : Int) ≥ (n : Int)) = false := decide_eq_false (by omega)
      have hxd6 : decide (x < n) = true := decide_eq_true hxn
      have hpre : i = 0 ∨ ∃ (h1 : 1 ≤ i), ∃ y : Nat, wr0.cell? ⟨gL, i - 1, none⟩ = some (.int .i64 (y : Int)) ∧ y < n ∧ (R.getD y 0 < R.getD x 0 ∨ (R.getD y 0 = R.getD x 0 ∧ y < x)) := by
        rcases (by omega : i = 0 ∨ 1 ≤ i) with h | h
        · exact Or.inl h
        · refine Or.inr ⟨h, L[i - 1]'(by omega), ?_, (K4.out.2.2.2.2.2.2.1.2 _).1 (List.getElem_mem _), ?_⟩
          · have := oc (i - 1) (by omega) 0 _ rfl
            rw [Nat.mul_one, Nat.add_zero] at this; exact this
          · have := hpw (i - 1) i (by omega) hiL (by omega)
            rw [← hx] at this; exact this
      obtain ⟨gR, hgR, _, _, _, rc2⟩ := (K4.out.2.2.2.1.later hb).cells (f := rowP) (k := 1) (fun _ => rfl) rfl (by rw [K4.out.2.2.2.2.1]; omega)
      subst hgR
      have hRc : ∀ k, k < n → wr0.cell? ⟨gR, k, none⟩ = some (.int .i64 ((R.getD k 0 : Nat) : Int)) := fun k hk => by
        have := rc2 k (by rw [K4.out.2.2.2.2.1]; exact hk) 0 _ rfl
        rw [Nat.mul_one, Nat.add_zero] at this
        rw [getD_at (by rw [K4.out.2.2.2.2.1]; exact hk)]; exact this
      have rx := hRc x hxn
      have M := Lib.hid (And.intro hM (And.intro hb (And.intro hx hC0))); clear hM hb hx hC0 hpw oc rc2 hxm
      go_upto_region 13 with fail
      go_cut [130] (fun bv wx => bv = .bool false ∧ Below wr0.heap.size wr0 wx)
      case first =>
        have hC := M.out.2.2.2
        rcases hpre with hi0 | ⟨hi1, y, y0, hyn, hlex⟩
        · have hg1 : ¬ (0 : Int) < (i : Int) := by omega
          have hg2 : decide ((0 : Int) < (i : Int)) = false := decide_eq_false hg1
          have hg3 : decide (0 < i) = false := decide_eq_false (by omega)
          clear hRc rx hi0
          go_wp2_with fail
          refine wp_region_quiet_below (by kernel_rfl) (by kernel_rfl) ?_
          repeat (go_big_quiet_step ((go_at_call 23; with_reducible exact Calls.regrown_of (hC _ _))))
          refine wpQuiet_nil ?_
          intro wq hw'
          have bq : Below wr0.heap.size wr0 wq := by obtain ⟨p, rfl⟩ := hw'; exact below_regrown _ _ _
          clear hw'
          go_wp2_with fail
          go_meet
          exact ⟨rfl, bq⟩
        · have ry := hRc y hyn
          clear hRc
          obtain ⟨im, rfl⟩ : ∃ im, i = im + 1 := ⟨i - 1, by omega⟩
          simp only [Nat.add_sub_cancel] at y0
          have him : ((im : Int) + 1) - 1 = (im : Int) := by omega
          have hwi : IntKind.i64.wrap (im : Int) = (im : Int) := IntWalk.i64_in _ (by omega)
          have hgt : (0 : Int) < (im : Int) + 1 := by omega
          have hgd : decide ((0 : Int) < (im : Int) + 1) = true := decide_eq_true hgt
          have himl : (im : Int) < (n : Int) := by omega
          have hi0 : (0 : Int) ≤ (im : Int) + 1 := by omega
          have hi1' : (im : Int) + 1 < (n : Int) := by omega
          have h1 := fun d os => cell_regrown y0 d os
          have h2 := fun d os => cell_regrown rx d os
          have h3 := fun d os => cell_regrown ry d os
          generalize R.getD x 0 = rxv at *
          generalize R.getD y 0 = ryv at *
          rcases hlex with hl | ⟨rfl, hl⟩
          · have hl1 : ¬ (rxv : Int) < (ryv : Int) := by omega
            have hl2 : decide ((rxv : Int) < (ryv : Int)) = false := decide_eq_false hl1
            have hl5 : decide (rxv < ryv) = false := decide_eq_false (by omega)
            have hl6 : decide (ryv = rxv) = false := decide_eq_false (by omega)
            have hl7 : (ryv == rxv) = false := by simp; omega
            have hl3 : ¬ (ryv : Int) = (rxv : Int) := by omega
            have hl4 : ((ryv : Int) == (rxv : Int)) = false := by simp; omega
            clear hl
            go_wp2_with fail
            refine wp_region_quiet_below (by kernel_rfl) (by kernel_rfl) ?_
            repeat (go_big_quiet_step ((go_at_call 23; with_reducible exact Calls.regrown_of (hC _ _))))
            refine wpQuiet_nil ?_
            intro wq hw'
            have bq : Below wr0.heap.size wr0 wq := by obtain ⟨p, rfl⟩ := hw'; exact below_regrown _ _ _
            clear hw'
            go_wp2_with fail
            go_meet
            exact ⟨rfl, bq⟩
          · have hl1 : ¬ (x : Int) < (y : Int) := by omega
            have hl2 : decide ((x : Int) < (y : Int)) = false := decide_eq_false hl1
            have hl5 : decide (x < y) = false := decide_eq_false (by omega)
            clear hl
            go_wp2_with fail
            refine wp_region_quiet_below (by kernel_rfl) (by kernel_rfl) ?_
            repeat (go_big_quiet_step ((go_at_call 23; with_reducible exact Calls.regrown_of (hC _ _))))
            refine wpQuiet_nil ?_
            intro wq hw'
            have bq : Below wr0.heap.size wr0 wq := by obtain ⟨p, rfl⟩ := hw'; exact below_regrown _ _ _
            clear hw'
            go_wp2_with fail
            go_meet
            exact ⟨rfl, bq⟩
      case rest =>
        obtain ⟨rfl, hbq⟩ := hcut
        rename World => wr1
        clear hpre hRc rx h0
        have M2 := Lib.hid (And.intro (M.out.1.later hbq) (bt M.out.2.1 hbq)); clear hbq
        go_wp2_with fail
        go_loopw [13] (fun kv wr => ∃ k : Nat, k ≤ n ∧ kv = .int .i64 (k : Int) ∧ Below wr1.heap.size wr1 wr) (fun kv _ => n - (intOf kv).toNat)
        case atStart => exact ⟨0, Nat.zero_le _, rfl, Below.refl _ _⟩
        case round =>
          rename World => wr2
          obtain ⟨k, hk, rfl, hb⟩ := hrel
          by_cases hltk : k < n
          · have hb4 : Below w4.heap.size w4 wr2 := bt M2.out.2 hb
            have hb2 : Below w2.heap.size w2 wr2 := bt K4.out.2.2.2.2.2.2.2 hb4
            have hkl : k < l.length := by have := K2.out.2.2.2.2.2.2.2.2.2; omega
            obtain ⟨a, rfl, hca⟩ := (K2.out.2.2.1.later hb2).cells rfl (by rw [K2.out.2.2.2.2.2.2.2.2.2]; omega)
            obtain ⟨e0, _⟩ := hca.row2 k hkl rfl
            obtain ⟨f1, _⟩ := at_node K2.out.2.2.2.1 hkl
            have hsz := (K2.out.2.2.2.2.1 _ (List.getElem_mem hkl)).2.1
            rw [← f1] at e0 hsz
            obtain ⟨s, hs⟩ : ∃ s, s = nmAt N k := ⟨_, rfl⟩
            rw [← hs] at e0 hsz
            obtain ⟨gL', hgL', _, _, _, oc⟩ := (K4.out.2.2.1.later hb4).cells (f := rowP) (k := 1) (fun _ => rfl) rfl (by omega)
            obtain rfl : gL = gL' := by simpa using hgL'
            clear hgL'
            have x1 := oc i hiL 0 _ rfl
            rw [Nat.mul_one, Nat.add_zero] at x1
            change wr2.cell? ⟨gL, i, none⟩ = some (.int .i64 ((L[i]'hiL : Nat) : Int)) at x1
            rw [← M.out.2.2.1] at x1
            have KC := Lib.hid (show ∀ X, Below wr2.heap.size wr2 X → X.cell? (a.add (k * 2)) = some (.string s) ∧ X.cell? ⟨gL, i, none⟩ = some (.int .i64 (x : Int)) from fun X hX => ⟨by rw [hX.cell (World.block_lt_of_cell? wr2 _ e0)]; exact e0, by rw [hX.cell (World.block_lt_of_cell? wr2 _ x1)]; exact x1⟩)
            have cA := Lib.hid (show ∀ X, Below wr2.heap.size wr2 X → Calls Try.prog 21 #[.slice (some a) n c1, .string s] X (AboveP N s X) from fun X hX => Above_any _ N s X ((K4.out.1.later hb4).later hX) hsz (by have := K2.out.2.2.2.2.2.1; omega) K2.out.2.2.2.2.2.2.2.2.1)
            obtain ⟨cb, hcb⟩ : ∃ cb : Bool, (cb = true ↔ Gr.Comes N s x) := by
              by_cases h : Gr.Comes N s x
              · exact ⟨true, by simp [h]⟩
              · exact ⟨false, by simp [h]⟩
            have hmet : cb = true → k ∈ L.take i := fun h => by
              have hc := hcb.1 h
              rw [hs] at hc
              have := K4.out.2.2.2.2.2.1.rise hc k (by rw [K2.out.2.2.2.2.2.1]; exact hltk) rfl
              rw [M.out.2.2.1] at this
              exact order_ahead K4.out.2.2.2.2.2.2.1 hiL hltk this
            have cM := Lib.hid (show ∀ X, Below wr2.heap.size wr2 X → cb = true → Calls Try.prog 23 #[.slice mA i mc, .int .i64 (k : Int)] X (fun e w' => e = .returned (.bool true) ∧ Below X.heap.size X w') from fun X hX h => by
              have := has_any _ (L.take i) k X ((M2.out.1.later (bt hb hX)).at_ (f := rowP) (k := 1) (fun _ => rfl))
              rwa [decide_eq_true (hmet h)] at this)
            have U := Lib.hid (And.intro hcb hb); clear hcb hb hb4 hb2 hca oc f1 hs hmet
            go_upto_region 18 with fail
            have KB := Lib.hid (Below.refl wr2.heap.size wr2)
            go_cut [14] (fun bv wx => bv = .bool cb ∧ Below wr2.heap.size wr2 wx)
            case first =>
              go_region_held3 (fun X => X.cell? (a.add (k * 2)) = some (.string s) ∧ X.cell? ⟨gL, i, none⟩ = some (.int .i64 (x : Int))) (exact KC.out _ (by first | exact KB.out | exact below_drew KB.out)) (first
                | (go_at_call 21; (with_reducible refine (cA.out _ (by first | exact KB.out | exact below_drew KB.out)).mono ?_); rintro e x2 ⟨r5, LA, ⟨rfl, oA, hA⟩, hb⟩; obtain ⟨rA, rn, rc, rfl⟩ := own_shape oA; have KA := Lib.hid (show ∀ X, Below x2.heap.size x2 X → Calls Try.prog 23 #[.slice rA rn rc, .int .i64 (x : Int)] X (fun e w' => e = .returned (.bool cb) ∧ Below X.heap.size X w') from fun X hX => by
                    have hee : decide (x ∈ LA) = cb := by rw [Bool.eq_iff_iff, decide_eq_true_iff, hA.2 x]; exact U.out.1.symm
                    rw [← hee]; exact has_any _ LA x X ((oA.later hX).at_ (f := rowP) (k := 1) (fun _ => rfl))); (first | replace KB := Lib.hid (KB.out.trans (hb.mono KB.out.size)) | replace KB := Lib.hid ((below_drew KB.out).trans (hb.mono KB.out.size))); clear hb oA hA)
                | (go_at_call 23; (with_reducible refine (KA.out _ (by first | exact Below.refl _ _ | exact below_drew (Below.refl _ _))).mono ?_); rintro e x3 ⟨rfl, hb⟩; (first | replace KB := Lib.hid (KB.out.trans (hb.mono KB.out.size)) | replace KB := Lib.hid ((below_drew KB.out).trans (hb.mono KB.out.size))); clear hb))
              all_goals go_wp2_with fail
              all_goals go_meet
              all_goals exact ⟨rfl, KB.out⟩
            case rest =>
              obtain ⟨rfl, hbx⟩ := hcut
              clear KB e0 x1
              have U2 := Lib.hid (And.intro hbx (bt U.out.2 hbx)); clear hbx
              cases cb with
              | true =>
                go_wp2_with fail
                try go_at_call 23
                refine (cM.out _ U2.out.1 (by first | rfl | trivial)).mono ?_
                rintro e w9 ⟨rfl, b9⟩
                have Y2 := Lib.hid (bt U2.out.2 b9); clear b9
                go_wp2_with fail
                go_roundw
                case rel => exact ⟨k + 1, by omega, by go_num, Y2.out⟩
                case measure => simp [intOf]; omega
              | false =>
                go_wp2_with fail
                go_roundw
                case rel => exact ⟨k + 1, by omega, by go_num, U2.out.2⟩
                case measure => simp [intOf]; omega
          · obtain rfl : k = n := by omega
            have hb4 : Below w4.heap.size w4 wr2 := bt M2.out.2 hb
            obtain ⟨gL', hgL', _, _, _, oc⟩ := (K4.out.2.2.1.later hb4).cells (f := rowP) (k := 1) (fun _ => rfl) rfl (by omega)
            obtain rfl : gL = gL' := by simpa using hgL'
            clear hgL'
            have x1 := oc i hiL 0 _ rfl
            rw [Nat.mul_one, Nat.add_zero] at x1
            change wr2.cell? ⟨gL, i, none⟩ = some (.int .i64 ((L[i]'hiL : Nat) : Int)) at x1
            rw [← M.out.2.2.1] at x1
            have hB1 := at_newP wr2 x
            have U := Lib.hid (And.intro (M2.out.1.later hb) hb4); clear hb hb4 oc
            go_wp2_with (at_builtin; refine wpList_append_loc _ rfl (.tmp 156) (.tmp 161) 31 rfl w4.heap.size 3 j0 (.int .i64 0) 1 8 Try.underlying31 hj hy0 hy1 hy2 rfl (by decide) (f := rowP) (fun _ => rfl) one_rowP _ (L.take i) rfl (U.out.1.later (ba _ _)) (some ⟨wr2.heap.size, 0, none⟩) 1 1 [x] rfl rfl hB1 (by rw [hml]; unfold maxLen; omega) (by rw [hml]; omega) (by have := U.out.2.size; simp only [World.size_alloc]; omega) ?_; intro v6 w6 hO6 hg6 hq6; have Z := Lib.hid (And.intro hO6 hg6); clear hO6 hg6 hq6)
            have bA := bt U.out.2 (ba wr2 (.cells #[.int .i64 (x : Int)] 3))
            have b6 := bA.trans (grownBy_below Z.out.2 bA.size (fun k hk => (Own.block U.out.1 hk).1))
            have htk : L.take (i + 1) = L.take i ++ [x] := by rw [Gr.take_more hiL, M.out.2.2.1]
            go_roundw
            case rel => exact ⟨i + 1, by omega, by go_num, htk ▸ Z.out.1, b6⟩
            case measure => simp [intOf]; omega
    · obtain rfl : i = n := by omega
      have U := Lib.hid (bt K4.out.2.1 hb); clear hb hM
      go_wp2_with fail
      go_ret
      exact ⟨rfl, U.out⟩
end Go.Proofs.Ytinonfgehbjneaa
