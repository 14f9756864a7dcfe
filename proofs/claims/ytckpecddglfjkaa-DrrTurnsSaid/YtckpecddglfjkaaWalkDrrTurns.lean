/- The walk of DrrTurns. -/
import Derived.Test.YtckpecddglfjkaaDrT
namespace Go.Proofs.Ytckpecddglfjkaa
open Go.ChangeShapes Go.WideShapes Go.ChangeAt Go.RowKit
open Dr
set_option linter.unusedVariables false
set_option linter.unusedSimpArgs false

set_option maxRecDepth 20000 in
set_option maxHeartbeats 4000000 in
theorem walk_DrrTurns (v0 : Value) (q : List UInt8) (v1 : Value) (c : List UInt8) (who : Int) (w : World) (h0 : BytesAt w v0 q) (b0 : q.length ≤ 140737488351232) (h1 : BytesAt w v1 c) (b1 : c.length ≤ 140737488351232) (t0 : 0 ≤ who) (t1 : who ≤ 255) :
    Calls Try.prog 7 #[v0, v1, .int .u8 who] w fun e w' => e = .returned (.bool true) ∧ Below w.heap.size w w' := by
  obtain ⟨A0, n0, rfl, a0, a1, hcell⟩ := bytes_cell h0
  obtain ⟨m, hm⟩ : ∃ m, m = min q.length 5 := ⟨_, rfl⟩
  have hmin : (if (5 : Int) < (q.length : Int) then (5 : Int) else (q.length : Int)) = (m : Int) := by split <;> omega
  have hm5 : m ≤ 5 := by omega
  have hqm : q.length ≤ 9223372036854775807 := by omega
  have hmq : m ≤ q.length := by omega
  have H := Lib.hid (And.intro h0 (And.intro h1 (And.intro hm hcell))); clear h0 h1 hm hcell
  rcases Nat.eq_zero_or_pos m with hm0 | hm0
  · subst hm0
    go_enter Try.func7, Try.ntmps7
    go_wp2_with (first
      | (go_at_call 9; ((with_reducible refine (examples_any _).mono ?_); rintro e x1 ⟨rfl, bx1⟩))
      | (go_at_call 20; refine (round_any _ q _ (H.out.1.later bx1)).mono ?_; rintro e x2 ⟨rfl, hK⟩; have K := Lib.hid (And.intro bx1 hK); clear bx1 hK))
    go_ret
    exact ⟨rfl, bt K.out.1 K.out.2.bel⟩
  · have hmi0 : ¬ (m : Int) = 0 := by omega
    have hmi1 : ((m : Int) == 0) = false := by simpa using hmi0
    go_enter Try.func7, Try.ntmps7
    go_wp2_with (first
      | (go_at_call 9; ((with_reducible refine (examples_any _).mono ?_); rintro e x1 ⟨rfl, bx1⟩))
      | (go_at_call 20; refine (round_any _ q _ (H.out.1.later bx1)).mono ?_; rintro e x2 ⟨rfl, hK⟩; have K := Lib.hid (And.intro bx1 hK); clear bx1 hK))
    go_at_call 21
    refine (lprice_any _ c m x2 (H.out.2.1.later (bt K.out.1 K.out.2.bel)) hm5).mono ?_
    rintro e x3 ⟨lv, ⟨rfl, hO⟩, bx3⟩
    obtain ⟨cA, cc, rfl, _, _, _⟩ := hO.shape
    have hpl := priceL_len c m
    rw [hpl]
    rw [hpl] at hO
    have K3 := Lib.hid (And.intro K.out.1 (And.intro (K.out.2.later bx3) (And.intro (hO.lift K.out.2.bel.size) (priceL_ok c m hm5)))); clear hO bx3 K
    obtain ⟨kk, hkk⟩ : ∃ kk : Nat, who % (m : Int) = (kk : Int) := ⟨(who % (m : Int)).toNat, by have := Int.emod_nonneg who hmi0; omega⟩
    have hkm : kk < m := by have := Int.emod_lt_of_pos who (show (0 : Int) < (m : Int) by omega); omega
    have hkt : who.tmod (m : Int) = (kk : Int) := by rw [Int.tmod_eq_emod_of_nonneg t0]; exact hkk
    have hkq : kk < q.length := by omega
    obtain ⟨aq, rfl, hcq⟩ := H.out.2.2.2 kk hkq
    have z0 : x3.cell? (aq.add kk) = some (.int .u8 ((q[kk]'hkq).toNat : Int)) := by rw [(bt K3.out.1 K3.out.2.1.bel).cell (World.block_lt_of_cell? w _ hcq)]; exact hcq
    have hqk := qI_get q kk hkq
    have hqu := (q[kk]'hkq).toNat_lt
    obtain ⟨ow, how⟩ : ∃ ow : Int, ow = ((q[kk]'hkq).toNat : Int) := ⟨_, rfl⟩
    rw [← how] at z0 hqk
    have o1 : 0 ≤ ow := by omega
    have o2 : ow ≤ 255 := by omega
    obtain ⟨gc, rfl, _, _, _, hcl⟩ := K3.out.2.2.1.cells (f := rowC) (k := 2) (fun _ => rfl) rfl (by omega)
    obtain ⟨hp2, hpe⟩ := priceL_get c m kk hkm
    have z1 := hcl kk hp2 1 _ rfl
    rw [hpe] at z1
    simp only at z1
    have hck := prI_pos c kk
    have hnd : (prI c kk + (1 + ow) - 1) / (1 + ow) + 1 = needI q c kk := by unfold needI; rw [hqk]
    have hnb := need_bd q c kk
    obtain ⟨ck, hcke⟩ : ∃ ck, ck = prI c kk := ⟨_, rfl⟩
    obtain ⟨nd, hnde⟩ : ∃ nd, nd = needI q c kk := ⟨_, rfl⟩
    rw [← hcke] at z1 hck hnd
    rw [← hnde] at hnd hnb
    have hdt : (ck + (1 + ow) - 1).tdiv (1 + ow) = nd - 1 := by rw [Int.tdiv_eq_ediv_of_nonneg (by omega)]; omega
    have hdv : (ck + (1 + ow) - 1) / (1 + ow) = nd - 1 := by omega
    have N := Lib.hid (And.intro hcke (And.intro hnde hnd)); clear hcke hnde hnd hcl hpe hqu how hcq hqk
    have s1 : IntKind.i64.wrap (1 + ow) = 1 + ow := IntWalk.i64_in _ (by omega)
    have s2 : IntKind.i64.wrap (ck + (1 + ow)) = ck + (1 + ow) := IntWalk.i64_in _ (by omega)
    have s3 : IntKind.i64.wrap (ck + (1 + ow) - 1) = ck + (1 + ow) - 1 := IntWalk.i64_in _ (by omega)
    have s4 : IntKind.i64.wrap (nd - 1) = nd - 1 := IntWalk.i64_in _ (by omega)
    have s5 : IntKind.i64.wrap (nd - 1 + 1) = nd := by rw [show nd - 1 + 1 = nd by omega]; exact IntWalk.i64_in _ (by omega)
    have s6 : nd - 1 + 1 = nd := by omega
    have s7 : ¬ (1 + ow) = 0 := by omega
    have s8 : (kk : Int) < (q.length : Int) := by omega
    have s9 : (kk : Int) < (m : Int) := by omega
    go_wp2_with fail
    clear s1 s2 s3 s4 s5 s6 s7 hdt hdv z0 z1
    go_loopw [14, 15] (fun sv iv w3 => ∃ (i : Nat), i ≤ m ∧ sv = .int .i64 (sumTo (fun j => offI q c kk j + 1) i) ∧ iv = .int .i64 i ∧ Below x3.heap.size x3 w3) (fun _ i _ => m - (intOf i).toNat)
    case atStart => exact ⟨0, Nat.zero_le _, rfl, rfl, Below.refl _ _⟩
    case round =>
      rename World => w3
      obtain ⟨i, hi, rfl, rfl, hb⟩ := hrel
      by_cases hlt : i < m
      · have hiq : i < q.length := by omega
        obtain ⟨aq', haq, hcq⟩ := H.out.2.2.2 i hiq
        obtain rfl : aq = aq' := by simpa using haq
        have z0 : w3.cell? (aq.add i) = some (.int .u8 ((q[i]'hiq).toNat : Int)) := by rw [(bt (bt K3.out.1 K3.out.2.1.bel) hb).cell (World.block_lt_of_cell? w _ hcq)]; exact hcq
        have hqk := qI_get q i hiq
        have hqu := (q[i]'hiq).toNat_lt
        obtain ⟨ow', how⟩ : ∃ ow : Int, ow = ((q[i]'hiq).toNat : Int) := ⟨_, rfl⟩
        rw [← how] at z0 hqk
        have o1' : 0 ≤ ow' := by omega
        have o2' : ow' ≤ 255 := by omega
        obtain ⟨gc', hgc, _, _, _, hcl⟩ := K3.out.2.2.1.cells (f := rowC) (k := 2) (fun _ => rfl) rfl (by omega)
        obtain rfl : gc = gc' := by simpa using hgc
        obtain ⟨hp2', hpe⟩ := priceL_get c m i hlt
        have y1 := hcl i hp2' 1 _ rfl
        rw [hpe] at y1
        simp only at y1
        have z1 : w3.cell? ⟨gc, i * 2 + 1, none⟩ = some (.int .i64 (prI c i)) := by rw [hb.cell (World.block_lt_of_cell? x3 _ y1)]; exact y1
        have hci := prI_pos c i
        have hob := off_bd q c kk i
        have hmb := most_bd q c kk i
        have hoe : offI q c kk i = (nd * (1 + ow') + 512) / prI c i := by unfold offI; rw [hqk, ← N.out.2.1]
        have hse : sumTo (fun j => offI q c kk j + 1) (i + 1) = sumTo (fun j => offI q c kk j + 1) i + (offI q c kk i + 1) := rfl
        rw [← N.out.2.1, hqk] at hob
        obtain ⟨ci, hcie⟩ : ∃ ci, ci = prI c i := ⟨_, rfl⟩
        obtain ⟨S0, hS0⟩ : ∃ S0, S0 = sumTo (fun j => offI q c kk j + 1) i := ⟨_, rfl⟩
        obtain ⟨oi, hoi⟩ : ∃ oi, oi = offI q c kk i := ⟨_, rfl⟩
        obtain ⟨pp, hpp⟩ : ∃ pp, pp = nd * (1 + ow') := ⟨_, rfl⟩
        rw [← hcie] at z1 hci hoe
        rw [← hS0] at hmb hse ⊢
        rw [← hoi] at hob hoe hse
        rw [← hpp] at hob hoe
        have P := Lib.hid (And.intro hb (And.intro hse hS0)); clear hb hse hS0 hcie hoi hcl hpe y1 hcq hqk how hqu
        have u1 : IntKind.i64.wrap (1 + ow') = 1 + ow' := IntWalk.i64_in _ (by omega)
        have u2 : IntKind.i64.wrap (nd * (1 + ow')) = pp := by rw [← hpp]; exact IntWalk.i64_in _ (by omega)
        have u3 : IntKind.i64.wrap (pp + 512) = pp + 512 := IntWalk.i64_in _ (by omega)
        have u4 : (pp + 512).tdiv ci = oi := by rw [Int.tdiv_eq_ediv_of_nonneg (by omega)]; exact hoe.symm
        have u5 : (pp + 512) / ci = oi := hoe.symm
        have u6 : IntKind.i64.wrap oi = oi := IntWalk.i64_in _ (by omega)
        have u7 : IntKind.i64.wrap (S0 + oi) = S0 + oi := IntWalk.i64_in _ (by omega)
        have u8 : IntKind.i64.wrap (S0 + oi + 1) = S0 + oi + 1 := IntWalk.i64_in _ (by omega)
        have u9 : ¬ ci = 0 := by omega
        have u10 : nd * (1 + ow') = pp := hpp.symm
        have u11 : (i : Int) < (q.length : Int) := by omega
        have u12 : (i : Int) < (m : Int) := by omega
        clear hpp hoe
        go_wp2_with fail
        go_quiet (fail)
        go_wp2
        go_roundw
        case rel => exact ⟨i + 1, by omega, by rw [P.out.2.1, ← Int.add_assoc], by go_num, below_drewN P.out.1 _⟩
        case measure => simp [intOf]; omega
      · obtain rfl : i = m := by omega
        have P := Lib.hid hb; clear hb
        have hmb := most_bd q c kk i
        obtain ⟨MS, hMS⟩ : ∃ MS, MS = sumTo (fun j => offI q c kk j + 1) i := ⟨_, rfl⟩
        rw [← hMS] at hmb ⊢
        have N2 := Lib.hid hMS; clear hMS
        have hin : sumTo (fun _ => (0 : Int)) i = 0 := by
          have := sum_const 0 i
          simpa using this
        go_wp2_with fail
        go_loopw [16] (fun iv w4 => ∃ (t : Nat) (L : List Fl) (fr : Bool) (sp : Int → Int) (n : Nat → Int), (t : Int) ≤ MS + 1 ∧ iv = .int .i64 t ∧ Kp x1 w4 x1.heap.size L fr ∧ (L.map key).Perm ((roundL q).map key) ∧ Own w4 x1.heap.size 55 2 rowC (.slice (some ⟨gc, 0, none⟩) i cc) (priceL c i) ∧ FairS sp L fr ∧ (∀ j, j < i → sp (j : Int) = n j * prI c j) ∧ n kk = 0 ∧ sumTo n i = t ∧ ∀ f ∈ L, f.1 = (kk : Int) → f.2.2.1 < prI c kk) (fun iv _ => (MS + 1 - intOf iv).toNat)
        case atStart =>
          refine ⟨0, _, _, fun _ => 0, fun _ => 0, by omega, rfl, K3.out.2.1.later P.out, List.Perm.refl _, K3.out.2.2.1.later P.out, ?_, fun j _ => by simp, rfl, hin, fun f hf e => ?_⟩
          · rw [decide_eq_true (by omega)]; exact fair_start q i (by omega)
          · unfold roundL at hf
            obtain ⟨x, _, rfl⟩ := List.mem_map.1 hf
            have := prI_pos c kk
            show (0 : Int) < _
            omega
        case round =>
          rename World => w4
          obtain ⟨t, L, fr, sp, n, ht, rfl, hK, hP, hO, hF, hn, hn0, hsum, hpo⟩ := hrel
          by_cases hlt2 : (t : Int) ≤ MS
          · obtain ⟨hLn, hids⟩ := roundL_perm_ids hP H.out.2.2.1
            have hne : L ≠ [] := fun e => by rw [e] at hLn; simp at hLn; omega
            have cT := T_any x1 w4 x1.heap.size L fr _ _ hK (Own.at_ (f := rowC) (k := 2) (fun _ => rfl) hO) K3.out.2.2.2
            have M := Lib.hid (And.intro cT (And.intro hP (And.intro hO (And.intro hF (And.intro hn (And.intro hn0 (And.intro hsum (And.intro hpo (And.intro hK (And.intro hids hne)))))))))); clear cT hK hP hO hF hn hn0 hsum hpo hids hne hLn
            go_wp2_with fail
            go_at_call 15
            refine (M.out.1).mono ?_
            rintro e x5 ⟨id, ok, L', fr', ⟨rfl, hR, hK5⟩, hFr⟩
            obtain ⟨rfl, hF2, hpo2⟩ := fair_TurnR M.out.2.2.2.1 M.out.2.2.2.2.2.2.2.2.1.ok (cost_all M.out.2.2.2.2.2.2.2.2.2.1 c) M.out.2.2.2.2.2.2.2.2.2.2 hR
            obtain ⟨kq, hkq2, rfl⟩ : ∃ kq : Nat, kq < i ∧ id = (kq : Int) := by
              obtain ⟨h1, h2⟩ := (M.out.2.2.2.2.2.2.2.2.2.1 id).1 hR.mem.1
              obtain ⟨kq, e⟩ := Int.eq_ofNat_of_zero_le h1
              exact ⟨kq, by omega, e⟩
            rw [cost_priceL c i kq hkq2] at hF2
            by_cases hkk2 : kq = kk
            · subst hkk2
              have Z := Lib.hid hK5; clear hR hK5 hFr hF2 hpo2
              go_wp2
              go_ret
              exact ⟨rfl, bt K3.out.1 Z.out.bel⟩
            · have hne2 : ¬ (kq : Int) = (kk : Int) := by omega
              have hne3 : ((kq : Int) == (kk : Int)) = false := by simpa using hne2
              have hpo3 := hpo2 (kk : Int) (fun f hf e => by rw [cost_priceL c i kk hkm]; exact M.out.2.2.2.2.2.2.2.1 f hf e) hne2
              rw [cost_priceL c i kk hkm] at hpo3
              have Z := Lib.hid (And.intro hK5 (And.intro (hR.keys.trans M.out.2.1) (And.intro (M.out.2.2.1.frm hFr (by decide) (by decide)) (And.intro hF2 hpo3)))); clear hR hK5 hFr hF2 hpo2 hpo3
              have htb : (t : Int) + 1 ≤ 9223372036854775807 := by omega
              go_wp2
              go_roundw
              case rel =>
                refine ⟨t + 1, L', fr', bump sp (kq : Int) (prI c kq), fun j => if j = kq then n j + 1 else n j, by omega, by go_num, Z.out.1, Z.out.2.1, Z.out.2.2.1, Z.out.2.2.2.1, fun j hj => ?_, ?_, ?_, Z.out.2.2.2.2⟩
                · unfold bump
                  have hnj := M.out.2.2.2.2.1 j hj
                  by_cases e : j = kq
                  · subst e
                    simp only [if_true]
                    rw [hnj, Int.add_mul]; omega
                  · have e2 : ¬ (j : Int) = (kq : Int) := by omega
                    simp only [e, e2, if_false]
                    exact hnj
                · show (if kk = kq then n kk + 1 else n kk) = 0
                  rw [if_neg (fun e => hkk2 e.symm)]
                  exact M.out.2.2.2.2.2.1
                · rw [sum_bump n kq hkq2, M.out.2.2.2.2.2.2.1]; omega
              case measure => simp [intOf]; omega
          · exfalso
            have h1 := turns_in_time H.out.2.2.1 hkm hF hK.ok hP hn hn0 hpo
            have h2 : sumTo (fun j => offI q c kk j + 1) i = sumTo (fun j => offI q c kk j) i + sumTo (fun _ => 1) i := sum_add (fun j => offI q c kk j) (fun _ => 1) i
            have h3 := sum_const 1 i
            have h4 := N2.out
            omega
end Go.Proofs.Ytckpecddglfjkaa
