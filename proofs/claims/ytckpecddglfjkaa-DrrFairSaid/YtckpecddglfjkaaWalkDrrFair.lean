/- The walk of DrrFair. -/
import Derived.Test.YtckpecddglfjkaaDrW
namespace Go.Proofs.Ytckpecddglfjkaa
open Go.ChangeShapes Go.WideShapes Go.ChangeAt Go.RowKit
open Dr
set_option linter.unusedVariables false
set_option linter.unusedSimpArgs false

set_option maxRecDepth 20000 in
set_option maxHeartbeats 4000000 in
theorem walk_DrrFair (v0 : Value) (q : List UInt8) (v1 : Value) (c : List UInt8) (turns : Int) (w : World) (h0 : BytesAt w v0 q) (b0 : q.length ≤ 140737488351232) (h1 : BytesAt w v1 c) (b1 : c.length ≤ 140737488351232) (t0 : 0 ≤ turns) (t1 : turns ≤ 255) :
    Calls Try.prog 4 #[v0, v1, .int .u8 turns] w fun e w' => e = .returned (.bool true) ∧ Below w.heap.size w w' := by
  obtain ⟨A0, n0, rfl, a0, a1, _⟩ := bytes_cell h0
  obtain ⟨i0, hi0, hz0, hz1, hz2⟩ := info_parts (P := Try.prog) (e := 3) (z := .int .i64 0) (size := 1) (bytes := 8) (by kernel_rfl)
  obtain ⟨m, hm⟩ : ∃ m, m = min q.length 5 := ⟨_, rfl⟩
  have hmin : (if (5 : Int) < (q.length : Int) then (5 : Int) else (q.length : Int)) = (m : Int) := by split <;> omega
  have hm5 : m ≤ 5 := by omega
  have hqm : q.length ≤ 9223372036854775807 := by omega
  have H := Lib.hid (And.intro h0 (And.intro h1 hm)); clear h0 h1 hm
  go_enter Try.func4, Try.ntmps4
  go_wp2_with (first
    | (go_at_call 9; ((with_reducible refine (examples_any _).mono ?_); rintro e x1 ⟨rfl, bx1⟩))
    | (go_at_call 20; refine (round_any _ q _ (H.out.1.later bx1)).mono ?_; rintro e x2 ⟨rfl, hK⟩; have K := Lib.hid (And.intro bx1 hK); clear bx1 hK))
  go_at_call 21
  refine (lprice_any _ c m x2 (H.out.2.1.later (bt K.out.1 K.out.2.bel)) hm5).mono ?_
  rintro e x3 ⟨lv, ⟨rfl, hO⟩, bx3⟩
  obtain ⟨cA, cc, rfl, _, _, _⟩ := hO.shape
  have hpl := priceL_len c m
  rw [hpl]
  rw [hpl] at hO
  have K3 := Lib.hid (And.intro K.out.1 (And.intro (K.out.2.later bx3) (And.intro (hO.lift K.out.2.bel.size) (priceL_ok c m hm5)))); clear hO bx3 K
  have hs3 := K3.out.2.1.bel.size
  go_wp2_with (refine wpList_make_full _ rfl _ _ 53 rfl x1.heap.size 3 i0 (.int .i64 0) 1 Try.underlying53 hi0 hz0 hz1 .i64 .i64 _ _ m rfl rfl rfl rfl (by rw [hz2]; omega) (by unfold maxLen; omega) hs3 ?_; intro x4 hO4 hg4; have K4 := Lib.hid (And.intro hO4 (grownBy_below hg4 (B := x3.heap.size) (Nat.le_refl _) (fun k hk => by simp at hk))); clear hO4 hg4)
  have hO4 : Own x4 x1.heap.size 3 1 rowN (.slice (some ⟨x3.heap.size, 0, none⟩) m m) (spL (fun _ => 0) m) := by
    have h4 := K4.out.1
    unfold Own
    rw [spL_len]
    rw [spL_zero]; exact h4
  generalize hgs : x3.heap.size = gs at *
  have M0 := Lib.hid (And.intro (K3.out.2.1.later (by have := K4.out.2; rw [← hgs] at this; exact this)) (And.intro (K3.out.2.2.1.later (by have := K4.out.2; rw [← hgs] at this; exact this)) hO4)); clear hO4
  go_loopw [12] (fun iv wr => ∃ (k : Nat) (L : List Fl) (fr : Bool) (sp : Int → Int), k ≤ 255 ∧ iv = .int .i64 k ∧ Kp x1 wr x1.heap.size L fr ∧ (L.map key).Perm ((roundL q).map key) ∧ Own wr x1.heap.size 55 2 rowC (.slice cA m cc) (priceL c m) ∧ Own wr x1.heap.size 3 1 rowN (.slice (some ⟨gs, 0, none⟩) m m) (spL sp m) ∧ (0 < m → FairS sp L fr) ∧ ∀ j, 0 ≤ sp j ∧ sp j ≤ 511 * k) (fun i _ => 255 - (intOf i).toNat)
  case atStart => exact ⟨0, _, _, fun _ => 0, by omega, rfl, M0.out.1, List.Perm.refl _, M0.out.2.1, M0.out.2.2, fun h => by have := H.out.2.2; rw [decide_eq_true (by omega)]; exact fair_start q m (by omega), fun j => ⟨Int.le_refl 0, by simp⟩⟩
  case round =>
    clear M0
    obtain ⟨k, L, fr, sp, hk, rfl, hK, hP, hO, hS, hF, hsp⟩ := hrel
    by_cases hlt : (k : Int) < turns
    · rcases Nat.eq_zero_or_pos m with hm0 | hm0
      · subst hm0
        have hL0 : L = [] := by
          have := (roundL_perm_ids hP H.out.2.2).1
          exact List.eq_nil_of_length_eq_zero this
        subst hL0
        have cT := T_any x1 wr x1.heap.size [] fr _ _ hK (Own.at_ (f := rowC) (k := 2) (fun _ => rfl) hO) K3.out.2.2.2
        have M := Lib.hid (And.intro cT (And.intro hP (And.intro hO (And.intro hS hsp)))); clear cT hK hP hO hS hF hsp
        go_wp2_with fail
        go_at_call 15
        refine (M.out.1).mono ?_
        rintro e x5 ⟨id, ok, L', fr', ⟨rfl, hR, hK⟩, hF⟩
        obtain ⟨rfl, rfl, hL', _⟩ := hR.no rfl
        have Z := Lib.hid (And.intro hK (And.intro hR.keys hF)); clear hR hK hF hL'
        go_wp2_with fail
        go_loopw [17] (fun iv w3 => ∃ (i : Nat), i = 0 ∧ iv = .int .i64 i ∧ Below x5.heap.size x5 w3) (fun i _ => 0)
        case atStart => exact ⟨0, rfl, rfl, Below.refl _ _⟩
        case round =>
          rename World => w3
          obtain ⟨i, rfl, rfl, hb⟩ := hrel
          have N := Lib.hid hb; clear hb
          go_wp2
          go_roundw
          case rel =>
            (repeat apply Exists.intro)
            exact ⟨⟨k + 1, L', fr', sp, by omega, by go_num, Z.out.1.later N.out, Z.out.2.1.trans M.out.2.1, (M.out.2.2.1.frm Z.out.2.2 (by decide) (by decide)).later N.out, (M.out.2.2.2.1.frm Z.out.2.2 (by decide) (by decide)).later N.out, fun h => absurd h (by omega), fun j => by have := M.out.2.2.2.2 j; omega⟩, rfl⟩
          case measure => simp [intOf]; omega
      · obtain ⟨hLn, hids⟩ := roundL_perm_ids hP H.out.2.2
        have hne : L ≠ [] := fun e => by rw [e] at hLn; simp at hLn; omega
        have cT := T_any x1 wr x1.heap.size L fr _ _ hK (Own.at_ (f := rowC) (k := 2) (fun _ => rfl) hO) K3.out.2.2.2
        have M := Lib.hid (And.intro cT (And.intro hP (And.intro hO (And.intro hS (And.intro hsp (And.intro (hF hm0) (And.intro hK (And.intro hids hne)))))))); clear cT hK hP hO hS hF hsp hids hne hLn
        go_wp2_with fail
        go_at_call 15
        refine (M.out.1).mono ?_
        rintro e x5 ⟨id, ok, L', fr', ⟨rfl, hR, hK5⟩, hFr⟩
        obtain ⟨rfl, hF2, _⟩ := fair_TurnR M.out.2.2.2.2.2.1 M.out.2.2.2.2.2.2.1.ok (cost_all M.out.2.2.2.2.2.2.2.1 c) M.out.2.2.2.2.2.2.2.2 hR
        obtain ⟨kq, hkq, rfl⟩ : ∃ kq : Nat, kq < m ∧ id = (kq : Int) := by
          obtain ⟨h1, h2⟩ := (M.out.2.2.2.2.2.2.2.1 id).1 hR.mem.1
          obtain ⟨kq, e⟩ := Int.eq_ofNat_of_zero_le h1
          exact ⟨kq, by omega, e⟩
        rw [cost_priceL c m kq hkq] at hF2
        obtain ⟨hp2, hpe⟩ := priceL_get c m kq hkq
        have hcv := prI_pos c kq
        have hO5 := M.out.2.2.1.frm hFr (by decide) (by decide)
        have hS5 := M.out.2.2.2.1.frm hFr (by decide) (by decide)
        have hsk := M.out.2.2.2.2.1 (kq : Int)
        have hsl : kq < (spL sp m).length := by rw [spL_len]; exact hkq
        obtain ⟨y0, yf⟩ := own_num hS5 kq hsl
        rw [spL_get] at y0
        obtain ⟨gc, rfl, _, _, _, hcl⟩ := hO5.cells (f := rowC) (k := 2) (fun _ => rfl) rfl (by omega)
        have y1 := hcl kq hp2 1 _ rfl
        rw [hpe] at y1
        have hS6 := own_nput hS5 kq hsl (sp (kq : Int) + prI c kq)
        rw [spL_bump] at hS6
        have hbS := hS5.block (g := gs) rfl
        have hO6 := own_oset hO5 hbS.2 (by decide) kq (.int .i64 (sp (kq : Int) + prI c kq))
        have hK6 := hK5.far (grown_set x5 gs kq (.int .i64 (sp (kq : Int) + prI c kq))) hbS.2 (by decide) (by decide) hbS.1
        obtain ⟨sv, hsv⟩ : ∃ sv, sv = sp (kq : Int) := ⟨_, rfl⟩
        obtain ⟨cv, hcve⟩ : ∃ cv, cv = prI c kq := ⟨_, rfl⟩
        rw [← hsv, ← hcve] at hS6 hO6 hK6
        rw [← hsv] at y0 hsk
        rw [← hcve] at hcv y1 hF2
        simp only at y1
        have u1 : IntKind.i64.wrap (sv + cv) = sv + cv := IntWalk.i64_in _ (by omega)
        have u2 : ¬ (kq : Int) < 0 := by omega
        have u3 : decide ((kq : Int) < 0) = false := decide_eq_false u2
        have u4 : ¬ (m : Int) ≤ (kq : Int) := by omega
        have u5 : decide ((m : Int) ≤ (kq : Int)) = false := decide_eq_false u4
        have u6 : (0 : Int) < (m : Int) := by omega
        have u7 : decide ((0 : Int) < (m : Int)) = true := decide_eq_true u6
        have u8 : (kq : Int) < (m : Int) := by omega
        have Z := Lib.hid (And.intro hS6 (And.intro hO6 (And.intro hK6 (And.intro (hR.keys.trans M.out.2.1) (And.intro hF2 (And.intro hcv (And.intro hsk hsv))))))); clear hS6 hO6 hK6 hR hK5 hFr hF2 hO5 hS5 hbS hcl hpe hcve hsv hsk
        go_wp2_with fail
        go_still_tail 13, (by kernel_rfl)
        go_wp2_with fail
        obtain ⟨x6, hx6⟩ : ∃ x6, x6 = (x5.setCell ⟨gs, kq, none⟩ (.int .i64 (sv + cv))).drew := ⟨_, rfl⟩
        rw [← hx6]
        obtain ⟨sp', hsp'⟩ : ∃ sp', sp' = bump sp (kq : Int) cv := ⟨_, rfl⟩
        have hspb : ∀ j, 0 ≤ sp' j ∧ sp' j ≤ 511 * (k : Int) + 511 := fun j => by
          have h1 := M.out.2.2.2.2.1 j
          have h2 := Z.out.2.2.2.2.2.1
          rw [hsp']; unfold bump
          split <;> omega
        have hS6 := Z.out.1
        have hF6 := Z.out.2.2.2.2.1
        rw [← hsp'] at hS6 hF6
        obtain ⟨G, hG0, hGall⟩ := hF6.all
        obtain ⟨hLn6, hids6⟩ := roundL_perm_ids Z.out.2.2.2.1 H.out.2.2
        have P := Lib.hid (And.intro (hS6.heap (w' := x6) (by rw [hx6]; rfl)) (And.intro (Z.out.2.1.heap (w' := x6) (by rw [hx6]; rfl)) (And.intro (Z.out.2.2.1.same (W' := x6) (by rw [hx6]; rfl) (by rw [hx6]; rfl) (by rw [hx6]; rfl) (by rw [hx6]; rfl)) (And.intro Z.out.2.2.2.1 (And.intro hF6 (And.intro hspb (And.intro hGall hids6)))))))
        clear hS6 hF6 hspb hGall hids6 hx6 hsp' hLn6 Z y0 y1 yf u1 u2 u3 u4 u5 u8
        go_loopw [15, 16, 17] (fun lv mv iv w3 => ∃ (i : Nat) (l mo : Int), i ≤ m ∧ lv = .int .i64 l ∧ mv = .int .i64 mo ∧ iv = .int .i64 i ∧ ((i = 0 ∧ l = 1099511627776 ∧ mo = 0) ∨ (0 < i ∧ G ≤ l ∧ l ≤ G + 1 ∧ G ≤ mo ∧ mo ≤ G + 1)) ∧ Below x6.heap.size x6 w3) (fun _ _ i _ => m - (intOf i).toNat)
        case atStart => exact ⟨0, _, _, Nat.zero_le _, rfl, rfl, rfl, Or.inl ⟨rfl, rfl, rfl⟩, Below.refl _ _⟩
        case round =>
          rename World => w3
          obtain ⟨i, l, mo, hi, rfl, rfl, rfl, hlm, hb⟩ := hrel
          by_cases hlt2 : i < m
          · obtain ⟨f, hf, hfi, hff⟩ := findG_some ((P.out.2.2.2.2.2.2.2 (i : Int)).2 ⟨by omega, by omega⟩)
            obtain ⟨d1, d2, d3, d4⟩ := okS_defs P.out.2.2.1.ok f hf
            have hsi := P.out.2.2.2.2.2.1 (i : Int)
            obtain ⟨g, hg, hgG⟩ : ∃ g, IsG sp' f g ∧ (g = G ∨ g = G + 1) := by
              rcases P.out.2.2.2.2.2.2.1 f hf with h | h
              · exact ⟨_, h, Or.inl rfl⟩
              · exact ⟨_, h, Or.inr rfl⟩
            have hg0 : 0 ≤ g := by omega
            have hgs2 := isG_small hg hg0 d4 200000 (by rw [hfi]; omega)
            obtain ⟨e1, e2, e3, e4⟩ := isG_div hg d4 (by rw [hfi]; omega)
            have cF := F_any x1 w3 x1.heap.size L' fr' (P.out.2.2.1.later hb)
            have hsil : i < (spL sp' m).length := by rw [spL_len]; exact hlt2
            have hSW : ∀ W, Below w3.heap.size w3 W → W.cell? ⟨gs, i, none⟩ = some (.int .i64 (sp' (i : Int))) := fun W hW => by
              have := (own_num (P.out.1.later (bt hb hW)) i hsil).1
              rw [spL_get] at this
              exact this
            generalize hss : sp' (i : Int) = s at *
            obtain ⟨fi, fq, fd, fc⟩ := f
            simp only at hfi d1 d2 d3 d4 e1 e2 e3 e4
            subst hfi
            rw [hss] at e1 e2 e3 e4
            have N := Lib.hid (And.intro cF (And.intro hff (And.intro hSW (And.intro hlm (And.intro hb (And.intro hgG hss)))))); clear cF hff hSW hlm hb hgG hss hg hf
            go_wp2_with fail
            go_at_call 19
            refine (N.out.1).mono ?_
            rintro e x8 ⟨fv, ⟨rfl, hOf, hK8⟩, bx8⟩
            have cf := lfind_any fv _ (i : Int) x8 (Own.at_ (f := rowG) (k := 3) (fun _ => rfl) hOf)
            unfold FindP at cf
            rw [N.out.2.1] at cf
            simp only [gl] at cf
            have Q := Lib.hid (And.intro cf bx8); clear cf hOf hK8 bx8
            go_wp2_with fail
            go_at_call 22
            refine (Q.out.1).mono ?_
            rintro e x9 ⟨rfl, bx9⟩
            have hSW := N.out.2.2.1 _ (bt Q.out.2 (bt bx9 (ba x9 (.cells #[.int .i64 (i : Int), .int .i64 fq, .int .i64 fd] 48))))
            have R := Lib.hid (bt Q.out.2 bx9); clear bx9
            have v1 : IntKind.i64.wrap (s + fd) = s + fd := IntWalk.i64_in _ (by omega)
            have v2 : ¬ fq < 1 := by omega
            have v3 : decide (fq < 1) = false := decide_eq_false v2
            have v4 : ¬ fq = 0 := by omega
            have v5 : (fq == 0) = false := by simpa using v4
            have v6 : 0 ≤ s + fd := by omega
            have v7 : IntKind.i64.wrap g = g := IntWalk.i64_in _ (by omega)
            go_wp2_with fail
            go_quiet (fail)
            go_wp2_with fail
            go_quiet (fail)
            go_wp2
            go_roundw
            case rel =>
              have hlm := N.out.2.2.2.1
              have hgG := N.out.2.2.2.2.2.1
              refine ⟨i + 1, _, _, by omega, rfl, rfl, by go_num, Or.inr ⟨by omega, ?_⟩, below_drewN (bt (bt N.out.2.2.2.2.1 R.out) (ba x9 _)) _⟩
              clear e1 e2 e3 e4 v1 v3 v5 v7
              split <;> split <;> omega
            case measure => simp [intOf]; omega
          · obtain rfl : i = m := by omega
            have hmi : ¬ (1 : Int) < mo - l := by omega
            have hmi2 : decide ((1 : Int) < mo - l) = false := decide_eq_false hmi
            have hlb : G ≤ l ∧ l ≤ G + 1 ∧ G ≤ mo ∧ mo ≤ G + 1 := by
              rcases hlm with ⟨h, _⟩ | ⟨_, h⟩
              · omega
              · exact h
            have hGb : G ≤ 200000 := by
              obtain ⟨f, hf, _, _⟩ := findG_some ((P.out.2.2.2.2.2.2.2 (0 : Int)).2 ⟨by omega, by omega⟩)
              obtain ⟨d1, d2, d3, d4⟩ := okS_defs P.out.2.2.1.ok f hf
              have hsi := P.out.2.2.2.2.2.1 f.1
              rcases P.out.2.2.2.2.2.2.1 f hf with h | h
              · exact isG_small h hG0 d4 200000 (by omega)
              · have := isG_small h (by omega) d4 200000 (by omega)
                omega
            have hw9 : IntKind.i64.wrap (mo - l) = mo - l := IntWalk.i64_in _ (by omega)
            have N := Lib.hid hb; clear hb hlm hlb
            go_wp2
            go_roundw
            case rel => exact ⟨k + 1, L', fr', sp', by omega, by go_num, P.out.2.2.1.later N.out, P.out.2.2.2.1, P.out.2.1.later N.out, P.out.1.later N.out, fun _ => P.out.2.2.2.2.1, fun j => by have := P.out.2.2.2.2.2.1 j; omega⟩
            case measure => simp [intOf]; omega
    · have M := Lib.hid hK; clear hK hP hO hS hF hsp
      go_wp2
      go_ret
      exact ⟨rfl, bt K3.out.1 M.out.bel⟩
end Go.Proofs.Ytckpecddglfjkaa
