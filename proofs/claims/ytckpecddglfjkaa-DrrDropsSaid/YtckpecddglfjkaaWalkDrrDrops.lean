/- The walk of DrrDrops. -/
import Derived.Test.YtckpecddglfjkaaDrN
namespace Go.Proofs.Ytckpecddglfjkaa
open Go.ChangeShapes Go.WideShapes Go.ChangeAt Go.RowKit
open Dr
set_option linter.unusedVariables false
set_option linter.unusedSimpArgs false

set_option maxRecDepth 20000 in
set_option maxHeartbeats 4000000 in
theorem walk_DrrDrops (v0 : Value) (q : List UInt8) (v1 : Value) (c : List UInt8) (who turns : Int) (w : World) (h0 : BytesAt w v0 q) (b0 : q.length ≤ 140737488351232) (h1 : BytesAt w v1 c) (b1 : c.length ≤ 140737488351232) (w0 : 0 ≤ who) (w1 : who ≤ 255) (t0 : 0 ≤ turns) (t1 : turns ≤ 255) :
    Calls Try.prog 8 #[v0, v1, .int .u8 who, .int .u8 turns] w fun e w' => e = .returned (.bool true) ∧ Below w.heap.size w w' := by
  obtain ⟨A0, n0, rfl, a0, a1, _⟩ := bytes_cell h0
  obtain ⟨m, hm⟩ : ∃ m, m = min q.length 5 := ⟨_, rfl⟩
  have hmin : (if (5 : Int) < (q.length : Int) then (5 : Int) else (q.length : Int)) = (m : Int) := by split <;> omega
  have hm5 : m ≤ 5 := by omega
  have hqm : q.length ≤ 9223372036854775807 := by omega
  have H := Lib.hid (And.intro h0 (And.intro h1 hm)); clear h0 h1 hm
  go_enter Try.func8, Try.ntmps8
  go_wp2_with (first
    | (go_at_call 9; ((with_reducible refine (examples_any _).mono ?_); rintro e x1 ⟨rfl, bx1⟩))
    | (go_at_call 20; refine (round_any _ q _ (H.out.1.later bx1)).mono ?_; rintro e x2 ⟨rfl, hK⟩; have K := Lib.hid (And.intro bx1 hK); clear bx1 hK))
  go_at_call 21
  refine (lprice_any _ c m x2 (H.out.2.1.later (bt K.out.1 K.out.2.bel)) hm5).mono ?_
  rintro e x3 ⟨lv, ⟨rfl, hO⟩, bx3⟩
  obtain ⟨cA, cc, rfl, _, _, _⟩ := hO.shape
  have hpl := priceL_len c m
  rw [hpl]
  rw [hpl] at hO
  have K3 := Lib.hid (And.intro K.out.1 (And.intro (K.out.2.later bx3) (And.intro (hO.lift K.out.2.bel.size) (priceL_ok c m hm5)))); clear hO bx3 K
  go_wp2_with fail
  go_loopw [13] (fun iv wr => ∃ (k : Nat) (L : List Fl) (fr : Bool), k ≤ 40 ∧ iv = .int .i64 k ∧ Kp x1 wr x1.heap.size L fr ∧ (L.map key).Perm ((roundL q).map key) ∧ Own wr x1.heap.size 55 2 rowC (.slice cA m cc) (priceL c m)) (fun i _ => 40 - (intOf i).toNat)
  case atStart => exact ⟨0, _, _, by omega, rfl, K3.out.2.1, List.Perm.refl _, K3.out.2.2.1⟩
  case round =>
    obtain ⟨k, L, fr, hk, rfl, hK, hP, hO⟩ := hrel
    by_cases hlt : (k : Int) < turns % 40
    · have cT := T_any x1 wr x1.heap.size L fr _ _ hK (Own.at_ (f := rowC) (k := 2) (fun _ => rfl) hO) K3.out.2.2.2
      have M := Lib.hid (And.intro cT (And.intro hP hO)); clear cT hK hP hO
      go_wp2_with (go_at_call 15; ((with_reducible refine (M.out.1).mono ?_); rintro e x4 ⟨id, ok, L', fr', ⟨rfl, hR, hK⟩, hF⟩; have Z := Lib.hid (And.intro hR (And.intro hK hF)); clear hR hK hF))
      go_roundw
      case rel => exact ⟨k + 1, L', fr', by omega, by go_num, Z.out.2.1, Z.out.1.keys.trans M.out.2.1, M.out.2.2.frm Z.out.2.2 (by decide) (by decide)⟩
      case measure => simp [intOf]; omega
    · have M := Lib.hid (And.intro hK (And.intro hP hO)); clear hK hP hO
      obtain ⟨hLn, hids⟩ := roundL_perm_ids M.out.2.1 H.out.2.2
      generalize hkk : who % 7 = kk at *
      have hk0 : 0 ≤ kk := by omega
      have hk6 : kk ≤ 6 := by omega
      go_wp2_with fail
      go_at_call 19
      refine (F_any x1 wr x1.heap.size L fr M.out.1).mono ?_
      rintro e x5 ⟨bv, ⟨rfl, hOb, hK5⟩, bx5⟩
      obtain ⟨bA, bc, rfl, _, _, _⟩ := hOb.shape
      have hbl : (L.map gl).length = m := by rw [List.length_map]; exact hLn
      rw [hbl]
      rw [hbl] at hOb
      have M5 := Lib.hid (And.intro hK5 (And.intro (hOb.lift (Nat.zero_le _)) (M.out.2.2.later bx5))); clear hK5 hOb bx5
      go_wp2_with fail
      go_at_call 13
      refine (Drop_any x1.heap.size x1.heap.size L fr kk x5 M5.out.1.drs M5.out.1.ok).mono ?_
      rintro e x6 ⟨ok, L', fr', ⟨rfl, hR, hD⟩, hX⟩
      obtain ⟨hL', hok⟩ := drop_all hR
      have hdec : decide (kk < (m : Int)) = ok := by
        rw [Bool.eq_iff_iff, hok, hids, decide_eq_true_eq]
        omega
      have M6 := Lib.hid (And.intro (M5.out.1.drop hR hD hX) (And.intro (M5.out.2.1.frm hX.frm (by decide) (by decide)) (And.intro (M5.out.2.2.frm hX.frm (by decide) (by decide)) hL'))); clear hR hD hX hok hL' M5
      go_wp2_with fail
      go_at_call 19
      refine (F_any x1 x6 x1.heap.size L' fr' M6.out.1).mono ?_
      rintro e x7 ⟨av, ⟨rfl, hOa, hK7⟩, bx7⟩
      obtain ⟨aA, ac, rfl, _, _, _⟩ := hOa.shape
      have hae : L'.map gl = (L.map gl).filter (fun g : Gl => g.1 != kk) := by rw [M6.out.2.2.2]; exact filter_gl L kk
      rw [hae] at hOa ⊢
      obtain ⟨an, han⟩ : ∃ an, an = ((L.map gl).filter (fun g : Gl => g.1 != kk)).length := ⟨_, rfl⟩
      have hLl : L'.length = an := by
        have := congrArg List.length hae
        rw [List.length_map, ← han] at this
        exact this
      rw [← han] at hOa ⊢
      have han2 : an ≤ m := by rw [han, ← hbl]; exact List.length_filter_le ..
      have hno : kk ∉ L'.map (·.1) := by rw [M6.out.2.2.2]; exact filter_no L kk
      have M7 := Lib.hid (And.intro hK7 (And.intro (M6.out.2.1.later bx7) (And.intro (M6.out.2.2.1.later bx7) (And.intro (hOa.lift (Nat.zero_le _)) (And.intro han (And.intro hbl (And.intro hno hLl))))))); clear hK7 hOa bx7 M6 hae han hbl hno hids hLn hLl
      have hbn : (ok != ok) = false := by simp
      go_wp2_with fail
      go_loopw [18, 19] (fun sv iv w2 => ∃ (i a : Nat), i ≤ m ∧ iv = .int .i64 i ∧ sv = .int .i64 a ∧ a = (((L.map gl).take i).filter (fun g : Gl => g.1 != kk)).length ∧ Below x7.heap.size x7 w2) (fun _ i _ => m - (intOf i).toNat)
      case atStart => exact ⟨0, 0, Nat.zero_le _, rfl, rfl, by simp, Below.refl _ _⟩
      case round =>
        rename World => w2
        obtain ⟨i, a, hi, rfl, rfl, ha, hb⟩ := hrel
        by_cases hlt2 : i < m
        · have hiG : i < (L.map gl).length := by rw [M7.out.2.2.2.2.2.1]; exact hlt2
          obtain ⟨gb, rfl, _, _, _, _⟩ := M7.out.2.1.cells (f := rowG) (k := 3) (fun _ => rfl) rfl (by omega)
          obtain ⟨y0, y1, y2⟩ := (M7.out.2.1.later hb).three i hiG
          by_cases he : ((L.map gl)[i]'hiG).1 = kk
          · have hsk := filt_skip (fun g : Gl => g.1 != kk) (L.map gl) i hiG (by show (((L.map gl)[i]'hiG).1 != kk) = false; rw [he]; simp)
            generalize (L.map gl)[i]'hiG = y at *
            obtain ⟨yi, yq, yd⟩ := y
            simp only at y0 y1 y2 he
            subst he
            have N := Lib.hid (And.intro ha (And.intro hb hsk)); clear ha hb hsk
            go_wp2
            go_roundw
            case rel => exact ⟨i + 1, a, by omega, by go_num, rfl, by rw [N.out.2.2]; exact N.out.1, N.out.2.1⟩
            case measure => simp [intOf]; omega
          · obtain ⟨hlt3, hgt, hln⟩ := filt_next (fun g : Gl => g.1 != kk) (L.map gl) i hiG (by simpa using he)
            rw [← ha] at hln
            simp only [← ha] at hlt3 hgt
            have han' := M7.out.2.2.2.2.1
            have hal : a < an := by rw [han']; exact hlt3
            obtain ⟨ga, rfl, _, _, _, _⟩ := M7.out.2.2.2.1.cells (f := rowG) (k := 3) (fun _ => rfl) rfl (by omega)
            obtain ⟨z0, z1, z2⟩ := (M7.out.2.2.2.1.later hb).three a hlt3
            rw [hgt] at z0 z1 z2
            generalize (L.map gl)[i]'hiG = y at *
            obtain ⟨yi, yq, yd⟩ := y
            simp only at y0 y1 y2 z0 z1 z2 he
            have heb : (yi == kk) = false := by simpa using he
            have hai : ¬ (an : Int) ≤ (a : Int) := by omega
            have hai2 : decide ((an : Int) ≤ (a : Int)) = false := decide_eq_false hai
            have hai3 : ¬ an ≤ a := by omega
            have hal2 : (a : Int) < (an : Int) := by omega
            have haw : IntKind.i64.wrap ((a : Int) + 1) = (a : Int) + 1 := IntWalk.i64_in _ (by omega)
            have N := Lib.hid (And.intro ha (And.intro hb hln)); clear hgt hlt3; clear ha hb hln han'
            go_wp2_with fail
            go_quiet (fail)
            go_wp2
            go_roundw
            case rel => exact ⟨i + 1, a + 1, by omega, by go_num, by go_num, N.out.2.2.symm, below_drewN N.out.2.1 _⟩
            case measure => simp [intOf]; omega
        · obtain rfl : i = m := by omega
          have haf : a = an := by
            rw [ha, M7.out.2.2.2.2.1, List.take_of_length_le (by rw [M7.out.2.2.2.2.2.1]; exact Nat.le_refl _)]
          subst haf
          have N := Lib.hid (And.intro (M7.out.1.later hb) (M7.out.2.2.1.later hb)); clear ha hb
          go_wp2_with fail
          go_loopw [20] (fun iv w3 => ∃ (j : Nat) (L3 : List Fl) (fr3 : Bool), j ≤ 20 ∧ iv = .int .i64 j ∧ Kp x1 w3 x1.heap.size L3 fr3 ∧ (L3.map key).Perm (L'.map key) ∧ Own w3 x1.heap.size 55 2 rowC (.slice cA i cc) (priceL c i)) (fun iv _ => 20 - (intOf iv).toNat)
          case atStart => exact ⟨0, _, _, by omega, rfl, N.out.1, List.Perm.refl _, N.out.2⟩
          case round =>
            rename World => w3
            clear N
            obtain ⟨j, L3, fr3, hj, rfl, hK, hP, hO⟩ := hrel
            have hn3 : kk ∉ L3.map (·.1) := fun h => M7.out.2.2.2.2.2.2.1 ((keys_ids hP).mem_iff.1 h)
            by_cases hj20 : j < 20
            · have cT := T_any x1 w3 x1.heap.size L3 fr3 _ _ hK (Own.at_ (f := rowC) (k := 2) (fun _ => rfl) hO) K3.out.2.2.2
              have M := Lib.hid (And.intro cT (And.intro hP (And.intro hO hn3))); clear cT hK hP hO hn3
              have hji : (j : Int) < 20 := by omega
              go_wp2_with fail
              go_at_call 15
              refine (M.out.1).mono ?_
              rintro e x8 ⟨id, tk, L4, fr4, ⟨rfl, hR, hK⟩, hF⟩
              have Z := Lib.hid (And.intro hR.keys (And.intro hK hF))
              clear hK hF
              cases tk
              · clear hR
                go_wp2
                go_roundw
                case rel => exact ⟨j + 1, L4, fr4, by omega, by go_num, Z.out.2.1, Z.out.1.trans M.out.2.1, M.out.2.2.1.frm Z.out.2.2 (by decide) (by decide)⟩
                case measure => simp [intOf]; omega
              · have hid : ¬ id = kk := fun e => M.out.2.2.2 (by rw [← e]; exact hR.mem.1)
                have hid2 : (id == kk) = false := by simpa using hid
                clear hR
                go_wp2
                go_roundw
                case rel => exact ⟨j + 1, L4, fr4, by omega, by go_num, Z.out.2.1, Z.out.1.trans M.out.2.1, M.out.2.2.1.frm Z.out.2.2 (by decide) (by decide)⟩
                case measure => simp [intOf]; omega
            · have hl3 : L3.length < 1000 := by
                have h1 := hP.length_eq
                rw [List.length_map, List.length_map] at h1
                have h2 := M7.out.2.2.2.2.2.2.2
                omega
              have M := Lib.hid (And.intro hK (And.intro hn3 hl3)); clear hK hP hO hn3 hl3
              have hji : ¬ (j : Int) < 20 := by omega
              go_wp2_with fail
              go_at_call 11
              refine (Add_any x1.heap.size x1.heap.size L3 fr3 kk 5 w3 M.out.1.drs M.out.2.2).mono ?_
              rintro e x9 ⟨r, L5, fr5, ⟨rfl, hR, hD⟩, hX⟩
              have hK5 := M.out.1.add hR hD hX M.out.2.2 ⟨by omega, by omega⟩
              obtain ⟨rfl, rfl, rfl⟩ := hR.yes (by decide) (by decide) M.out.2.1
              have Z := Lib.hid hK5
              clear hR hD hX hK5
              go_wp2_with fail
              go_at_call 19
              refine (F_any x1 x9 x1.heap.size _ _ Z.out).mono ?_
              rintro e x10 ⟨fv, ⟨rfl, hOf, hKf⟩, bxf⟩
              have hff : findG ((L3 ++ [(kk, 5, 0, 0)]).map gl) kk = some (kk, 5, 0) := by
                rw [List.map_append]
                refine find_last _ kk (kk, 5, 0) rfl (fun x hx e => M.out.2.1 ?_)
                obtain ⟨f, hf, rfl⟩ := List.mem_map.1 hx
                exact List.mem_map.2 ⟨f, hf, e⟩
              have cf := lfind_any fv _ kk x10 (Own.at_ (f := rowG) (k := 3) (fun _ => rfl) hOf)
              unfold FindP at cf
              rw [hff] at cf
              have Y := Lib.hid (And.intro cf hKf); clear cf hKf hOf bxf hff Z
              go_wp2_with fail
              go_at_call 22
              refine (Y.out.1).mono ?_
              rintro e x11 ⟨rfl, bx11⟩
              have Z := Lib.hid (bt Y.out.2.bel bx11); clear bx11
              go_wp2
              go_ret
              exact ⟨rfl, (bt K3.out.1 Z.out).trans ((ba x11 _).mono (by have := (bt K3.out.1 Z.out).size; exact this))⟩
end Go.Proofs.Ytckpecddglfjkaa
