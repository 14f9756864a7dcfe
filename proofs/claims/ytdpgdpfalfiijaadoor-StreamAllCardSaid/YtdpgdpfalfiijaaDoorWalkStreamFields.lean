/- StreamFields: the walk. -/
import Derived.Test.YtdpgdpfalfiijaaDoorStrmD
import Derived.Test.YtdpgdpfalfiijaaDoorCells3
import Derived.Deep.DeepCutAuto
import Derived.Deep.RegionHeld3
import Derived.Deep.AppendLies
namespace Go.Proofs.YtdpgdpfalfiijaaDoor
open Go.ChangeShapes Go.WideShapes Go.ChangeAt Go.RowKit
set_option linter.unusedVariables false
set_option linter.unusedSimpArgs false

theorem new_cells {w : World} {g : Nat} (hg : g = w.heap.size) (t : TypeId) (cs : Array Value) : ∀ j u, cs.toList[j]? = some u → (w.alloc (.cells cs t)).cell? ((⟨g, 0, none⟩ : Addr).add j) = some u := by
  subst hg
  intro j u h
  rw [addr_pl, World.cell?_alloc_new]
  simpa using h
theorem wf_mk {n : Int} (h0 : -9223372036854775808 ≤ n) (h1 : n ≤ 9223372036854775807) : (Lit.int .i64 n).wf = true := by
  have e1 : IntKind.i64.min = -9223372036854775808 := by decide
  have e2 : IntKind.i64.max = 9223372036854775807 := by decide
  simp [Lit.wf]; omega
theorem Own.put1 {α : Type} {w : World} {b : Nat} {e : TypeId} {k : Nat} {f : α → List Value} {v : Value} {l : List α} (h : Own w b e k f v l) {g : Nat} {t : TypeId} {cs : Array Value} (hC : Blk w g t cs) (hne : t ≠ e) (i : Nat) (u : Value) : Own (w.setCell ⟨g, i, none⟩ u) b e k f v l := by
  refine ⟨h.1, ?_⟩
  rcases h.2 with h0 | ⟨x, cap, cur, rfl, h1, h2, h3⟩
  · exact Or.inl h0
  · refine Or.inr ⟨x, cap, cur, rfl, h1, ?_, h3⟩
    have hx : x ≠ g := by
      rintro rfl
      unfold Blk at hC
      rw [h2] at hC
      simp at hC
      exact hne hC.2.symm
    rw [Below.heap_setCell w ⟨g, i, none⟩ u x hx]; exact h2
theorem Own.put2 {α : Type} {w : World} {b : Nat} {e : TypeId} {k : Nat} {f : α → List Value} {v : Value} {l : List α} (h : Own w b e k f v l) {g : Nat} {t : TypeId} {cs : Array Value} (hC : Blk w g t cs) (hne : t ≠ e) (x y : Value) : Own ((w.setCell ⟨g, 0, none⟩ x).setCell ⟨g, 1, none⟩ y) b e k f v l :=
  (h.put1 hC hne 0 x).put1 (hC.set_ 0 x) hne 1 y
theorem blk_new1 (w : World) (o : Obj) (t : TypeId) (cs : Array Value) : Blk ((w.alloc o).alloc (.cells cs t)) (w.heap.size + 1) t cs := by
  have h := Blk.new (w.alloc o) t cs
  rw [World.size_alloc] at h
  exact h
abbrev rowF2 (x : Fld) : List Value := [.string x.1, .int .i64 x.2]
theorem newF_own {w : World} {b : Nat} {v : Value} {l : List Fld} : NewF b w v l = Own w b 60 2 rowF2 v l := rfl
theorem szF (W : World) : (sizeOf (Tryd.prog.elem 26)).run Tryd.prog W = .ok 2 W := by kernel_rfl
theorem undF : Tryd.prog.underlying 26 = some (.slice (Tryd.prog.elem 26)) := by kernel_rfl
theorem fld_one (x : Fld) : ∀ u ∈ rowF2 x, u.oneCell' = true := by simp [Value.oneCell']
theorem cell_stays {w w' : World} {a : Addr} {v : Value} (h : w.cell? a = some v) (hb : Below w.heap.size w w') : w'.cell? a = some v := by rw [hb.cell (World.block_lt_of_cell? w _ h)]; exact h
theorem six (W : World) (q : Nat) (hq : q < 6) (s0 s1 s2 s3 s4 s5 : ByteArray) (h0 : s0.size ≤ 20) (h1 : s1.size ≤ 20) (h2 : s2.size ≤ 20) (h3 : s3.size ≤ 20) (h4 : s4.size ≤ 20) (h5 : s5.size ≤ 20) (t : TypeId) :
    ∃ s : ByteArray, s.size ≤ 20 ∧ (W.alloc (.cells #[.string s0, .string s1, .string s2, .string s3, .string s4, .string s5] t)).cell? ⟨W.heap.size, q, none⟩ = some (.string s) := by
  rcases (by omega : q = 0 ∨ q = 1 ∨ q = 2 ∨ q = 3 ∨ q = 4 ∨ q = 5) with rfl | rfl | rfl | rfl | rfl | rfl
  · exact ⟨s0, h0, by rw [World.cell?_alloc_new]; rfl⟩
  · exact ⟨s1, h1, by rw [World.cell?_alloc_new]; rfl⟩
  · exact ⟨s2, h2, by rw [World.cell?_alloc_new]; rfl⟩
  · exact ⟨s3, h3, by rw [World.cell?_alloc_new]; rfl⟩
  · exact ⟨s4, h4, by rw [World.cell?_alloc_new]; rfl⟩
  · exact ⟨s5, h5, by rw [World.cell?_alloc_new]; rfl⟩
set_option maxRecDepth 20000 in
set_option maxHeartbeats 4000000 in
theorem walk_StreamFields (a0 : Int) (v : Value) (l : List UInt8) (s0 : ByteArray) (kk : Int) (near : Bool) (w : World) (ha0 : 0 ≤ a0) (ha1 : a0 ≤ 255) (hv : BytesAt w v l) (hl : l.length ≤ 140737488351232) (hs0 : s0.size ≤ 140737488351232) (kk0 : -9223372036854775808 ≤ kk) (kk1 : kk ≤ 9223372036854775807) (hT : Tab w) :
    Calls Tryd.prog 7 #[.int .u8 a0, v, .string s0, .int .i64 kk, .bool near] w fun e w' => e = .returned (.bool true) ∧ Below w.heap.size w w' := by
  obtain ⟨m, hm⟩ := hT
  obtain ⟨a, rfl⟩ : ∃ a : Nat, a0 = (a : Int) := ⟨a0.toNat, by omega⟩
  have ha : a ≤ 255 := by omega
  have cEx := examples_any m w hm
  have cS := fun W (h : Below w.heap.size w W) => own_any a v l W ha (hv.later h) hl
  have rS := own_right a l
  have hmore := own_more a l
  have hplace := own_place l
  have hlen : (ownF 0 l).length ≤ 6 := (right_ok rS).2.1
  have hok := right_okF rS
  generalize ownN a = N at *
  generalize ownF 0 l = F at *
  have hNs := name_size (right_ok rS).1
  have H := Lib.hid (And.intro cEx (And.intro cS (And.intro rS (And.intro hmore (And.intro hplace hok))))); clear cEx cS rS hmore hplace hok hm hv
  go_enter Tryd.func7, Tryd.ntmps7
  go_wp2_with fail
  go_at_call 9
  ((with_reducible refine (H.out.1).mono ?_); rintro e w0 ⟨rfl, b0⟩)
  have HB := Lib.hid b0
  clear b0
  go_wp2_with fail
  go_at_call 10
  ((with_reducible refine (H.out.2.1 _ HB.out).mono ?_); rintro e w1 ⟨u1, ⟨rfl, hu1⟩, b1⟩)
  obtain ⟨A1, c1, rfl, _, _, _⟩ := Own.shape (f := rowF2) hu1
  have bA := ba w1 (.cells #[.string N, .slice A1 F.length c1] 28)
  have K := Lib.hid (And.intro (bt HB.out (bt b1 bA)) (And.intro (Own.later (f := rowF2) hu1 bA) (Blk.new w1 28 #[.string N, .slice A1 F.length c1])))
  clear hu1 b1 bA HB
  go_upto_if 24 with fail
  generalize w1.alloc (.cells #[.string N, .slice A1 F.length c1] 28) = W at *
  go_cut [2, 3] (fun nv kv wx => ∃ (s : ByteArray) (k : Int), nv = .string s ∧ kv = .int .i64 k ∧ s.size ≤ 140737488351232 ∧ -9223372036854775808 ≤ k ∧ k ≤ 9223372036854775807 ∧ Below W.heap.size W wx)
  case first =>
    cases near
    · go_wp2_with fail
      go_meet
      exact ⟨_, _, rfl, rfl, hs0, kk0, kk1, Below.refl _ _⟩
    · obtain ⟨s, hs, hc⟩ := six W (a / 8 % 6) (by omega) ⟨#[120]⟩ ⟨#[121]⟩ ⟨#[110, 101, 119]⟩ ⟨#[98, 121]⟩ ⟨#[66, 89]⟩ ⟨#[95]⟩ (by decide) (by decide) (by decide) (by decide) (by decide) (by decide) 9
      have e1 : IntKind.u8.wrap ((a : Int) / 8) = (a : Int) / 8 := by rw [IntKind.wrap_u8]; omega
      have e2 : ((a : Int) / 8 % 6).toNat = a / 8 % 6 := by omega
      have e3 : 0 ≤ (a : Int) / 8 % 6 := by omega
      have e4 : (a : Int) / 8 % 6 < 6 := by omega
      obtain ⟨x, e5, x0, x2⟩ : ∃ x : Int, (IntKind.u64.wrap kk).tmod 3 = x ∧ 0 ≤ x ∧ x ≤ 2 := ⟨_, rfl, by rw [IntKind.wrap_u64, Int.tmod_eq_emod_of_nonneg (by omega)]; omega, by rw [IntKind.wrap_u64, Int.tmod_eq_emod_of_nonneg (by omega)]; omega⟩
      go_wp2_with fail
      go_meet
      exact ⟨s, 1 + x, rfl, rfl, by omega, by omega, by omega, ba _ _⟩
  case rest =>
    obtain ⟨s, k, rfl, rfl, hs, k0, k1, bW⟩ := hcut
    replace K := Lib.hid (And.intro (bt K.out.1 bW) (And.intro (K.out.2.1.later bW) (K.out.2.2.later bW)))
    clear bW
    have hmr := H.out.2.2.2.1 s k
    have x0 := K.out.2.2.cell 0
    have x1 := K.out.2.2.cell 1
    go_wp2_with fail
    clear x0 x1
    have cA := At_any N s (.slice A1 F.length c1) F _ (NewF.rows K.out.2.1)
    have hah := at_has F s
    generalize idxB (fun y : Fld => isN s y.1) F = z at *
    have HZ := Lib.hid (And.intro cA (And.intro hah hmr))
    clear cA hah hmr
    go_at_call 24
    ((with_reducible refine (HZ.out.1).mono ?_); rintro e w2 ⟨rfl, b2⟩)
    have k9 := K.out
    replace K := Lib.hid (And.intro (bt k9.1 b2) (And.intro (k9.2.1.later b2) (k9.2.2.later b2)))
    clear k9 b2
    have x0 := K.out.2.2.cell 0
    have x1 := K.out.2.2.cell 1
    go_wp2_with fail
    clear x0 x1
    have cR := Right_any N (.slice A1 F.length c1) F _ (NewF.rows K.out.2.1) (by unfold maxLen; omega) H.out.2.2.2.2.2
    rw [H.out.2.2.1] at cR
    have HR := Lib.hid cR
    clear cR
    go_at_call 22
    ((with_reducible refine (HR.out).mono ?_); rintro e w3 ⟨rfl, b3⟩)
    have k9 := K.out
    replace K := Lib.hid (And.intro (bt k9.1 b3) (And.intro (k9.2.1.later b3) (k9.2.2.later b3)))
    clear k9 b3 HR
    go_wp2_with fail
    go_loopw [14] (fun iv wr => ∃ (i : Nat), i ≤ F.length ∧ iv = .int .i64 (i : Int) ∧ Below w.heap.size w wr ∧ Own wr w0.heap.size 60 2 rowF2 (.slice A1 F.length c1) F ∧ Blk wr w1.heap.size 28 #[.string N, .slice A1 F.length c1]) (fun i _ => F.length - (intOf i).toNat)
    case atStart => exact ⟨0, Nat.zero_le _, rfl, K.out⟩
    case round =>
      clear K
      obtain ⟨i, hi, rfl, hW, hrow, hblk⟩ := hrel
      have K := Lib.hid (And.intro hW (And.intro hrow hblk)); clear hW hrow hblk
      have x0 := K.out.2.2.cell 0
      have x1 := K.out.2.2.cell 1
      have hm9 : F.length ≤ 9223372036854775807 := by omega
      by_cases hlt : i < F.length
      · obtain ⟨a', rfl, hc⟩ := (Own.at_ (f := rowF2) (k := 2) (fun _ => rfl) K.out.2.1).cells rfl (by omega)
        obtain ⟨c0, c2⟩ := hc.row2 i hlt rfl
        have hp := H.out.2.2.2.2.1 i hlt
        replace c0 : wr.cell? (a'.add (i * 2)) = some (.string (F[i]'hlt).1) := c0
        clear hc c2
        generalize (F[i]'hlt).1 = nm at *
        have cA := fun W (h : Below wr.heap.size wr W) => At_any N nm (.slice (some a') F.length c1) F W (NewF.rows (K.out.2.1.later h))
        rw [hp] at cA
        have HA := Lib.hid cA
        clear cA hp
        go_wp2_with fail
        have hq0 := fun d os => cell_regrown x0 d os
        have hq1 := fun d os => cell_regrown x1 d os
        have hq2 := fun d os => cell_regrown c0 d os
        refine wp_region_quiet_below (by kernel_rfl) (by kernel_rfl) ?_
        repeat (go_big_quiet_step ((go_at_call 24; with_reducible exact Calls.regrown_of (HA.out _ (below_regrown _ _ _)))))
        refine wpQuiet_nil ?_
        intro wq hw'
        have bq : Below wr.heap.size wr wq := by obtain ⟨p, rfl⟩ := hw'; exact below_regrown _ _ _
        clear hw' hq0 hq1 hq2
        go_wp2
        go_roundw
        case rel => exact ⟨i + 1, by omega, by go_num, bt K.out.1 bq, K.out.2.1.later bq, K.out.2.2.later bq⟩
        case measure => simp [intOf]; omega
      · have hiF : i = F.length := by omega
        subst hiF
        clear hlt
        go_upto_region 16 with fail
        obtain ⟨i0, hi, hz0, hz1, hz2⟩ := info_parts field_info
        obtain ⟨B', hrun, hat⟩ := At.full (P := Tryd.prog) undF szF (Own.at_ (f := rowF2) (k := 2) (fun _ => rfl) K.out.2.1)
        have HAt := Lib.hid hat; clear hat
        have lt1 := World.block_lt_of_cell? wr _ x0
        go_cut [15] (fun pv wx => ∃ g A n c, pv = .pointer (some ⟨g, 0, none⟩) ∧ Blk wx g 28 #[.string N, .slice A n c] ∧ Own wx 0 60 2 rowF2 (.slice A n c) (F ++ [(s, k)]) ∧ Below wr.heap.size wr wx)
        case first =>
          go_region_held3 (fun w' => w'.cell? ⟨w1.heap.size, 0, none⟩ = some (.string N) ∧ w'.cell? ⟨w1.heap.size, 1, none⟩ = some (.slice A1 F.length c1))
            (first
              | go_keep
              | exact ⟨cell_stays x0 b5, cell_stays x1 b5⟩
              | exact ⟨cell_stays x0 (bt b5 (ba _ _)), cell_stays x1 (bt b5 (ba _ _))⟩
              | exact ⟨cell_stays x0 (below_put2 b5 (Nat.le_refl _) _ _), cell_stays x1 (below_put2 b5 (Nat.le_refl _) _ _)⟩
              | exact ⟨cell_stays x0 (below_put2 b5 (Nat.le_succ _) _ _), cell_stays x1 (below_put2 b5 (Nat.le_succ _) _ _)⟩)
            ((refine step_append_full rfl (.tmp 70) (.tmp 74) 26 rfl 60 i0 (.agg #[.string ⟨#[]⟩, .int .i64 0]) 2 24 Tryd.underlying26 hi hz0 hz1 hz2 rfl (by decide) (f := rowF2) (fun _ => rfl) fld_one B' F.length F rfl rfl (HAt.out.later (by first | exact below_drew (ba wr (.cells #[.string s, .int .i64 k] 60)) | exact below_drew (bt (ba wr (.cells #[.string s, .int .i64 k] 60)) (ba _ (.cells #[.string ⟨#[]⟩, .slice none 0 0] 28))) | exact below_drew (bt (ba wr (.cells #[.string ⟨#[]⟩, .slice none 0 0] 28)) (ba _ (.cells #[.string s, .int .i64 k] 60))))) ⟨_, 0, none⟩ 1 (s, k) rfl (by first | exact fun j u hu => new_cells (w := wr) rfl 60 #[.string s, .int .i64 k] j u hu | exact fun j u hu => cell_stays (new_cells (w := wr) rfl 60 #[.string s, .int .i64 k] j u hu) (below_drew (ba _ (.cells #[.string ⟨#[]⟩, .slice none 0 0] 28))) | exact fun j u hu => new_cells (w := wr.alloc (.cells #[.string ⟨#[]⟩, .slice none 0 0] 28)) (by simp) 60 #[.string s, .int .i64 k] j u hu) (by unfold maxLen; omega) (by omega) (by decide) ?_; intro v5 w5 hO5 hg5; have b5 : Below wr.heap.size wr w5 := Below.trans (by first | exact below_drew (ba wr (.cells #[.string s, .int .i64 k] 60)) | exact below_drew (bt (ba wr (.cells #[.string s, .int .i64 k] 60)) (ba _ (.cells #[.string ⟨#[]⟩, .slice none 0 0] 28))) | exact below_drew (bt (ba wr (.cells #[.string ⟨#[]⟩, .slice none 0 0] 28)) (ba _ (.cells #[.string s, .int .i64 k] 60)))) (grownBy_below hg5 (by simp only [World.size_drew, World.size_alloc]; omega) (fun k hk => by simp at hk)); obtain ⟨A5, n5, c5, rfl⟩ := own_shape hO5;
              try (first
                | (have hC5 : Blk w5 (wr.heap.size + 1) 28 #[.string ⟨#[]⟩, .slice none 0 0] := Blk.grown (blk_drew (blk_new1 wr (.cells #[.string s, .int .i64 k] 60) 28 #[.string ⟨#[]⟩, .slice none 0 0])) hg5 (by simp); have z0 := hC5.cell 0; have z1 := hC5.cell 1; have z2 := hC5.frozen 0; have z3 := hC5.frozen 1; have hC6 := Lib.hid hC5; clear hC5)
                | (have hC5 : Blk w5 wr.heap.size 28 #[.string ⟨#[]⟩, .slice none 0 0] := Blk.grown (blk_drew ((Blk.new wr 28 #[.string ⟨#[]⟩, .slice none 0 0]).later (ba _ (.cells #[.string s, .int .i64 k] 60)))) hg5 (by simp); have z0 := hC5.cell 0; have z1 := hC5.cell 1; have z2 := hC5.frozen 0; have z3 := hC5.frozen 1; have hC6 := Lib.hid hC5; clear hC5));
              clear hg5))
          all_goals
            go_wp2_with fail
            go_meet
            first
              | exact ⟨_, _, _, _, rfl, Blk.new w5 _ _, Own.lift (f := rowF2) (Own.later (f := rowF2) hO5 (ba _ _)) (Nat.zero_le _), bt b5 (ba _ _)⟩
              | exact ⟨_, _, _, _, rfl, hC6.out.put2 _ _, Own.lift (f := rowF2) (Own.put2 (f := rowF2) hO5 hC6.out (by decide) _ _) (Nat.zero_le _), below_put2 b5 (Nat.le_refl _) _ _⟩
              | exact ⟨_, _, _, _, rfl, hC6.out.put2 _ _, Own.lift (f := rowF2) (Own.put2 (f := rowF2) hO5 hC6.out (by decide) _ _) (Nat.zero_le _), below_put2 b5 (Nat.le_succ _) _ _⟩
        case rest =>
          clear x0 x1 lt1 hrun
          obtain ⟨g, A, n, c, rfl, hB, hO, b6⟩ := hcut
          have hcR := Right_any N (.slice A n c) (F ++ [(s, k)]) wc (NewF.rows (show NewF _ _ _ _ from hO)) (by unfold maxLen; omega) (fun x hx => by
            rcases List.mem_append.1 hx with h | h
            · exact H.out.2.2.2.2.2 x h
            · obtain rfl : x = (s, k) := by simpa using h
              exact ⟨show s.size ≤ maxLen by unfold maxLen; omega, wf_mk k0 k1⟩)
          have cN := fun W => IsName_any s W (by unfold maxLen; omega)
          have y0 := hB.cell 0
          have y1 := hB.cell 1
          have KK := Lib.hid (And.intro (bt K.out.1 b6) (K.out.2.2.later b6))
          have hmr := HZ.out.2.2
          have hah := HZ.out.2.1
          clear K HAt b6 hB hO
          by_cases h6 : F.length = 6
          · rw [hmr, if_pos h6] at hcR
            have h6i : (F.length : Int) = 6 := by omega
            have HC := Lib.hid (And.intro hcR h6); clear hcR hmr hah cN h6 HZ
            go_wp2_with fail
            go_at_call 22
            ((with_reducible refine (HC.out.1).mono ?_); rintro e w9 ⟨rfl, b9⟩)
            have x1 := (KK.out.2.later b9).cell 1
            have HE := Lib.hid (bt KK.out.1 b9); clear b9
            go_wp2
            go_ret
            exact ⟨rfl, HE.out⟩
          · have h6i : ¬ (F.length : Int) = 6 := by omega
            have h6n : ¬ F.length = 6 := h6
            have h6b : (F.length == 6) = false := by simpa using h6
            rcases hN : nameB s with _ | _
            · rw [hmr, if_neg h6, if_pos hN] at hcR
              rw [hN] at cN
              have HC := Lib.hid (And.intro hcR cN); clear hcR hmr hah cN h6 HZ hN
              go_wp2_with fail
              go_at_call 22
              ((with_reducible refine (HC.out.1).mono ?_); rintro e w9 ⟨rfl, b9⟩)
              have x1 := (KK.out.2.later b9).cell 1
              have HE := Lib.hid (bt KK.out.1 b9); clear b9
              go_wp2_with (go_at_call 16; ((with_reducible refine (HC.out.2 _).mono ?_); rintro e w8 ⟨rfl, rfl⟩))
              go_ret
              exact ⟨rfl, HE.out⟩
            rw [hN] at cN
            have hkc : k < 1 ∨ (¬ k < 1 ∧ 3 < k) ∨ (¬ k < 1 ∧ ¬ 3 < k) := by omega
            rcases hkc with hk1 | ⟨hk1, hk2⟩ | ⟨hk1, hk2⟩
            · rw [hmr, if_neg h6, if_neg (by rw [hN]; simp), if_pos (by omega)] at hcR
              have HC := Lib.hid (And.intro hcR cN); clear hcR hmr hah cN h6 HZ hN
              go_wp2_with fail
              go_at_call 22
              ((with_reducible refine (HC.out.1).mono ?_); rintro e w9 ⟨rfl, b9⟩)
              have x1 := (KK.out.2.later b9).cell 1
              have HE := Lib.hid (bt KK.out.1 b9); clear b9
              go_wp2_with (go_at_call 16; ((with_reducible refine (HC.out.2 _).mono ?_); rintro e w8 ⟨rfl, rfl⟩))
              go_ret
              exact ⟨rfl, HE.out⟩
            · rw [hmr, if_neg h6, if_neg (by rw [hN]; simp), if_pos (by omega)] at hcR
              have HC := Lib.hid (And.intro hcR cN); clear hcR hmr hah cN h6 HZ hN
              go_wp2_with fail
              go_at_call 22
              ((with_reducible refine (HC.out.1).mono ?_); rintro e w9 ⟨rfl, b9⟩)
              have x1 := (KK.out.2.later b9).cell 1
              have HE := Lib.hid (bt KK.out.1 b9); clear b9
              go_wp2_with (go_at_call 16; ((with_reducible refine (HC.out.2 _).mono ?_); rintro e w8 ⟨rfl, rfl⟩))
              go_ret
              exact ⟨rfl, HE.out⟩
            · rcases hH : hasB F s with _ | _
              · rw [hmr, if_neg h6, if_neg (by rw [hN]; simp), if_neg (by omega), if_neg (by rw [hH]; simp)] at hcR
                rw [hH] at hah
                have hz : ¬ 0 ≤ z := by simpa using hah
                have HC := Lib.hid (And.intro hcR cN); clear hcR hmr hah cN h6 HZ hN hH
                go_wp2_with fail
                go_at_call 22
                ((with_reducible refine (HC.out.1).mono ?_); rintro e w9 ⟨rfl, b9⟩)
                have x1 := (KK.out.2.later b9).cell 1
                have HE := Lib.hid (bt KK.out.1 b9); clear b9
                go_wp2_with (go_at_call 16; ((with_reducible refine (HC.out.2 _).mono ?_); rintro e w8 ⟨rfl, rfl⟩))
                go_ret
                exact ⟨rfl, HE.out⟩
              · rw [hmr, if_neg h6, if_neg (by rw [hN]; simp), if_neg (by omega), if_pos hH] at hcR
                rw [hH] at hah
                have hz : 0 ≤ z := by simpa using hah
                have HC := Lib.hid (And.intro hcR cN); clear hcR hmr hah cN h6 HZ hN hH
                go_wp2_with fail
                go_at_call 22
                ((with_reducible refine (HC.out.1).mono ?_); rintro e w9 ⟨rfl, b9⟩)
                have x1 := (KK.out.2.later b9).cell 1
                have HE := Lib.hid (bt KK.out.1 b9); clear b9
                go_wp2_with (go_at_call 16; ((with_reducible refine (HC.out.2 _).mono ?_); rintro e w8 ⟨rfl, rfl⟩))
                go_ret
                exact ⟨rfl, HE.out⟩
end Go.Proofs.YtdpgdpfalfiijaaDoor
