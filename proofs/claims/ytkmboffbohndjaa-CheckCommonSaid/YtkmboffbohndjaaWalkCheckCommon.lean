/- CheckCommon: the walk. -/
import Derived.Test.YtkmboffbohndjaaCkX
import Derived.Test.YtkmboffbohndjaaCkC0
import Derived.Test.YtkmboffbohndjaaRowB
import Derived.Deep.QuietTactic
import Derived.Deep.DeepCutAuto
import Derived.Deep.CutBlock
import Derived.Deep.RegionHeld3
import Derived.BigQuiet
namespace Go.Proofs.Ytkmboffbohndjaa
open Go.ChangeShapes Go.WideShapes Go.ChangeAt Go.RowKit Go.Maps
set_option linter.unusedVariables false
set_option linter.unusedSimpArgs false

/-- The streams made so far. -/
structure AllC (w wr : World) (P : List (Nat × Nat)) (r : List Sx) (av : Value) : Prop where
  b : Below w.heap.size w wr
  o : Own wr w.heap.size 46 2 sxF av r
  m : r.map (·.1) = P.map strC
  f : ∀ x ∈ r, Own wr w.heap.size 26 2 fldF (sl x.2) x.1.2
theorem AllC.sat {w wr : World} {P : List (Nat × Nat)} {r : List Sx} {av : Value} (h : AllC w wr P r av) : SAt wr av (P.map strC) :=
  ⟨r, h.o.at_ (f := sxF) (k := 2) (fun _ => rfl), h.m, fun x hx => (h.f x hx).at_ (f := fldF) (k := 2) (fun _ => rfl)⟩
set_option maxRecDepth 20000 in
set_option maxHeartbeats 8000000 in
theorem walk_CheckCommon (v : Value) (l : List UInt8) (w : World) (hv : BytesAt w v l) (hl : l.length ≤ 140737488351232) :
    Calls Try.prog 4 #[v] w fun e w' => e = .returned (.bool true) ∧ Below w.heap.size w w' := by
  obtain ⟨js, sj, sy0, sy1, sy2⟩ := info_parts (P := Try.prog) (e := 46) (z := .agg #[.string ⟨#[]⟩, .slice none 0 0]) (size := 2) (bytes := 40) (by kernel_rfl)
  obtain ⟨lA, lc, rfl⟩ := bytes_slice hv
  have hat := bytes_at hv
  obtain ⟨ln, hln⟩ : ∃ n, n = l.length := ⟨_, rfl⟩
  rw [← hln] at hat ⊢
  have HL := Lib.hid (And.intro hln (And.intro hat hl)); clear hv hln hat
  go_enter Try.func4, Try.ntmps4
  go_wp2_with fail
  try go_at_call 6
  refine (examples_any _).mono ?_
  rintro e w1 ⟨rfl, hb⟩
  have H := Lib.hid (And.intro hb (HL.out.2.1.later hb)); clear hb
  go_wp2_with fail
  go_loopw [4, 5] (fun av iv wr => ∃ (i : Nat) (P : List (Nat × Nat)) (r : List Sx), i ≤ 8 ∧ iv = .int .i64 (i : Int) ∧ i = 2 * P.length ∧ AllC w1 wr P r av) (fun _ iv _ => 8 - (intOf iv).toNat)
  case atStart => exact ⟨0, [], [], Nat.zero_le _, rfl, rfl, Below.refl _ _, Own.nil _ _ _ _ _, rfl, fun x hx => by simp at hx⟩
  case round =>
    rename World => wr
    obtain ⟨i, P, r, hi, rfl, hiP, hA⟩ := hrel
    obtain ⟨aA, ac, rfl, _, _, _⟩ := hA.o.shape
    obtain ⟨an, han⟩ : ∃ n, n = r.length := ⟨_, rfl⟩
    rw [← han] at hA ⊢
    by_cases hlt : i + 1 < ln ∧ i < 8
    · obtain ⟨hlt, hlt8⟩ := hlt
      obtain ⟨la, rfl, hcl⟩ := (H.out.2.later hA.b).cells rfl (by have := HL.out.1; omega)
      have il1 : i < l.length := by have := HL.out.1; omega
      have il2 : i + 1 < l.length := by have := HL.out.1; omega
      have x0 := hcl.row1 i il1 rfl
      have x1 := hcl.row1 (i + 1) il2 rfl
      rw [Nat.mul_one] at x0 x1
      rw [show la.add (i + 1) = ⟨la.block, la.off + (i + 1), none⟩ by unfold Addr.add; rw [if_neg (by omega)]] at x1
      have hx := (l[i]'il1).toNat_lt
      have hy := (l[i + 1]'il2).toNat_lt
      generalize (l[i]'il1).toNat = x at *
      generalize (l[i + 1]'il2).toNat = y at *
      clear hcl il1 il2
      have d1 : (i : Int) + 1 < (ln : Int) := by omega
      have d2 : (i : Int) < 8 := by omega
      have d3 : decide (i < 8) = true := decide_eq_true hlt8
      have d4 : i < ln := by omega
      have d5 : (i : Int) < (ln : Int) := by omega
      have C := Lib.hid (And.intro hA (And.intro hiP (And.intro x0 (And.intro x1 True.intro)))); clear hA hiP x0 x1 han
      go_upto_region 9 with fail
      have K0 := Lib.hid (And.intro (ba wr (.cells #[.string ys, .slice none 0 0] 46)) (Blk.new wr 46 #[.string ys, .slice none 0 0]))
      generalize World.alloc wr _ = wq at *
      obtain ⟨G, hG⟩ : ∃ G, G = wr.heap.size := ⟨_, rfl⟩
      rw [← hG] at K0 ⊢
      have HG := Lib.hid hG; clear hG
      go_wp2_with fail
      go_loopw [7] (fun kv wz => ∃ (k : Nat) (fv : Value), k ≤ 6 ∧ kv = .int .i64 (k : Int) ∧ Below G wr wz ∧ Blk wz G 46 #[.string ys, fv] ∧ Own wz (G + 1) 26 2 fldF fv (fldsC x y k)) (fun kv _ => 6 - (intOf kv).toNat)
      case atStart => exact ⟨0, _, Nat.zero_le _, rfl, K0.out.1, K0.out.2, Own.nil _ _ _ _ _⟩
      case round =>
        rename World => wz
        clear K0
        obtain ⟨k, fv, hk, rfl, hbz, hBz, hOz⟩ := hrel
        have hbz' : Below wr.heap.size wr wz := by rw [← HG.out]; exact hbz
        have x0 : wz.cell? (la.add i) = some (.int .u8 (x : Int)) := by rw [hbz'.cell (World.block_lt_of_cell? wr _ C.out.2.2.1)]; exact C.out.2.2.1
        obtain ⟨fA, fn, fc, rfl⟩ := own_shape hOz
        by_cases hk6 : k < 6
        · have hpw : (x : Int) / 2 ^ k = ((x / 2 ^ k : Nat) : Int) := by rw [Int.natCast_ediv, Int.natCast_pow]; rfl
          have hm1 : (x : Int) / 2 ^ k % 2 = (bitN x k : Int) := by rw [hpw]; unfold bitN; omega
          have hm2 : Int.tmod ((x : Int) / 2 ^ k) 2 = (bitN x k : Int) := by rw [hpw, Int.tmod_eq_emod_of_nonneg (Int.natCast_nonneg _)]; unfold bitN; omega
          clear hpw
          have hm8 : min k 8 = k := by omega
          have hki : (k : Int) < 6 := by omega
          by_cases hbit : bitN x k = 1
          · have e1 : ((bitN x k : Nat) : Int) = 1 := by omega
            go_upto_region 13 with fail
            refine wp_of_eq (c' := (Try.f4.body.bind (regionN 13)).getD .skip) ?_ (by kernel_rfl)
            refine common13 _ _ _ _ _ _ _ _ _ _ _ _ _ _ _ _ _ _ _ _ _ _ _ _ _ _ _ _ _ _ _ _ _ _ _ _ _ _ _ _ _ _ _ _ _ _ _ _ _ _ _ _ _ _ _ _ _ _ _ _ _ _ _ _ _ _ _ _ _ _ _ _ _ _ _ _ _ _ _ _ _ _ _ _ _ _ _ _ _ _ _ _ _ _ _ _ _ _ _ _ _ _ _ _ _ _ _ _ _ _ _ _ _ _ _ _ _ _ _ _ _ _ _ _ _ _ _ _ _ _ _ _ _ _ _ _ _ _ _ _ _ _ _ _ (y := y) hBz hOz (by have := fldsC_len x y k; omega) hbz' (Nat.le_of_eq HG.out.symm) C.out.2.2.2.1 hk6 hlt hi (fun _ _ _ _ _ _ _ _ _ _ _ _ _ _ _ _ _ _ _ _ v wx hR => ?_)
            obtain ⟨r1, r2, r3⟩ := hR
            obtain ⟨nA, nn, nc, rfl⟩ := own_shape r2
            have Y := Lib.hid (And.intro (hbz.trans r3) (And.intro r1 (fldsC_yes hbit ▸ r2))); clear r1 r2 r3 hBz hOz hbz hbz' x0 hm1 hm2
            go_wp2_with fail
            go_roundw
            case rel => exact ⟨k + 1, _, by omega, by go_num, Y.out.1, Y.out.2.1, Y.out.2.2⟩
            case measure => simp [intOf]; omega
          · have e0 : ((bitN x k : Nat) : Int) = 0 := by have := bitN_le x k; omega
            have Y := Lib.hid (And.intro hbz (And.intro hBz (fldsC_no (y := y) hbit ▸ hOz))); clear hBz hOz hbz hbz'
            go_wp2_with fail
            go_roundw
            case rel => exact ⟨k + 1, _, by omega, by go_num, Y.out.1, Y.out.2.1, Y.out.2.2⟩
            case measure => simp [intOf]; omega
        · obtain rfl : k = 6 := by omega
          have p0 := hBz.cell
          have hrl : r.length = P.length := by have := congrArg List.length C.out.1.m; simpa using this
          have Y := Lib.hid (And.intro hbz' (And.intro hOz (And.intro hrl HG.out))); clear hBz hOz hbz hbz' hrl x0
          go_wp2_with (at_builtin; go_loud (refine wpList_append_loc _ rfl (.tmp 62) (.tmp 64) 44 rfl w1.heap.size 46 js (.agg #[.string ⟨#[]⟩, .slice none 0 0]) 2 40 Try.underlying44 sj sy0 sy1 sy2 rfl (by decide) (f := sxF) (fun _ => rfl) sxF_one (.slice aA an ac) r rfl ((C.out.1.o.later Y.out.1).later (ba wz (.cells (sxF ((ys, fldsC x y 6), (fA, fn, fc))).toArray 46))) (some ⟨wz.heap.size, 0, none⟩) 1 1 [((ys, fldsC x y 6), (fA, fn, fc))] rfl rfl (at_newSx wz ((ys, fldsC x y 6), (fA, fn, fc))) (by have := Y.out.2.2.1; have := C.out.2.1; unfold maxLen; omega) (by have := Y.out.2.2.1; have := C.out.2.1; omega) (Nat.le_trans C.out.1.b.size (bt Y.out.1 (ba wz (.cells (sxF ((ys, fldsC x y 6), (fA, fn, fc))).toArray 46))).size) ?_; intro v8 w8 hO8 hg8 hl8; obtain ⟨nA, nn, nc, rfl⟩ := own_shape hO8; have U := Lib.hid (And.intro hO8 hg8); clear hO8 hg8 hl8))
          clear p0
          have bz := bt Y.out.1 (ba wz (.cells (sxF ((ys, fldsC x y 6), (fA, fn, fc))).toArray 46))
          have hoR := C.out.1.o.later bz
          go_roundw
          case rel =>
            refine ⟨i + 2, P ++ [(x, y)], r ++ [((ys, fldsC x y 6), (fA, fn, fc))], by have := C.out.2.1; omega, by go_num, by have := C.out.2.1; rw [List.length_append]; simp; omega, ?_, U.out.1, by rw [List.map_append, List.map_append, C.out.1.m]; rfl, fun z hz => ?_⟩
            · exact (bt C.out.1.b bz).trans (grownBy_below U.out.2 (bt C.out.1.b bz).size (fun q hq => (ownBI hoR hq).1))
            · rcases List.mem_append.1 hz with hz | hz
              · have h1 := (C.out.1.f z hz).later bz
                exact h1.grown U.out.2 (fun b hb => own_unlike hoR h1 (by decide) hb)
              · obtain rfl := List.mem_singleton.1 hz
                have h1 := (Y.out.2.1.lift (base' := w1.heap.size) (by have := Y.out.2.2.2; have := C.out.1.b.size; omega)).later (ba wz (.cells (sxF ((ys, fldsC x y 6), (fA, fn, fc))).toArray 46))
                exact h1.grown U.out.2 (fun b hb => own_unlike hoR h1 (by decide) hb)
          case measure => simp [intOf]; omega
    · have hrl : r.length = P.length := by have := congrArg List.length hA.m; simpa using this
      have hP4 : P.length ≤ 4 := by omega
      have hex : (¬ (i : Int) + 1 < (ln : Int)) ∨ ((i : Int) + 1 < (ln : Int) ∧ ¬ (i : Int) < 8 ∧ decide (i < 8) = false) := by
        rcases (by omega : ln ≤ i + 1 ∨ (i + 1 < ln ∧ 8 ≤ i)) with h | ⟨h1, h2⟩
        · exact Or.inl (by omega)
        · exact Or.inr ⟨by omega, by omega, decide_eq_false (by omega)⟩
      have C := Lib.hid (And.intro hA (And.intro (han.trans hrl) hP4)); clear hA hiP han hrl hP4 hlt
      go_upto_region 6 with fail
      go_cut [26] from 18 to 65 (fun tv wx => tv = .bool false ∧ wr = wx)
      case first =>
        rcases hex with d1 | ⟨d1, d2, d3⟩
        · go_wp2_with fail
          go_meet
          exact ⟨rfl, rfl⟩
        · go_wp2_with fail
          go_meet
          exact ⟨rfl, rfl⟩
      case rest =>
        rename World => wx
        obtain ⟨rfl, rfl⟩ := hcut
        clear hex
        go_wp2_with fail
        try go_at_call 12
        refine (Common_any _ (P.map strC) _ C.out.1.sat (by rw [List.length_map]; have := C.out.2.2; omega) (strC_ok P)).mono ?_
        rintro e w5 ⟨cv, ⟨rfl, hO⟩, hb⟩
        obtain ⟨cA, cc, rfl, _, _, _⟩ := hO.shape
        have hsat := C.out.1.sat.later hb
        have hun : ∀ x ∈ P.map strC, (x.2.map (·.1)).Nodup := fun x hx => by obtain ⟨q, _, rfl⟩ := List.mem_map.1 hx; exact fldsC_unlike _ _
        have hlen : ∀ x ∈ P.map strC, x.2.length ≤ 6 := fun x hx => by obtain ⟨q, _, rfl⟩ := List.mem_map.1 hx; exact fldsC_len _ _ _
        have hal : an = (P.map strC).length := by rw [List.length_map]; exact C.out.2.1
        have ha4 : an ≤ 4 := by have := C.out.2.1; have := C.out.2.2; omega
        have hB := bt H.out.1 (bt C.out.1.b hb)
        clear C hb
        generalize P.map strC = ls at *
        by_cases h0 : an = 0
        · have hl0 : ls = [] := List.eq_nil_of_length_eq_zero (by omega)
          subst h0
          have hc0 : (commonF ls).length = 0 := by rw [hl0]; rfl
          rw [hc0]
          have Y := Lib.hid hB; clear hB hO hsat hun hlen hal hl0 hc0
          go_wp2_with fail
          go_ret
          exact ⟨rfl, Y.out⟩
        · obtain ⟨a0, rfl, hrow⟩ := stm_row hsat hal (by omega)
          have h0l : 0 < ls.length := by omega
          obtain ⟨s0, hs0⟩ : ∃ s, s = ls[0]'h0l := ⟨_, rfl⟩
          have hcom : commonF ls = s0.2.filter (fun f => allIn f ls) := by
            cases ls with
            | nil => simp at h0l
            | cons x r => rw [hs0]; rfl
          obtain ⟨sA, sc, hc1, hAt0, hc2⟩ := hrow 0 h0l
          rw [← hs0] at hc1 hc2
          obtain ⟨m, hm⟩ : ∃ n, n = s0.2.length := ⟨_, rfl⟩
          have hm6 : m ≤ 6 := by rw [hm, hs0]; exact hlen _ (List.getElem_mem h0l)
          rw [hcom] at hO ⊢
          obtain ⟨cn, hcn⟩ : ∃ n, n = (s0.2.filter (fun f => allIn f ls)).length := ⟨_, rfl⟩
          rw [← hcn] at hO ⊢
          have hcn6 : cn ≤ 6 := by have := List.length_filter_le (fun f => allIn f ls) s0.2; omega
          have hz : ∀ W, Below w5.heap.size w5 W → W.cell? a0 = some (.string s0.1) ∧ W.cell? ⟨a0.block, a0.off + 1, none⟩ = some (.slice sA m sc) := fun W hW => by
            have h := hc1 W hW
            rw [Nat.zero_mul, addr_zero, ← hm] at h; exact h
          have hmem0 : s0 ∈ ls := by rw [hs0]; exact List.getElem_mem h0l
          have D := Lib.hid (And.intro hO (And.intro hun (And.intro hrow (And.intro hz (And.intro hc2 (And.intro hm (And.intro hcn (And.intro hal (And.intro hB (And.intro hmem0 hs0)))))))))); clear hO hun hrow hz hc2 hm hcn hal hB hmem0 hs0 hcom hc1 hAt0 hlen hsat
          have dn : ((an : Int) == 0) = false := by simpa using h0
          have dn2 : ¬ (an : Int) = 0 := by omega
          go_wp2_with fail
          go_loopw [9, 10] (fun tv iv wr => ∃ i : Nat, i ≤ m ∧ iv = .int .i64 (i : Int) ∧ tv = .int .i64 ((((s0.2.take i).filter (fun f => allIn f ls)).length : Nat) : Int) ∧ Below w5.heap.size w5 wr) (fun _ iv _ => m - (intOf iv).toNat)
          case atStart => exact ⟨0, Nat.zero_le _, rfl, rfl, Below.refl _ _⟩
          case round =>
            rename World => wr
            obtain ⟨i, hi, rfl, rfl, hb⟩ := hrel
            obtain ⟨z0, z1⟩ := D.out.2.2.2.1 _ hb
            by_cases him : i < m
            · have him' : i < s0.2.length := by have := D.out.2.2.2.2.2.1; omega
              obtain ⟨a2, rfl, hc2⟩ := D.out.2.2.2.2.1 (by omega)
              obtain ⟨f0, f1⟩ := hc2 i him' wr hb
              have hfm : (s0.2[i]'him') ∈ s0.2 := List.getElem_mem him'
              have hyes := filt_yes (fun f => allIn f ls) s0.2 i him'
              have hnot := filt_no (fun f => allIn f ls) s0.2 i him'
              obtain ⟨⟨fs, fk⟩, hfe⟩ : ∃ x, x = s0.2[i]'him' := ⟨_, rfl⟩
              rw [← hfe] at f0 f1 hfm hyes hnot
              simp only at f0 f1 hyes hnot
              obtain ⟨at_, hat⟩ : ∃ n, n = ((s0.2.take i).filter (fun f => allIn f ls)).length := ⟨_, rfl⟩
              rw [← hat] at hyes hnot ⊢
              have hat6 : at_ ≤ 6 := by
                have h1 := List.length_filter_le (fun f => allIn f ls) (s0.2.take i)
                rw [List.length_take] at h1
                omega
              have E := Lib.hid (And.intro hfm (And.intro hyes (And.intro hnot hb))); clear hfm hyes hnot hb hc2 hfe
              have HA := Lib.hid hat; clear hat
              have di : (i : Int) < (m : Int) := by omega
              go_upto_region 23 with fail
              have K0 := Lib.hid (And.intro (bt E.out.2.2.2 (ba wr (.cells #[.string fs, .int .i64 fk] 26))) (Blk.new wr 26 #[.string fs, .int .i64 fk]))
              clear f0 f1 z0 z1
              generalize World.alloc wr _ = wq at *
              generalize wr.heap.size = g at *
              go_wp2_with fail
              go_loopw [12, 13] (fun ov kv wz => ∃ k : Nat, 1 ≤ k ∧ k ≤ an ∧ kv = .int .i64 (k : Int) ∧ ov = .bool ((ls.take k).all (fun s => inF (fs, fk) s.2)) ∧ Below wq.heap.size wq wz) (fun _ kv _ => an - (intOf kv).toNat)
              case atStart =>
                refine ⟨1, Nat.le_refl _, by omega, rfl, ?_, Below.refl _ _⟩
                congr 1
                have h0l : 0 < ls.length := by have := D.out.2.2.2.2.2.2.2.1; omega
                have e1 := all_snoc (fun s : SF => inF (fs, fk) s.2) ls 0 h0l
                rw [← D.out.2.2.2.2.2.2.2.2.2.2, inF_iff.2 E.out.1] at e1
                rw [e1]; rfl
              case round =>
                rename World => wz
                obtain ⟨k, hk1, hk, rfl, rfl, hbz⟩ := hrel
                by_cases hka : k < an
                · have hkl : k < ls.length := by have := D.out.2.2.2.2.2.2.2.1; omega
                  have hw5 : Below w5.heap.size w5 wz := bt K0.out.1 hbz
                  obtain ⟨sB, sd, hr1, hr2, hr3⟩ := D.out.2.2.1 k hkl
                  have hun := D.out.2.1 _ (List.getElem_mem hkl)
                  have hal := all_snoc (fun s : SF => inF (fs, fk) s.2) ls k hkl
                  obtain ⟨⟨sn, F⟩, hse⟩ : ∃ s, s = ls[k]'hkl := ⟨_, rfl⟩
                  rw [← hse] at hr1 hr2 hr3 hun hal
                  simp only at hr1 hr2 hr3 hun hal
                  obtain ⟨fl, hfl⟩ : ∃ n, n = F.length := ⟨_, rfl⟩
                  rw [← hfl] at hr1 hr2
                  obtain ⟨b, hb⟩ : ∃ b, b = (ls.take k).all (fun s => inF (fs, fk) s.2) := ⟨_, rfl⟩
                  rw [← hb] at hal ⊢
                  clear hb hse
                  have cA := fun X (hX : Below w5.heap.size w5 X) => At_any sn fs (.slice sB fl sd) F X (rowsF_of_at (hr2.later hX))
                  have hau := at_unlike hun (fs, fk)
                  obtain ⟨q, hq⟩ : ∃ q, q = atF F fs := ⟨_, rfl⟩
                  have cA' : ∀ X, Below w5.heap.size w5 X → Calls Try.prog 13 #[.agg #[.string sn, .slice sB fl sd], .string fs] X fun e w' => e = .returned (.int .i64 q) ∧ Below X.heap.size X w' := fun X hX => by rw [hq]; exact cA X hX
                  simp only at hau
                  rw [← hq] at hau
                  clear cA hq hun
                  have keepS : ∀ X, Below wz.heap.size wz X → (X.cell? (a0.add (k * 2)) = some (.string sn) ∧ X.cell? ⟨(a0.add (k * 2)).block, (a0.add (k * 2)).off + 1, none⟩ = some (.slice sB fl sd)) ∧ (∀ j, X.cell? ⟨g, j, none⟩ = (#[.string fs, .int .i64 fk] : Array Value)[j]?) := fun X hX =>
                    ⟨hr1 X (bt hw5 hX), (K0.out.2.later (bt hbz hX)).cell⟩
                  have C := Lib.hid (And.intro keepS (And.intro cA' (And.intro hw5 (And.intro hr3 (And.intro hau (And.intro hal (And.intro hfl hbz))))))); clear keepS cA' hw5 hr3 hau hal hr1 hr2 hfl hbz
                  have Z := Lib.hid (Below.refl wz.heap.size wz)
                  have dk : (k : Int) < (an : Int) := by omega
                  go_upto_region 27 with fail
                  go_cut [14] from 93 to 124 (fun qv wx => qv = .int .i64 q ∧ Below wz.heap.size wz wx)
                  case first =>
                    refine wp_region_noPanic ?_
                    go_region_held3 (fun X => (X.cell? (a0.add (k * 2)) = some (.string sn) ∧ X.cell? ⟨(a0.add (k * 2)).block, (a0.add (k * 2)).off + 1, none⟩ = some (.slice sB fl sd)) ∧ (∀ j, X.cell? ⟨g, j, none⟩ = (#[.string fs, .int .i64 fk] : Array Value)[j]?)) (exact C.out.1 _ (by first | exact Z.out | exact below_drew Z.out)) (first
                      | (go_at_call 13; ((with_reducible refine (C.out.2.1 _ (by first | exact bt C.out.2.2.1 Z.out | exact bt C.out.2.2.1 (below_drew Z.out))).mono ?_); rintro e w6 ⟨rfl, hb⟩; (first | replace Z := Lib.hid (bt Z.out hb) | replace Z := Lib.hid (bt (below_drew Z.out) hb)); clear hb)))
                    all_goals
                      refine NoPanic.normal ?_
                      go_wp2_with fail
                      go_meet
                      exact ⟨rfl, Z.out⟩
                  case rest =>
                    rename World => w7
                    clear Z
                    obtain ⟨rfl, hb7⟩ := hcut
                    have Z7 := Lib.hid hb7
                    obtain ⟨⟨a0', a1'⟩, g0⟩ := C.out.1 _ hb7
                    have h5 := bt C.out.2.2.1 hb7
                    clear hb7
                    cases b with
                    | false =>
                      clear a0' a1' g0 h5
                      go_wp2_with fail
                      go_quiet (fail)
                      go_wp2_with fail
                      go_roundw
                      case rel => exact ⟨k + 1, by omega, by omega, by go_num, by rw [C.out.2.2.2.2.2.1]; rfl, below_drewN (bt C.out.2.2.2.2.2.2.2 Z7.out) _⟩
                      case measure => simp [intOf]; omega
                    | true =>
                      have hau := C.out.2.2.2.2.1
                      rcases hau with ⟨hin, j, hj, hqj, hkd⟩ | ⟨hin, hqj⟩ | ⟨hin, j, hj, hqj, hkd⟩
                      · obtain ⟨a3, rfl, hcl⟩ := C.out.2.2.2.1 (by omega)
                        obtain ⟨c0, c1⟩ := hcl j hj w7 h5
                        rw [hkd] at c1
                        have djf : j < fl := by have := C.out.2.2.2.2.2.2.1; omega
                        have HQ := Lib.hid (And.intro hqj hin)
                        clear hkd hcl h5 hin c0
                        subst hqj
                        have d1 : decide ((0 : Int) ≤ (j : Int)) = true := decide_eq_true (by omega)
                        have d2 : (j : Int) < (fl : Int) := by omega
                        have d3 : (0 : Int) ≤ (j : Int) := by omega
                        go_wp2_with fail
                        go_quiet (fail)
                        go_wp2_with fail
                        go_roundw
                        case rel => exact ⟨k + 1, by omega, by omega, by go_num, by rw [C.out.2.2.2.2.2.1, HQ.out.2]; rfl, below_drewN (bt C.out.2.2.2.2.2.2.2 Z7.out) _⟩
                        case measure => simp [intOf]; omega
                      · subst hqj
                        have HQ := Lib.hid hin
                        clear hin h5 a0' a1' g0
                        go_wp2_with fail
                        go_quiet (fail)
                        go_wp2_with fail
                        go_roundw
                        case rel => exact ⟨k + 1, by omega, by omega, by go_num, by rw [C.out.2.2.2.2.2.1, HQ.out]; rfl, below_drewN (bt C.out.2.2.2.2.2.2.2 Z7.out) _⟩
                        case measure => simp [intOf]; omega
                      · obtain ⟨a3, rfl, hcl⟩ := C.out.2.2.2.1 (by omega)
                        obtain ⟨c0, c1⟩ := hcl j hj w7 h5
                        obtain ⟨kd, hkde⟩ : ∃ x, x = (F[j]'hj).2 := ⟨_, rfl⟩
                        rw [← hkde] at c1 hkd
                        have djf : j < fl := by have := C.out.2.2.2.2.2.2.1; omega
                        have HQ := Lib.hid hin
                        clear hkde hcl h5 hin c0
                        subst hqj
                        have e0 : (kd == fk) = false := by simpa using hkd
                        have e1 : decide (kd = fk) = false := decide_eq_false hkd
                        have d1 : decide ((0 : Int) ≤ (j : Int)) = true := decide_eq_true (by omega)
                        have d2 : (j : Int) < (fl : Int) := by omega
                        have d3 : (0 : Int) ≤ (j : Int) := by omega
                        go_wp2_with fail
                        go_quiet (fail)
                        go_wp2_with fail
                        go_roundw
                        case rel => exact ⟨k + 1, by omega, by omega, by go_num, by rw [C.out.2.2.2.2.2.1, HQ.out]; rfl, below_drewN (bt C.out.2.2.2.2.2.2.2 Z7.out) _⟩
                        case measure => simp [intOf]; omega
                · obtain rfl : k = an := by omega
                  have hall : (ls.take k).all (fun s => inF (fs, fk) s.2) = allIn (fs, fk) ls := by
                    rw [List.take_of_length_le (by have := D.out.2.2.2.2.2.2.2.1; omega)]; rfl
                  rw [hall]
                  have hw5 := bt K0.out.1 hbz
                  have g0 := (K0.out.2.later hbz).cell
                  obtain ⟨b, hb⟩ : ∃ b, b = allIn (fs, fk) ls := ⟨_, rfl⟩
                  have hyes := E.out.2.1
                  have hnot := E.out.2.2.1
                  rw [← hb] at hyes hnot ⊢
                  clear hb hall hbz
                  cases b with
                  | false =>
                    have Y := Lib.hid (And.intro hw5 (hnot rfl)); clear hw5 hyes hnot g0
                    go_wp2_with fail
                    go_roundw
                    case rel => exact ⟨i + 1, by omega, by go_num, by rw [Y.out.2], Y.out.1⟩
                    case measure => simp [intOf]; omega
                  | true =>
                    obtain ⟨y1, y2, y3⟩ := hyes rfl
                    have dat : at_ < cn := by have := D.out.2.2.2.2.2.2.1; omega
                    have hOw := D.out.1.later hw5
                    obtain ⟨gc, hgc, _, _, _, hcc⟩ := hOw.cells (f := fldF) (k := 2) (fun _ => rfl) rfl (by omega)
                    subst hgc
                    have c0 := hcc at_ y2 0 _ rfl
                    have c1 := hcc at_ y2 1 _ rfl
                    rw [y3] at c0 c1
                    rw [Nat.add_zero] at c0
                    simp only at c0 c1
                    have Y := Lib.hid (And.intro hw5 y1); clear hw5 hnot hOw hcc y1 y3 hyes
                    have d1 : ¬ (cn : Int) ≤ (at_ : Int) := by omega
                    have d2 : decide ((cn : Int) ≤ (at_ : Int)) = false := decide_eq_false d1
                    have d3 : decide (cn ≤ at_) = false := decide_eq_false (by omega)
                    have d4 : (at_ : Int) < (cn : Int) := by omega
                    go_wp2_with fail
                    go_quiet (fail)
                    go_wp2_with fail
                    go_roundw
                    case rel => exact ⟨i + 1, by omega, by go_num, by rw [Y.out.2]; go_num, below_drewN Y.out.1 _⟩
                    case measure => simp [intOf]; omega
            · obtain rfl : i = m := by omega
              have hcnt : ((s0.2.take i).filter (fun f => allIn f ls)).length = cn := by
                rw [List.take_of_length_le (by have := D.out.2.2.2.2.2.1; omega), ← D.out.2.2.2.2.2.2.1]
              rw [hcnt]
              have Y := Lib.hid (bt D.out.2.2.2.2.2.2.2.2.1 hb); clear hb hcnt
              go_wp2_with fail
              go_ret
              exact ⟨rfl, Y.out⟩
end Go.Proofs.Ytkmboffbohndjaa
