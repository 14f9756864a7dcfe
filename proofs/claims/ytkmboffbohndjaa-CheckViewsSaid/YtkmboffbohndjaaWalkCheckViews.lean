/- CheckViews: the walk. -/
import Derived.Test.YtkmboffbohndjaaCkX
import Derived.Test.YtkmboffbohndjaaCkO2
namespace Go.Proofs.Ytkmboffbohndjaa
open Go.ChangeShapes Go.WideShapes Go.ChangeAt Go.RowKit Go.Maps
set_option linter.unusedVariables false
set_option linter.unusedSimpArgs false

abbrev yno : ByteArray := ⟨#[110, 111, 110, 101]⟩
theorem okFld_lit (s : ByteArray) (k : Int) (hs : s.size ≤ 100) (h0 : 0 ≤ k) (h1 : k ≤ 100) : okFld (s, k) := ⟨by show s.size ≤ maxLen; unfold maxLen; omega, wf_mk ⟨by simp only; omega, by simp only; omega⟩⟩
/-- One of the examples' streams. -/
theorem ls3_pick (q : Nat) (h : q < 3) : ∃ (nm : ByteArray) (F : List Fld), ls3[q]? = some (nm, F) ∧ 1 ≤ F.length ∧ F.length ≤ 3 ∧ (∀ i (hi : i < F.length), atF F (F[i]'hi).1 = (i : Int)) ∧ atF F yno = -1 ∧ ∀ f ∈ F, okFld f := by
  rcases (by omega : q = 0 ∨ q = 1 ∨ q = 2) with rfl | rfl | rfl
  · refine ⟨yA, F1, rfl, by decide, by decide, by decide +kernel, by decide +kernel, fun f hf => ?_⟩
    simp only [F1, List.mem_cons, List.not_mem_nil, or_false] at hf
    rcases hf with rfl | rfl <;> exact okFld_lit _ _ (by decide) (by decide) (by decide)
  · refine ⟨yB, F2, rfl, by decide, by decide, by decide +kernel, by decide +kernel, fun f hf => ?_⟩
    simp only [F2, List.mem_cons, List.not_mem_nil, or_false] at hf
    rcases hf with rfl | rfl | rfl <;> exact okFld_lit _ _ (by decide) (by decide) (by decide)
  · refine ⟨yC, F3, rfl, by decide, by decide, by decide +kernel, by decide +kernel, fun f hf => ?_⟩
    simp only [F3, List.mem_cons, List.not_mem_nil, or_false] at hf
    rcases hf with rfl | rfl | rfl <;> exact okFld_lit _ _ (by decide) (by decide) (by decide)
theorem see_at {F : List Fld} {V : List VL} (hV : V.length = F.length) (hat : ∀ i (hi : i < F.length), atF F (F[i]'hi).1 = (i : Int)) (i : Nat) (hi : i < F.length) : seeV F V (F[i]'hi) = V[i]'(by omega) := by
  unfold seeV
  have e := hat i hi
  rw [dif_pos ⟨by rw [e]; omega, by rw [e, Int.toNat_natCast]; omega⟩]
  simp only [e, Int.toNat_natCast]
theorem view_get (F : List Fld) (V : List VL) (f : List Fld) (i : Nat) (h : i < (viewL F V f).length) (h' : i < f.length) : (viewL F V f)[i]'h = seeV F V (f[i]'h') := by simp [viewL]
theorem view_own {F : List Fld} {V : List VL} (hV : V.length = F.length) (hat : ∀ i (hi : i < F.length), atF F (F[i]'hi).1 = (i : Int)) : viewL F V F = V := by
  show F.map (seeV F V) = V
  refine List.ext_getElem (by rw [List.length_map, hV]) (fun i h1 h2 => ?_)
  rw [List.getElem_map]
  exact see_at hV hat i (by omega)
set_option maxRecDepth 20000 in
set_option maxHeartbeats 8000000 in
theorem walk_CheckViews (p : Int) (v : Value) (l : List UInt8) (u : Value) (m : List UInt8) (w : World) (p0 : 0 ≤ p) (p1 : p ≤ 255) (hv : BytesAt w v l) (hl : l.length ≤ 140737488351232) (hu : BytesAt w u m) (hm : m.length ≤ 140737488351232) :
    Calls Try.prog 5 #[.int .u8 p, v, u] w fun e w' => e = .returned (.bool true) ∧ Below w.heap.size w w' := by
  obtain ⟨lA, lc, rfl⟩ := bytes_slice hv
  obtain ⟨mA, mc, rfl⟩ := bytes_slice hu
  obtain ⟨pn, rfl⟩ : ∃ pn : Nat, p = (pn : Int) := ⟨p.toNat, by omega⟩
  obtain ⟨ln, hln⟩ : ∃ n, n = l.length := ⟨_, rfl⟩
  obtain ⟨mn, hmn⟩ : ∃ n, n = m.length := ⟨_, rfl⟩
  rw [← hln] at hv ⊢
  rw [← hmn] at hu ⊢
  have K := Lib.hid (Keep.start w (fun X => BytesAt X (.slice lA ln lc) l ∧ BytesAt X (.slice mA mn mc) m) ⟨hv, hu⟩ (fun _ _ hb h => ⟨h.1.later hb, h.2.later hb⟩))
  have HL := Lib.hid (And.intro hln hmn); clear hv hu hln hmn
  go_enter Try.func5, Try.ntmps5
  go_wp2_with fail
  try go_at_call 6
  refine (examples_any _).mono ?_
  rintro e w1 ⟨rfl, hb⟩
  replace K := Lib.hid (K.out.go hb); clear hb
  go_wp2_with fail
  try go_at_call 14
  refine (streams_ex _).mono ?_
  rintro e w2 ⟨sb, rfl, hS, hb⟩
  replace K := Lib.hid (K.out.go hb); clear hb
  obtain ⟨sa, hsa, hrow⟩ := stm_row (n := 3) hS rfl (by decide)
  obtain rfl : ⟨sb, 0, none⟩ = sa := by simpa using hsa
  clear hsa
  obtain ⟨q, hq⟩ : ∃ q, q = pn % 3 := ⟨_, rfl⟩
  have hq3 : q < 3 := by omega
  obtain ⟨nm, F, hpk, F1', F3', hat, hno, hok⟩ := ls3_pick q hq3
  have hqi : q < ls3.length := hq3
  have hqe : ls3[q]'hqi = (nm, F) := by rw [List.getElem?_eq_getElem hqi] at hpk; exact Option.some.inj hpk
  obtain ⟨sA, sc, hc1, hAt, hc2⟩ := hrow q hqi
  rw [hqe] at hc1 hAt
  simp only at hc1 hAt
  obtain ⟨k, hkl⟩ : ∃ n, n = F.length := ⟨_, rfl⟩
  rw [← hkl] at hc1 hAt F1' F3'
  obtain ⟨y0, y1⟩ := hc1 w2 (Below.refl _ _)
  rw [addr_pl, Nat.zero_add] at y0 y1
  rw [hq] at y0 y1
  have D := Lib.hid (And.intro hat (And.intro hno (And.intro hok (And.intro hkl hAt)))); clear hat hno hok hkl hAt hc1 hc2 hrow hpk hqe hS
  go_upto_region 5 with fail
  replace K := Lib.hid (((K.out.more 46 #[.string nm, .slice sA k sc]).keepRow (List.mem_cons_self ..)).and (Q := fun X => At X 2 fldF (.slice sA k sc) F) (D.out.2.2.2.2.later (ba _ _)) (fun _ _ hb h => h.later hb))
  clear y0 y1
  generalize w2.alloc _ = w3 at *
  generalize w2.heap.size = g1 at *
  have y := K.out.p.1.2.cell
  go_wp2_with fail
  try go_at_call 15
  refine (one_any nm _ _ F l pn _ K.out.p.2 K.out.p.1.1.1 hl (by have := D.out.2.2.2.1; omega) (by omega)).mono ?_
  rintro e w4 ⟨V, rv, ⟨rfl, hV, hfit, hO⟩, hb⟩
  obtain ⟨vA, vc, rfl, _, _, _⟩ := hO.shape
  have hVk : V.length = k := hV.trans D.out.2.2.2.1.symm
  rw [hVk] at hO ⊢
  have hVat := hO.at_ (f := vlF) (k := 3) (fun _ => rfl)
  replace K := Lib.hid ((((K.out.go hb).more 53 #[.int .i64 (pn : Int), .slice vA k vc]).keepRow (List.mem_cons_self ..)).and (Q := fun X => At X 3 vlF (.slice vA k vc) V) (hVat.later (ba _ _)) (fun _ _ hb h => h.later hb))
  have DV := Lib.hid (And.intro hV (And.intro hVk (view_own hV D.out.1))); clear hV hVk hfit hO hb hVat y
  go_upto_region 6 with fail
  generalize w4.alloc _ = w5 at *
  generalize w4.heap.size = g2 at *
  have y1 := K.out.p.1.1.1.2.cell
  have y2 := K.out.p.1.2.cell
  go_wp2_with fail
  try go_at_call 16
  refine (View_any nm _ _ _ F F (pn : Int) V _ K.out.p.1.1.2 K.out.p.1.1.2 K.out.p.2 (by have := D.out.2.2.2.1; omega)).mono ?_
  rintro e w6 ⟨rv, ⟨rfl, hO⟩, hb⟩
  rw [DV.out.2.2] at hO
  obtain ⟨xA, xc, rfl, _, _, _⟩ := hO.shape
  rw [DV.out.2.1] at hO ⊢
  have hVat := hO.at_ (f := vlF) (k := 3) (fun _ => rfl)
  replace K := Lib.hid ((((K.out.go hb).more 53 #[.int .i64 (pn : Int), .slice xA k xc]).keepRow (List.mem_cons_self ..)).and (Q := fun X => At X 3 vlF (.slice xA k xc) V) (hVat.later (ba _ _)) (fun _ _ hb h => h.later hb))
  clear hO hb hVat y1 y2
  go_upto_region 7 with fail
  generalize w6.alloc _ = w7 at *
  generalize w6.heap.size = g3 at *
  obtain ⟨js, sj, sy0, sy1, sy2⟩ := info_parts (P := Try.prog) (e := 26) (z := .agg #[.string ⟨#[]⟩, .int .i64 0]) (size := 2) (bytes := 24) (by kernel_rfl)
  have KP := Lib.hid (fun X (hX : Below w7.heap.size w7 X) => (K.out.go hX).p)
  have KB := Lib.hid K.out.bel; clear K
  obtain ⟨fa, rfl, hcf⟩ := (KP.out _ (Below.refl _ _)).1.1.1.1.2.cells rfl (by have := D.out.2.2.2.1; omega)
  clear hcf
  go_wp2_with fail
  go_loopw [11, 12] (fun fv iv wr => ∃ (i : Nat) (fl : List Fld), i ≤ mn ∧ i ≤ 8 ∧ iv = .int .i64 (i : Int) ∧ fl.length = i ∧ (∀ x ∈ fl, x ∈ F) ∧ Below w7.heap.size w7 wr ∧ Own wr w7.heap.size 26 2 fldF fv fl) (fun _ iv _ => mn - (intOf iv).toNat)
  case atStart => exact ⟨0, [], Nat.zero_le _, by omega, rfl, rfl, fun x hx => by simp at hx, Below.refl _ _, Own.nil _ _ _ _ _⟩
  case round =>
    rename World => wr
    obtain ⟨i, fl, hi, hi8, rfl, hfl, hin, hb, hO⟩ := hrel
    obtain ⟨fA, fn, fc, rfl⟩ := own_shape hO
    by_cases hlt : i < mn ∧ i < 8
    · obtain ⟨hlt, hlt8⟩ := hlt
      have him : i < m.length := by have := HL.out.2; omega
      have hP := KP.out _ (Below.refl _ _)
      obtain ⟨ma, rfl, hcm⟩ := (bytes_at hP.1.1.1.1.1.1.2).cells rfl (by omega)
      have x0 := hcm.row1 i him rfl
      rw [Nat.mul_one] at x0
      have hub := (m[i]'him).toNat_lt
      generalize (m[i]'him).toNat = b at *
      obtain ⟨fa', hfa, hcf⟩ := hP.1.1.1.1.2.cells rfl (by have := D.out.2.2.2.1; omega)
      obtain rfl : fa = fa' := by simpa using hfa
      obtain ⟨r, hr⟩ : ∃ r, r = b % k := ⟨_, rfl⟩
      have hrk : r < k := by rw [hr]; exact Nat.mod_lt _ (by omega)
      have hrF : r < F.length := by have := D.out.2.2.2.1; omega
      obtain ⟨z0, z1⟩ := hcf.row2 r hrF rfl
      have hmem : F[r]'hrF ∈ F := List.getElem_mem hrF
      change w7.cell? (fa.add (r * 2)) = some (.string (F[r]'hrF).1) at z0
      change w7.cell? ⟨(fa.add (r * 2)).block, (fa.add (r * 2)).off + 1, none⟩ = some (.int .i64 (F[r]'hrF).2) at z1
      obtain ⟨⟨rs, rk⟩, hrx⟩ : ∃ x, x = F[r]'hrF := ⟨_, rfl⟩
      rw [← hrx] at z0 z1 hmem
      simp only at z0 z1
      have hm1 : (b : Int) % (k : Int) = (r : Int) := by rw [hr]; omega
      have hm2 : Int.tmod (b : Int) (k : Int) = (r : Int) := by rw [Int.tmod_eq_emod_of_nonneg (by omega)]; exact hm1
      have hwb : IntKind.i64.wrap (b : Int) = (b : Int) := IntWalk.i64_in _ (by omega)
      have hwd : IntKind.i64.wrap (r : Int) = (r : Int) := IntWalk.i64_in _ (by omega)
      have hk0 : ¬ (k : Int) = 0 := by omega
      have hk0' : ¬ k = 0 := by omega
      have hr' : b % k = r := hr.symm
      have hrem : ∀ (T : TypeId) (W : World), (binOp .rem T (.int .i64 (b : Int)) (.int .i64 (k : Int))).run Try.prog W = .ok (.int .i64 (r : Int)) W := fun T W => by
        show (Op.intDiv .rem .i64 (b : Int) (k : Int)).run Try.prog W = _
        unfold Op.intDiv
        rw [if_neg hk0]
        show Result.ok (Value.int .i64 (Int.tmod (b : Int) (k : Int))) W = _
        rw [hm2]
      have hrk' : (r : Int) < (k : Int) := by omega
      have d1 : (i : Int) < (mn : Int) := by omega
      have d2 : decide (i < 8) = true := decide_eq_true hlt8
      have keepS : ∀ X, Below w7.heap.size w7 X → (∀ j, X.cell? ⟨g1, j, none⟩ = (#[.string nm, .slice (some fa) k sc] : Array Value)[j]?) ∧ X.cell? (ma.add i) = some (.int .u8 (b : Int)) ∧ X.cell? (fa.add (r * 2)) = some (.string rs) ∧ X.cell? ⟨(fa.add (r * 2)).block, (fa.add (r * 2)).off + 1, none⟩ = some (.int .i64 rk) := fun X hX =>
        ⟨(hP.1.1.1.1.1.2.later hX).cell, by rw [hX.cell (World.block_lt_of_cell? w7 _ x0)]; exact x0, by rw [hX.cell (World.block_lt_of_cell? w7 _ z0)]; exact z0, by rw [hX.cell (World.block_lt_of_cell? w7 _ z1)]; exact z1⟩
      have C := Lib.hid (And.intro keepS (And.intro hin (And.intro hb (And.intro hO (And.intro hmem hfl))))); clear keepS hin hb hO hmem hfl hP hcm hcf hfa hr hrx hub
      go_upto_region 11 with fail
      refine wp_region_noPanic ?_
      refine HeldLast.wp_region_last_drew 16 (S := (fun X => (∀ j, X.cell? ⟨g1, j, none⟩ = (#[.string nm, .slice (some fa) k sc] : Array Value)[j]?) ∧ X.cell? (ma.add i) = some (.int .u8 (b : Int)) ∧ X.cell? (fa.add (r * 2)) = some (.string rs) ∧ X.cell? ⟨(fa.add (r * 2)).block, (fa.add (r * 2)).off + 1, none⟩ = some (.int .i64 rk))) (by kernel_rfl) ?_ (fun hHeld => ?_)
      · exact C.out.1 _ (below_drew C.out.2.2.1)
      refine HeldLast.wpAnyL_take (i := 0) (v := ?v0) [0, 15, 16] rfl (by kernel_rfl) (by kernel_rfl) (by kernel_rfl) (by kernel_rfl) (fun _ _ _ h => h) (Or.inl ⟨by rfl, ?hy0⟩) (by assumption) ?rest0
      case hy0 => (intro w hSw; (try dsimp only at hSw); go_simp; try with_reducible rfl)
      try simp only [Act.put, List.setIfInBounds_toArray, List.set_cons_zero, List.set_cons_succ]
      refine HeldLast.wpAnyL_take (i := 1) (v := ?v1) [1, 2, 12, 13, 14, 15, 16] rfl (by kernel_rfl) (by kernel_rfl) (by kernel_rfl) (by kernel_rfl) (fun _ _ _ h => h) (Or.inl ⟨by rfl, ?hy1⟩) (by assumption) ?rest1
      case hy1 => (intro w hSw; (try dsimp only at hSw); go_simp; try with_reducible rfl)
      try simp only [Act.put, List.setIfInBounds_toArray, List.set_cons_zero, List.set_cons_succ]
      refine HeldLast.wpAnyL_take (i := 2) (v := ?v2) [2, 12, 13, 14, 15, 16] rfl (by kernel_rfl) (by kernel_rfl) (by kernel_rfl) (by kernel_rfl) (fun _ _ _ h => h) (Or.inl ⟨by rfl, ?hy2⟩) (by assumption) ?rest2
      case hy2 => (intro w hSw; (try dsimp only at hSw); go_simp; try with_reducible rfl)
      try simp only [Act.put, List.setIfInBounds_toArray, List.set_cons_zero, List.set_cons_succ]
      refine HeldLast.wpAnyL_take (i := 3) (v := ?v3) [3, 5, 6, 7, 11, 12, 13, 14, 15, 16] rfl (by kernel_rfl) (by kernel_rfl) (by kernel_rfl) (by kernel_rfl) (fun _ _ _ h => h) (Or.inl ⟨by rfl, ?hy3⟩) (by assumption) ?rest3
      case hy3 => (intro w hSw; (try dsimp only at hSw); go_simp; try with_reducible rfl)
      try simp only [Act.put, List.setIfInBounds_toArray, List.set_cons_zero, List.set_cons_succ]
      refine HeldLast.wpAnyL_take (i := 4) (v := ?v4) [4, 5, 6, 7, 11, 12, 13, 14, 15, 16] rfl (by kernel_rfl) (by kernel_rfl) (by kernel_rfl) (by kernel_rfl) (fun _ _ _ h => h) (Or.inl ⟨by rfl, ?hy4⟩) (by assumption) ?rest4
      case hy4 => (intro w hSw; (try dsimp only at hSw); go_simp; try with_reducible rfl)
      try simp only [Act.put, List.setIfInBounds_toArray, List.set_cons_zero, List.set_cons_succ]
      refine HeldLast.wpAnyL_take (i := 5) (v := ?v5) [5, 6, 7, 11, 12, 13, 14, 15, 16] rfl (by kernel_rfl) (by kernel_rfl) (by kernel_rfl) (by kernel_rfl) (fun _ _ _ h => h) (Or.inl ⟨by rfl, ?hy5⟩) (by assumption) ?rest5
      case hy5 => (intro w hSw; (try dsimp only at hSw); go_simp; try with_reducible rfl)
      try simp only [Act.put, List.setIfInBounds_toArray, List.set_cons_zero, List.set_cons_succ]
      refine HeldLast.wpAnyL_take (i := 6) (v := ?v6) [6, 7, 11, 12, 13, 14, 15, 16] rfl (by kernel_rfl) (by kernel_rfl) (by kernel_rfl) (by kernel_rfl) (fun _ _ _ h => h) (Or.inl ⟨by rfl, ?hy6⟩) (by assumption) ?rest6
      case hy6 => (intro w hSw; (try dsimp only at hSw); go_simp; try with_reducible rfl)
      try simp only [Act.put, List.setIfInBounds_toArray, List.set_cons_zero, List.set_cons_succ]
      refine HeldLast.wpAnyL_take (i := 7) (v := ?v7) [7, 11, 12, 13, 14, 15, 16] rfl (by kernel_rfl) (by kernel_rfl) (by kernel_rfl) (by kernel_rfl) (fun _ _ _ h => h) (Or.inl ⟨by rfl, ?hy7⟩) (by assumption) ?rest7
      case hy7 => (intro w hSw; (try dsimp only at hSw); go_simp; try with_reducible rfl)
      try simp only [Act.put, List.setIfInBounds_toArray, List.set_cons_zero, List.set_cons_succ]
      refine HeldLast.wpAnyL_take (i := 8) (v := ?v8) [8, 9, 10, 11, 12, 13, 14, 15, 16] rfl (by kernel_rfl) (by kernel_rfl) (by kernel_rfl) (by kernel_rfl) (fun _ _ _ h => h) (Or.inl ⟨by rfl, ?hy8⟩) (by assumption) ?rest8
      case hy8 => (intro w hSw; (try dsimp only at hSw); go_simp; try with_reducible rfl)
      try simp only [Act.put, List.setIfInBounds_toArray, List.set_cons_zero, List.set_cons_succ]
      refine HeldLast.wpAnyL_take (i := 9) (v := ?v9) [9, 10, 11, 12, 13, 14, 15, 16] rfl (by kernel_rfl) (by kernel_rfl) (by kernel_rfl) (by kernel_rfl) (fun _ _ _ h => h) (Or.inl ⟨by rfl, ?hy9⟩) (by assumption) ?rest9
      case hy9 => (intro w hSw; (try dsimp only at hSw); go_simp; try with_reducible rfl)
      try simp only [Act.put, List.setIfInBounds_toArray, List.set_cons_zero, List.set_cons_succ]
      refine HeldLast.wpAnyL_take (i := 10) (v := ?v10) [10, 11, 12, 13, 14, 15, 16] rfl (by kernel_rfl) (by kernel_rfl) (by kernel_rfl) (by kernel_rfl) (fun _ _ _ h => h) (Or.inl ⟨by rfl, ?hy10⟩) (by assumption) ?rest10
      case hy10 => (intro w hSw; (try dsimp only at hSw); go_simp; try with_reducible rfl)
      try simp only [Act.put, List.setIfInBounds_toArray, List.set_cons_zero, List.set_cons_succ]
      refine HeldLast.wpAnyL_take (i := 11) (v := ?v11) [11, 12, 13, 14, 15, 16] rfl (by kernel_rfl) (by kernel_rfl) (by kernel_rfl) (by kernel_rfl) (fun _ _ _ h => h) (Or.inl ⟨by rfl, ?hy11⟩) (by assumption) ?rest11
      case hy11 => (intro w hSw; (try dsimp only at hSw); go_simp; try with_reducible rfl)
      try simp only [Act.put, List.setIfInBounds_toArray, List.set_cons_zero, List.set_cons_succ]
      refine HeldLast.wpAnyL_take (i := 12) (v := ?v12) [12, 13, 14, 15, 16] rfl (by kernel_rfl) (by kernel_rfl) (by kernel_rfl) (by kernel_rfl) (fun _ _ _ h => h) (Or.inl ⟨by rfl, ?hy12⟩) (by assumption) ?rest12
      case hy12 => (intro w hSw; (try dsimp only at hSw); go_simp; try with_reducible rfl)
      try simp only [Act.put, List.setIfInBounds_toArray, List.set_cons_zero, List.set_cons_succ]
      refine HeldLast.wpAnyL_take (i := 13) (v := ?v13) [13, 14, 15, 16] rfl (by kernel_rfl) (by kernel_rfl) (by kernel_rfl) (by kernel_rfl) (fun _ _ _ h => h) (Or.inl ⟨by rfl, ?hy13⟩) (by assumption) ?rest13
      case hy13 => (intro w hSw; (try dsimp only at hSw); go_simp; try with_reducible rfl)
      try simp only [Act.put, List.setIfInBounds_toArray, List.set_cons_zero, List.set_cons_succ]
      refine HeldLast.wpAnyL_ready (rs := [14]) (by kernel_rfl) (by simp) ?_
      refine HeldLast.AllReadyL.cons rfl (fun K' hK => ?_) HeldLast.AllReadyL.nil
      go_simp
      refine hK.out _ _ ?_ (fun hHeld => ?_)
      · exact C.out.1 _ (below_drew (bt C.out.2.2.1 (ba wr (.cells (fldF (rs, rk)).toArray 26))))
      clear hK K'
      try simp only [Act.put, List.setIfInBounds_toArray, List.set_cons_zero, List.set_cons_succ]
      refine HeldLast.wpAnyL_ready (rs := [15]) (by kernel_rfl) (by simp) ?_
      refine HeldLast.AllReadyL.cons rfl (fun K' hK => ?_) HeldLast.AllReadyL.nil
      refine step_append_at rfl (.tmp 43) (.tmp 57) 27 rfl w7.heap.size 26 js (.agg #[.string ⟨#[]⟩, .int .i64 0]) 2 24 Try.underlying27 sj sy0 sy1 sy2 rfl (by decide) (f := fldF) (fun _ => rfl) fldF_one (.slice fA fn fc) fl rfl (C.out.2.2.2.1.later (below_drew (ba wr (.cells (fldF (rs, rk)).toArray 26)))) (some ⟨wr.heap.size, 0, none⟩) 1 1 [(rs, rk)] rfl rfl ((at_newF wr (rs, rk)).later (below_drew (Below.refl _ _))) (by have := C.out.2.2.2.2.2; unfold maxLen; omega) (by have := C.out.2.2.2.2.2; omega) (Nat.le_trans C.out.2.2.1.size (ba wr (.cells (fldF (rs, rk)).toArray 26)).size) ?_
      intro v8 w8 hO8 hg8
      obtain ⟨nA, nn, nc, rfl⟩ := own_shape hO8
      have Z : Below w7.heap.size w7 w8 := (below_drew (bt C.out.2.2.1 (ba wr (.cells (fldF (rs, rk)).toArray 26)))).trans (grownBy_below hg8 (Nat.le_trans C.out.2.2.1.size (ba wr (.cells (fldF (rs, rk)).toArray 26)).size) (fun x hx => (ownBI C.out.2.2.2.1 hx).1))
      refine hK.out _ _ ?_ (fun hHeld => ?_)
      · exact C.out.1 _ (Z)
      clear hK K'
      try simp only [Act.put, List.setIfInBounds_toArray, List.set_cons_zero, List.set_cons_succ]
      refine HeldLast.wpAnyL_ready (rs := [16]) (by kernel_rfl) (by simp) ?_
      refine HeldLast.AllReadyL.last rfl (fun K' hK => ?_)
      go_simp
      refine hK.out _ _ ?_
      clear hK K'
      try simp only [Act.put, List.setIfInBounds_toArray, List.set_cons_zero, List.set_cons_succ]
      refine HeldLast.wpAnyL_done (by kernel_rfl) ?_ _
      refine NoPanic.normal ?_
      go_wp2_with fail
      go_roundw
      case rel => exact ⟨i + 1, fl ++ [(rs, rk)], by omega, by omega, by go_num, by rw [List.length_append]; have := C.out.2.2.2.2.2; simp; omega, fun x hx => (List.mem_append.1 hx).elim (C.out.2.1 x) (fun h => by obtain rfl := List.mem_singleton.1 h; exact C.out.2.2.2.2.1), Z, hO8⟩
      case measure => simp [intOf]; omega
    · obtain ⟨n, hn⟩ : ∃ n, n = i + 1 := ⟨_, rfl⟩
      have hsub : (n : Int) - 1 = (i : Int) := by omega
      have hin1 : (i : Int) < (n : Int) := by omega
      have hin2 : i < n := by omega
      have C := Lib.hid (And.intro hin (And.intro hb (And.intro hO (And.intro hfl hn)))); clear hin hb hO hfl hn
      have hex : (¬ (i : Int) < (mn : Int)) ∨ ((i : Int) < (mn : Int) ∧ ¬ (i : Int) < 8 ∧ decide (i < 8) = false) := by
        rcases (by omega : mn ≤ i ∨ (i < mn ∧ 8 ≤ i)) with h | ⟨h1, h2⟩
        · exact Or.inl (by omega)
        · exact Or.inr ⟨by omega, by omega, decide_eq_false (by omega)⟩
      clear hlt
      rcases hex with d1 | ⟨d1, d2, d3⟩
      all_goals go_upto_region 12 with fail
      all_goals
        try clear d1
        try clear d2 d3
        go_wp2_with (at_builtin; go_loud (refine wpList_append_loc _ rfl (.tmp 59) (.tmp 61) 27 rfl w7.heap.size 26 js (.agg #[.string ⟨#[]⟩, .int .i64 0]) 2 24 Try.underlying27 sj sy0 sy1 sy2 rfl (by decide) (f := fldF) (fun _ => rfl) fldF_one (.slice fA fn fc) fl rfl (C.out.2.2.1.later (ba wr (.cells (fldF (yno, 1)).toArray 26))) (some ⟨wr.heap.size, 0, none⟩) 1 1 [(yno, 1)] rfl rfl (at_newF wr (yno, 1)) (by have := C.out.2.2.2.1; unfold maxLen; omega) (by have := C.out.2.2.2.1; omega) (Nat.le_trans C.out.2.1.size (ba wr (.cells (fldF (yno, 1)).toArray 26)).size) ?_; intro v8 w8 hO8 hg8 hl8; obtain ⟨nA, nc, hv8, _, _, _⟩ := hO8.shape; rw [List.length_append, C.out.2.2.2.1] at hv8; change v8 = .slice nA (i + 1) nc at hv8; rw [← C.out.2.2.2.2] at hv8; subst hv8; have Z := Lib.hid ((bt C.out.2.1 (ba wr (.cells (fldF (yno, 1)).toArray 26))).trans (grownBy_below hg8 (Nat.le_trans C.out.2.1.size (ba wr (.cells (fldF (yno, 1)).toArray 26)).size) (fun x hx => (ownBI C.out.2.2.1 hx).1))); have hP := KP.out _ Z.out; have y1 := hP.1.1.1.1.1.2.cell; have y2 := hP.1.1.1.2.cell; have Y := Lib.hid (hO8.at_ (f := fldF) (k := 2) (fun _ => rfl)); clear hO8 hg8 hl8 hP))
        try go_at_call 16
        refine (View_any nm _ _ _ F (fl ++ [(yno, 1)]) (pn : Int) V _ (KP.out _ Z.out).1.1.1.1.2 Y.out (KP.out _ Z.out).1.1.2 (by rw [List.length_append]; have := C.out.2.2.2.1; simp; omega)).mono ?_
        rintro e w9 ⟨rv, ⟨rfl, hO9⟩, hb9⟩
        obtain ⟨rA, rc, rfl, _, _, _⟩ := hO9.shape
        have hvl : (viewL F V (fl ++ [(yno, 1)])).length = n := by unfold viewL; rw [List.length_map, List.length_append, C.out.2.2.2.1, C.out.2.2.2.2]; rfl
        rw [hvl] at hO9 ⊢
        have hV2 := hO9.at_ (f := vlF) (k := 3) (fun _ => rfl)
        have hB4 := Blk.new w9 53 #[.int .i64 (pn : Int), .slice rA n rc]
        have b9 := bt hb9 (ba w9 (.cells #[.int .i64 (pn : Int), .slice rA n rc] 53))
        have U := Lib.hid (And.intro (bt Z.out b9) (And.intro (Y.out.later b9) (And.intro (hV2.later (ba w9 (.cells #[.int .i64 (pn : Int), .slice rA n rc] 53))) (And.intro hB4 hvl)))); clear hb9 hO9 hvl hV2 hB4 b9 y1 y2 Y Z
        go_upto_region 14 with fail
        generalize w9.alloc _ = w10 at *
        generalize w9.heap.size = g4 at *
        have hP := KP.out _ U.out.1
        have y2 := hP.1.1.1.2.cell
        have y3 := hP.1.2.cell
        have cS := SameE_any (pn : Int) _ V (pn : Int) _ V w10 hP.2 hP.1.1.2
        rw [decide_eq_true rfl, decide_eq_true rfl, Bool.and_self] at cS
        have HS := Lib.hid cS; clear cS hP
        go_wp2_with fail
        try go_at_call 17
        refine HS.out.mono ?_
        rintro e w11 ⟨rfl, hb11⟩
        have U2 := Lib.hid (fun X (hX : Below w11.heap.size w11 X) => And.intro (KP.out X (bt (bt U.out.1 hb11) hX)) (And.intro (U.out.2.1.later (bt hb11 hX)) (And.intro (U.out.2.2.1.later (bt hb11 hX)) (U.out.2.2.2.1.later (bt hb11 hX)))))
        have UB := Lib.hid (bt KB.out (bt U.out.1 hb11)); clear hb11 y2 y3
        have y2 := (U2.out _ (Below.refl _ _)).1.1.1.1.2.cell
        have y4 := (U2.out _ (Below.refl _ _)).2.2.2.cell
        go_wp2_with fail
        clear y2 y4
        obtain ⟨na, rfl, hn0⟩ := (U2.out _ (Below.refl _ _)).2.1.cells rfl (by rw [List.length_append]; simp)
        clear hn0
        obtain ⟨ra, rfl, hn0⟩ := (U2.out _ (Below.refl _ _)).2.2.1.cells rfl (by rw [U.out.2.2.2.2]; omega)
        clear hn0
        obtain ⟨va, rfl, hn0⟩ := (U2.out _ (Below.refl _ _)).1.1.1.2.cells rfl (by have := DV.out.2.1; omega)
        clear hn0
        go_loopw [14] (fun jv wr => ∃ j : Nat, j ≤ i ∧ jv = .int .i64 (j : Int) ∧ Below w11.heap.size w11 wr) (fun jv _ => i - (intOf jv).toNat)
        case atStart => exact ⟨0, Nat.zero_le _, rfl, Below.refl _ _⟩
        case round =>
          rename World => wq
          obtain ⟨j, hj, rfl, hbq⟩ := hrel
          by_cases hjl : j < i
          · have hP := U2.out _ hbq
            have hjf : j < fl.length := by have := C.out.2.2.2.1; omega
            have hj2 : j < (fl ++ [(yno, 1)]).length := by rw [List.length_append]; omega
            have hjv : j < (viewL F V (fl ++ [(yno, 1)])).length := by rw [U.out.2.2.2.2]; omega
            obtain ⟨q2, hq2, hqe⟩ := List.getElem_of_mem (C.out.1 _ (List.getElem_mem hjf))
            have hatq := D.out.1 q2 hq2
            have hq2V : q2 < V.length := by have := DV.out.1; omega
            have e1 : (fl ++ [(yno, 1)])[j]'hj2 = F[q2]'hq2 := by rw [List.getElem_append_left hjf, hqe]
            have e2 : (viewL F V (fl ++ [(yno, 1)]))[j]'hjv = V[q2]'hq2V := by
              rw [view_get F V _ j hjv hj2, e1]
              exact see_at DV.out.1 D.out.1 q2 hq2
            obtain ⟨na', hna, hcn⟩ := hP.2.1.cells rfl (by omega)
            obtain rfl : na = na' := by simpa using hna
            obtain ⟨ra', hra, hcr⟩ := hP.2.2.1.cells rfl (by omega)
            obtain rfl : ra = ra' := by simpa using hra
            obtain ⟨va', hva, hcv⟩ := hP.1.1.1.2.cells rfl (by omega)
            obtain rfl : va = va' := by simpa using hva
            obtain ⟨f0, f1⟩ := hcn.row2 j hj2 rfl
            obtain ⟨r0, r1, r2⟩ := hcr.row3 j hjv rfl
            obtain ⟨s0, s1, s2⟩ := hcv.row3 q2 hq2V rfl
            change wq.cell? (na.add (j * 2)) = some (.string ((fl ++ [(yno, 1)])[j]'hj2).1) at f0
            rw [e1] at f0
            rw [e2] at r0 r1 r2
            have cA := fun X (hX : Below w11.heap.size w11 X) => At_any nm (F[q2]'hq2).1 (.slice (some fa) k sc) F X (rowsF_of_at (U2.out X hX).1.1.1.1.1.2)
            have cA' : ∀ X, Below w11.heap.size w11 X → Calls Try.prog 13 #[.agg #[.string nm, .slice (some fa) k sc], .string (F[q2]'hq2).1] X fun e w' => e = .returned (.int .i64 (q2 : Int)) ∧ Below X.heap.size X w' := fun X hX => by rw [← hatq]; exact cA X hX
            clear cA hatq hqe e1 e2 f1 hcn hcr hcv hna hra hva
            generalize (F[q2]'hq2).1 = s at *
            generalize (V[q2]'hq2V) = x at *
            obtain ⟨xa, xb, xc'⟩ := x
            simp only at r0 r1 r2 s0 s1 s2
            have hq2k : q2 < k := by have := D.out.2.2.2.1; omega
            have i1 : (q2 : Int) < (k : Int) := by omega
            have i2 : (j : Int) < (n : Int) := by omega
            have i4 : (j : Int) + 1 < (n : Int) := by omega
            have i3 : j < n := by omega
            have keepS : ∀ X, Below wq.heap.size wq X → (∀ j, X.cell? ⟨g1, j, none⟩ = (#[.string nm, .slice (some fa) k sc] : Array Value)[j]?) ∧ (∀ j, X.cell? ⟨g2, j, none⟩ = (#[.int .i64 (pn : Int), .slice (some va) k vc] : Array Value)[j]?) ∧ (∀ j, X.cell? ⟨g4, j, none⟩ = (#[.int .i64 (pn : Int), .slice (some ra) n rc] : Array Value)[j]?) ∧ X.cell? (na.add (j * 2)) = some (.string s) ∧
                (X.cell? (ra.add (j * 3)) = some (.int .i64 xa) ∧ X.cell? ⟨(ra.add (j * 3)).block, (ra.add (j * 3)).off + 1, none⟩ = some (.int .i64 xb) ∧ X.cell? ⟨(ra.add (j * 3)).block, (ra.add (j * 3)).off + 2, none⟩ = some (.string xc')) ∧
                (X.cell? (va.add (q2 * 3)) = some (.int .i64 xa) ∧ X.cell? ⟨(va.add (q2 * 3)).block, (va.add (q2 * 3)).off + 1, none⟩ = some (.int .i64 xb) ∧ X.cell? ⟨(va.add (q2 * 3)).block, (va.add (q2 * 3)).off + 2, none⟩ = some (.string xc')) := fun X hX =>
              ⟨(hP.1.1.1.1.1.1.2.later hX).cell, (hP.1.1.1.1.2.later hX).cell, (hP.2.2.2.later hX).cell, by rw [hX.cell (World.block_lt_of_cell? wq _ f0)]; exact f0, Row3.later ⟨r0, r1, r2⟩ hX, Row3.later ⟨s0, s1, s2⟩ hX⟩
            have E := Lib.hid (And.intro keepS (And.intro cA' hbq)); clear keepS cA' hbq hP f0 r0 r1 r2 s0 s1 s2
            have Z := Lib.hid (Below.refl wq.heap.size wq)
            go_upto_region 19 with fail
            refine wp_region_noPanic ?_
            go_region_held3 (fun X => (∀ j, X.cell? ⟨g1, j, none⟩ = (#[.string nm, .slice (some fa) k sc] : Array Value)[j]?) ∧ (∀ j, X.cell? ⟨g2, j, none⟩ = (#[.int .i64 (pn : Int), .slice (some va) k vc] : Array Value)[j]?) ∧ (∀ j, X.cell? ⟨g4, j, none⟩ = (#[.int .i64 (pn : Int), .slice (some ra) n rc] : Array Value)[j]?) ∧ X.cell? (na.add (j * 2)) = some (.string s) ∧
                (X.cell? (ra.add (j * 3)) = some (.int .i64 xa) ∧ X.cell? ⟨(ra.add (j * 3)).block, (ra.add (j * 3)).off + 1, none⟩ = some (.int .i64 xb) ∧ X.cell? ⟨(ra.add (j * 3)).block, (ra.add (j * 3)).off + 2, none⟩ = some (.string xc')) ∧
                (X.cell? (va.add (q2 * 3)) = some (.int .i64 xa) ∧ X.cell? ⟨(va.add (q2 * 3)).block, (va.add (q2 * 3)).off + 1, none⟩ = some (.int .i64 xb) ∧ X.cell? ⟨(va.add (q2 * 3)).block, (va.add (q2 * 3)).off + 2, none⟩ = some (.string xc')))
              (exact E.out.1 _ (by first | exact Z.out | exact below_drew Z.out))
              (first | (go_at_call 13; ((with_reducible refine (E.out.2.1 _ (by first | exact bt E.out.2.2 Z.out | exact bt E.out.2.2 (below_drew Z.out))).mono ?_); rintro e w12 ⟨rfl, hb⟩; (first | replace Z := Lib.hid (bt Z.out hb) | replace Z := Lib.hid (bt (below_drew Z.out) hb)); clear hb)))
            all_goals
              refine NoPanic.normal ?_
              go_wp2_with fail
              go_roundw
              case rel => exact ⟨j + 1, by omega, by go_num, bt E.out.2.2 Z.out⟩
              case measure => simp [intOf]; omega
          · obtain rfl : i = j := by omega
            have hP := U2.out _ hbq
            have hjv : i < (viewL F V (fl ++ [(yno, 1)])).length := by rw [U.out.2.2.2.2]; omega
            have e2 : (viewL F V (fl ++ [(yno, 1)]))[i]'hjv = z3 := by
              rw [view_get F V _ i hjv (by rw [List.length_append]; have := C.out.2.2.2.1; simp; omega), List.getElem_append_right (by have := C.out.2.2.2.1; omega)]
              simp only [List.getElem_singleton]
              unfold seeV
              rw [dif_neg (fun h => by have := h.1; rw [show atF F (yno, (1 : Int)).1 = -1 from D.out.2.1] at this; omega)]
            obtain ⟨ra', hra, hcr⟩ := hP.2.2.1.cells rfl (by omega)
            obtain rfl : ra = ra' := by simpa using hra
            obtain ⟨r0, r1, r2⟩ := hcr.row3 i hjv rfl
            rw [e2] at r0 r1 r2
            simp only at r0 r1 r2
            have y4 := hP.2.2.2.cell
            have d4 : ¬ (i : Int) + 1 < (n : Int) := by omega
            have E := Lib.hid hbq; clear hbq hP e2 hra hcr
            go_wp2_with fail
            go_ret
            exact ⟨rfl, bt UB.out E.out⟩
end Go.Proofs.Ytkmboffbohndjaa
