/- Contracts of package merge: both. -/
import Derived.Test.YtcggkbopipnnoaaCells
import Derived.Test.YtcggkbopipnnoaaMrg
import Derived.Deep.RegionLaw
import Derived.Deep.QuietTactic
namespace Go.Proofs.Ytcggkbopipnnoaa
open Go.ChangeShapes Go.WideShapes Go.ChangeAt Go.RowKit
set_option linter.unusedVariables false
set_option linter.unusedSimpArgs false

/-- An event: its time, its values (where they lie). -/
abbrev Ev2 := Int × SV
abbrev rowE (e : Ev2) : List Value := [.int .i64 e.1, sl e.2]
abbrev Pr := Int × Ev2
abbrev rowP (p : Pr) : List Value := [.int .i64 p.1, .int .i64 p.2.1, sl p.2.2]
abbrev tmE (e : Ev2) : Int := e.1
theorem szP (W : World) : (sizeOf (Try.prog.elem 47)).run Try.prog W = .ok 3 W := by kernel_rfl
theorem undP : Try.prog.underlying 47 = some (.slice (Try.prog.elem 47)) := by kernel_rfl
theorem new_cells {w : World} {g : Nat} (hg : g = w.heap.size) (t : TypeId) (cs : Array Value) : ∀ j u, cs.toList[j]? = some u → (w.alloc (.cells cs t)).cell? ((⟨g, 0, none⟩ : Addr).add j) = some u := by
  subst hg
  intro j u h
  rw [addr_pl, World.cell?_alloc_new]
  simpa using h
theorem pair_one (x : Pr) : ∀ u ∈ rowP x, u.oneCell' = true := by simp [Value.oneCell']
def lenOf : Value → Nat
  | .slice _ n _ => n
  | _ => 0
set_option maxRecDepth 20000 in
set_option maxHeartbeats 2000000 in
theorem both_any (va vb : Value) (la lb : List Pr) (w : World) (ha : At w 3 rowP va la) (hb : At w 3 rowP vb lb) (hn : la.length + lb.length ≤ 2199023255552) :
    Calls Try.prog 26 #[va, vb] w fun e w' => ∃ v, (e = .returned v ∧ Own w' w.heap.size 52 3 rowP v (Mrg.both tmE la lb)) ∧ Below w.heap.size w w' := by
  obtain ⟨A, c, rfl, a1, a2, a3⟩ := ha.shape
  obtain ⟨B, d, rfl, b1, b2, b3⟩ := hb.shape
  obtain ⟨i0, hi, hz0, hz1, hz2⟩ := info_parts (P := Try.prog) (e := 52) (z := .agg #[.int .i64 0, .int .i64 0, .slice none 0 0]) (size := 3) (bytes := 40) (by kernel_rfl)
  have H := Lib.hid (And.intro ha hb); clear ha hb a1 a2 a3 b1 b2 b3
  have hma : la.length ≤ 9223372036854775807 := by omega
  have hmb : lb.length ≤ 9223372036854775807 := by omega
  go_enter Try.func26, Try.ntmps26
  go_wp2_with (refine wpList_make_own _ rfl _ _ 47 rfl w.heap.size 52 i0 (.agg #[.int .i64 0, .int .i64 0, .slice none 0 0]) 3 Try.underlying47 hi hz0 hz1 .i64 .i64 _ (la.length + lb.length) rfl rfl (by omega) (by rw [hz2]; omega) (by unfold maxLen; omega) (Nat.le_refl _) ?_; intro w1 hO1 hg1)
  have bm := grownBy_below hg1 (B := w.heap.size) (Nat.le_refl _) (fun k hk => by simp at hk)
  have hO2 : Own w1 w.heap.size 52 3 rowP (.slice (some ⟨w.heap.size, 0, none⟩) 0 (la.length + lb.length)) ([] : List Pr) := hO1
  have K := Lib.hid (And.intro hO2 bm); clear hO1 hg1 hO2 bm
  go_loopw [0, 1, 5] (fun av bv lv wr => ∃ (xs ys zs : List Pr), At w 3 rowP av xs ∧ At w 3 rowP bv ys ∧ Own wr w.heap.size 52 3 rowP lv zs ∧ zs ++ Mrg.both tmE xs ys = Mrg.both tmE la lb ∧ zs.length + (xs.length + ys.length) = la.length + lb.length ∧ Below w.heap.size w wr) (fun av bv _ _ => lenOf av + lenOf bv)
  case atStart => exact ⟨la, lb, [], H.out.1, H.out.2, K.out.1, rfl, by simp, K.out.2⟩
  case round =>
    clear H K
    obtain ⟨xs, ys, zs, hx, hy, hz, he, hl, hw⟩ := hrel
    obtain ⟨A, c, rfl, a1, a2, a3⟩ := hx.shape
    obtain ⟨B, d, rfl, b1, b2, b3⟩ := hy.shape
    obtain ⟨C, f, rfl, c0, c1, c2⟩ := hz.shape
    cases xs with
    | nil =>
      obtain ⟨nx, hnx⟩ : ∃ n, n = ([] : List Pr).length := ⟨_, rfl⟩
      obtain ⟨ny, hny⟩ : ∃ n, n = ys.length := ⟨_, rfl⟩
      rw [← hnx, ← hny]
      rw [← hnx] at hx
      rw [← hny] at hy
      have g0 : ¬ (0 : Int) < (nx : Int) := by rw [hnx]; simp
      have g00 : ¬ 0 < nx := by rw [hnx]; simp
      have hbl : zs.length + nx ≤ maxLen ∧ (zs.length + nx) * 40 ≤ 140737488355328 := by unfold maxLen; rw [hnx]; omega
      have K := Lib.hid (And.intro hx (And.intro hy (And.intro hz (And.intro he (And.intro hl (And.intro hw (And.intro hbl.1 (And.intro hbl.2 (And.intro hnx hny)))))))))
      clear hx hy hz he hl hw hbl hnx hny c0 a1 a2 a3 b1 b2 b3
      go_wp2_with (first
        | (at_builtin; refine wpList_append_at _ rfl (.tmp 47) (.tmp 48) 47 rfl w.heap.size 52 i0 (.agg #[.int .i64 0, .int .i64 0, .slice none 0 0]) 3 40 Try.underlying47 hi hz0 hz1 hz2 rfl (by decide) (f := rowP) (fun _ => rfl) pair_one _ zs rfl K.out.2.2.1 _ _ _ [] K.out.2.2.2.2.2.2.2.2.1 rfl (K.out.1.later K.out.2.2.2.2.2.1) K.out.2.2.2.2.2.2.1 K.out.2.2.2.2.2.2.2.1 K.out.2.2.2.2.2.1.size ?_; intro v3 w3 hO3 hg3; obtain ⟨A3, n3, c3, rfl⟩ := own_shape hO3; have KB := Lib.hid (own_past K.out.2.2.2.2.2.1 hg3 K.out.2.2.1))
        | (at_builtin; refine wpList_append_at _ rfl (.tmp 49) (.tmp 50) 47 rfl w.heap.size 52 i0 (.agg #[.int .i64 0, .int .i64 0, .slice none 0 0]) 3 40 Try.underlying47 hi hz0 hz1 hz2 rfl (by decide) (f := rowP) (fun _ => rfl) pair_one _ (zs ++ ([] : List Pr)) rfl hO3 _ _ _ ys K.out.2.2.2.2.2.2.2.2.2 rfl (K.out.2.1.later KB.out) (by have := K.out.2.2.2.2.1; have := K.out.2.2.2.2.2.2.2.2.2; unfold maxLen; rw [List.length_append]; omega) (by have := K.out.2.2.2.2.1; have := K.out.2.2.2.2.2.2.2.2.2; rw [List.length_append]; omega) KB.out.size ?_; intro v4 w4 hO4 hg4; obtain ⟨A4, n4, c4, rfl⟩ := own_shape hO4))
      go_ret
      exact ⟨by rw [← K.out.2.2.2.1]; simpa [Mrg.both_nil, Mrg.both_nil'] using hO4, own_past KB.out hg4 hO3⟩
    | cons x xs =>
      cases ys with
      | nil =>
        obtain ⟨nx, hnx⟩ : ∃ n, n = (x :: xs).length := ⟨_, rfl⟩
        obtain ⟨ny, hny⟩ : ∃ n, n = ([] : List Pr).length := ⟨_, rfl⟩
        rw [← hnx, ← hny]
        rw [← hnx] at hx
        rw [← hny] at hy
        have g0 : ¬ (0 : Int) < (ny : Int) := by rw [hny]; simp
        have g1 : (0 : Int) < (nx : Int) := by rw [hnx]; simp only [List.length_cons]; omega
        have g3 : 0 < nx := by omega
        have g00 : ¬ 0 < ny := by omega
        have hbl : zs.length + nx ≤ maxLen ∧ (zs.length + nx) * 40 ≤ 140737488355328 := by unfold maxLen; rw [hnx]; omega
        have K := Lib.hid (And.intro hx (And.intro hy (And.intro hz (And.intro he (And.intro hl (And.intro hw (And.intro hbl.1 (And.intro hbl.2 (And.intro hnx hny)))))))))
        clear hx hy hz he hl hw hbl hnx hny c0 a1 a2 a3 b1 b2 b3
        go_wp2_with (first
          | (at_builtin; refine wpList_append_at _ rfl (.tmp 47) (.tmp 48) 47 rfl w.heap.size 52 i0 (.agg #[.int .i64 0, .int .i64 0, .slice none 0 0]) 3 40 Try.underlying47 hi hz0 hz1 hz2 rfl (by decide) (f := rowP) (fun _ => rfl) pair_one _ zs rfl K.out.2.2.1 _ _ _ (x :: xs) K.out.2.2.2.2.2.2.2.2.1 rfl (K.out.1.later K.out.2.2.2.2.2.1) K.out.2.2.2.2.2.2.1 K.out.2.2.2.2.2.2.2.1 K.out.2.2.2.2.2.1.size ?_; intro v3 w3 hO3 hg3; obtain ⟨A3, n3, c3, rfl⟩ := own_shape hO3; have KB := Lib.hid (own_past K.out.2.2.2.2.2.1 hg3 K.out.2.2.1))
          | (at_builtin; refine wpList_append_at _ rfl (.tmp 49) (.tmp 50) 47 rfl w.heap.size 52 i0 (.agg #[.int .i64 0, .int .i64 0, .slice none 0 0]) 3 40 Try.underlying47 hi hz0 hz1 hz2 rfl (by decide) (f := rowP) (fun _ => rfl) pair_one _ (zs ++ (x :: xs)) rfl hO3 _ _ _ ([] : List Pr) K.out.2.2.2.2.2.2.2.2.2 rfl (K.out.2.1.later KB.out) (by have := K.out.2.2.2.2.1; have := K.out.2.2.2.2.2.2.2.2.2; unfold maxLen; rw [List.length_append]; omega) (by have := K.out.2.2.2.2.1; have := K.out.2.2.2.2.2.2.2.2.2; rw [List.length_append]; omega) KB.out.size ?_; intro v4 w4 hO4 hg4; obtain ⟨A4, n4, c4, rfl⟩ := own_shape hO4))
        go_ret
        exact ⟨by rw [← K.out.2.2.2.1]; simpa [Mrg.both_nil, Mrg.both_nil'] using hO4, own_past KB.out hg4 hO3⟩
      | cons y ys =>
        obtain ⟨pa, rfl, hca⟩ := hx.cells rfl (by simp)
        obtain ⟨pb, rfl, hcb⟩ := hy.cells rfl (by simp)
        obtain ⟨A', c', hrA, hxt⟩ := At.tail undP szP (n := (x :: xs).length) rfl hx
        obtain ⟨B', d', hrB, hyt⟩ := At.tail undP szP (n := (y :: ys).length) rfl hy
        obtain ⟨x0, x1, x2⟩ := (hca.later hw).row3 0 (by simp) rfl
        obtain ⟨y0, y1, y2⟩ := (hcb.later hw).row3 0 (by simp) rfl
        simp only [Nat.zero_mul, Addr.add, if_true, List.getElem_cons_zero] at x0 x1 x2 y0 y1 y2
        have g1 : (0 : Int) < ((x :: xs).length : Int) := by simp only [List.length_cons]; omega
        have g2 : (0 : Int) < ((y :: ys).length : Int) := by simp only [List.length_cons]; omega
        have g3 : 0 < (x :: xs).length := by simp only [List.length_cons]; omega
        have g4 : 0 < (y :: ys).length := by simp only [List.length_cons]; omega
        have hbo := Mrg.both_cons tmE x xs y ys
        simp only [List.length_cons] at hl
        have hbl : zs.length + 1 ≤ maxLen ∧ (zs.length + 1) * 40 ≤ 140737488355328 := by unfold maxLen; omega
        have hle : (x :: xs).length = xs.length + 1 ∧ (y :: ys).length = ys.length + 1 := ⟨rfl, rfl⟩
        have K := Lib.hid (And.intro hx (And.intro hy (And.intro hz (And.intro he (And.intro hl (And.intro hw (And.intro hxt (And.intro hyt (And.intro hbo (And.intro hbl hle))))))))))
        clear hx hy hz he hl hw hxt hyt hbo hca hcb c0 hbl hle a1 a2 a3 b1 b2 b3
        generalize (x :: xs).length = nx at *
        generalize (y :: ys).length = ny at *
        obtain ⟨xi, xt, xv⟩ := x
        obtain ⟨yi, yt, yv⟩ := y
        simp only at x0 x1 x2 y0 y1 y2
        by_cases hlt : yt < xt
        · go_wp2
          go_quiet (fail)
          go_wp2_with fail
          have hW : Below w.heap.size w (wr.drewN nq) := below_drewN K.out.2.2.2.2.2.1 nq
          replace y0 : (wr.drewN nq).cell? pb = _ := y0
          replace y1 : (wr.drewN nq).cell? _ = _ := y1
          replace y2 : (wr.drewN nq).cell? _ = _ := y2
          have hz := K.out.2.2.1
          replace hz : Own (wr.drewN nq) w.heap.size 52 3 rowP _ zs := hz
          have HZ := Lib.hid (And.intro hz hW); clear hz hW x0 x1 x2
          generalize hWe : wr.drewN nq = W at *
          go_region_law (refine step_append_own rfl (.tmp 31) (.tmp 35) 47 rfl w.heap.size 52 i0 (.agg #[.int .i64 0, .int .i64 0, .slice none 0 0]) 3 40 Try.underlying47 hi hz0 hz1 hz2 rfl (by decide) _ _ _ (by simp [Act.eval, Act.put]) (World.ownsRow.drew (HZ.out.1.later (ba W (.cells #[.int .i64 yi, .int .i64 yt, sl yv] 52)))) ⟨_, 0, none⟩ 1 1 (rowP (yi, yt, yv)) (by simp [Act.eval, Act.put]) rfl (fun j u hu => new_cells (w := W) rfl 52 #[.int .i64 yi, .int .i64 yt, sl yv] j u hu) (by simp [Value.oneCell']) K.out.2.2.2.2.2.2.2.2.2.1.1 K.out.2.2.2.2.2.2.2.2.2.1.2 (by have := HZ.out.2.size; simp only [World.size_alloc, World.size_drew]; omega) ?_; intro v5 w5 hO5 hg5 _; obtain ⟨A5, n5, c5, rfl⟩ := own_shape hO5)
          all_goals
            go_simp
            go_wp2
            go_roundw
            case rel => exact ⟨(xi, xt, xv) :: xs, ys, zs ++ [(yi, yt, yv)], K.out.1, K.out.2.2.2.2.2.2.2.1, Own.more rfl hO5, by rw [← K.out.2.2.2.1, K.out.2.2.2.2.2.2.2.2.1, if_pos hlt, List.append_assoc]; rfl, by have := K.out.2.2.2.2.1; rw [List.length_append]; simp only [List.length_cons, List.length_nil] at *; omega, own_past (bt HZ.out.2 (below_drew (ba W (.cells #[.int .i64 yi, .int .i64 yt, sl yv] 52)))) hg5 HZ.out.1⟩
            case measure => have := K.out.2.2.2.2.2.2.2.2.2.2; simp only [lenOf]; omega
        · go_wp2
          go_quiet (fail)
          go_wp2_with fail
          have hW : Below w.heap.size w (wr.drewN nq) := below_drewN K.out.2.2.2.2.2.1 nq
          replace x0 : (wr.drewN nq).cell? pa = _ := x0
          replace x1 : (wr.drewN nq).cell? _ = _ := x1
          replace x2 : (wr.drewN nq).cell? _ = _ := x2
          have hz := K.out.2.2.1
          replace hz : Own (wr.drewN nq) w.heap.size 52 3 rowP _ zs := hz
          have HZ := Lib.hid (And.intro hz hW); clear hz hW y0 y1 y2
          generalize hWe : wr.drewN nq = W at *
          go_region_law (refine step_append_own rfl (.tmp 39) (.tmp 43) 47 rfl w.heap.size 52 i0 (.agg #[.int .i64 0, .int .i64 0, .slice none 0 0]) 3 40 Try.underlying47 hi hz0 hz1 hz2 rfl (by decide) _ _ _ (by simp [Act.eval, Act.put]) (World.ownsRow.drew (HZ.out.1.later (ba W (.cells #[.int .i64 xi, .int .i64 xt, sl xv] 52)))) ⟨_, 0, none⟩ 1 1 (rowP (xi, xt, xv)) (by simp [Act.eval, Act.put]) rfl (fun j u hu => new_cells (w := W) rfl 52 #[.int .i64 xi, .int .i64 xt, sl xv] j u hu) (by simp [Value.oneCell']) K.out.2.2.2.2.2.2.2.2.2.1.1 K.out.2.2.2.2.2.2.2.2.2.1.2 (by have := HZ.out.2.size; simp only [World.size_alloc, World.size_drew]; omega) ?_; intro v5 w5 hO5 hg5 _; obtain ⟨A5, n5, c5, rfl⟩ := own_shape hO5)
          all_goals
            go_simp
            go_wp2
            go_roundw
            case rel => exact ⟨xs, (yi, yt, yv) :: ys, zs ++ [(xi, xt, xv)], K.out.2.2.2.2.2.2.1, K.out.2.1, Own.more rfl hO5, by rw [← K.out.2.2.2.1, K.out.2.2.2.2.2.2.2.2.1, if_neg (show ¬ tmE (yt, yv) < tmE (xt, xv) by simp only [tmE]; omega), List.append_assoc]; rfl, by have := K.out.2.2.2.2.1; rw [List.length_append]; simp only [List.length_cons, List.length_nil] at *; omega, own_past (bt HZ.out.2 (below_drew (ba W (.cells #[.int .i64 xi, .int .i64 xt, sl xv] 52)))) hg5 HZ.out.1⟩
            case measure => have := K.out.2.2.2.2.2.2.2.2.2.2; simp only [lenOf]; omega
end Go.Proofs.Ytcggkbopipnnoaa
