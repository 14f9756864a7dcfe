/- The walk of DrrDeficits. -/
import Derived.Test.YtckpecddglfjkaaDrN
import Derived.Test.YtckpecddglfjkaaLists
namespace Go.Proofs.Ytckpecddglfjkaa
open Go.ChangeShapes Go.WideShapes Go.ChangeAt Go.RowKit
open Dr
set_option linter.unusedVariables false
set_option linter.unusedSimpArgs false

theorem keys_q {q : List UInt8} {L : List Fl} (h : (L.map key).Perm ((roundL q).map key)) {m : Nat} (hm : m = min q.length 5) (f : Fl) (hf : f ∈ L) : ∃ (k : Nat) (hk : k < q.length), k < m ∧ f.1 = (k : Int) ∧ f.2.1 = 1 + ((q[k]'hk).toNat : Int) := by
  have : key f ∈ (roundL q).map key := h.mem_iff.1 (List.mem_map.2 ⟨f, hf, rfl⟩)
  obtain ⟨g, hg, e⟩ := List.mem_map.1 this
  obtain ⟨j, hj, rfl⟩ := List.getElem_of_mem hg
  have hl := hj
  rw [roundL_len] at hl
  have hr := roundL_get q j (by omega) (by omega)
  rw [List.getElem?_eq_getElem hj] at hr
  have hr := Option.some.inj hr
  rw [hr] at e
  unfold key roundF at e
  simp only [Prod.mk.injEq] at e
  exact ⟨j, by omega, by omega, e.1.symm, e.2.symm⟩
theorem okS_def {L : List Fl} {fr : Bool} (h : OkS L fr) (f : Fl) (hf : f ∈ L) : 0 ≤ f.2.2.1 ∧ f.2.2.1 < f.2.1 + 512 ∧ f.2.1 ≤ 1000 := by
  obtain ⟨h1, h2, _⟩ := h
  obtain ⟨a, b, c, _⟩ := h1 f hf
  refine ⟨c, ?_, b⟩
  cases L with
  | nil => simp at hf
  | cons x r =>
    rcases List.mem_cons.1 hf with rfl | hf
    · have := h2.1
      cases fr
      · simp only [Bool.false_eq_true, if_false] at this; exact this
      · simp only [if_true] at this; omega
    · have := h2.2 f hf
      omega
theorem okC_set {cs : List (Int × Int)} (h : OkC cs) (j : Nat) (hj : j < cs.length) (n : Int) (hn : wfI n) : OkC (cs.set j ((cs[j]'hj).1, n)) := by
  refine ⟨fun c hc => ?_, by rw [List.length_set]; exact h.2⟩
  rcases List.mem_or_eq_of_mem_set hc with hc | rfl
  · exact h.1 c hc
  · exact ⟨(h.1 _ (List.getElem_mem hj)).1, hn⟩
theorem Kp.far {w W W' : World} {d g : Nat} {L : List Fl} {fr : Bool} {e : TypeId} (h : Kp w W d L fr) (hg : W.grownBy W' (some g)) (hc : ∃ cs, W.heap[g]? = some (.cells cs e (0, 0))) (he1 : e ≠ 65) (he2 : e ≠ 68) (hw : w.heap.size ≤ g) : Kp w W' d L fr := by
  obtain ⟨v, l, c, h1, h2⟩ := h.drs
  obtain ⟨cs, hcs⟩ := hc
  refine ⟨⟨v, l, c, ⟨h1.low, h1.blk.grown hg (fun e => ?_), h1.row.grown hg (fun b hb hv => ?_), h1.cur⟩, h2⟩, h.ok, below_some h.bel hg h.bel.size hw⟩
  · obtain rfl : d = g := by simpa using e
    have := hcs.symm.trans h1.blk
    simp only [Option.some.injEq, Obj.cells.injEq] at this
    exact he1 this.2.1
  · obtain rfl : g = b := by simpa using hb
    obtain ⟨_, cs', h9⟩ := h1.row.block hv
    have := hcs.symm.trans h9
    simp only [Option.some.injEq, Obj.cells.injEq] at this
    exact he2 this.2.1
set_option maxRecDepth 20000 in
set_option maxHeartbeats 4000000 in
theorem walk_DrrDeficits (v0 : Value) (q : List UInt8) (v1 : Value) (ll : List (List UInt8)) (large : Int) (w : World) (h0 : BytesAt w v0 q) (b0 : q.length ≤ 140737488351232) (h1 : ∃ vs, At w 1 slc v1 vs ∧ Ats w 1 rowB vs ll) (b1 : ∀ L ∈ ll, L.length ≤ 140737488355328) (l0 : -9223372036854775808 ≤ large) (l1 : large ≤ 9223372036854775807) :
    Calls Try.prog 6 #[v0, v1, .int .i64 large] w fun e w' => e = .returned (.bool true) ∧ Below w.heap.size w w' := by
  obtain ⟨A0, n0, rfl, a0, a1, hcell⟩ := bytes_cell h0
  obtain ⟨vs, hv, hE⟩ := h1
  obtain ⟨A1, n1, rfl, _, v2, _⟩ := hv.shape
  have hvl := hE.1
  obtain ⟨m, hm⟩ : ∃ m, m = min q.length 5 := ⟨_, rfl⟩
  have hmin : (if (5 : Int) < (q.length : Int) then (5 : Int) else (q.length : Int)) = (m : Int) := by split <;> omega
  have hm5 : m ≤ 5 := by omega
  have hqm : q.length ≤ 9223372036854775807 := by omega
  have hvm : vs.length ≤ 9223372036854775807 := by have := hv.shape; obtain ⟨_, _, e, x1, x2, _⟩ := this; unfold maxLen at x2; omega
  have H := Lib.hid (And.intro h0 (And.intro hm (And.intro hv (And.intro hE (And.intro hvl hcell))))); clear h0 hm hv hE hvl hcell
  go_enter Try.func6, Try.ntmps6
  go_wp2_with (first
    | (go_at_call 9; ((with_reducible refine (examples_any _).mono ?_); rintro e x1 ⟨rfl, bx1⟩))
    | (go_at_call 20; refine (round_any _ q _ (H.out.1.later bx1)).mono ?_; rintro e x2 ⟨rfl, hK⟩; have K := Lib.hid (And.intro bx1 hK); clear bx1 hK))
  go_loopw [10] (fun iv wr => ∃ (k : Nat) (L : List Fl) (fr : Bool), k ≤ vs.length ∧ k ≤ 30 ∧ iv = .int .i64 k ∧ Kp x1 wr x1.heap.size L fr ∧ (L.map key).Perm ((roundL q).map key)) (fun i _ => 30 - (intOf i).toNat)
  case atStart => exact ⟨0, _, _, by omega, by omega, rfl, K.out.2, List.Perm.refl _⟩
  case round =>
    obtain ⟨k, L, fr, hk, hk30, rfl, hK, hP⟩ := hrel
    by_cases hlt : k < vs.length
    · by_cases h30 : k < 30
      · have h30i : (k : Int) < 30 := by omega
        have hkl : k < ll.length := by rw [← H.out.2.2.2.2.1]; exact hlt
        obtain ⟨a, rfl, hc⟩ := H.out.2.2.1.cells rfl (by omega)
        have c0 := (hc.later (bt K.out.1 hK.bel)).row1 k hlt rfl
        rw [Nat.mul_one] at c0
        have hAt := at_bytes (((H.out.2.2.2.1).2 k hlt hkl).later (bt K.out.1 hK.bel))
        generalize vs[k]'hlt = s at *
        generalize ll[k]'hkl = c at *
        obtain ⟨sA, sn, sc⟩ := s
        replace c0 : wr.cell? (a.add k) = some (.slice sA sn sc) := c0
        replace hAt : BytesAt wr (.slice sA sn sc) c := hAt
        have cP := lprice_any _ c m wr hAt hm5
        have M := Lib.hid (And.intro cP (And.intro hK hP)); clear cP hK hP hAt hc
        go_wp2_with fail
        go_at_call 21
        ((with_reducible refine (M.out.1).mono ?_); rintro e x3 ⟨lv, ⟨rfl, hO⟩, bx3⟩)
        obtain ⟨cA, cc, rfl, _, _, _⟩ := hO.shape
        have hpl := priceL_len c m
        rw [hpl]
        rw [hpl] at hO
        have hxw := M.out.2.1.bel.size
        have M3 := Lib.hid (And.intro hO (And.intro (M.out.2.1.later bx3) M.out.2.2)); clear hO bx3 M
        have hok := priceL_ok c m hm5
        have hcase : (0 < m ∧ k % 4 = 3) ∨ (0 < m ∧ ¬ k % 4 = 3) ∨ ¬ 0 < m := by omega
        rcases hcase with hA | hB | hC
        all_goals first
          | (obtain ⟨hm0, hk4⟩ := hA
             obtain ⟨gc, rfl, hgl, _, hfz, hcl⟩ := M3.out.1.cells (f := rowC) (k := 2) (fun _ => rfl) rfl (by rw [hpl]; exact hm0)
             obtain ⟨j, hj⟩ : ∃ j, j = k % m := ⟨_, rfl⟩
             have hjm : j < m := by rw [hj]; exact Nat.mod_lt _ hm0
             have hjl : j < (priceL c m).length := by rw [hpl]; exact hjm
             have y1 := hcl j hjl 1 _ rfl
             have hji : (k : Int) % (m : Int) = (j : Int) := by rw [hj, Int.natCast_emod]
             have hmi : (0 : Int) < (m : Int) := by omega
             have hk4i : (k : Int) % 4 = 3 := by omega
             have hO1 := Own.put (f := rowC) (k := 2) (fun _ => rfl) M3.out.1 j hjl (i := 1) (by decide) (x := (((priceL c m)[j]'hjl).1, large)) (u := .int .i64 large) rfl
             obtain ⟨_, hbc⟩ := M3.out.1.block (g := gc) rfl
             have hK1 := M3.out.2.1.far (grown_set x3 gc (j * 2 + 1) (.int .i64 large)) hbc (by decide) (by decide) (by omega)
             have hok1 := okC_set hok j hjl large ⟨l0, l1⟩
             generalize hcs1 : (priceL c m).set j (((priceL c m)[j]'hjl).1, large) = cs1 at *
             have hln1 : cs1.length = m := by rw [← hcs1, List.length_set]; exact hpl
             generalize ((priceL c m)[j]'hjl).2 = old at y1
             have cT := T_any x1 _ x1.heap.size L fr _ _ hK1 (Own.at_ (f := rowC) (k := 2) (fun _ => rfl) hO1) hok1
             have N := Lib.hid (And.intro cT M3.out.2.2); clear cT hO1 hK1 hcl hcs1 hln1 hbc hok hok1 hj
             go_wp2_with fail)
          | (obtain ⟨hm0, hk4⟩ := hB
             have cT := T_any x1 _ x1.heap.size L fr _ _ M3.out.2.1 (Own.at_ (f := rowC) (k := 2) (fun _ => rfl) M3.out.1) hok
             have N := Lib.hid (And.intro cT M3.out.2.2); clear cT hok
             have hmi : (0 : Int) < (m : Int) := by omega
             have hk4i : ¬ (k : Int) % 4 = 3 := by omega
             have hk4b : ((k : Int) % 4 == 3) = false := by simpa using hk4i
             go_wp2_with fail)
          | (have hm0 := hC
             have cT := T_any x1 _ x1.heap.size L fr _ _ M3.out.2.1 (Own.at_ (f := rowC) (k := 2) (fun _ => rfl) M3.out.1) hok
             have N := Lib.hid (And.intro cT M3.out.2.2); clear cT hok
             have hmi : ¬ (0 : Int) < (m : Int) := by omega
             go_wp2_with fail)
        all_goals
          refine (N.out.1).mono ?_
          rintro e x4 ⟨id, ok, L', fr', ⟨rfl, hR, hK4⟩, hF⟩
          have hP4 := hR.keys.trans N.out.2
          have hLn := (roundL_perm_ids hP4 H.out.2.1).1
          have M4 := Lib.hid (And.intro hK4 hP4)
          clear hR hK4 hF hP4 M3
          go_wp2_with fail
          go_at_call 19
          refine (F_any x1 x4 x1.heap.size L' fr' M4.out.1).mono ?_
          rintro e x5 ⟨fv, ⟨rfl, hOf, hK5⟩, bx5⟩
          obtain ⟨fA, fc, rfl, _, _, _⟩ := hOf.shape
          have hfl : (L'.map gl).length = m := by rw [List.length_map]; exact hLn
          rw [hfl]
          rw [hfl] at hOf
          have M5 := Lib.hid (And.intro hK5 (And.intro M4.out.2 (And.intro hOf (And.intro hfl hLn)))); clear hK5 hOf bx5 hfl hLn M4 N
          go_wp2_with fail
          go_loopw [13] (fun iv w3 => ∃ (i : Nat), i ≤ m ∧ iv = .int .i64 i ∧ Below x5.heap.size x5 w3) (fun i _ => m - (intOf i).toNat)
          case atStart => exact ⟨0, Nat.zero_le _, rfl, Below.refl _ _⟩
          case round =>
            rename World => w3
            obtain ⟨i, hi, rfl, hb⟩ := hrel
            by_cases hlt2 : i < m
            · have hiL : i < L'.length := by rw [M5.out.2.2.2.2]; exact hlt2
              have hiG : i < (L'.map gl).length := by rw [List.length_map]; exact hiL
              obtain ⟨kq, hkq, hkm, e1, e2⟩ := keys_q M5.out.2.1 H.out.2.1 _ (List.getElem_mem hiL)
              obtain ⟨d1, d2, d3⟩ := okS_def M5.out.1.ok _ (List.getElem_mem hiL)
              obtain ⟨aq, rfl, hcq⟩ := H.out.2.2.2.2.2 kq hkq
              have hcq' : w3.cell? (aq.add kq) = some (.int .u8 ((q[kq]'hkq).toNat : Int)) := by rw [(bt (bt K.out.1 M5.out.1.bel) hb).cell (World.block_lt_of_cell? w _ hcq)]; exact hcq
              have hu8 := (q[kq]'hkq).toNat_lt
              obtain ⟨gf, rfl, _, _, _, _⟩ := M5.out.2.2.1.cells (f := rowG) (k := 3) (fun _ => rfl) rfl (by omega)
              obtain ⟨y0, y1, y2⟩ := (M5.out.2.2.1.later hb).three i hiG
              rw [List.getElem_map] at y0 y1 y2
              unfold gl at y0 y1 y2
              generalize L'[i]'hiL = y at *
              generalize q[kq]'hkq = qb at *
              obtain ⟨yi, yq, yd, yc⟩ := y
              simp only at y0 y1 y2 e1 e2 d1 d2 d3
              subst e1
              obtain ⟨qi, hqi⟩ : ∃ qi : Int, qi = (qb.toNat : Int) := ⟨_, rfl⟩
              rw [← hqi] at hcq' e2
              have g0 : 0 ≤ qi := by omega
              have g1 : qi ≤ 255 := by omega
              subst e2
              have r1 : (kq : Int) % (m : Int) = (kq : Int) := Int.emod_eq_of_lt (by omega) (by omega)
              have r2 : (kq : Int).tmod (m : Int) = (kq : Int) := by rw [Int.tmod_eq_emod_of_nonneg (by omega)]; exact r1
              have r3 : ¬ (m : Int) = 0 := by omega
              have r4 : ¬ m = 0 := by omega
              have r5 : ¬ yd < 0 := by omega
              have r6 : decide (yd < 0) = false := decide_eq_false r5
              have r7 : ¬ (1 + qi + 512) ≤ yd := by omega
              have r8 : decide ((1 + qi + 512) ≤ yd) = false := decide_eq_false r7
              have r9 : ¬ (1 + qi) + 512 ≤ yd := by omega
              have r10 : (kq : Int) < (q.length : Int) := by omega
              have r11 : kq < q.length := hkq
              have s1 : IntKind.i64.wrap (1 + qi) = 1 + qi := IntWalk.i64_in _ (by omega)
              have s2 : IntKind.i64.wrap (1 + qi + 512) = 1 + qi + 512 := IntWalk.i64_in _ (by omega)
              have s3 : IntKind.i64.wrap (kq : Int) = (kq : Int) := IntWalk.i64_in _ (by omega)
              have s4 : IntKind.i64.wrap qi = qi := IntWalk.i64_in _ (by omega)
              have N := Lib.hid hb; clear hb hqi hu8 hcq
              go_wp2_with fail
              go_quiet (fail)
              go_wp2
              go_roundw
              case rel => exact ⟨i + 1, by omega, by go_num, below_drewN N.out _⟩
              case measure => simp [intOf]; omega
            · obtain rfl : i = m := by omega
              have N := Lib.hid (M5.out.1.later hb); clear hb
              go_wp2
              go_roundw
              case rel => exact ⟨k + 1, L', fr', by omega, by omega, by go_num, N.out, M5.out.2.1⟩
              case measure => simp [intOf]; omega
      · obtain rfl : k = 30 := by omega
        have N := Lib.hid hK; clear hK hP
        go_wp2
        go_ret
        exact ⟨rfl, bt K.out.1 N.out.bel⟩
    · obtain rfl : k = vs.length := by omega
      have N := Lib.hid hK; clear hK hP
      go_wp2
      go_ret
      exact ⟨rfl, bt K.out.1 N.out.bel⟩
end Go.Proofs.Ytckpecddglfjkaa
