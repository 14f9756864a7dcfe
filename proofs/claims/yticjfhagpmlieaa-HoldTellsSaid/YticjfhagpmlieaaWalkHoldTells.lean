/- The walk of HoldTells. -/
import Derived.Test.YticjfhagpmlieaaHtI
import Derived.Test.YticjfhagpmlieaaOpenAH
import Derived.Deep.DeepCutAuto
import Derived.Deep.CutBlock
namespace Go.Proofs.Yticjfhagpmlieaa
open Go.ChangeShapes Go.WideShapes Go.ChangeAt Go.RowKit
open Ho
set_option linter.unusedVariables false
set_option linter.unusedSimpArgs false

set_option maxRecDepth 20000 in
set_option maxHeartbeats 8000000 in
theorem walk_HoldTells (v0 : Value) (L : List Ac) (w : World) (h0 : ActsR w v0 L) (b0 : L.length * 48 ≤ 140737488355328 ∧ ∀ a ∈ L, Fit a.p) :
    Calls Try.prog 3 #[v0] w fun e w' => e = .returned (.bool true) ∧ Below w.heap.size w w' := by
  obtain ⟨A, c, rfl, a1, a2, _⟩ := h0.1.shape
  have hm : L.length ≤ 9223372036854775807 := by unfold maxLen at a2; omega
  have H := Lib.hid (And.intro h0.1 (And.intro h0.2 b0.2)); clear h0 b0 a1
  go_enter Try.func3, Try.ntmps3
  go_wp2_with (first
    | (go_at_call 8; ((with_reducible refine (examples_any _).mono ?_); rintro e x1 ⟨rfl, bx1⟩))
    | (go_at_call 9; refine (New_any _).mono ?_; rintro e x2 ⟨rfl, hD, bx2⟩; have K := Lib.hid (And.intro bx1 (And.intro hD bx2)); clear bx1 hD bx2))
  obtain ⟨x3, hx3⟩ : ∃ x3, x3 = x2.alloc (.cells #[.slice none 0 0] 29) := ⟨_, rfl⟩
  have hb3 : Below x2.heap.size x2 x3 := by rw [hx3]; exact ba _ _
  have hB3 : Blk x3 x2.heap.size 29 #[.slice none 0 0] := by rw [hx3]; exact Blk.new _ _ _
  rw [← hx3]
  clear hx3
  have hT3 : Tq x1 x3 x1.heap.size x2.heap.size [] [] := Tq.start (K.out.2.1.later hb3) K.out.2.2.size hB3 (bt K.out.2.2 hb3)
  have K3 := Lib.hid (And.intro K.out.1 hT3); clear K hT3 hb3 hB3
  generalize hd : x1.heap.size = d at *
  generalize hmm : x2.heap.size = m at *
  go_loopw [6] (fun iv wr => ∃ (k : Nat) (T : List D), k ≤ L.length ∧ k ≤ 50 ∧ iv = .int .i64 k ∧ T.length ≤ k ∧ Tq x1 wr d m T T) (fun i _ => L.length - (intOf i).toNat)
  case atStart => exact ⟨0, [], Nat.zero_le _, Nat.zero_le _, rfl, Nat.le_refl _, K3.out.2⟩
  case round =>
    rename World => wr0
    obtain ⟨k, T, hk, hk50, rfl, hTk, hT⟩ := hrel
    have hbw := bt K3.out.1 (by have := hT.bel; exact this)
    by_cases hlt : k < L.length
    · by_cases h50 : k < 50
      · have h50i : (k : Int) < 50 := by omega
        obtain ⟨a, rfl, hc⟩ := (H.out.1.later hbw).cells rfl (by omega)
        obtain ⟨y0, y1, y2, y3⟩ := hc.row4 k hlt rfl
        have hA := H.out.2.1 _ (List.getElem_mem hlt)
        have hF := H.out.2.2 _ (List.getElem_mem hlt)
        generalize L[k]'hlt = y at *
        obtain ⟨ak, au, s, ax, p⟩ := y
        obtain ⟨⟨k0, k1⟩, ⟨xl, xh⟩, ⟨ul, uh⟩, hps⟩ := hA
        simp only at y0 y1 y2 y3 k0 k1 xl xh ul uh hps hF
        have hp1 := hps.later K3.out.1
        have hpX : ∀ X, Below x1.heap.size x1 X → PtsAt X (sl s) p := fun X hX => hp1.later hX
        have hTs := hT.sorted
        have M := Lib.hid (And.intro hT (And.intro hTs (And.intro hp1 (And.intro hF (And.intro hbw hpX))))); clear hT hps hp1 hF hbw hc hTs hpX
        by_cases h2 : ak % 16 < 8
        · obtain ⟨w4, hw4⟩ : ∃ w4, w4 = wr0.alloc (.cells #[.int .u8 ak, .int .i64 au, .slice s.1 s.2.1 s.2.2, .int .i64 ax] 32) := ⟨_, rfl⟩
          have hb4 : Below wr0.heap.size wr0 w4 := by rw [hw4]; exact ba _ _
          have hB4 : Blk w4 wr0.heap.size 32 #[.int .u8 ak, .int .i64 au, .slice s.1 s.2.1 s.2.2, .int .i64 ax] := by rw [hw4]; exact Blk.new _ _ _
          go_wp2_with fail
          rw [← hw4]
          clear hw4
          go_at_call 11
          refine (wait_any ak au s ax w4).mono ?_
          rintro e w5 ⟨rfl, b5⟩
          have K5 := Lib.hid (And.intro (M.out.1.later (bt hb4 b5)) (hB4.later b5)); clear hB4 hb4 b5
          go_wp2_with fail
          go_at_call 10
          refine (tqA K5.out.1 au s ax p (M.out.2.2.2.2.2 w5 K5.out.1.bel) M.out.2.2.2.1 (by omega)).mono ?_
          rintro e x4 ⟨⟨rfl, hT4⟩, hF4⟩
          have hB6 := K5.out.2.frm hF4 (by decide) (by decide)
          obtain ⟨q1, q2, q3⟩ : x4.cell? ⟨wr0.heap.size, 1, none⟩ = some (.int .i64 au) ∧ x4.cell? ⟨wr0.heap.size, 2, none⟩ = some (sl s) ∧ x4.cell? ⟨wr0.heap.size, 3, none⟩ = some (.int .i64 ax) := ⟨hB6.cell 1, hB6.cell 2, hB6.cell 3⟩
          have Z4 := Lib.hid hT4; clear hT4 hF4 hB6
          go_wp2_with fail
          go_at_call 12
          refine (tqRA Z4.out M.out.2.1 au s ax p M.out.2.2.1 (by omega)).mono ?_
          rintro e x5 ⟨⟨rfl, hT5⟩, hF5⟩
          have hl5 : (ins T (au, p, ax)).length ≤ k + 1 := by rw [ins_len]; omega
          generalize hTn : ins T (au, p, ax) = T5 at *
          have Z5 := Lib.hid (And.intro hT5 hl5); clear hT5 hF5 hl5 hTn
          clear q1 q2 q3
          obtain ⟨vr, lr, hrm, hel⟩ := Z5.out.1.rh
          obtain ⟨gA, gc, rfl, _, g1, g2⟩ := hrm.row.shape
          obtain ⟨nn, hnn⟩ : ∃ nn, nn = lr.length := ⟨_, rfl⟩
          have hTl : T5.length = nn := by rw [hnn, ← hel, List.length_map]
          rw [← hnn] at hrm
          obtain ⟨d0, dl, df⟩ := hrm.cells
          have hnm : nn ≤ 51 := by have := Z5.out.2; omega
          have hnn2 : ((nn : Int) != (nn : Int)) = false := by simp
          have cLen : ∀ X, Below x5.heap.size x5 X → Calls Try.prog 21 #[.pointer (some ⟨d, 0, none⟩)] X fun e w' => e = .returned (.int .i64 (nn : Int)) ∧ Below X.heap.size X w' := fun X hX => by
            have hx := Len_any noX x1.heap.size d T5 X (Z5.out.1.hx.later hX)
            rw [hTl] at hx
            exact hx
          have C := Lib.hid (fun (X : World) (hb : Below x5.heap.size x5 X) => (show X.cell? ⟨m, 0, none⟩ = some (.slice gA nn gc) from by rw [hb.cell (World.block_lt_of_cell? x5 _ d0)]; exact d0))
          have N5 := Lib.hid (And.intro hrm (And.intro hnn (And.intro hTl cLen))); clear hrm hnn hTl cLen g1 hel
          go_wp2_with fail
          have K1 := Lib.hid (Below.refl x5.heap.size x5)
          go_region_held3 (fun X => X.cell? ⟨m, 0, none⟩ = some (.slice gA nn gc)) (exact C.out _ (by first | exact K1.out | exact below_drew K1.out)) (first | (go_at_call 21; refine (N5.out.2.2.2 _ (by first | exact K1.out | exact below_drew K1.out)).mono ?_; rintro e x6 ⟨rfl, hb⟩; (first | replace K1 := Lib.hid (K1.out.trans (hb.mono K1.out.size)) | replace K1 := Lib.hid ((below_drew K1.out).trans (hb.mono K1.out.size))); clear hb))
          all_goals clear d0 dl df
          go_wp2_with fail
          go_loopw [10] (fun jv wr => ∃ j : Int, -1 ≤ j ∧ j ≤ (nn : Int) + 1 ∧ jv = .int .i64 j ∧ Below x5.heap.size x5 wr) (fun i _ => ((nn : Int) + 1 - intOf i).toNat)
          case atStart => exact ⟨-1, by omega, by omega, rfl, K1.out⟩
          case round =>
            clear K1
            rename World => wr1
            obtain ⟨j, hj1, hj2, rfl, hbj⟩ := hrel
            have d0 := C.out wr1 hbj
            by_cases hjn : j ≤ (nn : Int)
            · have cA := tqAt (Z5.out.1.later hbj) j
              have cR : ∀ X, Below x5.heap.size x5 X → Calls Try.prog 23 #[.pointer (some ⟨m, 0, none⟩), .int .i64 j] X (AtP (atT T5 j).1 (atT T5 j).2 X) := fun X hX => tqRAt (Z5.out.1.later hX) j (by have := Z5.out.2; omega)
              obtain ⟨t, ht⟩ : ∃ t, t = (atT T5 j).1 := ⟨_, rfl⟩
              obtain ⟨ob, hob⟩ : ∃ ob, ob = (atT T5 j).2 := ⟨_, rfl⟩
              rw [← ht, ← hob] at cA
              simp only [← ht, ← hob] at cR
              clear ht hob
              obtain ⟨tu, tp, tx⟩ := t
              have hbb : (ob != ob) = false := by simp
              have V := Lib.hid (And.intro hbj (And.intro cA cR)); clear hbj cA cR
              go_wp2_with fail
              go_at_call 22
              refine V.out.2.1.mono ?_
              rintro e x7 ⟨⟨sA, sn, sc⟩, ⟨rfl, hp7⟩, b7⟩
              have hB7 := Blk.new x7 35 #[.int .i64 tu, .slice sA sn sc, .int .i64 tx]
              have hb7 : Below x5.heap.size x5 (x7.alloc (.cells #[.int .i64 tu, .slice sA sn sc, .int .i64 tx] 35)) := bt (bt V.out.1 b7) (ba _ _)
              clear d0
              have d0 := C.out _ hb7
              have V7 := Lib.hid (And.intro hb7 (And.intro hB7 (hp7.later (ba x7 (.cells #[.int .i64 tu, .slice sA sn sc, .int .i64 tx] 35))))); clear hb7 hB7 hp7 b7
              go_wp2_with fail
              go_at_call 23
              refine (V.out.2.2 _ V7.out.1).mono ?_
              rintro e x8 ⟨⟨rA, rn, rc⟩, ⟨rfl, hp8⟩, b8⟩
              have hB8 := Blk.new x8 38 #[.int .i64 tu, .slice rA rn rc, .int .i64 tx]
              clear d0
              obtain ⟨x9, hx9⟩ : ∃ x9, x9 = x8.alloc (.cells #[.int .i64 tu, .slice rA rn rc, .int .i64 tx] 38) := ⟨_, rfl⟩
              have hb9 : Below x8.heap.size x8 x9 := by rw [hx9]; exact ba _ _
              rw [← hx9] at hB8
              have hB7 := (V7.out.2.1.later b8).later hb9
              have V9 := Lib.hid (And.intro (bt (bt V7.out.1 b8) hb9) (And.intro ((V7.out.2.2.later b8).later hb9) (hp8.later hb9)))
              obtain ⟨p0, p1, p2⟩ := hB7.three
              obtain ⟨r0, r1, r2⟩ := hB8.three
              clear b8 hb9 hp8
              go_wp2_with fail
              rw [← hx9]
              clear hx9
              have hj63 : IntKind.i64.wrap (j + 1) = j + 1 := IntWalk.i64_in _ (by omega)
              have C9 := Lib.hid (fun (X : World) (hb : Below x9.heap.size x9 X) => (show X.cell? ⟨x7.heap.size, 0, none⟩ = some (.int .i64 tu) ∧ X.cell? ⟨x7.heap.size, 1, none⟩ = some (.slice sA sn sc) ∧ X.cell? ⟨x7.heap.size, 2, none⟩ = some (.int .i64 tx) ∧ X.cell? ⟨x8.heap.size, 0, none⟩ = some (.int .i64 tu) ∧ X.cell? ⟨x8.heap.size, 1, none⟩ = some (.slice rA rn rc) ∧ X.cell? ⟨x8.heap.size, 2, none⟩ = some (.int .i64 tx) from ⟨by rw [hb.cell (World.block_lt_of_cell? x9 _ p0)]; exact p0, by rw [hb.cell (World.block_lt_of_cell? x9 _ p1)]; exact p1, by rw [hb.cell (World.block_lt_of_cell? x9 _ p2)]; exact p2, by rw [hb.cell (World.block_lt_of_cell? x9 _ r0)]; exact r0, by rw [hb.cell (World.block_lt_of_cell? x9 _ r1)]; exact r1, by rw [hb.cell (World.block_lt_of_cell? x9 _ r2)]; exact r2⟩))
              have K2 := Lib.hid (Below.refl x9.heap.size x9)
              obtain ⟨pz0, pz1, pz2, _, _, _⟩ := C9.out (x9.alloc (.cells #[.int .i64 tu, .slice rA rn rc, .int .i64 tx] 38)) (ba _ _)
              have q7 := hB7.lt
              go_region_law (first
                | (go_simp; go_at_call 17; refine (back_any _ [((tu, tp, tx), (rA, rn, rc))] _ ((at_new x9 38 tu (rA, rn, rc) tx tp).later (by first | exact below_drew (Below.refl _ _) | exact Below.refl _ _)) (by simp)).mono ?_; rintro e xa ⟨u9, ⟨rfl, hOb⟩, hb⟩; obtain ⟨bA, bc, rfl, _, _, _⟩ := hOb.shape; obtain ⟨gb, rfl, _, _, _, hcc⟩ := hOb.cells (f := rowW) (k := 3) (fun _ => rfl) rfl (by simp); have z0 : xa.cell? ⟨gb, 0, none⟩ = some (.int .i64 tu) := hcc 0 (by simp) 0 _ rfl; have z1 : xa.cell? ⟨gb, 1, none⟩ = some (.slice rA rn rc) := hcc 0 (by simp) 1 _ rfl; have z2 : xa.cell? ⟨gb, 2, none⟩ = some (.int .i64 tx) := hcc 0 (by simp) 2 _ rfl; (first | replace K2 := Lib.hid (bt (below_drew (bt K2.out (ba _ _))) hb) | replace K2 := Lib.hid (bt (bt K2.out (ba _ _)) hb)); clear hb hOb hcc; simp only [List.length_cons, List.length_nil]; obtain ⟨pa0, pa1, pa2, _, _, _⟩ := C9.out xa K2.out)
                | (go_simp; go_at_call 24; refine (same_yes tu (sA, sn, sc) (rA, rn, rc) tx tp _ (V9.out.2.1.later (by first | exact K2.out | exact below_drew K2.out)) (V9.out.2.2.later (by first | exact K2.out | exact below_drew K2.out))).mono ?_; rintro e xb ⟨rfl, hb⟩; (first | replace K2 := Lib.hid (bt K2.out hb) | replace K2 := Lib.hid (bt (below_drew K2.out) hb)); clear hb))
              all_goals go_wp2
              all_goals go_roundw
              all_goals first
                | (simp [intOf]; omega)
                | exact ⟨j + 1, by omega, by omega, by go_num, bt V9.out.1 K2.out⟩
            · obtain rfl : j = (nn : Int) + 1 := by omega
              have V := Lib.hid hbj; clear hbj
              go_wp2
              go_roundw
              case rel => exact ⟨k + 1, T5, by omega, by omega, by go_num, Z5.out.2, Z5.out.1.later V.out⟩
              case measure => simp [intOf]; omega
        · by_cases h3 : ak % 16 < 11
          · obtain ⟨vq, lq, hq0, hql⟩ := M.out.1.rh
            obtain ⟨gA0, gc0, rfl, _, _, _⟩ := hq0.row.shape
            have hqn : T.length = lq.length := by rw [← hql, List.length_map]
            obtain ⟨n0, hn0⟩ : ∃ n0, n0 = T.length := ⟨_, rfl⟩
            rw [← hqn, ← hn0] at hq0
            obtain ⟨d0, dl0, _⟩ := (hq0.later (ba wr0 (.cells #[.int .u8 ak, .int .i64 au, .slice s.1 s.2.1 s.2.2, .int .i64 ax] 32))).cells
            have hn50 : n0 ≤ 50 := by omega
            obtain ⟨q, hq⟩ : ∃ q, ax.tmod ((n0 : Int) + 2) = q := ⟨_, rfl⟩
            have hne : ¬ ((n0 : Int) + 2 = 0) := by omega
            have hneb : (((n0 : Int) + 2) == 0) = false := by simp; omega
            have hw2 : IntKind.i64.wrap ((n0 : Int) + 2) = (n0 : Int) + 2 := IntWalk.i64_in _ (by omega)
            have KK := Lib.hid (And.intro hqn hn0); clear hqn hn0 hq0 hql
            go_wp2_with fail
            go_quiet (fail)
            clear d0 dl0
            obtain ⟨cb, hcb⟩ : ∃ cb, cb = (cutT T q).1 := ⟨_, rfl⟩
            obtain ⟨T5, hT5e⟩ : ∃ T5, T5 = (cutT T q).2 := ⟨_, rfl⟩
            have hl5 : T5.length ≤ k + 1 := by rw [hT5e]; have := cut_len T q; omega
            have hcbb : (cb != cb) = false := by simp
            have c1' := tqC (M.out.1.later (below_drewN (ba wr0 (.cells #[.int .u8 ak, .int .i64 au, .slice s.1 s.2.1 s.2.2, .int .i64 ax] 32)) nq)) q
            have c2' : ∀ X, Tq x1 X d m T5 T → Calls Try.prog 14 #[.pointer (some ⟨m, 0, none⟩), .int .i64 q] X (TqQ x1 d m T5 T5 (.returned (.bool cb)) X) := fun X hX => by rw [hcb]; have := tqRC hX q (by omega); rwa [← hT5e] at this
            rw [← hcb, ← hT5e] at c1'
            have CC := Lib.hid (And.intro c1' c2'); clear c1' c2' hcb hT5e
            go_wp2_with fail
            go_at_call 13
            refine CC.out.1.mono ?_
            rintro e x4 ⟨⟨rfl, hT4⟩, hF4⟩
            have Z4 := Lib.hid hT4; clear hT4 hF4
            go_wp2_with fail
            go_at_call 14
            refine (CC.out.2 x4 Z4.out).mono ?_
            rintro e x5 ⟨⟨rfl, hT5⟩, hF5⟩
            have Z5 := Lib.hid (And.intro hT5 hl5); clear hT5 hF5 hl5
            obtain ⟨vr, lr, hrm, hel⟩ := Z5.out.1.rh
            obtain ⟨gA, gc, rfl, _, g1, g2⟩ := hrm.row.shape
            obtain ⟨nn, hnn⟩ : ∃ nn, nn = lr.length := ⟨_, rfl⟩
            have hTl : T5.length = nn := by rw [hnn, ← hel, List.length_map]
            rw [← hnn] at hrm
            obtain ⟨d0, dl, df⟩ := hrm.cells
            have hnm : nn ≤ 51 := by have := Z5.out.2; omega
            have hnn2 : ((nn : Int) != (nn : Int)) = false := by simp
            have cLen : ∀ X, Below x5.heap.size x5 X → Calls Try.prog 21 #[.pointer (some ⟨d, 0, none⟩)] X fun e w' => e = .returned (.int .i64 (nn : Int)) ∧ Below X.heap.size X w' := fun X hX => by
              have hx := Len_any noX x1.heap.size d T5 X (Z5.out.1.hx.later hX)
              rw [hTl] at hx
              exact hx
            have C := Lib.hid (fun (X : World) (hb : Below x5.heap.size x5 X) => (show X.cell? ⟨m, 0, none⟩ = some (.slice gA nn gc) from by rw [hb.cell (World.block_lt_of_cell? x5 _ d0)]; exact d0))
            have N5 := Lib.hid (And.intro hrm (And.intro hnn (And.intro hTl cLen))); clear hrm hnn hTl cLen g1 hel
            go_wp2_with fail
            have K1 := Lib.hid (Below.refl x5.heap.size x5)
            go_region_held3 (fun X => X.cell? ⟨m, 0, none⟩ = some (.slice gA nn gc)) (exact C.out _ (by first | exact K1.out | exact below_drew K1.out)) (first | (go_at_call 21; refine (N5.out.2.2.2 _ (by first | exact K1.out | exact below_drew K1.out)).mono ?_; rintro e x6 ⟨rfl, hb⟩; (first | replace K1 := Lib.hid (K1.out.trans (hb.mono K1.out.size)) | replace K1 := Lib.hid ((below_drew K1.out).trans (hb.mono K1.out.size))); clear hb))
            all_goals clear d0 dl df
            go_wp2_with fail
            go_loopw [10] (fun jv wr => ∃ j : Int, -1 ≤ j ∧ j ≤ (nn : Int) + 1 ∧ jv = .int .i64 j ∧ Below x5.heap.size x5 wr) (fun i _ => ((nn : Int) + 1 - intOf i).toNat)
            case atStart => exact ⟨-1, by omega, by omega, rfl, K1.out⟩
            case round =>
              clear K1
              rename World => wr1
              obtain ⟨j, hj1, hj2, rfl, hbj⟩ := hrel
              have d0 := C.out wr1 hbj
              by_cases hjn : j ≤ (nn : Int)
              · have cA := tqAt (Z5.out.1.later hbj) j
                have cR : ∀ X, Below x5.heap.size x5 X → Calls Try.prog 23 #[.pointer (some ⟨m, 0, none⟩), .int .i64 j] X (AtP (atT T5 j).1 (atT T5 j).2 X) := fun X hX => tqRAt (Z5.out.1.later hX) j (by have := Z5.out.2; omega)
                obtain ⟨t, ht⟩ : ∃ t, t = (atT T5 j).1 := ⟨_, rfl⟩
                obtain ⟨ob, hob⟩ : ∃ ob, ob = (atT T5 j).2 := ⟨_, rfl⟩
                rw [← ht, ← hob] at cA
                simp only [← ht, ← hob] at cR
                clear ht hob
                obtain ⟨tu, tp, tx⟩ := t
                have hbb : (ob != ob) = false := by simp
                have V := Lib.hid (And.intro hbj (And.intro cA cR)); clear hbj cA cR
                go_wp2_with fail
                go_at_call 22
                refine V.out.2.1.mono ?_
                rintro e x7 ⟨⟨sA, sn, sc⟩, ⟨rfl, hp7⟩, b7⟩
                have hB7 := Blk.new x7 35 #[.int .i64 tu, .slice sA sn sc, .int .i64 tx]
                have hb7 : Below x5.heap.size x5 (x7.alloc (.cells #[.int .i64 tu, .slice sA sn sc, .int .i64 tx] 35)) := bt (bt V.out.1 b7) (ba _ _)
                clear d0
                have d0 := C.out _ hb7
                have V7 := Lib.hid (And.intro hb7 (And.intro hB7 (hp7.later (ba x7 (.cells #[.int .i64 tu, .slice sA sn sc, .int .i64 tx] 35))))); clear hb7 hB7 hp7 b7
                go_wp2_with fail
                go_at_call 23
                refine (V.out.2.2 _ V7.out.1).mono ?_
                rintro e x8 ⟨⟨rA, rn, rc⟩, ⟨rfl, hp8⟩, b8⟩
                have hB8 := Blk.new x8 38 #[.int .i64 tu, .slice rA rn rc, .int .i64 tx]
                clear d0
                obtain ⟨x9, hx9⟩ : ∃ x9, x9 = x8.alloc (.cells #[.int .i64 tu, .slice rA rn rc, .int .i64 tx] 38) := ⟨_, rfl⟩
                have hb9 : Below x8.heap.size x8 x9 := by rw [hx9]; exact ba _ _
                rw [← hx9] at hB8
                have hB7 := (V7.out.2.1.later b8).later hb9
                have V9 := Lib.hid (And.intro (bt (bt V7.out.1 b8) hb9) (And.intro ((V7.out.2.2.later b8).later hb9) (hp8.later hb9)))
                obtain ⟨p0, p1, p2⟩ := hB7.three
                obtain ⟨r0, r1, r2⟩ := hB8.three
                clear b8 hb9 hp8
                go_wp2_with fail
                rw [← hx9]
                clear hx9
                have hj63 : IntKind.i64.wrap (j + 1) = j + 1 := IntWalk.i64_in _ (by omega)
                have C9 := Lib.hid (fun (X : World) (hb : Below x9.heap.size x9 X) => (show X.cell? ⟨x7.heap.size, 0, none⟩ = some (.int .i64 tu) ∧ X.cell? ⟨x7.heap.size, 1, none⟩ = some (.slice sA sn sc) ∧ X.cell? ⟨x7.heap.size, 2, none⟩ = some (.int .i64 tx) ∧ X.cell? ⟨x8.heap.size, 0, none⟩ = some (.int .i64 tu) ∧ X.cell? ⟨x8.heap.size, 1, none⟩ = some (.slice rA rn rc) ∧ X.cell? ⟨x8.heap.size, 2, none⟩ = some (.int .i64 tx) from ⟨by rw [hb.cell (World.block_lt_of_cell? x9 _ p0)]; exact p0, by rw [hb.cell (World.block_lt_of_cell? x9 _ p1)]; exact p1, by rw [hb.cell (World.block_lt_of_cell? x9 _ p2)]; exact p2, by rw [hb.cell (World.block_lt_of_cell? x9 _ r0)]; exact r0, by rw [hb.cell (World.block_lt_of_cell? x9 _ r1)]; exact r1, by rw [hb.cell (World.block_lt_of_cell? x9 _ r2)]; exact r2⟩))
                have K2 := Lib.hid (Below.refl x9.heap.size x9)
                obtain ⟨pz0, pz1, pz2, _, _, _⟩ := C9.out (x9.alloc (.cells #[.int .i64 tu, .slice rA rn rc, .int .i64 tx] 38)) (ba _ _)
                have q7 := hB7.lt
                go_region_law (first
                  | (go_simp; go_at_call 17; refine (back_any _ [((tu, tp, tx), (rA, rn, rc))] _ ((at_new x9 38 tu (rA, rn, rc) tx tp).later (by first | exact below_drew (Below.refl _ _) | exact Below.refl _ _)) (by simp)).mono ?_; rintro e xa ⟨u9, ⟨rfl, hOb⟩, hb⟩; obtain ⟨bA, bc, rfl, _, _, _⟩ := hOb.shape; obtain ⟨gb, rfl, _, _, _, hcc⟩ := hOb.cells (f := rowW) (k := 3) (fun _ => rfl) rfl (by simp); have z0 : xa.cell? ⟨gb, 0, none⟩ = some (.int .i64 tu) := hcc 0 (by simp) 0 _ rfl; have z1 : xa.cell? ⟨gb, 1, none⟩ = some (.slice rA rn rc) := hcc 0 (by simp) 1 _ rfl; have z2 : xa.cell? ⟨gb, 2, none⟩ = some (.int .i64 tx) := hcc 0 (by simp) 2 _ rfl; (first | replace K2 := Lib.hid (bt (below_drew (bt K2.out (ba _ _))) hb) | replace K2 := Lib.hid (bt (bt K2.out (ba _ _)) hb)); clear hb hOb hcc; simp only [List.length_cons, List.length_nil]; obtain ⟨pa0, pa1, pa2, _, _, _⟩ := C9.out xa K2.out)
                  | (go_simp; go_at_call 24; refine (same_yes tu (sA, sn, sc) (rA, rn, rc) tx tp _ (V9.out.2.1.later (by first | exact K2.out | exact below_drew K2.out)) (V9.out.2.2.later (by first | exact K2.out | exact below_drew K2.out))).mono ?_; rintro e xb ⟨rfl, hb⟩; (first | replace K2 := Lib.hid (bt K2.out hb) | replace K2 := Lib.hid (bt (below_drew K2.out) hb)); clear hb))
                all_goals go_wp2
                all_goals go_roundw
                all_goals first
                  | (simp [intOf]; omega)
                  | exact ⟨j + 1, by omega, by omega, by go_num, bt V9.out.1 K2.out⟩
              · obtain rfl : j = (nn : Int) + 1 := by omega
                have V := Lib.hid hbj; clear hbj
                go_wp2
                go_roundw
                case rel => exact ⟨k + 1, T5, by omega, by omega, by go_num, Z5.out.2, Z5.out.1.later V.out⟩
                case measure => simp [intOf]; omega
          · by_cases h4 : ak % 16 < 15
            · obtain ⟨w4, hw4⟩ : ∃ w4, w4 = wr0.alloc (.cells #[.int .u8 ak, .int .i64 au, .slice s.1 s.2.1 s.2.2, .int .i64 ax] 32) := ⟨_, rfl⟩
              have hb4 : Below wr0.heap.size wr0 w4 := by rw [hw4]; exact ba _ _
              have hB4 : Blk w4 wr0.heap.size 32 #[.int .u8 ak, .int .i64 au, .slice s.1 s.2.1 s.2.2, .int .i64 ax] := by rw [hw4]; exact Blk.new _ _ _
              have q0 : w4.cell? ⟨wr0.heap.size, 1, none⟩ = some (.int .i64 au) := hB4.cell 1
              have KB := Lib.hid (And.intro hb4 hB4); clear hb4 hB4
              go_wp2_with fail
              rw [← hw4]
              clear hw4
              have KR := Lib.hid (And.intro KB.out.2 (Below.refl w4.heap.size w4))
              go_region_held3 (fun X => X.cell? ⟨wr0.heap.size, 1, none⟩ = some (.int .i64 au)) (first | exact KR.out.1.cell 1 | exact (KR.out.1.later (below_drew (Below.refl _ _))).cell 1) (first
                | (go_at_call 16; refine (tqDue (M.out.1.later (bt KB.out.1 (by first | exact below_drew (Below.refl _ _) | exact Below.refl _ _))) au).mono ?_; rintro e x4 ⟨v4, b4, ⟨rfl, hO4, hT4⟩, hF4⟩; (first | replace KR := Lib.hid (And.intro (KR.out.1.frm hF4 (by decide) (by decide)) trivial) | replace KR := Lib.hid (And.intro ((KR.out.1.later (below_drew (Below.refl _ _))).frm hF4 (by decide) (by decide)) trivial)); have Z4 := Lib.hid (And.intro hO4 hT4); clear hO4 hT4 hF4)
                | (go_at_call 18; refine (tqRDue Z4.out.2 au (by omega) M.out.2.1).mono ?_; rintro e xa ⟨v5, l5, ⟨rfl, g1, g2, g3, hT5⟩, hF5⟩; replace KR := Lib.hid (And.intro (KR.out.1.frm hF5 (by decide) (by decide)) trivial); have Za := Lib.hid (And.intro (Z4.out.1.frq hF5) (And.intro g1 (And.intro g2 (And.intro g3 hT5)))); clear g1 g2 g3 hT5 hF5)
                | (go_at_call 17; refine (back_reads x1 v5 l5 _ xa Za.out.2.1 Za.out.2.2.1 Za.out.2.2.2.1 Za.out.2.2.2.2.bel (by rw [List.length_take]; omega)).mono ?_; rintro e xb ⟨u6, ⟨rfl, hR6⟩, b6⟩; replace KR := Lib.hid (And.intro (KR.out.1.later b6) trivial); have Zb := Lib.hid (And.intro hR6 b6); clear hR6 b6)
                | (go_at_call 15; refine (all_yes _ _ _ xb (Za.out.1.later Zb.out.2).reads Zb.out.1).mono ?_; rintro e x5 ⟨rfl, b7⟩; replace KR := Lib.hid (And.intro (KR.out.1.later b7) trivial); have Zc := Lib.hid (Za.out.2.2.2.2.later (bt Zb.out.2 b7)); clear b7))
              all_goals
                obtain ⟨T5, hT5e⟩ : ∃ T5 : List D, T5 = T.drop (dpos au T) := ⟨_, rfl⟩
                have hl5 : T5.length ≤ k + 1 := by rw [hT5e, List.length_drop]; omega
                have Z5 := Lib.hid (And.intro (show Tq x1 x5 d m T5 T5 by rw [hT5e]; exact Zc.out) hl5); clear Zc hl5 hT5e
              obtain ⟨vr, lr, hrm, hel⟩ := Z5.out.1.rh
              obtain ⟨gA, gc, rfl, _, g1, g2⟩ := hrm.row.shape
              obtain ⟨nn, hnn⟩ : ∃ nn, nn = lr.length := ⟨_, rfl⟩
              have hTl : T5.length = nn := by rw [hnn, ← hel, List.length_map]
              rw [← hnn] at hrm
              obtain ⟨d0, dl, df⟩ := hrm.cells
              have hnm : nn ≤ 51 := by have := Z5.out.2; omega
              have hnn2 : ((nn : Int) != (nn : Int)) = false := by simp
              have cLen : ∀ X, Below x5.heap.size x5 X → Calls Try.prog 21 #[.pointer (some ⟨d, 0, none⟩)] X fun e w' => e = .returned (.int .i64 (nn : Int)) ∧ Below X.heap.size X w' := fun X hX => by
                have hx := Len_any noX x1.heap.size d T5 X (Z5.out.1.hx.later hX)
                rw [hTl] at hx
                exact hx
              have C := Lib.hid (fun (X : World) (hb : Below x5.heap.size x5 X) => (show X.cell? ⟨m, 0, none⟩ = some (.slice gA nn gc) from by rw [hb.cell (World.block_lt_of_cell? x5 _ d0)]; exact d0))
              have N5 := Lib.hid (And.intro hrm (And.intro hnn (And.intro hTl cLen))); clear hrm hnn hTl cLen g1 hel
              go_wp2_with fail
              have K1 := Lib.hid (Below.refl x5.heap.size x5)
              go_region_held3 (fun X => X.cell? ⟨m, 0, none⟩ = some (.slice gA nn gc)) (exact C.out _ (by first | exact K1.out | exact below_drew K1.out)) (first | (go_at_call 21; refine (N5.out.2.2.2 _ (by first | exact K1.out | exact below_drew K1.out)).mono ?_; rintro e x6 ⟨rfl, hb⟩; (first | replace K1 := Lib.hid (K1.out.trans (hb.mono K1.out.size)) | replace K1 := Lib.hid ((below_drew K1.out).trans (hb.mono K1.out.size))); clear hb))
              all_goals clear d0 dl df
              go_wp2_with fail
              go_loopw [10] (fun jv wr => ∃ j : Int, -1 ≤ j ∧ j ≤ (nn : Int) + 1 ∧ jv = .int .i64 j ∧ Below x5.heap.size x5 wr) (fun i _ => ((nn : Int) + 1 - intOf i).toNat)
              case atStart => exact ⟨-1, by omega, by omega, rfl, K1.out⟩
              case round =>
                clear K1
                rename World => wr1
                obtain ⟨j, hj1, hj2, rfl, hbj⟩ := hrel
                have d0 := C.out wr1 hbj
                by_cases hjn : j ≤ (nn : Int)
                · have cA := tqAt (Z5.out.1.later hbj) j
                  have cR : ∀ X, Below x5.heap.size x5 X → Calls Try.prog 23 #[.pointer (some ⟨m, 0, none⟩), .int .i64 j] X (AtP (atT T5 j).1 (atT T5 j).2 X) := fun X hX => tqRAt (Z5.out.1.later hX) j (by have := Z5.out.2; omega)
                  obtain ⟨t, ht⟩ : ∃ t, t = (atT T5 j).1 := ⟨_, rfl⟩
                  obtain ⟨ob, hob⟩ : ∃ ob, ob = (atT T5 j).2 := ⟨_, rfl⟩
                  rw [← ht, ← hob] at cA
                  simp only [← ht, ← hob] at cR
                  clear ht hob
                  obtain ⟨tu, tp, tx⟩ := t
                  have hbb : (ob != ob) = false := by simp
                  have V := Lib.hid (And.intro hbj (And.intro cA cR)); clear hbj cA cR
                  go_wp2_with fail
                  go_at_call 22
                  refine V.out.2.1.mono ?_
                  rintro e x7 ⟨⟨sA, sn, sc⟩, ⟨rfl, hp7⟩, b7⟩
                  have hB7 := Blk.new x7 35 #[.int .i64 tu, .slice sA sn sc, .int .i64 tx]
                  have hb7 : Below x5.heap.size x5 (x7.alloc (.cells #[.int .i64 tu, .slice sA sn sc, .int .i64 tx] 35)) := bt (bt V.out.1 b7) (ba _ _)
                  clear d0
                  have d0 := C.out _ hb7
                  have V7 := Lib.hid (And.intro hb7 (And.intro hB7 (hp7.later (ba x7 (.cells #[.int .i64 tu, .slice sA sn sc, .int .i64 tx] 35))))); clear hb7 hB7 hp7 b7
                  go_wp2_with fail
                  go_at_call 23
                  refine (V.out.2.2 _ V7.out.1).mono ?_
                  rintro e x8 ⟨⟨rA, rn, rc⟩, ⟨rfl, hp8⟩, b8⟩
                  have hB8 := Blk.new x8 38 #[.int .i64 tu, .slice rA rn rc, .int .i64 tx]
                  clear d0
                  obtain ⟨x9, hx9⟩ : ∃ x9, x9 = x8.alloc (.cells #[.int .i64 tu, .slice rA rn rc, .int .i64 tx] 38) := ⟨_, rfl⟩
                  have hb9 : Below x8.heap.size x8 x9 := by rw [hx9]; exact ba _ _
                  rw [← hx9] at hB8
                  have hB7 := (V7.out.2.1.later b8).later hb9
                  have V9 := Lib.hid (And.intro (bt (bt V7.out.1 b8) hb9) (And.intro ((V7.out.2.2.later b8).later hb9) (hp8.later hb9)))
                  obtain ⟨p0, p1, p2⟩ := hB7.three
                  obtain ⟨r0, r1, r2⟩ := hB8.three
                  clear b8 hb9 hp8
                  go_wp2_with fail
                  rw [← hx9]
                  clear hx9
                  have hj63 : IntKind.i64.wrap (j + 1) = j + 1 := IntWalk.i64_in _ (by omega)
                  have C9 := Lib.hid (fun (X : World) (hb : Below x9.heap.size x9 X) => (show X.cell? ⟨x7.heap.size, 0, none⟩ = some (.int .i64 tu) ∧ X.cell? ⟨x7.heap.size, 1, none⟩ = some (.slice sA sn sc) ∧ X.cell? ⟨x7.heap.size, 2, none⟩ = some (.int .i64 tx) ∧ X.cell? ⟨x8.heap.size, 0, none⟩ = some (.int .i64 tu) ∧ X.cell? ⟨x8.heap.size, 1, none⟩ = some (.slice rA rn rc) ∧ X.cell? ⟨x8.heap.size, 2, none⟩ = some (.int .i64 tx) from ⟨by rw [hb.cell (World.block_lt_of_cell? x9 _ p0)]; exact p0, by rw [hb.cell (World.block_lt_of_cell? x9 _ p1)]; exact p1, by rw [hb.cell (World.block_lt_of_cell? x9 _ p2)]; exact p2, by rw [hb.cell (World.block_lt_of_cell? x9 _ r0)]; exact r0, by rw [hb.cell (World.block_lt_of_cell? x9 _ r1)]; exact r1, by rw [hb.cell (World.block_lt_of_cell? x9 _ r2)]; exact r2⟩))
                  have K2 := Lib.hid (Below.refl x9.heap.size x9)
                  obtain ⟨pz0, pz1, pz2, _, _, _⟩ := C9.out (x9.alloc (.cells #[.int .i64 tu, .slice rA rn rc, .int .i64 tx] 38)) (ba _ _)
                  have q7 := hB7.lt
                  go_region_law (first
                    | (go_simp; go_at_call 17; refine (back_any _ [((tu, tp, tx), (rA, rn, rc))] _ ((at_new x9 38 tu (rA, rn, rc) tx tp).later (by first | exact below_drew (Below.refl _ _) | exact Below.refl _ _)) (by simp)).mono ?_; rintro e xa ⟨u9, ⟨rfl, hOb⟩, hb⟩; obtain ⟨bA, bc, rfl, _, _, _⟩ := hOb.shape; obtain ⟨gb, rfl, _, _, _, hcc⟩ := hOb.cells (f := rowW) (k := 3) (fun _ => rfl) rfl (by simp); have z0 : xa.cell? ⟨gb, 0, none⟩ = some (.int .i64 tu) := hcc 0 (by simp) 0 _ rfl; have z1 : xa.cell? ⟨gb, 1, none⟩ = some (.slice rA rn rc) := hcc 0 (by simp) 1 _ rfl; have z2 : xa.cell? ⟨gb, 2, none⟩ = some (.int .i64 tx) := hcc 0 (by simp) 2 _ rfl; (first | replace K2 := Lib.hid (bt (below_drew (bt K2.out (ba _ _))) hb) | replace K2 := Lib.hid (bt (bt K2.out (ba _ _)) hb)); clear hb hOb hcc; simp only [List.length_cons, List.length_nil]; obtain ⟨pa0, pa1, pa2, _, _, _⟩ := C9.out xa K2.out)
                    | (go_simp; go_at_call 24; refine (same_yes tu (sA, sn, sc) (rA, rn, rc) tx tp _ (V9.out.2.1.later (by first | exact K2.out | exact below_drew K2.out)) (V9.out.2.2.later (by first | exact K2.out | exact below_drew K2.out))).mono ?_; rintro e xb ⟨rfl, hb⟩; (first | replace K2 := Lib.hid (bt K2.out hb) | replace K2 := Lib.hid (bt (below_drew K2.out) hb)); clear hb))
                  all_goals go_wp2
                  all_goals go_roundw
                  all_goals first
                    | (simp [intOf]; omega)
                    | exact ⟨j + 1, by omega, by omega, by go_num, bt V9.out.1 K2.out⟩
                · obtain rfl : j = (nn : Int) + 1 := by omega
                  have V := Lib.hid hbj; clear hbj
                  go_wp2
                  go_roundw
                  case rel => exact ⟨k + 1, T5, by omega, by omega, by go_num, Z5.out.2, Z5.out.1.later V.out⟩
                  case measure => simp [intOf]; omega
            · go_wp2_with fail
              go_at_call 19
              refine (tqAll (M.out.1.later (ba _ _))).mono ?_
              rintro e x4 ⟨v4, b4, ⟨rfl, hO4, hT4⟩, hF4⟩
              have Z4 := Lib.hid (And.intro hO4 hT4); clear hO4 hT4 hF4
              go_wp2_with fail
              go_at_call 20
              refine (tqRAll Z4.out.2).mono ?_
              rintro e xa ⟨v5, l5, ⟨rfl, g1, g2, g3, hT5⟩, hF5⟩
              have Za := Lib.hid (And.intro (Z4.out.1.frq hF5) (And.intro g1 (And.intro g2 (And.intro g3 hT5)))); clear g1 g2 g3 hT5 hF5
              go_wp2_with fail
              go_at_call 17
              refine (back_reads x1 v5 l5 T xa Za.out.2.1 Za.out.2.2.1 Za.out.2.2.2.1 Za.out.2.2.2.2.bel (by omega)).mono ?_
              rintro e xb ⟨u6, ⟨rfl, hR6⟩, b6⟩
              have Zb := Lib.hid (And.intro hR6 b6); clear hR6 b6
              go_wp2_with fail
              go_at_call 15
              refine (all_yes _ _ T xb (Za.out.1.later Zb.out.2).reads Zb.out.1).mono ?_
              rintro e x5 ⟨rfl, b7⟩
              obtain ⟨T5, hT5e⟩ : ∃ T5 : List D, T5 = [] := ⟨_, rfl⟩
              have hl5 : T5.length ≤ k + 1 := by rw [hT5e]; simp
              have Z5 := Lib.hid (And.intro (show Tq x1 x5 d m T5 T5 by rw [hT5e]; exact Za.out.2.2.2.2.later (bt Zb.out.2 b7)) hl5); clear b7 hl5 hT5e
              obtain ⟨vr, lr, hrm, hel⟩ := Z5.out.1.rh
              obtain ⟨gA, gc, rfl, _, g1, g2⟩ := hrm.row.shape
              obtain ⟨nn, hnn⟩ : ∃ nn, nn = lr.length := ⟨_, rfl⟩
              have hTl : T5.length = nn := by rw [hnn, ← hel, List.length_map]
              rw [← hnn] at hrm
              obtain ⟨d0, dl, df⟩ := hrm.cells
              have hnm : nn ≤ 51 := by have := Z5.out.2; omega
              have hnn2 : ((nn : Int) != (nn : Int)) = false := by simp
              have cLen : ∀ X, Below x5.heap.size x5 X → Calls Try.prog 21 #[.pointer (some ⟨d, 0, none⟩)] X fun e w' => e = .returned (.int .i64 (nn : Int)) ∧ Below X.heap.size X w' := fun X hX => by
                have hx := Len_any noX x1.heap.size d T5 X (Z5.out.1.hx.later hX)
                rw [hTl] at hx
                exact hx
              have C := Lib.hid (fun (X : World) (hb : Below x5.heap.size x5 X) => (show X.cell? ⟨m, 0, none⟩ = some (.slice gA nn gc) from by rw [hb.cell (World.block_lt_of_cell? x5 _ d0)]; exact d0))
              have N5 := Lib.hid (And.intro hrm (And.intro hnn (And.intro hTl cLen))); clear hrm hnn hTl cLen g1 hel
              go_wp2_with fail
              have K1 := Lib.hid (Below.refl x5.heap.size x5)
              go_region_held3 (fun X => X.cell? ⟨m, 0, none⟩ = some (.slice gA nn gc)) (exact C.out _ (by first | exact K1.out | exact below_drew K1.out)) (first | (go_at_call 21; refine (N5.out.2.2.2 _ (by first | exact K1.out | exact below_drew K1.out)).mono ?_; rintro e x6 ⟨rfl, hb⟩; (first | replace K1 := Lib.hid (K1.out.trans (hb.mono K1.out.size)) | replace K1 := Lib.hid ((below_drew K1.out).trans (hb.mono K1.out.size))); clear hb))
              all_goals clear d0 dl df
              go_wp2_with fail
              go_loopw [10] (fun jv wr => ∃ j : Int, -1 ≤ j ∧ j ≤ (nn : Int) + 1 ∧ jv = .int .i64 j ∧ Below x5.heap.size x5 wr) (fun i _ => ((nn : Int) + 1 - intOf i).toNat)
              case atStart => exact ⟨-1, by omega, by omega, rfl, K1.out⟩
              case round =>
                clear K1
                rename World => wr1
                obtain ⟨j, hj1, hj2, rfl, hbj⟩ := hrel
                have d0 := C.out wr1 hbj
                by_cases hjn : j ≤ (nn : Int)
                · have cA := tqAt (Z5.out.1.later hbj) j
                  have cR : ∀ X, Below x5.heap.size x5 X → Calls Try.prog 23 #[.pointer (some ⟨m, 0, none⟩), .int .i64 j] X (AtP (atT T5 j).1 (atT T5 j).2 X) := fun X hX => tqRAt (Z5.out.1.later hX) j (by have := Z5.out.2; omega)
                  obtain ⟨t, ht⟩ : ∃ t, t = (atT T5 j).1 := ⟨_, rfl⟩
                  obtain ⟨ob, hob⟩ : ∃ ob, ob = (atT T5 j).2 := ⟨_, rfl⟩
                  rw [← ht, ← hob] at cA
                  simp only [← ht, ← hob] at cR
                  clear ht hob
                  obtain ⟨tu, tp, tx⟩ := t
                  have hbb : (ob != ob) = false := by simp
                  have V := Lib.hid (And.intro hbj (And.intro cA cR)); clear hbj cA cR
                  go_wp2_with fail
                  go_at_call 22
                  refine V.out.2.1.mono ?_
                  rintro e x7 ⟨⟨sA, sn, sc⟩, ⟨rfl, hp7⟩, b7⟩
                  have hB7 := Blk.new x7 35 #[.int .i64 tu, .slice sA sn sc, .int .i64 tx]
                  have hb7 : Below x5.heap.size x5 (x7.alloc (.cells #[.int .i64 tu, .slice sA sn sc, .int .i64 tx] 35)) := bt (bt V.out.1 b7) (ba _ _)
                  clear d0
                  have d0 := C.out _ hb7
                  have V7 := Lib.hid (And.intro hb7 (And.intro hB7 (hp7.later (ba x7 (.cells #[.int .i64 tu, .slice sA sn sc, .int .i64 tx] 35))))); clear hb7 hB7 hp7 b7
                  go_wp2_with fail
                  go_at_call 23
                  refine (V.out.2.2 _ V7.out.1).mono ?_
                  rintro e x8 ⟨⟨rA, rn, rc⟩, ⟨rfl, hp8⟩, b8⟩
                  have hB8 := Blk.new x8 38 #[.int .i64 tu, .slice rA rn rc, .int .i64 tx]
                  clear d0
                  obtain ⟨x9, hx9⟩ : ∃ x9, x9 = x8.alloc (.cells #[.int .i64 tu, .slice rA rn rc, .int .i64 tx] 38) := ⟨_, rfl⟩
                  have hb9 : Below x8.heap.size x8 x9 := by rw [hx9]; exact ba _ _
                  rw [← hx9] at hB8
                  have hB7 := (V7.out.2.1.later b8).later hb9
                  have V9 := Lib.hid (And.intro (bt (bt V7.out.1 b8) hb9) (And.intro ((V7.out.2.2.later b8).later hb9) (hp8.later hb9)))
                  obtain ⟨p0, p1, p2⟩ := hB7.three
                  obtain ⟨r0, r1, r2⟩ := hB8.three
                  clear b8 hb9 hp8
                  go_wp2_with fail
                  rw [← hx9]
                  clear hx9
                  have hj63 : IntKind.i64.wrap (j + 1) = j + 1 := IntWalk.i64_in _ (by omega)
                  have C9 := Lib.hid (fun (X : World) (hb : Below x9.heap.size x9 X) => (show X.cell? ⟨x7.heap.size, 0, none⟩ = some (.int .i64 tu) ∧ X.cell? ⟨x7.heap.size, 1, none⟩ = some (.slice sA sn sc) ∧ X.cell? ⟨x7.heap.size, 2, none⟩ = some (.int .i64 tx) ∧ X.cell? ⟨x8.heap.size, 0, none⟩ = some (.int .i64 tu) ∧ X.cell? ⟨x8.heap.size, 1, none⟩ = some (.slice rA rn rc) ∧ X.cell? ⟨x8.heap.size, 2, none⟩ = some (.int .i64 tx) from ⟨by rw [hb.cell (World.block_lt_of_cell? x9 _ p0)]; exact p0, by rw [hb.cell (World.block_lt_of_cell? x9 _ p1)]; exact p1, by rw [hb.cell (World.block_lt_of_cell? x9 _ p2)]; exact p2, by rw [hb.cell (World.block_lt_of_cell? x9 _ r0)]; exact r0, by rw [hb.cell (World.block_lt_of_cell? x9 _ r1)]; exact r1, by rw [hb.cell (World.block_lt_of_cell? x9 _ r2)]; exact r2⟩))
                  have K2 := Lib.hid (Below.refl x9.heap.size x9)
                  obtain ⟨pz0, pz1, pz2, _, _, _⟩ := C9.out (x9.alloc (.cells #[.int .i64 tu, .slice rA rn rc, .int .i64 tx] 38)) (ba _ _)
                  have q7 := hB7.lt
                  go_region_law (first
                    | (go_simp; go_at_call 17; refine (back_any _ [((tu, tp, tx), (rA, rn, rc))] _ ((at_new x9 38 tu (rA, rn, rc) tx tp).later (by first | exact below_drew (Below.refl _ _) | exact Below.refl _ _)) (by simp)).mono ?_; rintro e xa ⟨u9, ⟨rfl, hOb⟩, hb⟩; obtain ⟨bA, bc, rfl, _, _, _⟩ := hOb.shape; obtain ⟨gb, rfl, _, _, _, hcc⟩ := hOb.cells (f := rowW) (k := 3) (fun _ => rfl) rfl (by simp); have z0 : xa.cell? ⟨gb, 0, none⟩ = some (.int .i64 tu) := hcc 0 (by simp) 0 _ rfl; have z1 : xa.cell? ⟨gb, 1, none⟩ = some (.slice rA rn rc) := hcc 0 (by simp) 1 _ rfl; have z2 : xa.cell? ⟨gb, 2, none⟩ = some (.int .i64 tx) := hcc 0 (by simp) 2 _ rfl; (first | replace K2 := Lib.hid (bt (below_drew (bt K2.out (ba _ _))) hb) | replace K2 := Lib.hid (bt (bt K2.out (ba _ _)) hb)); clear hb hOb hcc; simp only [List.length_cons, List.length_nil]; obtain ⟨pa0, pa1, pa2, _, _, _⟩ := C9.out xa K2.out)
                    | (go_simp; go_at_call 24; refine (same_yes tu (sA, sn, sc) (rA, rn, rc) tx tp _ (V9.out.2.1.later (by first | exact K2.out | exact below_drew K2.out)) (V9.out.2.2.later (by first | exact K2.out | exact below_drew K2.out))).mono ?_; rintro e xb ⟨rfl, hb⟩; (first | replace K2 := Lib.hid (bt K2.out hb) | replace K2 := Lib.hid (bt (below_drew K2.out) hb)); clear hb))
                  all_goals go_wp2
                  all_goals go_roundw
                  all_goals first
                    | (simp [intOf]; omega)
                    | exact ⟨j + 1, by omega, by omega, by go_num, bt V9.out.1 K2.out⟩
                · obtain rfl : j = (nn : Int) + 1 := by omega
                  have V := Lib.hid hbj; clear hbj
                  go_wp2
                  go_roundw
                  case rel => exact ⟨k + 1, T5, by omega, by omega, by go_num, Z5.out.2, Z5.out.1.later V.out⟩
                  case measure => simp [intOf]; omega
      · obtain rfl : k = 50 := by omega
        have M := Lib.hid hbw; clear hbw hT
        go_wp2
        go_ret
        exact ⟨rfl, M.out⟩
    · obtain rfl : k = L.length := by omega
      have M := Lib.hid hbw; clear hbw hT
      go_wp2
      go_ret
      exact ⟨rfl, M.out⟩
end Go.Proofs.Yticjfhagpmlieaa
