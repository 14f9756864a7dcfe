/- HoldSorted: what is held is all that was added, sorted; what is alike stands as it was added. -/
import Derived.Test.YticjfhagpmlieaaHoS
namespace Go.Proofs.Yticjfhagpmlieaa
open Go.ChangeShapes Go.WideShapes Go.ChangeAt Go.RowKit
open Ho
set_option linter.unusedVariables false
set_option linter.unusedSimpArgs false

theorem Rk_cases {a b : D} (h : Rk a b) : (a.1 < b.1) ∨ (a.1 = b.1 ∧ ordP a.2.1 b.2.1 < 0) ∨ (a.1 = b.1 ∧ ordP a.2.1 b.2.1 = 0 ∧ a.2.2 < b.2.2) := by
  unfold Rk kc kk at h
  simp only at h
  by_cases h0 : cmpI a.1 b.1 = 0
  · have e := (c3I.zero _ _).1 h0
    rw [if_pos h0] at h
    rcases h with h | h
    · exact Or.inr (Or.inl ⟨e, h⟩)
    · exact Or.inr (Or.inr ⟨e, h⟩)
  · rw [if_neg h0] at h
    left
    unfold cmpI at h h0
    repeat' split at h
    all_goals omega
/-- The acts that a law has copied and numbered. -/
structure Own4 (w W : World) (v : Value) (L : List Ac) : Prop where
  row : Own W w.heap.size 32 4 rowAc v L
  ok : ∀ a ∈ L, AcOk W a
theorem Own4.later {w W W' : World} {v : Value} {L : List Ac} (h : Own4 w W v L) (hb : Below W.heap.size W W') : Own4 w W' v L := ⟨h.row.later hb, fun a ha => (h.ok a ha).later hb⟩
set_option maxRecDepth 20000 in
set_option maxHeartbeats 8000000 in
theorem walk_HoldSorted (v0 : Value) (L : List Ac) (w : World) (h0 : ActsR w v0 L) (b0 : L.length * 48 ≤ 140737488355328 ∧ ∀ a ∈ L, Fit a.p) :
    Calls Try.prog 4 #[v0] w fun e w' => e = .returned (.bool true) ∧ Below w.heap.size w w' := by
  obtain ⟨j0, hj, hy0, hy1, hy2⟩ := info_parts (P := Try.prog) (e := 32) (z := .agg #[.int .u8 0, .int .i64 0, .slice none 0 0, .int .i64 0]) (size := 4) (bytes := 48) (by kernel_rfl)
  obtain ⟨j1, hk, hk0, hk1, hk2⟩ := info_parts (P := Try.prog) (e := 4) (z := .bool false) (size := 1) (bytes := 1) (by kernel_rfl)
  have hA := h0.ok b0.2
  obtain ⟨A, c, rfl, a1, a2, _⟩ := hA.1.shape
  obtain ⟨m, hm⟩ : ∃ m, m = min L.length 30 := ⟨_, rfl⟩
  obtain ⟨L', hL'⟩ : ∃ L', L' = numd L L.length := ⟨_, rfl⟩
  have hL'l : L'.length = L.length := by rw [hL', numd_len]
  have hL'x : ∀ j (h : j < L'.length), (L'[j]'h).x = (j : Int) := fun j h => by
    have hj : j < L.length := by rw [← hL'l]; exact h
    have := numd_get L L.length j hj (by rw [numd_len]; exact hj)
    simp only [hL', this, if_pos hj]; rfl
  obtain ⟨T, hT⟩ : ∃ T, T = flk L' m := ⟨_, rfl⟩
  have hTl : T.length = m := by rw [hT]; exact flk_len L' m (by omega)
  have hm30 : m ≤ 30 := by omega
  have hmL : m ≤ L.length := by omega
  have hall := flk_all L' hL'x m (by omega)
  rw [← hT] at hall
  have hmin : (if (30 : Int) < (L.length : Int) then (30 : Int) else (L.length : Int)) = (m : Int) := by split <;> omega
  have hLm : L.length ≤ 9223372036854775807 := by omega
  have hLx : L.length ≤ maxLen := by unfold maxLen; omega
  have hok : ∀ a ∈ L', AcR w a ∧ Fit a.p := fun a ha => by
    obtain ⟨j, hjl, rfl⟩ := List.getElem_of_mem ha
    have hj' : j < L.length := by rw [← hL'l]; exact hjl
    have e : L'[j]'hjl = numb (L[j]'hj') j := by
      have := numd_get L L.length j hj' (by rw [numd_len]; exact hj')
      simp only [hL', this, if_pos hj']
    rw [e]
    have h1 := h0.2 _ (List.getElem_mem hj')
    exact ⟨⟨h1.k, by show (-9223372036854775808 : Int) ≤ (j : Int) ∧ (j : Int) ≤ 9223372036854775807; omega, h1.u, h1.pts⟩, show Fit (L[j]'hj').p from b0.2 _ (List.getElem_mem hj')⟩
  have cF : ∀ W v, Below w.heap.size w W → At W 4 rowAc v L' → Calls Try.prog 25 #[v] W (fun e w' => ∃ d, (e = .returned (.pointer (some ⟨d, 0, none⟩)) ∧ HX (fun _ => False) w' W.heap.size d T) ∧ Below W.heap.size W w') := fun W v hW hv => by
    have := filled_any v L' W ⟨hv, fun a ha => ⟨(hok a ha).1.k, (hok a ha).1.x, (hok a ha).1.pts.later hW, (hok a ha).2⟩⟩
    unfold FilP at this
    rw [hL'l, ← hm, ← hT] at this
    exact this
  have H := Lib.hid (And.intro cF (And.intro hTl (And.intro hm30 (And.intro hmL (And.intro hall (And.intro hok (And.intro hL'l (And.intro hL' (And.intro hA (And.intro hLx (And.intro b0.1 hL'x)))))))))))
  clear cF h0 hTl hT hm hall hok hL'l hL' hA b0 hLx hL'x a1 a2
  go_enter Try.func4, Try.ntmps4
  go_wp2_with fail
  go_at_call 8
  ((with_reducible refine (examples_any _).mono ?_); rintro e x1 ⟨rfl, bx1⟩)
  have B1 := Lib.hid bx1; clear bx1
  go_wp2_with (at_builtin; refine wpList_append_at _ rfl (.const (.slice none 0 0)) (.tmp 18) 22 rfl w.heap.size 32 j0 (.agg #[.int .u8 0, .int .i64 0, .slice none 0 0, .int .i64 0]) 4 48 Try.underlying22 hj hy0 hy1 hy2 rfl (by decide) (f := rowAc) (fun _ => rfl) (fun x => by simp [Value.oneCell']) (.slice none 0 0) [] rfl (Own.nil _ _ _ _ _) A L.length c L rfl rfl (H.out.2.2.2.2.2.2.2.2.1.1.later B1.out) (by have := H.out.2.2.2.2.2.2.2.2.2.1; simpa using this) (by have := H.out.2.2.2.2.2.2.2.2.2.2.1; simpa using this) B1.out.size ?_; intro v5 w5 hO5 hg5; have Z5 := Lib.hid (And.intro hO5 (grownBy_below (B := w.heap.size) hg5 B1.out.size (by intro k hk; simp [Value.ownBlock] at hk))); clear hO5 hg5)
  have hO5 : Own w5 w.heap.size 32 4 rowAc v5 L := by have := Z5.out.1; rwa [List.nil_append] at this
  obtain ⟨A5, c5, rfl, _, _, _⟩ := hO5.shape
  have K := Lib.hid (And.intro hO5 (B1.out.trans Z5.out.2)); clear hO5 Z5 B1
  go_loopw [5] (fun iv wr => ∃ k : Nat, k ≤ L.length ∧ iv = .int .i64 (k : Int) ∧ Own wr w.heap.size 32 4 rowAc (.slice A5 L.length c5) (numd L k) ∧ Below w.heap.size w wr) (fun iv _ => L.length - (intOf iv).toNat)
  case atStart => exact ⟨0, Nat.zero_le _, rfl, by rw [numd_zero]; exact K.out.1, K.out.2⟩
  case round =>
    clear K
    obtain ⟨k, hk', rfl, hO, hb⟩ := hrel
    by_cases hlt : k < L.length
    · have hkl : k < (numd L k).length := by rw [numd_len]; exact hlt
      obtain ⟨g, rfl, hg1, hg2, hgf, hc⟩ := hO.cells (f := rowAc) (k := 4) (fun _ => rfl) rfl (by omega)
      obtain ⟨xx, x3⟩ : ∃ xx, wr.cell? ⟨g, k * 4 + 3, none⟩ = some (.int .i64 xx) := ⟨_, hc k hkl 3 _ rfl⟩
      have p1 := hO.put (f := rowAc) (k := 4) (fun _ => rfl) k hkl (i := 3) (by decide) (x := numb (L[k]'hlt) k) (u := .int .i64 (k : Int)) (by rw [numd_at L k hlt hkl]; rfl)
      rw [numd_set L k hlt] at p1
      have N := Lib.hid (And.intro p1 (hb.setCell (p := ⟨g, k * 4 + 3, none⟩) hg1 (.int .i64 (k : Int)))); clear p1 hb hc hO hkl
      go_wp2
      go_roundw
      case rel => exact ⟨k + 1, by omega, by go_num, N.out.1, N.out.2⟩
      case measure => simp [intOf]; omega
    · obtain rfl : k = L.length := by omega
      rw [← H.out.2.2.2.2.2.2.2.1] at hO
      have K := Lib.hid (And.intro hO hb); clear hO hb
      go_wp2_with fail
      go_at_call 25
      refine (H.out.1 _ _ K.out.2 (Own.at_ (f := rowAc) (k := 4) (fun _ => rfl) K.out.1)).mono ?_
      rintro e x2 ⟨d, ⟨rfl, hX⟩, bx2⟩
      have K2 := Lib.hid (And.intro hX (And.intro (K.out.1.later bx2) (K.out.2.trans (bx2.mono K.out.2.size)))); clear hX bx2 K
      have cL := Len_any _ _ _ _ _ K2.out.1
      rw [H.out.2.1] at cL
      have CL := Lib.hid cL; clear cL
      have e1 : ((m : Int) != (m : Int)) = false := by simp
      have hmx : m ≤ 9223372036854775807 := by omega
      go_wp2_with fail
      try go_at_call 21
      refine (CL.out).mono ?_
      rintro e x3 ⟨rfl, bx3⟩
      have K3 := Lib.hid (And.intro (K2.out.1.later bx3) (And.intro (K2.out.2.1.later bx3) (K2.out.2.2.trans (bx3.mono K2.out.2.2.size)))); clear bx3 K2 CL
      go_wp2_with (refine wpList_make_row _ rfl _ _ 55 rfl 4 j1 (.bool false) Try.underlying55 hk hk0 hk1 rfl .i64 .i64 m rfl rfl (by rw [hk2]; omega) hmx ?_)
      have hM := own_made x3 m (by unfold maxLen; omega)
      rw [← metL_zero m T] at hM
      have bM := ba x3 (.cells (madeCells #[.bool false] m) 4)
      have K4 := Lib.hid (And.intro (K3.out.1.later bM) (And.intro (K3.out.2.1.later bM) (And.intro (K3.out.2.2.trans (bM.mono K3.out.2.2.size)) (And.intro (hM.lift K3.out.2.2.size) K3.out.2.2.size)))); clear hM K3 bM
      go_loopw [9] (fun iv wq => ∃ i : Nat, i ≤ m ∧ iv = .int .i64 (i : Int) ∧ HX (fun _ => False) wq wr.heap.size d T ∧ Own wq w.heap.size 32 4 rowAc (.slice A5 L.length c5) L' ∧ Below w.heap.size w wq ∧ Own wq w.heap.size 4 1 rowZ (.slice (some ⟨x3.heap.size, 0, none⟩) m m) (metL m T i)) (fun iv _ => m - (intOf iv).toNat)
      case atStart => exact ⟨0, Nat.zero_le _, rfl, K4.out.1, K4.out.2.1, K4.out.2.2.1, K4.out.2.2.2.1⟩
      case round =>
        rename World => wq
        obtain ⟨i, hi, rfl, hX, hO, hb, hM⟩ := hrel
        by_cases hlt : i < m
        · have hiT : i < T.length := by rw [H.out.2.1]; exact hlt
          obtain ⟨j, hjl, hjm, he⟩ := H.out.2.2.2.2.1.1 _ (List.getElem_mem hiT)
          have hjI : j < (metL m T i).length := by rw [metL_len]; exact hjm
          have hd2 : ∀ a ∈ T, ∀ b ∈ T, a.2.2 = b.2.2 → a = b := fun a ha b hb e => by
            obtain ⟨ja, hja, _, rfl⟩ := H.out.2.2.2.2.1.1 a ha
            obtain ⟨jb, hjb, _, rfl⟩ := H.out.2.2.2.2.1.1 b hb
            have e1 : (L'[ja]'hja).x = (L'[jb]'hjb).x := e
            rw [H.out.2.2.2.2.2.2.2.2.2.2.2 ja hja, H.out.2.2.2.2.2.2.2.2.2.2.2 jb hjb] at e1
            have : ja = jb := by omega
            subst this; rfl
          have hxj : (T[i]'hiT).2.2 = (j : Int) := by rw [he]; exact H.out.2.2.2.2.2.2.2.2.2.2.2 j hjl
          have hno := metL_no m T i j hiT hxj H.out.2.2.2.2.1.2 hd2 hjI
          have hset := metL_set m T i j hiT hjm hxj
          obtain ⟨gm, hgm, hgm1, hgm2, hgmf, hcm⟩ := hM.cells (f := rowZ) (k := 1) (fun _ => rfl) rfl (by omega)
          obtain rfl : x3.heap.size = gm := by simpa using hgm
          have m0 := hcm j hjI 0 _ rfl
          rw [hno] at m0
          rw [Nat.mul_one, Nat.add_zero] at m0
          obtain ⟨ga, hga, _, hga2, _, hca⟩ := hO.cells (f := rowAc) (k := 4) (fun _ => rfl) rfl (by omega)
          subst hga
          have q0 := hca j hjl 0 _ rfl
          rw [Nat.add_zero] at q0
          have q1 := hca j hjl 1 _ rfl
          have q2 := hca j hjl 2 _ rfl
          have q3 := hca j hjl 3 _ rfl
          have hokj := (H.out.2.2.2.2.2.1 _ (List.getElem_mem hjl)).1.pts
          have he' : T[i]'hiT = ((L'[j]'hjl).u, (L'[j]'hjl).p, (j : Int)) := by
            rw [he]; unfold Ac.d; rw [H.out.2.2.2.2.2.2.2.2.2.2.2 j hjl]
          rw [H.out.2.2.2.2.2.2.2.2.2.2.2 j hjl] at q3
          have cA : ∀ W, Below wq.heap.size wq W → Calls Try.prog 22 #[.pointer (some ⟨d, 0, none⟩), .int .i64 (i : Int)] W (AtY (T[i]'hiT) W) := fun W hW => At_in _ _ d T i hiT W (hX.later hW)
          rw [he'] at cA
          have HK := Lib.hid (And.intro he' (And.intro hokj hset)); clear he' hokj hset he hd2 hno hcm hca hxj
          generalize L'[j]'hjl = aj at *
          obtain ⟨ak, au, ⟨aA, an, ac⟩, ax, ap⟩ := aj
          simp only at q0 q1 q2 q3 cA HK
          have N := Lib.hid (And.intro cA (And.intro hX (And.intro hO (And.intro hb (And.intro hM (And.intro q0 (And.intro q1 (And.intro q2 (And.intro q3 m0))))))))); clear cA hX hO hb hM q0 q1 q2 q3 m0 hga2 hgm2 hgmf
          have t1 : ¬ (j : Int) < 0 := by omega
          have t2 : decide ((j : Int) < 0) = false := decide_eq_false t1
          have t3 : ¬ (m : Int) ≤ (j : Int) := by omega
          have t4 : decide ((m : Int) ≤ (j : Int)) = false := decide_eq_false t3
          have t5 : (j : Int) < (m : Int) := by omega
          have t6 : j < L.length := by omega
          have t7 : (j : Int) < (L.length : Int) := by omega
          have t8 : (0 : Int) ≤ (j : Int) := by omega
          have t9 : decide (m ≤ j) = false := decide_eq_false (by omega)
          have t10 : ¬ m ≤ j := by omega
          go_wp2_with fail
          try go_at_call 22
          refine (N.out.1 _ (Below.refl _ _)).mono ?_
          rintro e y1 ⟨⟨sA, sn, sc⟩, ⟨rfl, hS1⟩, by1⟩
          obtain ⟨W1, hW1⟩ : ∃ W1, W1 = y1.alloc (.cells #[.int .i64 au, .slice sA sn sc, .int .i64 (j : Int)] 35) := ⟨_, rfl⟩
          have bW2 : Below y1.heap.size y1 W1 := by rw [hW1]; exact ba _ _
          have bW1 : Below wq.heap.size wq W1 := bt by1 bW2
          have gW1 : Blk W1 y1.heap.size 35 #[.int .i64 au, .slice sA sn sc, .int .i64 (j : Int)] := by rw [hW1]; exact Blk.new _ _ _
          have M1 := Lib.hid (And.intro bW1 (And.intro gW1 (hS1.later bW2))); clear bW1 gW1 hS1 by1 bW2
          have old : ∀ {a : Addr} {v : Value}, wq.cell? a = some v → W1.cell? a = some v := fun h => by rw [M1.out.1.cell (World.block_lt_of_cell? wq _ h)]; exact h
          have z0 := fun d os => cell_regrown M1.out.2.1.three.1 d os
          have z1 := fun d os => cell_regrown M1.out.2.1.three.2.1 d os
          have z2 := fun d os => cell_regrown M1.out.2.1.three.2.2 d os
          have q0 := fun d os => cell_regrown (old N.out.2.2.2.2.2.1) d os
          have q1 := fun d os => cell_regrown (old N.out.2.2.2.2.2.2.1) d os
          have q2 := fun d os => cell_regrown (old N.out.2.2.2.2.2.2.2.1) d os
          have q3 := fun d os => cell_regrown (old N.out.2.2.2.2.2.2.2.2.1) d os
          have m0 := fun d os => cell_regrown (old N.out.2.2.2.2.2.2.2.2.2) d os
          clear old
          have cS : ∀ W, Below W1.heap.size W1 W → Calls Try.prog 24 #[waitV au (sA, sn, sc) (j : Int), waitV au (aA, an, ac) (j : Int)] W fun e w' => e = .returned (.bool true) ∧ Below W.heap.size W w' := fun W hW => same_yes au _ _ _ ap W (M1.out.2.2.pts.later hW) ((HK.out.2.1.later (N.out.2.2.2.1.trans (M1.out.1.mono N.out.2.2.2.1.size))).later hW)
          have CS := Lib.hid cS; clear cS
          go_wp2_with fail
          rw [← hW1]
          clear hW1
          refine wp_region_quiet_below (by kernel_rfl) (by kernel_rfl) ?_
          repeat (go_big_quiet_step (first | (go_at_call 11; exact Calls.regrown_of (wait_any ak au (aA, an, ac) (j : Int) _)) | (go_at_call 24; exact Calls.regrown_of (CS.out _ (below_regrown _ _ _)))))
          refine wpQuiet_nil ?_
          intro wk hw'
          have bk : Below W1.heap.size W1 wk := by obtain ⟨p, rfl⟩ := hw'; exact below_regrown _ _ _
          clear hw' z0 z1 z2 q0 q1 q2 q3 m0 CS
          have bqk := bt M1.out.1 bk
          have gk := M1.out.2.1.later bk
          have mk := N.out.2.2.2.2.1.later bqk
          obtain ⟨gm, hgm, hgm1, hgm2, hgmf, hcm⟩ := mk.cells (f := rowZ) (k := 1) (fun _ => rfl) rfl (by rw [metL_len]; omega)
          obtain rfl : x3.heap.size = gm := by simpa using hgm
          obtain ⟨bb, m0⟩ : ∃ bb, wk.cell? ⟨x3.heap.size, j, none⟩ = some (.bool bb) := ⟨_, by have := hcm j (by rw [metL_len]; exact hjm) 0 _ rfl; rwa [Nat.mul_one, Nat.add_zero] at this⟩
          have z2 := gk.cell 2
          obtain ⟨cs, hcs⟩ := (mk.block (g := x3.heap.size) rfl).2
          have mput := mk.put (f := rowZ) (k := 1) (fun _ => rfl) j (by rw [metL_len]; exact hjm) (i := 0) (by decide) (x := true) (u := .bool true) rfl
          rw [HK.out.2.2, Nat.mul_one, Nat.add_zero] at mput
          have Wk : ∃ Wk, Wk = wk.setCell ⟨x3.heap.size, j, none⟩ (.bool true) := ⟨_, rfl⟩
          obtain ⟨Wk, hWk⟩ := Wk
          rw [← hWk] at mput
          have hXk : HX (fun _ => False) Wk wr.heap.size d T := by rw [hWk]; exact (N.out.2.1.later bqk).dset hcs (by decide) (by decide) (by decide) (by decide) j (.bool true)
          have hOk : Own Wk w.heap.size 32 4 rowAc (.slice (some ⟨ga, 0, none⟩) L.length c5) L' := by rw [hWk]; exact (N.out.2.2.1.later bqk).dset hcs (by decide) j (.bool true)
          have hbk : Below w.heap.size w Wk := by rw [hWk]; exact (N.out.2.2.2.1.trans (bqk.mono N.out.2.2.2.1.size)).setCell (p := ⟨x3.heap.size, j, none⟩) K4.out.2.2.2.2 _
          have gk2 : Blk Wk y1.heap.size 35 #[.int .i64 au, .slice sA sn sc, .int .i64 (j : Int)] := by
            rw [hWk]
            exact gk.far (p := ⟨x3.heap.size, j, none⟩) (fun e => by
              have e' : y1.heap.size = x3.heap.size := e
              rw [e'] at gk
              have := gk.symm.trans hcs
              simp at this) _
          have hSk : PtsO Wk wq.heap.size (sl (sA, sn, sc)) ap := by rw [hWk]; exact (M1.out.2.2.later bk).dset hcs (by decide) (by decide) j (.bool true)
          have P := Lib.hid (And.intro mput (And.intro hXk (And.intro hOk (And.intro hbk (And.intro gk2 hSk))))); clear mput hXk hOk hbk gk2 hSk mk gk bqk bk hcm hcs
          by_cases hi0 : i = 0
          · have e0 : ((i : Int) == 0) = true := by rw [hi0]; rfl
            have e1 : (i : Int) = 0 := by omega
            have HI := Lib.hid e1; clear e1 hi0
            go_wp2
            go_roundw
            case rel => exact ⟨i + 1, by omega, by go_num, by rw [← hWk]; exact P.out.2.1, by rw [← hWk]; exact P.out.2.2.1, by rw [← hWk]; exact P.out.2.2.2.1, by rw [← hWk]; exact P.out.1⟩
            case measure => simp [intOf]; omega
          · obtain ⟨q, rfl⟩ : ∃ q, i = q + 1 := ⟨i - 1, by omega⟩
            have e0 : (((q + 1 : Nat) : Int) == 0) = false := by rw [beq_eq_false_iff_ne]; omega
            have e2 : ((q + 1 : Nat) : Int) - 1 = (q : Int) := by omega
            have e3 : IntKind.i64.wrap (((q + 1 : Nat) : Int) - 1) = (q : Int) := by rw [e2]; exact IntWalk.i64_in _ (by omega)
            have hqT : q < T.length := by omega
            have hR := Rk_cases ((List.pairwise_iff_getElem.1 H.out.2.2.2.2.1.2) q (q + 1) hqT hiT (by omega))
            rw [HK.out.1] at hR
            have cB : ∀ W, Below Wk.heap.size Wk W → Calls Try.prog 22 #[.pointer (some ⟨d, 0, none⟩), .int .i64 (q : Int)] W (AtY (T[q]'hqT) W) := fun W hW => At_in _ _ d T q hqT W (P.out.2.1.later hW)
            have HQ := Lib.hid e2; clear e2
            generalize T[q]'hqT = t at *
            obtain ⟨tu, tp, tx⟩ := t
            simp only at hR
            have CB := Lib.hid cB; clear cB
            obtain ⟨ov, hov⟩ : ∃ ov, ov = ordP tp ap := ⟨_, rfl⟩
            rcases hR with hR | hR | hR
            · have f1 : ¬ au < tu := by omega
              have f2 : decide (au < tu) = false := decide_eq_false f1
              have f3 : (tu == au) = false := by rw [beq_eq_false_iff_ne]; omega
              go_wp2_with fail
              try go_at_call 22
              rw [← hWk]
              refine (CB.out _ (Below.refl _ _)).mono ?_
              rintro e y5 ⟨⟨tA, tn, tc⟩, ⟨rfl, hS5⟩, by5⟩
              obtain ⟨W5, hW5⟩ : ∃ W5, W5 = y5.alloc (.cells #[.int .i64 tu, .slice tA tn tc, .int .i64 tx] 35) := ⟨_, rfl⟩
              have b5 : Below Wk.heap.size Wk W5 := by rw [hW5]; exact bt by5 (ba _ _)
              have g5 : Blk W5 y5.heap.size 35 #[.int .i64 tu, .slice tA tn tc, .int .i64 tx] := by rw [hW5]; exact Blk.new _ _ _
              have cO := order_any _ _ tp ap W5 ((hS5.later (by rw [hW5]; exact ba y5 _)).pts) ((P.out.2.2.2.2.2.later b5).pts)
              rw [← hov] at cO
              have R := Lib.hid (And.intro cO (And.intro b5 (And.intro g5 (P.out.2.2.2.2.1.later b5)))); clear cO b5 g5 hS5 by5
              obtain ⟨z0, z1, z2⟩ := R.out.2.2.1.three
              obtain ⟨z3, z4, z5⟩ := R.out.2.2.2.three
              rw [hW5] at z0 z1 z2 z3 z4 z5
              have HO := Lib.hid hov; clear hov
              go_wp2_with fail
              try go_at_call 26
              rw [← hW5]
              refine (R.out.1).mono ?_
              rintro e w6 ⟨rfl, b6⟩
              clear z0 z1 z2 z3 z4 z5
              obtain ⟨z0, z1, z2⟩ := (R.out.2.2.1.later b6).three
              obtain ⟨z3, z4, z5⟩ := (R.out.2.2.2.later b6).three
              have S := Lib.hid (bt R.out.2.1 b6); clear b6
              go_wp2
              go_roundw
              case rel => exact ⟨q + 1 + 1, by omega, by go_num, P.out.2.1.later S.out, P.out.2.2.1.later S.out, P.out.2.2.2.1.trans (S.out.mono P.out.2.2.2.1.size), P.out.1.later S.out⟩
              case measure => simp [intOf]; omega
            · obtain ⟨hu, ho⟩ := hR
              subst hu
              rw [← hov] at ho
              have f1 : ¬ tu < tu := by omega
              have f2 : decide (tu < tu) = false := decide_eq_false f1
              have f3 : (tu == tu) = true := by simp
              have f4 : ¬ 0 < ov := by omega
              have f5 : decide (0 < ov) = false := decide_eq_false f4
              have f6 : (ov == 0) = false := by rw [beq_eq_false_iff_ne]; omega
              clear ho
              go_wp2_with fail
              try go_at_call 22
              rw [← hWk]
              refine (CB.out _ (Below.refl _ _)).mono ?_
              rintro e y5 ⟨⟨tA, tn, tc⟩, ⟨rfl, hS5⟩, by5⟩
              obtain ⟨W5, hW5⟩ : ∃ W5, W5 = y5.alloc (.cells #[.int .i64 tu, .slice tA tn tc, .int .i64 tx] 35) := ⟨_, rfl⟩
              have b5 : Below Wk.heap.size Wk W5 := by rw [hW5]; exact bt by5 (ba _ _)
              have g5 : Blk W5 y5.heap.size 35 #[.int .i64 tu, .slice tA tn tc, .int .i64 tx] := by rw [hW5]; exact Blk.new _ _ _
              have cO := order_any _ _ tp ap W5 ((hS5.later (by rw [hW5]; exact ba y5 _)).pts) ((P.out.2.2.2.2.2.later b5).pts)
              rw [← hov] at cO
              have R := Lib.hid (And.intro cO (And.intro b5 (And.intro g5 (P.out.2.2.2.2.1.later b5)))); clear cO b5 g5 hS5 by5
              obtain ⟨z0, z1, z2⟩ := R.out.2.2.1.three
              obtain ⟨z3, z4, z5⟩ := R.out.2.2.2.three
              rw [hW5] at z0 z1 z2 z3 z4 z5
              have HO := Lib.hid hov; clear hov
              go_wp2_with fail
              try go_at_call 26
              rw [← hW5]
              refine (R.out.1).mono ?_
              rintro e w6 ⟨rfl, b6⟩
              clear z0 z1 z2 z3 z4 z5
              obtain ⟨z0, z1, z2⟩ := (R.out.2.2.1.later b6).three
              obtain ⟨z3, z4, z5⟩ := (R.out.2.2.2.later b6).three
              have S := Lib.hid (bt R.out.2.1 b6); clear b6
              go_wp2
              go_roundw
              case rel => exact ⟨q + 1 + 1, by omega, by go_num, P.out.2.1.later S.out, P.out.2.2.1.later S.out, P.out.2.2.2.1.trans (S.out.mono P.out.2.2.2.1.size), P.out.1.later S.out⟩
              case measure => simp [intOf]; omega
            · obtain ⟨hu, ho, hx⟩ := hR
              subst hu
              rw [← hov] at ho
              subst ho
              have f1 : ¬ tu < tu := by omega
              have f2 : decide (tu < tu) = false := decide_eq_false f1
              have f3 : (tu == tu) = true := by simp
              have f7 : ¬ (j : Int) < tx := by omega
              have f8 : decide ((j : Int) < tx) = false := decide_eq_false f7
              go_wp2_with fail
              try go_at_call 22
              rw [← hWk]
              refine (CB.out _ (Below.refl _ _)).mono ?_
              rintro e y5 ⟨⟨tA, tn, tc⟩, ⟨rfl, hS5⟩, by5⟩
              obtain ⟨W5, hW5⟩ : ∃ W5, W5 = y5.alloc (.cells #[.int .i64 tu, .slice tA tn tc, .int .i64 tx] 35) := ⟨_, rfl⟩
              have b5 : Below Wk.heap.size Wk W5 := by rw [hW5]; exact bt by5 (ba _ _)
              have g5 : Blk W5 y5.heap.size 35 #[.int .i64 tu, .slice tA tn tc, .int .i64 tx] := by rw [hW5]; exact Blk.new _ _ _
              have cO := order_any _ _ tp ap W5 ((hS5.later (by rw [hW5]; exact ba y5 _)).pts) ((P.out.2.2.2.2.2.later b5).pts)
              rw [← hov] at cO
              have R := Lib.hid (And.intro cO (And.intro b5 (And.intro g5 (P.out.2.2.2.2.1.later b5)))); clear cO b5 g5 hS5 by5
              obtain ⟨z0, z1, z2⟩ := R.out.2.2.1.three
              obtain ⟨z3, z4, z5⟩ := R.out.2.2.2.three
              rw [hW5] at z0 z1 z2 z3 z4 z5
              have HO := Lib.hid hov; clear hov
              go_wp2_with fail
              try go_at_call 26
              rw [← hW5]
              refine (R.out.1).mono ?_
              rintro e w6 ⟨rfl, b6⟩
              clear z0 z1 z2 z3 z4 z5
              obtain ⟨z0, z1, z2⟩ := (R.out.2.2.1.later b6).three
              obtain ⟨z3, z4, z5⟩ := (R.out.2.2.2.later b6).three
              have S := Lib.hid (bt R.out.2.1 b6); clear b6
              go_wp2
              go_roundw
              case rel => exact ⟨q + 1 + 1, by omega, by go_num, P.out.2.1.later S.out, P.out.2.2.1.later S.out, P.out.2.2.2.1.trans (S.out.mono P.out.2.2.2.1.size), P.out.1.later S.out⟩
              case measure => simp [intOf]; omega
        · obtain rfl : i = m := by omega
          have N := Lib.hid hb; clear hb hX hO hM
          go_wp2
          go_ret
          exact ⟨rfl, N.out⟩
end Go.Proofs.Yticjfhagpmlieaa
