/- MergeSorted: the walk. -/
import Derived.Test.YtcggkbopipnnoaaCount
import Derived.Deep.DeepCutAuto
namespace Go.Proofs.Ytcggkbopipnnoaa
open Go.ChangeShapes Go.WideShapes Go.ChangeAt Go.RowKit
set_option linter.unusedVariables false
set_option linter.unusedSimpArgs false

theorem all_pack (ins : List (List Ev2)) (n : Nat) : ∃ l : List Pr, Mrg.all tmE ins = l ∧ l.length = ins.flatten.length ∧ cnts l n 0 = List.replicate n 0 ∧
    (∀ (i : Nat) (hi : i < l.length), ∃ (k : Nat) (hk : k < ins.length) (c : Nat) (hc : c < (ins[k]'hk).length), (l[i]'hi).1 = (k : Int) ∧ c = (Mrg.one (k : Int) (l.take i)).length ∧ (l[i]'hi).2 = (ins[k]'hk)[c]'hc) ∧
    (∀ (k : Nat) (hk : k < ins.length), (Mrg.one (k : Int) l).length = (ins[k]'hk).length) ∧
    ((∀ L ∈ ins, Rises 100 L) → ∀ (i : Nat) (hi : i + 1 < l.length), Mrg.lex tmE (l[i]'(by omega)) (l[i + 1]'hi)) :=
  ⟨_, rfl, all_total, cnts_zero _ _, fun i hi => all_next i hi, fun k hk => all_count k hk, fun h i hi => all_lex h i hi⟩
theorem cell_addr {w : World} {g o : Nat} {v : Value} (h : w.cell? ⟨g, o, none⟩ = some v) : w.cell? ((⟨g, 0, none⟩ : Addr).add o) = some v := by rw [addr_pl]; simpa using h
set_option maxRecDepth 20000 in
set_option maxHeartbeats 4000000 in
theorem walk_MergeSorted (v : Value) (ll : List (List UInt8)) (rise : Bool) (w : World) (hv : ∃ vs, At w 1 slc v vs ∧ Ats w 1 rowB vs ll) (hn : ∀ L ∈ ll, L.length ≤ 140737488355328) :
    Calls Try.prog 4 #[v, .bool rise] w fun e w' => e = .returned (.bool true) ∧ Below w.heap.size w w' := by
  obtain ⟨vs, hv, hE⟩ := hv
  obtain ⟨i0, hi, hz0, hz1, hz2⟩ := info_parts (P := Try.prog) (e := 3) (z := .int .i64 0) (size := 1) (bytes := 8) (by kernel_rfl)
  have cI := fun W (h : Below w.heap.size w W) => inputs_any v vs ll rise W (hv.later h) (hE.later h) hn
  obtain ⟨A, c, rfl, _, _, _⟩ := hv.shape
  have H := Lib.hid cI; clear cI hv hE
  go_enter Try.func4, Try.ntmps4
  go_wp2_with (go_at_call 8; ((with_reducible refine (examples_any _).mono ?_); rintro e w0 ⟨rfl, b0⟩; have HB := Lib.hid b0; clear b0))
  go_at_call 14
  ((with_reducible refine (H.out _ HB.out).mono ?_); rintro e w1 ⟨u1, us, ins, ⟨rfl, hO1, hE1, hl4, hI1⟩, b1⟩)
  have hfl : ins.flatten.length ≤ 24 := by have := ins_total (ins := ins) (fun L hL => (hI1 L hL).1); omega
  have hul := hE1.1
  have cA := All_any u1 us ins w1 (Own.at_ (f := slc) (k := 1) (fun _ => rfl) hO1) (Each.ats (f := rowE) (k := 2) (fun _ => rfl) hE1) (by omega) (by omega)
  obtain ⟨A1, n1, c1, rfl⟩ := own_shape hO1
  have hsh := hO1.shape
  obtain ⟨_, _, he1, _, _, _⟩ := hsh
  obtain rfl : n1 = us.length := by simpa using (by simpa using he1 : _ ∧ n1 = us.length ∧ _).2.1
  have K := Lib.hid (And.intro hO1 (And.intro hE1 (And.intro hI1 (And.intro (bt HB.out b1) cA)))); clear hO1 hE1 hI1 b1 cA he1
  have hul4 : us.length ≤ 4 := by omega
  have HU := Lib.hid hul; clear hul
  go_wp2_with fail
  go_at_call 16
  ((with_reducible refine (K.out.2.2.2.2).mono ?_); rintro e w2 ⟨v2, ⟨rfl, hO2⟩, b2⟩)
  obtain ⟨A2, n2, c2, rfl⟩ := own_shape hO2
  obtain ⟨_, _, he2, _, _, _⟩ := hO2.shape
  obtain ⟨l, hl, hlt, hcnt0, hnext, hfin, hlex⟩ := all_pack ins us.length
  rw [hl] at hO2 he2
  clear hl
  obtain rfl : n2 = l.length := (by simpa using he2 : _ ∧ n2 = _ ∧ _).2.1
  have hl24 : l.length ≤ 24 := by omega
  have hl63 : l.length ≤ 9223372036854775807 := by omega
  have k9 := K.out
  replace K := Lib.hid (And.intro hO2 (And.intro (k9.1.later b2) (And.intro (k9.2.1.later b2) (And.intro (k9.2.2.1.later b2) (And.intro (bt k9.2.2.2.1 b2) (And.intro hcnt0 (And.intro hnext (And.intro hfin (And.intro hlex HU.out))))))))); clear k9 b2 hO2 he2 hcnt0 hnext hfin hlex hlt hfl HU
  go_wp2_with (refine wpList_make_full _ rfl _ _ 57 rfl 0 3 i0 (.int .i64 0) 1 Try.underlying57 hi hz0 hz1 .i64 .i64 _ _ us.length rfl rfl rfl rfl (by rw [hz2]; omega) (by unfold maxLen; omega) (Nat.zero_le _) ?_; intro w3 hO3 hg3)
  have b3 := grownBy_below hg3 (B := w2.heap.size) (Nat.le_refl _) (fun k hk => by simp at hk)
  have hO4 : Own w3 0 3 1 i64c (.slice (some ⟨w2.heap.size, 0, none⟩) us.length us.length) (cnts l us.length 0) := by
    have e : (madeCells (Value.int IntKind.i64 0).cells (us.length * 1)).toList = (cnts l us.length 0).flatMap i64c := by
      rw [show (Value.int IntKind.i64 0).cells = #[.int .i64 0] from rfl, toList_madeCells_one, K.out.2.2.2.2.2.1, Nat.mul_one]
      generalize us.length = n
      induction n with
      | zero => rfl
      | succ n ih => rw [List.replicate_succ, List.replicate_succ, List.flatMap_cons, ← ih]; rfl
    unfold Own
    rw [cnts_len, ← e]; exact hO3
  have hS : St w3 w2.heap.size us.length (.slice A2 l.length c2) (.slice A1 us.length c1) l us ins rise (cnts l us.length 0) := ⟨hO4, K.out.1.later b3, (K.out.2.1.later b3).lift (Nat.zero_le _), K.out.2.2.1.later b3, K.out.2.2.2.1.later b3⟩
  have hgw : w.heap.size ≤ w2.heap.size := K.out.2.2.2.2.1.size
  have KM := Lib.hid K.out.2.2.2.2.2.2
  have KS := Lib.hid (And.intro hS (bt K.out.2.2.2.2.1 b3)); clear hS b3 hg3 hO3 hO4 K
  go_wp2_with fail
  go_loopw [9, 10] (fun iv kv wr => ∃ (i : Nat), i ≤ l.length ∧ iv = .int .i64 i ∧ St wr w2.heap.size us.length (.slice A2 l.length c2) (.slice A1 us.length c1) l us ins rise (cnts l us.length i) ∧ Below w.heap.size w wr) (fun i _ _ => l.length - (intOf i).toNat)
  case atStart => exact ⟨0, Nat.zero_le _, rfl, KS.out.1, KS.out.2⟩
  case round =>
    clear KS
    obtain ⟨i, hi1, rfl, hS, hb⟩ := hrel
    by_cases hlt : i < l.length
    · obtain ⟨k, hk, cc, hc, e1, e2, e3⟩ := KM.out.1 i hlt
      have hstep := cnts_step l us.length i k hlt e1 (by have := KM.out.2.2.2; omega)
      have hcv : (cnts l us.length i)[k]'(by rw [cnts_len]; have := KM.out.2.2.2; omega) = (cc : Int) := by rw [cnts_get, e2]
      rw [← e2] at hstep
      have hul := KM.out.2.2.2
      have hku : k < us.length := by omega
      -- the cells
      obtain ⟨ga, hga, _, _, _, hca⟩ := hS.1.cells (f := i64c) (k := 1) (fun _ => rfl) rfl (by rw [cnts_len]; omega)
      have hga2 : w2.heap.size = ga := by simpa using hga
      rw [← hga2] at hca
      clear hga hga2
      have zA := hca k (by rw [cnts_len]; omega) 0 _ rfl
      rw [hcv, Nat.mul_one, Nat.add_zero] at zA
      obtain ⟨gl, rfl, _, _, _, hcl⟩ := hS.2.1.cells (f := rowP) (k := 3) (fun _ => rfl) rfl (by omega)
      have zL0 := hcl i hlt 0 _ rfl
      have zL1 := hcl i hlt 1 _ rfl
      have zL2 := hcl i hlt 2 _ rfl
      rw [Nat.add_zero] at zL0
      obtain ⟨gi, rfl, _, _, _, hci⟩ := hS.2.2.1.cells (f := slc) (k := 1) (fun _ => rfl) rfl (by omega)
      have zI := hci k hku 0 _ rfl
      rw [Nat.mul_one, Nat.add_zero] at zI
      have hEk := hS.2.2.2.1.2 k hku hk
      have hIk := (hS.2.2.2.2 _ (List.getElem_mem hk)).2.2 _ (List.getElem_mem hc)
      have hlx := fun h hi => KM.out.2.2.1 h (i - 1) hi
      obtain ⟨ul, hule⟩ : ∃ n, n = us.length := ⟨_, rfl⟩
      generalize us[k]'hku = sk at *
      obtain ⟨B, nb, cb⟩ := sk
      obtain ⟨_, cb', heb, _, _, _⟩ := hEk.shape
      obtain ⟨rfl, rfl, rfl⟩ : B = _ ∧ nb = (ins[k]'hk).length ∧ cb = cb' := by simpa [sl] using heb
      obtain ⟨ge, rfl, _, _, _, hce⟩ := hEk.cells (f := rowE) (k := 2) (fun _ => rfl) rfl (by omega)
      have zE0 := hce cc hc 0 _ rfl
      have zE1 := hce cc hc 1 _ rfl
      rw [Nat.add_zero, ← e3] at zE0
      rw [← e3] at zE1 hIk
      have hcn : (cc : Int) < ((ins[k]'hk).length : Int) := by omega
      have hcn2 : cc < (ins[k]'hk).length := hc
      have hcm : (ins[k]'hk).length ≤ 6 := (hS.2.2.2.2 _ (List.getElem_mem hk)).1
      have hpk : (l[i]'hlt).1 = (k : Int) := e1
      clear hca hcl hci hce heb hEk e1 e2 e3 hcv
      have KL := Lib.hid hlx
      clear hlx
      generalize hgen : (ins[k]'hk).length = nk at *
      obtain ⟨p, hp⟩ : ∃ p, p = l[i]'hlt := ⟨_, rfl⟩
      rw [← hp] at zL0 zL1 zL2 zE0 zE1 hIk hpk
      obtain ⟨pi, pt, pA, pn, pc⟩ := p
      replace zL0 : wr.cell? ⟨gl, i * 3, none⟩ = some (.int .i64 (k : Int)) := by rw [zL0]; exact congrArg (fun z => some (Value.int .i64 z)) hpk
      replace zL1 : wr.cell? ⟨gl, i * 3 + 1, none⟩ = some (.int .i64 pt) := zL1
      replace zL2 : wr.cell? ⟨gl, i * 3 + 2, none⟩ = some (.slice pA pn pc) := zL2
      replace zE0 : wr.cell? ⟨ge, cc * 2, none⟩ = some (.int .i64 pt) := zE0
      replace zE1 : wr.cell? ⟨ge, cc * 2 + 1, none⟩ = some (.slice pA pn pc) := zE1
      replace zI : wr.cell? ⟨gi, k, none⟩ = some (.slice (some ⟨ge, 0, none⟩) nk cb) := zI
      have cS := fun W (hb : Below wr.heap.size wr W) => same_one (pt, pA, pn, pc) W (hIk.later hb)
      have KR := Lib.hid (And.intro hS (And.intro hb (And.intro hstep (And.intro cS (And.intro hp (And.intro hpk hgen)))))); clear hS hb hstep cS hp hIk hpk hgen hule hul
      have g1 : decide ((k : Int) < 0) = false := decide_eq_false (by omega)
      have g2 : ¬ (k : Int) < 0 := by omega
      have g3 : decide ((us.length : Int) ≤ (k : Int)) = false := decide_eq_false (by omega)
      have g4 : decide (us.length ≤ k) = false := decide_eq_false (by omega)
      have g5 : decide ((nk : Int) ≤ (cc : Int)) = false := decide_eq_false (by omega)
      have g6 : decide (nk ≤ cc) = false := decide_eq_false (by omega)
      go_wp2_with fail
      have q1 := fun d os => cell_regrown zA d os
      have q2 := fun d os => cell_regrown zL1 d os
      have q3 := fun d os => cell_regrown zL2 d os
      have q4 := fun d os => cell_regrown zI d os
      have q5 := fun d os => cell_regrown zE0 d os
      have q6 := fun d os => cell_regrown zE1 d os
      refine wp_region_quiet_below (by kernel_rfl) (by kernel_rfl) ?_
      repeat (go_big_quiet_step ((go_at_call 19; with_reducible exact Calls.regrown_of (KR.out.2.2.2.1 _ (below_regrown _ _ _)))))
      refine wpQuiet_nil ?_
      intro wq hw'
      have bq : Below wr.heap.size wr wq := by obtain ⟨p, rfl⟩ := hw'; exact below_regrown _ _ _
      clear hw' q1 q2 q3 q4 q5 q6
      have KQ := Lib.hid (And.intro (KR.out.1.later bq) (bt KR.out.2.1 bq))
      replace zA := cell_at zA bq
      clear bq zL0 zL1 zL2 zI zE0 zE1
      obtain ⟨g9, he9, _, _, hfr, _⟩ := KQ.out.1.1.cells (f := i64c) (k := 1) (fun _ => rfl) rfl (by rw [cnts_len]; omega)
      have he8 : w2.heap.size = g9 := by simpa using he9
      rw [← he8] at hfr
      have hf0 := hfr k
      clear he9 he8 hfr
      go_upto_region 14 with fail
      have hput := KQ.out.1.put k ((cc : Int) + 1)
      have bput : Below w.heap.size w (wq.setCell ⟨w2.heap.size, k, none⟩ (.int .i64 ((cc : Int) + 1))) := KQ.out.2.setCell (p := ⟨w2.heap.size, k, none⟩) hgw _
      have KW := Lib.hid (And.intro hput bput)
      clear hput bput zA hf0
      generalize wq.setCell ⟨w2.heap.size, k, none⟩ (.int .i64 ((cc : Int) + 1)) = W3 at *
      cases rise
      · go_quiet (fail)
        go_wp2
        go_roundw
        case rel => exact ⟨i + 1, by omega, by go_num, by rw [KR.out.2.2.1]; exact KW.out.1.later (by first | exact Below.refl _ _ | exact below_drewN (Below.refl _ _) _), by first | exact KW.out.2 | exact below_drewN KW.out.2 _⟩
        case measure => simp [intOf]; omega
      · by_cases hi0 : i = 0
        · have g7 : ¬ (0 : Int) < (i : Int) := by omega
          have g8 : ¬ 0 < i := by omega
          clear hi0
          go_quiet (fail)
          go_wp2
          go_roundw
          case rel => exact ⟨i + 1, by omega, by go_num, by rw [KR.out.2.2.1]; exact KW.out.1.later (by first | exact Below.refl _ _ | exact below_drewN (Below.refl _ _) _), by first | exact KW.out.2 | exact below_drewN KW.out.2 _⟩
          case measure => simp [intOf]; omega
        · have g7 : (0 : Int) < (i : Int) := by omega
          have g8 : 0 < i := by omega
          have hR := fun L hL => (KW.out.1.2.2.2.2 L hL).2.1 rfl
          have hlex := KL.out hR (by omega)
          obtain ⟨gl', hgl, _, _, _, hcl⟩ := KW.out.1.2.1.cells (f := rowP) (k := 3) (fun _ => rfl) rfl (by omega)
          obtain rfl : gl = gl' := by simpa using hgl
          have y0 := hcl (i - 1) (by omega) 0 _ rfl
          have y1 := hcl (i - 1) (by omega) 1 _ rfl
          have y2 := hcl i hlt 1 _ rfl
          rw [Nat.add_zero] at y0
          have hii : i - 1 + 1 = i := by omega
          simp only [hii] at hlex
          rw [← KR.out.2.2.2.2.1] at y2 hlex
          generalize l[i - 1]'(by omega) = r at *
          obtain ⟨ri, rt, rs⟩ := r
          replace y0 : W3.cell? ⟨gl, (i - 1) * 3, none⟩ = some (.int .i64 ri) := y0
          replace y1 : W3.cell? ⟨gl, (i - 1) * 3 + 1, none⟩ = some (.int .i64 rt) := y1
          replace y2 : W3.cell? ⟨gl, i * 3 + 1, none⟩ = some (.int .i64 pt) := y2
          have hlex2 : rt < pt ∨ rt = pt ∧ ri < (k : Int) := by
            have := KR.out.2.2.2.2.2.1
            unfold Mrg.lex tmE at hlex
            simp only at hlex this
            rw [this] at hlex; exact hlex
          clear hlex hR hcl hgl hii
          have f1 : IntKind.i64.wrap ((i : Int) - 1) = (i : Int) - 1 := IntWalk.i64_in _ (by omega)
          have f2 : ((i : Int) - 1).toNat = i - 1 := by omega
          have f3 : 0 ≤ (i : Int) - 1 := by omega
          have f4 : (i : Int) - 1 < (l.length : Int) := by omega
          have f5 : 1 ≤ (i : Int) := by omega
          have f6 : (i : Int) < (l.length : Int) := by omega
          rcases hlex2 with hx | ⟨rfl, hx⟩
          · have z1 : decide (pt < rt) = false := decide_eq_false (by omega)
            have z2 : ¬ rt = pt := by omega
            have z3 : (rt == pt) = false := by simpa using z2
            go_quiet (fail)
            go_wp2
            go_roundw
            case rel => exact ⟨i + 1, by omega, by go_num, by rw [KR.out.2.2.1]; exact KW.out.1.later (by first | exact Below.refl _ _ | exact below_drewN (Below.refl _ _) _), by first | exact KW.out.2 | exact below_drewN KW.out.2 _⟩
            case measure => simp [intOf]; omega
          · have z1 : decide ((k : Int) ≤ ri) = false := decide_eq_false (by omega)
            go_quiet (fail)
            go_wp2
            go_roundw
            case rel => exact ⟨i + 1, by omega, by go_num, by rw [KR.out.2.2.1]; exact KW.out.1.later (by first | exact Below.refl _ _ | exact below_drewN (Below.refl _ _) _), by first | exact KW.out.2 | exact below_drewN KW.out.2 _⟩
            case measure => simp [intOf]; omega
    · have hie : i = l.length := by omega
      subst hie
      have hcf : ∀ (k : Nat) (hk : k < us.length), (cnts l us.length l.length)[k]'(by rw [cnts_len]; exact hk) = (((ins[k]'(by rw [← KM.out.2.2.2]; exact hk)).length : Nat) : Int) := fun k hk => by
        rw [cnts_get, List.take_length, KM.out.2.1]
      have KF := Lib.hid (And.intro hS (And.intro hb hcf)); clear hS hb hcf
      go_wp2_with fail
      go_loopw [11] (fun iv wr => ∃ (k : Nat), k ≤ us.length ∧ iv = .int .i64 k ∧ St wr w2.heap.size us.length (.slice A2 l.length c2) (.slice A1 us.length c1) l us ins rise (cnts l us.length l.length) ∧ Below w.heap.size w wr) (fun i _ => us.length - (intOf i).toNat)
      case atStart => exact ⟨0, Nat.zero_le _, rfl, KF.out.1, KF.out.2.1⟩
      case round =>
        obtain ⟨k, hk1, rfl, hS, hb⟩ := hrel
        by_cases hku : k < us.length
        · have hk : k < ins.length := by rw [← KM.out.2.2.2]; exact hku
          have hcv := KF.out.2.2 k hku
          obtain ⟨ga, hga, _, _, _, hca⟩ := hS.1.cells (f := i64c) (k := 1) (fun _ => rfl) rfl (by rw [cnts_len]; omega)
          have hga2 : w2.heap.size = ga := by simpa using hga
          rw [← hga2] at hca
          clear hga hga2
          have zA := hca k (by rw [cnts_len]; omega) 0 _ rfl
          rw [hcv, Nat.mul_one, Nat.add_zero] at zA
          obtain ⟨gi, rfl, _, _, _, hci⟩ := hS.2.2.1.cells (f := slc) (k := 1) (fun _ => rfl) rfl (by omega)
          have zI := hci k hku 0 _ rfl
          rw [Nat.mul_one, Nat.add_zero] at zI
          have hEk := hS.2.2.2.1.2 k hku hk
          generalize us[k]'hku = sk at *
          obtain ⟨B, nb, cb⟩ := sk
          obtain ⟨_, cb', heb, _, _, _⟩ := hEk.shape
          obtain ⟨rfl, rfl, rfl⟩ : B = _ ∧ nb = (ins[k]'hk).length ∧ cb = cb' := by simpa [sl] using heb
          replace zI : wr.cell? ⟨gi, k, none⟩ = some (.slice B (ins[k]'hk).length cb) := zI
          replace zA : wr.cell? ⟨w2.heap.size, k, none⟩ = some (.int .i64 (((ins[k]'hk).length : Nat) : Int)) := zA
          generalize (ins[k]'hk).length = nk at *
          have KR := Lib.hid (And.intro hS hb); clear hS hb hca hci hEk heb hcv
          go_wp2
          go_quiet (fail)
          go_wp2
          go_roundw
          case rel => exact ⟨k + 1, by omega, by go_num, KR.out.1.later (below_drewN (Below.refl _ _) _), below_drewN KR.out.2 _⟩
          case measure => simp [intOf]; omega
        · have KR := Lib.hid hb; clear hS hb
          go_wp2
          go_ret
          exact ⟨rfl, KR.out⟩
end Go.Proofs.Ytcggkbopipnnoaa
