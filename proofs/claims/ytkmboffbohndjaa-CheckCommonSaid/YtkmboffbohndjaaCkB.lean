/- Layer 11: Common. -/
import Derived.Test.YtkmboffbohndjaaCkA
import Derived.Deep.CutBlock
import Derived.IntWalk
namespace Go.Proofs.Ytkmboffbohndjaa
open Go.ChangeShapes Go.WideShapes Go.ChangeAt Go.RowKit Go.Maps
set_option linter.unusedVariables false
set_option linter.unusedSimpArgs false

theorem cnt_upd (P : List SF) (nm : ByteArray) (F : List Fld) (k : Nat) (hk : k < F.length) (c : Fld → Nat) (hc : ∀ x, c x = cntF (P ++ [(nm, F.take k)]) x) (x : Fld) :
    cntF (P ++ [(nm, F.take (k + 1))]) x = if sameB x.1 (F[k]'hk).1 = true ∧ x.2 = (F[k]'hk).2 ∧ c x = P.length then P.length + 1 else c x := by
  rw [take_snoc hk, cntF_step, hc x]
  have e : (x = F[k]'hk ∧ cntF (P ++ [(nm, F.take k)]) x = P.length) ↔ (sameB x.1 (F[k]'hk).1 = true ∧ x.2 = (F[k]'hk).2 ∧ cntF (P ++ [(nm, F.take k)]) x = P.length) := by
    rw [sameB_iff]
    constructor
    · rintro ⟨h1, h2⟩; exact ⟨by rw [h1], by rw [h1], h2⟩
    · rintro ⟨h1, h2, h3⟩; exact ⟨Prod.ext h1 h2, h3⟩
  by_cases h : x = F[k]'hk ∧ cntF (P ++ [(nm, F.take k)]) x = P.length
  · rw [if_pos h, if_pos (e.1 h)]
  · rw [if_neg h, if_neg (fun h' => h (e.2 h'))]
abbrev OkS (ls : List SF) : Prop := ∀ x ∈ ls, x.2.length ≤ 100 ∧ ∀ f ∈ x.2, okFld f
set_option maxRecDepth 20000 in
set_option maxHeartbeats 4000000 in
theorem Common_any (v : Value) (ls : List SF) (w : World) (hv : SAt w v ls) (hn : ls.length ≤ 100) (hf : OkS ls) :
    Calls Try.prog 12 #[v] w fun e w' => ∃ r, (e = .returned r ∧ Own w' w.heap.size 26 2 fldF r (commonF ls)) ∧ Below w.heap.size w w' := by
  obtain ⟨js, sj, sy0, sy1, sy2⟩ := info_parts (P := Try.prog) (e := 26) (z := .agg #[.string ⟨#[]⟩, .int .i64 0]) (size := 2) (bytes := 24) (by kernel_rfl)
  obtain ⟨A, c, rfl, a1, a2⟩ := hv.shape
  obtain ⟨n, hnl⟩ : ∃ n, n = ls.length := ⟨_, rfl⟩
  rw [← hnl] at hv ⊢
  rw [← hnl] at hn
  by_cases h0 : 0 < n
  · obtain ⟨a, rfl, hrow⟩ := stm_row hv hnl h0
    have hM0 := CntAt.made w
    have bM := ba w (.map #[] 0)
    have hmm := @run_makeMap Try.prog
    have hd0 : decide ((n : Int) = 0) = false := decide_eq_false (by omega)
    have hd1 : ¬ (n : Int) = 0 := by omega
    have hd2 : ¬ n = 0 := by omega
    have hd3 : ((n : Int) == 0) = false := by simpa using hd1
    have H := Lib.hid (And.intro hrow (And.intro hnl hf)); clear hrow hnl hf hv a1
    have K := Lib.hid (And.intro hM0 bM); clear hM0 bM
    go_enter Try.func12, Try.ntmps12
    go_wp2_with fail
    clear hmm hd0 hd1 hd2 hd3
    generalize hgm : w.heap.size = gm at *
    go_loopw [17] (fun iv wr => ∃ (i N : Nat), i ≤ n ∧ iv = .int .i64 (i : Int) ∧ N ≤ i * 100 ∧ CntAt wr gm N (cntF (ls.take i)) ∧ Below gm w wr) (fun iv _ => n - (intOf iv).toNat)
    case atStart => exact ⟨0, 0, Nat.zero_le _, rfl, by omega, K.out.1.eq (fun x => rfl), K.out.2⟩
    case round =>
      rename World => wr0
      clear K
      obtain ⟨i, N, hi, rfl, hN, hC, hb⟩ := hrel
      by_cases hlt : i < n
      · have hil : i < ls.length := by have := H.out.2.1; omega
        obtain ⟨sA, sc, hc1, _, hc2⟩ := H.out.1 i hil
        have hok := H.out.2.2 _ (List.getElem_mem hil)
        have htk : ls.take (i + 1) = ls.take i ++ [ls[i]'hil] := take_snoc hil
        generalize ls[i]'hil = s at *
        obtain ⟨nm, F⟩ := s
        simp only at hc1 hc2 hok
        obtain ⟨m, hm⟩ : ∃ m, m = F.length := ⟨_, rfl⟩
        obtain ⟨P, hP⟩ : ∃ P, P = ls.take i := ⟨_, rfl⟩
        have hPl : P.length = i := by rw [hP, List.length_take]; omega
        rw [← hP] at hC htk
        rw [← hm] at hc1
        obtain ⟨e0, e1⟩ := hc1 _ hb
        have bA := ba wr0 (.cells #[.string nm, .slice sA m sc] 46)
        have U := Lib.hid (And.intro hc2 (And.intro hok (And.intro hm (And.intro hPl (And.intro htk (And.intro (hC.later bA) (hb.trans (bA.mono (hgm ▸ hb.size))))))))); clear hc1 hc2 hok hm hPl htk hC hb bA hP
        go_wp2_with fail
        generalize wr0.alloc _ = wx at *
        clear e0 e1
        go_loopw [25] (fun kv wr => ∃ (k M : Nat), k ≤ m ∧ kv = .int .i64 (k : Int) ∧ M ≤ i * 100 + k ∧ CntAt wr gm M (cntF (P ++ [(nm, F.take k)])) ∧ Below gm w wr) (fun kv _ => m - (intOf kv).toNat)
        case atStart => exact ⟨0, N, Nat.zero_le _, rfl, by omega, U.out.2.2.2.2.2.1.eq (fun x => (cntF_begin P nm x).symm), U.out.2.2.2.2.2.2⟩
        case round =>
          rename World => wr1
          obtain ⟨k, M, hk, rfl, hM, hC, hb⟩ := hrel
          by_cases hlt2 : k < m
          · have hkF : k < F.length := by have := U.out.2.2.1; omega
            have hm100 : m ≤ 100 := by have := U.out.2.1.1; have := U.out.2.2.1; omega
            obtain ⟨a2, rfl, hc3⟩ := U.out.1 (by omega)
            obtain ⟨z0, z1⟩ := hc3 k hkF _ hb
            have hfo := U.out.2.1.2 _ (List.getElem_mem hkF)
            have hup := cnt_upd P nm F k hkF _ (fun x => rfl)
            generalize F[k]'hkF = f at *
            obtain ⟨fs, fk⟩ := f
            simp only at z0 z1 hup
            obtain ⟨f1, f2⟩ := hfo
            simp only at f1 f2
            have bA := ba wr1 (.cells #[.string fs, .int .i64 fk] 26)
            have hCA := hC.later bA
            have hbA : Below gm w (wr1.alloc (.cells #[.string fs, .int .i64 fk] 26)) := hb.trans (bA.mono (hgm ▸ hb.size))
            generalize cntF (P ++ [(nm, F.take k)]) = cc at *
            have hlk := hCA.look f1 f2
            obtain ⟨q, hq⟩ : ∃ q, q = cc (fs, fk) := ⟨_, rfl⟩
            rw [← hq] at hlk
            by_cases hqi : q = i
            · have V := Lib.hid (And.intro hCA (And.intro hbA (And.intro hup (And.intro hq (And.intro f1 f2))))); clear hCA hbA hup hq hC hb hc3
              subst hqi
              have hlkA := hlk
              obtain ⟨q1, hq1⟩ : ∃ q1, q1 = q + 1 := ⟨_, rfl⟩
              have hwq : IntKind.i64.wrap ((q : Int) + 1) = (q : Int) + 1 := IntWalk.i64_in _ (by omega)
              go_upto_region 11 with fail
              clear z0 z1
              have bx := Blk.new wr1 26 #[.string fs, .int .i64 fk]
              generalize hwA : wr1.alloc (.cells #[.string fs, .int .i64 fk] 26) = wA at *
              have y0 := bx.cell 0
              have y1 := bx.cell 1
              clear hwA
              have hlkB : (Instr.lookup 74 (.map (some gm)) (.agg #[.string fs, .int .i64 fk]) false).run Try.prog wA.drew = .ok (.int .i64 (q : Int)) wA.drew := by
                have h := (V.out.1.of_block (w' := wA.drew) rfl).look V.out.2.2.2.2.1 V.out.2.2.2.2.2
                rw [← V.out.2.2.2.1] at h; exact h
              have h5 := (V.out.1.of_block (w' := wA.drew) rfl).entry (n := M) (by unfold maxLen; omega) V.out.2.2.2.2.1 V.out.2.2.2.2.2
              obtain ⟨v0, st, w5, r5, c5, g5, h6⟩ := h5
              obtain ⟨w6, r6, c6, g6⟩ := h6 w5 q1 (by omega) rfl
              have hlk5 := c5.look V.out.2.2.2.2.1 V.out.2.2.2.2.2
              rw [← V.out.2.2.2.1] at hlk5
              have hq1e : (q1 : Int) = (q : Int) + 1 := by omega
              rw [hq1e] at r6
              have H5 := Lib.hid (And.intro g5 (And.intro c6 (And.intro g6 hq1))); clear c5 g5 h6 c6 g6 hlk hlkA hq1e hq1
              go_region_law (fail)
              all_goals
                go_wp2_with fail
                go_roundw
                case rel =>
                  have hbg : gm ≤ wA.drew.heap.size := hgm ▸ V.out.2.1.size
                  have b5 : Below gm w w5 := V.out.2.1.drew.trans (grownBy_below H5.out.1 hbg (fun x hx => by obtain rfl := Option.some.inj hx; omega))
                  refine ⟨k + 1, M + 1, by omega, by go_num, by omega, H5.out.2.1.eq (fun x => ?_), b5.trans (grownBy_below H5.out.2.2.1 (hgm ▸ b5.size) (fun x hx => by obtain rfl := Option.some.inj hx; omega))⟩
                  rw [V.out.2.2.1 x]
                  by_cases hx : sameB x.1 fs = true ∧ x.2 = fk
                  · have : x = (fs, fk) := Prod.ext (sameB_iff.1 hx.1) hx.2
                    rw [if_pos hx, if_pos ⟨hx.1, hx.2, by rw [this, ← V.out.2.2.2.1, U.out.2.2.2.1]⟩, H5.out.2.2.2, U.out.2.2.2.1]
                  · rw [if_neg hx, if_neg (fun h => hx ⟨h.1, h.2.1⟩)]
                case measure => simp [intOf]; omega
            · have hqi' : ¬ (q : Int) = (i : Int) := by omega
              have V := Lib.hid (And.intro hCA (And.intro hbA (And.intro hup hq))); clear hCA hbA hup hq hC hb hc3
              go_wp2_with fail
              go_roundw
              case rel =>
                refine ⟨k + 1, M, by omega, by go_num, by omega, V.out.1.eq (fun x => ?_), V.out.2.1⟩
                rw [V.out.2.2.1 x, if_neg]
                rintro ⟨h1, h2, h3⟩
                rw [U.out.2.2.2.1] at h3
                have : x = (fs, fk) := Prod.ext (sameB_iff.1 h1) h2
                rw [this, ← V.out.2.2.2] at h3
                exact hqi h3
              case measure => simp [intOf]; omega
          · obtain rfl : k = m := by omega
            have V := Lib.hid (And.intro hC hb); clear hC hb
            have hm100 : k ≤ 100 := by have := U.out.2.1.1; have := U.out.2.2.1; omega
            go_wp2_with fail
            go_roundw
            case rel => exact ⟨i + 1, M, by omega, by go_num, by omega, V.out.1.eq (fun x => by rw [U.out.2.2.2.2.1, List.take_of_length_le (by have := U.out.2.2.1; omega)]), V.out.2⟩
            case measure => simp [intOf]; omega
      · have hin : n = i := by omega
        subst hin
        have htk : ls.take n = ls := List.take_of_length_le (by have := H.out.2.1; omega)
        rw [htk] at hC
        clear htk hN hi hlt
        obtain ⟨sA, sc, hc1, _, hc2⟩ := H.out.1 0 (by have := H.out.2.1; omega)
        obtain ⟨s, t, hst⟩ : ∃ s t, ls = s :: t := by
          cases hl : ls with
          | nil => have := H.out.2.1; rw [hl] at this; simp at this; omega
          | cons s t => exact ⟨s, t, rfl⟩
        have hcm := commonF_eq hst
        have hok := H.out.2.2 s (by rw [hst]; simp)
        have hs0 : ls[0]'(by have := H.out.2.1; omega) = s := by simp only [hst]; rfl
        rw [hs0] at hc1 hc2
        clear hs0 hst
        obtain ⟨nm, F⟩ := s
        simp only at hc1 hc2 hok hcm
        obtain ⟨m, hm⟩ : ∃ m, m = F.length := ⟨_, rfl⟩
        rw [← hm] at hc1
        obtain ⟨e0, e1⟩ := hc1 _ hb
        rw [Nat.zero_mul, addr_zero] at e0 e1
        have hB0 := hgm ▸ hb.size
        have U := Lib.hid (And.intro hc2 (And.intro hok (And.intro hm (And.intro hcm (And.intro hC (And.intro hb hB0)))))); clear hc1 hc2 hok hm hcm hC hb hB0
        go_wp2_with fail
        clear e0 e1
        go_loopw [8, 47] (fun cv kv wr => ∃ (k : Nat), k ≤ m ∧ kv = .int .i64 (k : Int) ∧ Own wr gm 26 2 fldF cv ((F.take k).filter (fun f => decide (cntF ls f = ls.length))) ∧ CntAt wr gm N (cntF ls) ∧ Below gm w wr) (fun _ kv _ => m - (intOf kv).toNat)
        case atStart => exact ⟨0, Nat.zero_le _, rfl, Own.nil _ _ _ _ _, U.out.2.2.2.2.1, U.out.2.2.2.2.2.1⟩
        case round =>
          rename World => wr1
          obtain ⟨k, hk, rfl, hO, hC, hb⟩ := hrel
          by_cases hlt2 : k < m
          · have hkF : k < F.length := by have := U.out.2.2.1; omega
            have hm100 : m ≤ 100 := by have := U.out.2.1.1; have := U.out.2.2.1; omega
            obtain ⟨a2, rfl, hc3⟩ := U.out.1 (by omega)
            obtain ⟨z0, z1⟩ := hc3 k hkF _ hb
            have hfo := U.out.2.1.2 _ (List.getElem_mem hkF)
            have hmore : (F.take (k + 1)).filter (fun f => decide (cntF ls f = ls.length)) = (F.take k).filter (fun f => decide (cntF ls f = ls.length)) ++ (if cntF ls (F[k]'hkF) = ls.length then [F[k]'hkF] else []) := by
              rw [take_snoc hkF, List.filter_append, List.filter_cons, List.filter_nil]
              congr 1
              by_cases h : cntF ls (F[k]'hkF) = ls.length <;> simp [h]
            have hln : ((F.take k).filter (fun f => decide (cntF ls f = ls.length))).length ≤ 100 := by
              have h1 := List.length_filter_le (fun f => decide (cntF ls f = ls.length)) (F.take k)
              rw [List.length_take] at h1; omega
            generalize F[k]'hkF = f at *
            generalize (F.take k).filter (fun f => decide (cntF ls f = ls.length)) = L at *
            obtain ⟨fs, fk⟩ := f
            simp only at z0 z1 hmore
            obtain ⟨f1, f2⟩ := hfo
            simp only at f1 f2
            have bA := ba wr1 (.cells #[.string fs, .int .i64 fk] 26)
            have hgs : gm ≤ wr1.heap.size := hgm ▸ hb.size
            have hCA := hC.later bA
            have hOA := hO.later bA
            have hbA : Below gm w (wr1.alloc (.cells #[.string fs, .int .i64 fk] 26)) := hb.trans (bA.mono hgs)
            have hlk := hCA.look f1 f2
            obtain ⟨q, hq⟩ : ∃ q, q = cntF ls (fs, fk) := ⟨_, rfl⟩
            rw [← hq] at hlk hmore
            by_cases hqi : q = n
            · rw [if_pos (by have := H.out.2.1; omega)] at hmore
              have hqi' : ((q : Int) == (n : Int)) = true := by rw [hqi]; simp
              obtain ⟨vA, vn, vc, rfl⟩ := own_shape hO
              have hat := at_newF (wr1.alloc (.cells #[.string fs, .int .i64 fk] 26)) (fs, fk)
              have hbB := ba (wr1.alloc (.cells #[.string fs, .int .i64 fk] 26)) (.cells (fldF (fs, fk)).toArray 26)
              have V := Lib.hid (And.intro (hCA.later hbB) (And.intro (hOA.later hbB) (And.intro (hbA.trans (hbB.mono (Nat.le_trans hgs bA.size))) (And.intro hmore (And.intro hat hln))))); clear hCA hOA hbA hmore hat hO hC hb hc3 hbB
              have hqi2 : (q : Int) = (n : Int) := by omega
              clear hqi
              rw [World.size_alloc] at V
              go_wp2_with (at_builtin; go_loud (refine wpList_append_loc _ rfl (.tmp 57) (.tmp 59) 27 rfl gm 26 js (.agg #[.string ⟨#[]⟩, .int .i64 0]) 2 24 Try.underlying27 sj sy0 sy1 sy2 rfl (by decide) (f := fldF) (fun _ => rfl) fldF_one _ L rfl V.out.2.1 (some ⟨wr1.heap.size + 1, 0, none⟩) 1 1 [(fs, fk)] rfl rfl V.out.2.2.2.2.1 (by unfold maxLen; have := V.out.2.2.2.2.2; omega) (by have := V.out.2.2.2.2.2; omega) (by simp only [World.size_alloc]; omega) ?_; intro v7 w7 hO7 hg7 hl7; obtain ⟨nA, nn, nc, rfl⟩ := own_shape hO7; have Y := Lib.hid (And.intro hO7 hg7); clear hO7 hg7 hl7))
              go_roundw
              case rel =>
                refine ⟨k + 1, by omega, by go_num, by rw [V.out.2.2.2.1]; exact Y.out.1, V.out.1.grown Y.out.2 (fun b hb => by obtain ⟨_, cs, hc⟩ := ownBI V.out.2.1 hb; exact ⟨cs, _, hc⟩), V.out.2.2.1.trans (grownBy_below Y.out.2 (by simp only [World.size_alloc]; omega) (fun x hx => (ownBI V.out.2.1 hx).1))⟩
              case measure => simp [intOf]; omega
            · rw [if_neg (by have := H.out.2.1; omega), List.append_nil] at hmore
              have hqi' : ((q : Int) == (n : Int)) = false := by simpa using (by omega : ¬ (q : Int) = (n : Int))
              have hqi2 : ¬ (q : Int) = (n : Int) := by omega
              obtain ⟨vA, vn, vc, rfl⟩ := own_shape hO
              have V := Lib.hid (And.intro hCA (And.intro hOA (And.intro hbA hmore))); clear hCA hOA hbA hmore hO hC hb hc3
              go_wp2_with fail
              go_roundw
              case rel => exact ⟨k + 1, by omega, by go_num, by rw [V.out.2.2.2]; exact V.out.2.1, V.out.1, V.out.2.2.1⟩
              case measure => simp [intOf]; omega
          · obtain rfl : k = m := by omega
            obtain ⟨vA, vn, vc, rfl⟩ := own_shape hO
            have hfl : (F.take k).filter (fun f => decide (cntF ls f = ls.length)) = commonF ls := by rw [List.take_of_length_le (by have := U.out.2.2.1; omega), U.out.2.2.2.1]
            rw [hfl] at hO
            have V := Lib.hid (And.intro hO hb); clear hO hb hfl hC
            go_wp2_with fail
            go_ret
            exact ⟨_, ⟨rfl, by rw [hgm]; exact V.out.1⟩, by rw [hgm]; exact V.out.2⟩
  · obtain rfl : n = 0 := by omega
    obtain rfl : ls = [] := List.eq_nil_of_length_eq_zero hnl.symm
    clear hv hnl hf a1
    go_enter Try.func12, Try.ntmps12
    go_wp2_with fail
    go_ret
    exact ⟨_, ⟨rfl, Own.nil _ _ _ _ _⟩, Below.refl _ _⟩
end Go.Proofs.Ytkmboffbohndjaa
