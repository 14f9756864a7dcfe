/- Layer 11: Check. -/
import Derived.Test.YtkmboffbohndjaaCkL
import Derived.Test.YtkmboffbohndjaaQyR2
namespace Go.Proofs.Ytkmboffbohndjaa
open Go.ChangeShapes Go.WideShapes Go.ChangeAt Go.RowKit Go.Maps
set_option linter.unusedVariables false
set_option linter.unusedSimpArgs false

theorem own_unlike {α β : Type} {w : World} {b b' : Nat} {s t : TypeId} {k k' : Nat} {f : α → List Value} {f' : β → List Value} {v v' : Value} {l : List α} {l' : List β} (h : Own w b s k f v l) (h' : Own w b' t k' f' v' l') (hst : s ≠ t) {x : Nat} (hx : v.ownBlock = some x) : v'.ownBlock ≠ some x := fun e => by
  obtain ⟨_, cs, hc⟩ := ownBI h hx
  obtain ⟨_, cs', hc'⟩ := ownBI h' e
  rw [hc] at hc'
  simp at hc'
  exact hst hc'.2
theorem at_newSl (w : World) (y : Sx) : At (w.alloc (.cells (sxF y).toArray 29)) 2 sxF (.slice (some ⟨w.heap.size, 0, none⟩) 1 1) [y] :=
  at_blkC (k := 2) (f := sxF) (fun _ => rfl) [y] (Blk.new _ _ _) (n := 1) rfl (by show (1 : Nat) ≤ maxLen; unfold maxLen; omega) (by simp)
theorem head_cons {l : List Pt} (h : 0 < l.length) : ∃ t, l = (l[0]'h) :: t := by
  cases l with
  | nil => simp at h
  | cons p t => exact ⟨t, rfl⟩
theorem byE_self {by_ : ByteArray} {F : List Fld} (h : byE by_ F F = 0) (h0 : by_.size ≠ 0) : (fieldK F by_).isSome = true := by
  unfold byE at h
  rw [if_neg h0] at h
  cases hk : fieldK F by_ with
  | none => rw [hk] at h; cases h
  | some k => rfl
theorem partE_by {ls : List SF} {q : Qy} {p : Pt} {ps : List Pt} {ah : List SF} (hq : q.ps = p :: ps) (h : partE ls q p ah = 0) : byE q.by_ (ofF ls p.ss) (ofF ls p.ss) = 0 := by
  unfold partE at h
  by_cases h1 : lookS ls p.ss = none
  · rw [if_pos h1] at h; exact absurd h (by decide)
  · rw [if_neg h1, hq] at h
    simp only at h
    by_cases h2 : byE q.by_ (ofF ls p.ss) (ofF ls p.ss) ≠ 0
    · rw [if_pos h2] at h; exact absurd h h2
    · exact Decidable.not_not.1 h2
set_option maxRecDepth 20000 in
set_option maxHeartbeats 8000000 in
theorem Check_any (lv : Value) (ls : List SF) (q : Qy) (pv ov : Value) (w : World) (hv : SAt w lv ls) (hq : QyAt w pv ov q) (ho : QOk q) (hn : ls.length ≤ 100) (hf : OkS ls) (hnm : ∀ x ∈ ls, x.1.size ≤ maxLen)
    (hss : ∀ p ∈ q.ps, p.ss.length ≤ 100 ∧ p.pd.length ≤ 100) (hps : q.ps.length ≤ 50) (hon : q.os.length ≤ 100) :
    Calls Try.prog 18 #[lv, qv q pv ov] w fun e w' => StmE (checkE ls q).1 (checkE ls q).2 w e w' := by
  obtain ⟨js, sj, sy0, sy1, sy2⟩ := info_parts (P := Try.prog) (e := 29) (z := .agg #[.string ⟨#[]⟩, .slice none 0 0]) (size := 2) (bytes := 40) (by kernel_rfl)
  obtain ⟨A, c, rfl, _, _⟩ := hv.shape
  obtain ⟨PA, pc, rfl, _, _⟩ := hq.1.shape
  obtain ⟨OA, oc, rfl, _, _⟩ := hq.2.1.shape
  obtain ⟨n, hnl⟩ : ∃ n, n = ls.length := ⟨_, rfl⟩
  obtain ⟨m, hml⟩ : ∃ m, m = q.ps.length := ⟨_, rfl⟩
  obtain ⟨om, homl⟩ : ∃ m, m = q.os.length := ⟨_, rfl⟩
  rw [← hnl] at hv ⊢
  rw [← hml, ← homl] at hq ⊢
  obtain ⟨W1, hW1⟩ : ∃ W1, W1 = (w.alloc (.cells #[.string q.nm, .bool q.st, .slice PA m pc, .int .i64 q.wi, .string q.by_, .slice OA om oc] 65)).alloc (.cells #[.string ⟨#[]⟩, .slice none 0 0] 46) := ⟨_, rfl⟩
  have b1 : Below w.heap.size w W1 := by rw [hW1]; exact bt (ba _ _) (ba _ _)
  have hBq : Blk W1 w.heap.size 65 #[.string q.nm, .bool q.st, .slice PA m pc, .int .i64 q.wi, .string q.by_, .slice OA om oc] := by rw [hW1]; exact (Blk.new w _ _).later (ba _ _)
  have hBr : Blk W1 (w.heap.size + 1) 46 #[.string ⟨#[]⟩, .slice none 0 0] := by
    rw [hW1]
    have := Blk.new (w.alloc (.cells #[.string q.nm, .bool q.st, .slice PA m pc, .int .i64 q.wi, .string q.by_, .slice OA om oc] 65)) 46 #[.string ⟨#[]⟩, .slice none 0 0]
    simpa using this
  obtain ⟨S, hS⟩ : ∃ S, S = checkE ls q := ⟨_, rfl⟩
  rw [← hS]
  have cA := fun W (hW : Below w.heap.size w W) => All_any _ ls W (hv.later hW).stms (fun x hx => ⟨hnm x hx, (hf x hx).2⟩)
  have cR := fun W (hW : Below w.heap.size w W) => RightQ_any q _ _ W (hq.later hW) ho
  have cF := fun W (hW : Below w.heap.size w W) => FindS_any q.nm _ ls W (hv.later hW).stms
  obtain ⟨E0, hE0⟩ : ∃ E0, E0 = allN ls := ⟨_, rfl⟩
  obtain ⟨rb, hrb⟩ : ∃ rb, rb = queryB q := ⟨_, rfl⟩
  obtain ⟨at_, hat⟩ : ∃ a, a = atS q.nm ls := ⟨_, rfl⟩
  rw [← hE0] at cA
  rw [← hrb] at cR
  rw [← hat] at cF
  have hS' : S = if E0 ≠ 0 then ((⟨#[]⟩, []), E0) else if rb = false then ((⟨#[]⟩, []), 1) else if 0 ≤ at_ then ((⟨#[]⟩, []), 11) else if (partsE ls q q.ps []).2 ≠ 0 then ((⟨#[]⟩, []), (partsE ls q q.ps []).2) else if (outsE (partsE ls q q.ps []).1 q.os []).2 ≠ 0 then ((⟨#[]⟩, []), (outsE (partsE ls q q.ps []).1 q.os []).2) else ((q.nm, (outsE (partsE ls q q.ps []).1 q.os []).1), 0) := by
    rw [hS, hE0, hrb, hat]; rfl
  obtain ⟨R, hR⟩ : ∃ R, R = w.heap.size + 1 := ⟨_, rfl⟩
  have HR := Lib.hid (show w.heap.size ≤ R by omega)
  have H := Lib.hid (And.intro hv (And.intro hq (And.intro hnl (And.intro hml (And.intro hf (And.intro hnm (And.intro hss (And.intro hS' (And.intro ho hon)))))))))
  have C := Lib.hid (And.intro cA (And.intro cR cF))
  rw [← hR] at hBr
  have K := Lib.hid (And.intro b1 (And.intro hBq hBr)); clear b1 hBq hBr cA cR cF hv hq hnl hml hf hnm hss hS' hS hE0 hrb hat ho homl
  go_enter Try.func18, Try.ntmps18
  go_upto_region 1 with fail
  rw [← hW1, ← hR]
  clear hW1
  have HR1 := Lib.hid hR; clear hR
  go_wp2_with fail
  try go_at_call 26
  refine (C.out.1 _ K.out.1).mono ?_
  rintro e w2 ⟨rfl, hb⟩
  replace K := Lib.hid (And.intro (bt K.out.1 hb) (And.intro (K.out.2.1.later hb) (K.out.2.2.later hb))); clear hb
  by_cases h1 : E0 = 0
  · subst h1
    have p0 := K.out.2.1.cell
    go_wp2_with fail
    try go_at_call 27
    refine (C.out.2.1 _ K.out.1).mono ?_
    clear p0
    rintro e w3 ⟨rfl, hb⟩
    replace K := Lib.hid (And.intro (bt K.out.1 hb) (And.intro (K.out.2.1.later hb) (K.out.2.2.later hb))); clear hb
    cases rb with
    | false =>
      have hS2 := H.out.2.2.2.2.2.2.2.1
      rw [if_neg (by simp), if_pos rfl] at hS2
      have HS := Lib.hid hS2; clear hS2
      have r1 := K.out.2.2.cell
      have r2 := K.out.2.2.frozen
      have r3 := K.out.2.2.lt
      go_wp2_with fail
      exact bodyPost_ret (v := .tuple #[.agg #[.string ⟨#[]⟩, .slice none 0 0], .int .i64 1]) (by simp [results, Try.results18, go_sem, r1, r2, r3]) rfl ⟨none, 0, 0, by rw [HS.out], by rw [HS.out]; exact Own.nil _ _ _ _ _, (K.out.1.setCell (p := ⟨R, 0, none⟩) HR.out _).setCell (p := ⟨R, 1, none⟩) HR.out _⟩
    | true =>
      have p0 := K.out.2.1.cell
      go_wp2_with fail
      try go_at_call 28
      refine (C.out.2.2 _ K.out.1).mono ?_
      clear p0
      rintro e w4 ⟨rfl, hb⟩
      replace K := Lib.hid (And.intro (bt K.out.1 hb) (And.intro (K.out.2.1.later hb) (K.out.2.2.later hb))); clear hb
      by_cases h3 : 0 ≤ at_
      · have d1 : decide (0 ≤ at_) = true := decide_eq_true h3
        have hS2 := H.out.2.2.2.2.2.2.2.1
        rw [if_neg (by simp), if_neg (by simp), if_pos h3] at hS2
        have HS := Lib.hid hS2; clear hS2
        have r1 := K.out.2.2.cell
        have r2 := K.out.2.2.frozen
        have r3 := K.out.2.2.lt
        go_wp2_with fail
        exact bodyPost_ret (v := .tuple #[.agg #[.string ⟨#[]⟩, .slice none 0 0], .int .i64 11]) (by simp [results, Try.results18, go_sem, r1, r2, r3]) rfl ⟨none, 0, 0, by rw [HS.out], by rw [HS.out]; exact Own.nil _ _ _ _ _, (K.out.1.setCell (p := ⟨R, 0, none⟩) HR.out _).setCell (p := ⟨R, 1, none⟩) HR.out _⟩
      · have d1 : decide (0 ≤ at_) = false := decide_eq_false h3
        have hS2 := H.out.2.2.2.2.2.2.2.1
        rw [if_neg (by simp), if_neg (by simp), if_neg h3] at hS2
        have HS := Lib.hid hS2; clear hS2
        have p0 := K.out.2.1.cell
        go_wp2_with fail
        clear p0
        obtain ⟨r, q1, q2, q3⟩ := H.out.2.1.1
        have hrl : r.length = m := by have := H.out.2.2.2.1; rw [this, ← q2, List.length_map]
        have HP := Lib.hid (And.intro q1 (And.intro q2 (And.intro q3 hrl))); clear q1 q2 q3 hrl
        go_loopw [7, 31] (fun sv jv wr => ∃ (j : Nat) (SL : List SF) (rs : List Sx), j ≤ m ∧ jv = .int .i64 (j : Int) ∧ partsE ls q (q.ps.drop j) SL = partsE ls q q.ps [] ∧ rs.map (·.1) = SL ∧ SL.length ≤ j ∧ SlotsOk SL ∧ Own wr (R + 1) 29 2 sxF sv rs ∧ (∀ x ∈ rs, Own wr w.heap.size 26 2 fldF (sl x.2) x.1.2) ∧ Below w.heap.size w wr ∧ Blk wr w.heap.size 65 #[.string q.nm, .bool q.st, .slice PA m pc, .int .i64 q.wi, .string q.by_, .slice OA om oc] ∧ Blk wr R 46 #[.string ⟨#[]⟩, .slice none 0 0] ∧ (∀ p ps', q.ps = p :: ps' → 0 < j → byE q.by_ (ofF ls p.ss) (ofF ls p.ss) = 0)) (fun _ jv _ => m - (intOf jv).toNat)
        case atStart => exact ⟨0, [], [], Nat.zero_le _, rfl, rfl, rfl, Nat.le_refl _, fun x hx => by simp at hx, Own.nil _ _ _ _ _, fun x hx => by simp at hx, K.out.1, K.out.2.1, K.out.2.2, fun _ _ _ h => absurd h (by omega)⟩
        case round =>
          rename World => wr
          clear K
          obtain ⟨j, SL, rs, hj, rfl, hPE, hrs, hSl, hSo, hOw, hFs, hb, hBq, hBr, hBy⟩ := hrel
          by_cases hlt : j < m
          · have hjr : j < r.length := by have := HP.out.2.2.2; omega
            have hjq : j < q.ps.length := by have := H.out.2.2.2.1; omega
            have h0r : 0 < r.length := by omega
            obtain ⟨a3, rfl, hcx⟩ := (HP.out.1.later hb).cells rfl (by omega)
            obtain ⟨c0, c1, c2, c3, c4⟩ := hcx.row5 j hjr rfl
            have hpx := HP.out.2.2.1 _ (List.getElem_mem hjr)
            have hp0 := HP.out.2.2.1 _ (List.getElem_mem h0r)
            have hxe : (r[j]'hjr).1 = q.ps[j]'hjq := by simp only [← HP.out.2.1, List.getElem_map]
            have hss := H.out.2.2.2.2.2.2.1 _ (List.getElem_mem hjq)
            have hss0 := H.out.2.2.2.2.2.2.1 _ (List.getElem_mem (show 0 < q.ps.length by omega))
            have hx0 : (r[0]'h0r).1 = q.ps[0]'(by omega) := by simp only [← HP.out.2.1, List.getElem_map]
            have hok := H.out.2.2.2.2.2.2.2.2.1.pd _ (List.getElem_mem hjq)
            have hhead : r.head? = some (r[0]'h0r) := by rw [List.head?_eq_getElem?, List.getElem?_eq_getElem h0r]
            have hqh : ∃ ps', q.ps = (r[0]'h0r).1 :: ps' := by
              rw [hx0]
              exact head_cons _
            obtain ⟨ps', hqh⟩ := hqh
            rw [List.drop_eq_getElem_cons hjq] at hPE
            rw [← hxe] at hPE hss hok
            rw [← hx0] at hss0
            have hj0 : j = 0 → r[j]'hjr = r[0]'h0r := fun h => by subst h; rfl
            have hBy' := fun h => hBy _ _ hqh h
            clear hxe hx0 hBy
            generalize r[0]'h0r = y0 at *
            obtain ⟨x, hz⟩ : ∃ z, r[j]'hjr = z := ⟨_, rfl⟩
            rw [hz] at c0 c1 c2 c3 c4 hpx hPE hss hok hj0
            have hvnm := hpx.2.2.1
            clear hz hcx
            have cP := fun (W : World) (av : Value) (hW : Below w.heap.size w W) (hah : SAt W av SL) => checkPart_any _ ls q _ _ r y0 x av SL W (H.out.1.later hW) (HP.out.1.later hW) (fun y hy => (HP.out.2.2.1 y hy).later hW) hhead HP.out.2.1 ⟨OA, om, oc, rfl⟩ (hpx.later hW) hah hn H.out.2.2.2.2.1 hss.1 hss0.1 (by omega) hSo H.out.2.1.2.2.2 hss.2 hok (fun h1 h2 => by
              by_cases h : j = 0
              · rw [hj0 h] at h2; exact h2
              · exact byE_self (hBy' (by omega)) h1)
            have hPE2 : partE ls q x.1 SL = 0 → byE q.by_ (ofF ls y0.1.ss) (ofF ls y0.1.ss) = 0 := fun h => by
              by_cases hj' : j = 0
              · rw [← hj0 hj']; rw [← hj0 hj'] at hqh; exact partE_by hqh h
              · exact hBy' (by omega)
            obtain ⟨⟨nt, pl, ss, vn, pd⟩, ⟨sA, sn, sc⟩, ⟨dA, dn, dc⟩⟩ := x
            simp only at c0 c1 c2 c3 c4 hPE hPE2
            change wr.cell? ⟨(a3.add (j * 5)).block, (a3.add (j * 5)).off + 2, none⟩ = some (.slice sA sn sc) at c2
            change wr.cell? ⟨(a3.add (j * 5)).block, (a3.add (j * 5)).off + 4, none⟩ = some (.slice dA dn dc) at c4
            obtain ⟨E1, hE1⟩ : ∃ E1, E1 = partE ls q ⟨nt, pl, ss, vn, pd⟩ SL := ⟨_, rfl⟩
            have bB := ba wr (.cells #[.bool nt, .bool pl, .slice sA sn sc, .string vn, .slice dA dn dc] 59)
            obtain ⟨sA2, sn2, sc2, rfl⟩ := own_shape hOw
            have cP2 := cP (wr.alloc (.cells #[.bool nt, .bool pl, .slice sA sn sc, .string vn, .slice dA dn dc] 59)) _ (bt hb bB) ⟨rs, (hOw.later bB).at_ (f := sxF) (k := 2) (fun _ => rfl), hrs, fun x hx => ((hFs x hx).later bB).at_ (f := fldF) (k := 2) (fun _ => rfl)⟩
            simp only at cP2
            rw [← hE1] at cP2 hPE2
            rw [show partsE ls q (⟨nt, pl, ss, vn, pd⟩ :: q.ps.drop (j + 1)) SL = if E1 ≠ 0 then ([], E1) else partsE ls q (q.ps.drop (j + 1)) (if nt then SL else SL ++ [(vn, ofF ls ss)]) by rw [hE1]; rfl] at hPE
            have p0 := (hBq.later bB).cell
            have V := Lib.hid (And.intro cP2 (And.intro bB (And.intro hPE (And.intro hPE2 (And.intro hrs (And.intro hSl (And.intro hSo (And.intro hOw (And.intro hFs (And.intro hb (And.intro hBq (And.intro hBr (And.intro hE1 hqh)))))))))))))
            clear cP cP2 bB hPE hPE2 hrs hSl hSo hOw hFs hb hBq hBr hE1 hqh hBy' hhead hp0 hpx hj0 hok hss hss0
            go_wp2_with fail
            try go_at_call 29
            refine V.out.1.mono ?_
            rintro e w5 ⟨s5, FA, fn, fc, rfl, himp, hb5⟩
            have Z := Lib.hid (And.intro himp (bt V.out.2.1 hb5))
            have n0 := ((Blk.new wr 59 #[.bool nt, .bool pl, .slice sA sn sc, .string vn, .slice dA dn dc]).later (bt hb5 (ba w5 (.cells #[.string s5, .slice FA fn fc] 29)))).cell
            clear himp hb5 p0 c0 c1 c2 c3 c4
            by_cases hE0 : E1 = 0
            · subst hE0
              obtain ⟨rfl, hOF⟩ := Z.out.1 rfl
              have hOF' := own_down' hOF (Nat.le_trans V.out.2.2.2.2.2.2.2.2.2.1.size V.out.2.1.size)
              have b6 := bt Z.out.2 (ba w5 (.cells #[.string s5, .slice FA fn fc] 29))
              have hby0 := V.out.2.2.2.1 rfl
              cases nt with
              | true =>
                have N := Lib.hid (And.intro b6 hby0); clear b6 hby0 hOF hOF'
                go_wp2_with fail
                go_roundw
                case rel => exact ⟨j + 1, SL, rs, by omega, by go_num, by have := V.out.2.2.1; rw [if_neg (by simp)] at this; simpa using this, V.out.2.2.2.2.1, by have := V.out.2.2.2.2.2.1; omega, V.out.2.2.2.2.2.2.1, V.out.2.2.2.2.2.2.2.1.later N.out.1, fun x hx => (V.out.2.2.2.2.2.2.2.2.1 x hx).later N.out.1, bt V.out.2.2.2.2.2.2.2.2.2.1 N.out.1, V.out.2.2.2.2.2.2.2.2.2.2.1.later N.out.1, V.out.2.2.2.2.2.2.2.2.2.2.2.1.later N.out.1, fun p ps'' hp _ => by
                  have := V.out.2.2.2.2.2.2.2.2.2.2.2.2.2
                  rw [this] at hp
                  obtain rfl := (List.cons.inj hp).1
                  exact N.out.2⟩
                case measure => simp [intOf]; omega
              | false =>
                have bS := ba (w5.alloc (.cells #[.string s5, .slice FA fn fc] 29)) (.cells (sxF ((s5, ofF ls ss), (FA, fn, fc))).toArray 29)
                have b8 := bt b6 bS
                have hl8 : (w5.alloc (.cells #[.string s5, .slice FA fn fc] 29)).heap.size = w5.heap.size + 1 := World.size_alloc _ _
                have hAt := at_newSl (w5.alloc (.cells #[.string s5, .slice FA fn fc] 29)) ((s5, ofF ls ss), (FA, fn, fc))
                rw [hl8] at hAt
                have hO8 := V.out.2.2.2.2.2.2.2.1.later b8
                have hF8 := fun x hx => (V.out.2.2.2.2.2.2.2.2.1 x hx).later b8
                have hFn := (hOF'.later (ba w5 (.cells #[.string s5, .slice FA fn fc] 29))).later bS
                have hq8 := V.out.2.2.2.2.2.2.2.2.2.2.1.later b8
                have hr8 := V.out.2.2.2.2.2.2.2.2.2.2.2.1.later b8
                have c8 := bt V.out.2.2.2.2.2.2.2.2.2.1 b8
                have N := Lib.hid (And.intro hAt (And.intro hO8 (And.intro hF8 (And.intro hFn (And.intro hq8 (And.intro hr8 (And.intro c8 hby0))))))); clear hAt hO8 hF8 hFn hq8 hr8 c8 hby0 b6 b8 bS hOF hOF'
                have hrn : rs.length ≤ j := by have := V.out.2.2.2.2.2.1; rw [← V.out.2.2.2.2.1, List.length_map] at this; exact this
                have hR8 : R < w5.heap.size := by
                  have h1 := V.out.2.2.2.2.2.2.2.2.2.2.2.1.lt
                  have h2 := Z.out.2.size
                  omega
                go_wp2_with (at_builtin; go_loud (refine wpList_append_loc _ rfl (.tmp 50) (.tmp 52) 30 rfl (R + 1) 29 js (.agg #[.string ⟨#[]⟩, .slice none 0 0]) 2 40 Try.underlying30 sj sy0 sy1 sy2 rfl (by decide) (f := sxF) (fun _ => rfl) sxF_one (.slice sA2 sn2 sc2) rs rfl N.out.2.1 (some ⟨w5.heap.size + 1, 0, none⟩) 1 1 [((s5, ofF ls ss), (FA, fn, fc))] rfl rfl N.out.1 (by unfold maxLen; omega) (by omega) (by simp only [World.size_alloc]; omega) ?_; intro v7 w7 hO7 hg7 hl7; obtain ⟨nA, nn, nc, rfl⟩ := own_shape hO7; have Y7 := Lib.hid (And.intro hO7 hg7); clear hO7 hg7 hl7))
                have c7 : Below w.heap.size w w7 := N.out.2.2.2.2.2.2.1.trans (grownBy_below Y7.out.2 N.out.2.2.2.2.2.2.1.size (fun x hx => by have := (ownBI N.out.2.1 hx).1; have := HR.out; omega))
                go_roundw
                case rel =>
                  refine ⟨j + 1, SL ++ [(s5, ofF ls ss)], rs ++ [((s5, ofF ls ss), (FA, fn, fc))], by omega, by go_num, ?_, by rw [List.map_append, V.out.2.2.2.2.1]; rfl, by rw [List.length_append]; have := V.out.2.2.2.2.2.1; simp; omega, ?_, Y7.out.1, ?_, c7, N.out.2.2.2.2.1.grown Y7.out.2 (fun e => by have := (ownBI N.out.2.1 e.symm).1; have := HR.out; omega), N.out.2.2.2.2.2.1.grown Y7.out.2 (fun e => by have := (ownBI N.out.2.1 e.symm).1; omega), fun p ps'' hp _ => ?_⟩
                  · have := V.out.2.2.1; rw [if_neg (by simp), if_neg (by simp)] at this; exact this
                  · intro x hx
                    rcases List.mem_append.1 hx with hx | hx
                    · exact V.out.2.2.2.2.2.2.1 x hx
                    · obtain rfl := List.mem_singleton.1 hx
                      exact ⟨hvnm, ofF_ok H.out.2.2.2.2.1 ss⟩
                  · intro x hx
                    rcases List.mem_append.1 hx with hx | hx
                    · exact (N.out.2.2.1 x hx).grown Y7.out.2 (fun b hb => own_unlike N.out.2.1 (N.out.2.2.1 x hx) (by decide) hb)
                    · obtain rfl := List.mem_singleton.1 hx
                      exact N.out.2.2.2.1.grown Y7.out.2 (fun b hb => own_unlike N.out.2.1 N.out.2.2.2.1 (by decide) hb)
                  · have := V.out.2.2.2.2.2.2.2.2.2.2.2.2.2
                    rw [this] at hp
                    obtain rfl := (List.cons.inj hp).1
                    exact N.out.2.2.2.2.2.2.2
                case measure => simp [intOf]; omega
            · have hkf : (E1 == 0) = false := by simpa using hE0
              have hS3 : S = ((⟨#[]⟩, []), E1) := by
                have h := V.out.2.2.1
                rw [if_pos hE0] at h
                rw [HS.out, ← h]
                simp [hE0]
              have HS3 := Lib.hid hS3; clear hS3
              have hR6 := (V.out.2.2.2.2.2.2.2.2.2.2.2.1.later Z.out.2).later (ba w5 (.cells #[.string s5, .slice FA fn fc] 29))
              have r1 := hR6.cell
              have r2 := hR6.frozen
              have r3 := hR6.lt
              have c6 := Lib.hid (bt V.out.2.2.2.2.2.2.2.2.2.1 (bt Z.out.2 (ba w5 (.cells #[.string s5, .slice FA fn fc] 29)))); clear hR6
              go_wp2_with fail
              exact bodyPost_ret (v := .tuple #[.agg #[.string ⟨#[]⟩, .slice none 0 0], .int .i64 E1]) (by simp [results, Try.results18, go_sem, r1, r2, r3]) rfl ⟨none, 0, 0, by rw [HS3.out], by rw [HS3.out]; exact Own.nil _ _ _ _ _, (c6.out.setCell (p := ⟨R, 0, none⟩) HR.out _).setCell (p := ⟨R, 1, none⟩) HR.out _⟩
          · have hjm : m = j := by omega
            subst hjm
            have hPE2 : partsE ls q q.ps [] = (SL, 0) := by
              rw [← hPE, List.drop_eq_nil_of_le (by have := H.out.2.2.2.1; omega)]; rfl
            have hS3 : S = (derS q.nm (outsE SL q.os []), (outsE SL q.os []).2) := by
              rw [HS.out, hPE2]
              rw [if_neg (by simp)]
              unfold derS
              by_cases h : (outsE SL q.os []).2 = 0
              · rw [if_neg (by simp [h]), if_pos h, h]
              · rw [if_pos h, if_neg h]
            obtain ⟨sA2, sn2, sc2, rfl⟩ := own_shape hOw
            have cD := derive_any q (.slice PA m pc) (.slice OA om oc) _ SL wr (H.out.2.1.2.1.later hb) ⟨_, _, _, rfl⟩ ⟨rs, hOw.at_ (f := sxF) (k := 2) (fun _ => rfl), hrs, fun x hx => (hFs x hx).at_ (f := fldF) (k := 2) (fun _ => rfl)⟩ (by have := H.out.2.2.2.1; omega) hSo hon H.out.2.2.2.2.2.2.2.2.1.ex
            have hRl := hBr.lt
            have p0 := hBq.cell
            have V := Lib.hid (And.intro cD (And.intro hS3 (And.intro hb hBr))); clear cD hS3 hb hBr hBq hOw hFs hrs hPE hPE2 hSo hBy
            generalize derS q.nm (outsE SL q.os []) = D at V
            generalize (outsE SL q.os []).2 = E9 at V
            obtain ⟨Dn, DF⟩ := D
            go_wp2_with (go_at_call 30; ((with_reducible refine (V.out.1).mono ?_); rintro e w5 ⟨FA, fn, fc, rfl, hO5, hb5⟩; have hR5 := V.out.2.2.2.later hb5; have r1 := hR5.cell; have r2 := hR5.frozen; have r3 := hR5.lt; have Z := Lib.hid (And.intro hO5 hb5); clear hO5 hb5 p0 hR5))
            exact bodyPost_ret (v := .tuple #[.agg #[.string Dn, .slice FA fn fc], .int .i64 E9]) (by simp [results, Try.results18, go_sem, r1, r2, r3]) rfl ⟨FA, fn, fc, by rw [V.out.2.1], by rw [V.out.2.1]; exact own_down' ((Z.out.1.far (p := ⟨R, 0, none⟩) hRl (.string Dn)).far (p := ⟨R, 1, none⟩) hRl (.slice FA fn fc)) V.out.2.2.1.size, ((bt V.out.2.2.1 Z.out.2).setCell (p := ⟨R, 0, none⟩) HR.out _).setCell (p := ⟨R, 1, none⟩) HR.out _⟩
  · have hS2 := H.out.2.2.2.2.2.2.2.1
    rw [if_pos h1] at hS2
    have HS := Lib.hid hS2; clear hS2
    have h1' : (E0 == 0) = false := by simpa using h1
    have r1 := K.out.2.2.cell
    have r2 := K.out.2.2.frozen
    have r3 := K.out.2.2.lt
    go_wp2_with fail
    exact bodyPost_ret (v := .tuple #[.agg #[.string ⟨#[]⟩, .slice none 0 0], .int .i64 E0]) (by simp [results, Try.results18, go_sem, r1, r2, r3]) rfl ⟨none, 0, 0, by rw [HS.out], by rw [HS.out]; exact Own.nil _ _ _ _ _, (K.out.1.setCell (p := ⟨R, 0, none⟩) HR.out _).setCell (p := ⟨R, 1, none⟩) HR.out _⟩
end Go.Proofs.Ytkmboffbohndjaa
