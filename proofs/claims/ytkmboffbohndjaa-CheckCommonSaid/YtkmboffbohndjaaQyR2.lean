/- Layer 9: Right, of a query whose expressions are right. -/
import Derived.Test.YtkmboffbohndjaaQyR
namespace Go.Proofs.Ytkmboffbohndjaa
open Go.ChangeShapes Go.WideShapes Go.ChangeAt Go.RowKit Go.Maps
set_option linter.unusedVariables false
set_option linter.unusedSimpArgs false

theorem nil_toList : (⟨#[]⟩ : ByteArray).toList = [] := by rw [Lib.toList_data]
theorem addr_zero (a : Addr) : a.add 0 = a := by unfold Addr.add; simp
theorem notP_any (x : Px) (W : World) : Calls Try.prog 52 #[ptV x] W fun e w' => e = .returned (.bool x.1.nt) ∧ Below W.heap.size W w' := by
  obtain ⟨⟨nt, pl, ss, v, pd⟩, ⟨sA, sn, sc⟩, ⟨dA, dn, dc⟩⟩ := x
  have b0 := ba W (.cells #[.bool nt, .bool pl, .slice sA sn sc, .string v, .slice dA dn dc] 59)
  have H := Lib.hid b0; clear b0
  go_enter Try.func52, Try.ntmps52
  go_wp2_with fail
  go_ret
  exact ⟨rfl, H.out⟩
/-- Whose expressions are all right, and few. -/
structure QOk (q : Qy) : Prop where
  pd : ∀ p ∈ q.ps, ∀ t ∈ p.pd, t.ok = true
  ex : ∀ o ∈ q.os, o.e.ok = true
  ns : ∀ p ∈ q.ps, p.ss.length ≤ 1000
  nd : ∀ p ∈ q.ps, p.pd.length ≤ 1000
  np : q.ps.length ≤ 1000
  no : q.os.length ≤ 1000
set_option maxRecDepth 20000 in
set_option maxHeartbeats 4000000 in
theorem rightParts_any (q : Qy) (pv ov : Value) (w : World) (h : QyAt w pv ov q) (ho : QOk q) :
    Calls Try.prog 38 #[qv q pv ov] w fun e w' => e = .returned (.bool (partsB q.st q.ps)) ∧ Below w.heap.size w w' := by
  obtain ⟨hp, _, _, _⟩ := h
  obtain ⟨A, c, rfl, q1, q2⟩ := hp.shape
  obtain ⟨r, h1, h2, h3⟩ := hp
  have hr : r.length = q.ps.length := by rw [← h2, List.length_map]
  have hmem : ∀ x ∈ r, x.1 ∈ q.ps := fun x hx => by rw [← h2]; exact List.mem_map.2 ⟨x, hx, rfl⟩
  have hvs : r.map (fun x => x.1.v) = q.ps.map (·.v) := by rw [← h2, List.map_map]; rfl
  have hnt : r.any (fun x => x.1.nt) = q.ps.any (·.nt) := by rw [← h2, List.any_map]; rfl
  have hpb : r.all (fun x => partB x.1) = q.ps.all partB := by rw [← h2, List.all_map]; rfl
  obtain ⟨n, hnl⟩ : ∃ n, n = q.ps.length := ⟨_, rfl⟩
  have hn := ho.np
  have cC := fun W (hW : Below w.heap.size w W) => containsP_not _ r (fun x => x.1.nt) W (h1.later hW) (by omega) (fun x hx W' _ => notP_any x W')
  have cE := fun W (hW : Below w.heap.size w W) => everyP _ r (fun x => partB x.1) W (h1.later hW) (by omega) (fun x hx W' hW' => rightPart_any x W' ((h3 x hx).later (bt hW hW')) (ho.pd _ (hmem x hx)) (by have := ho.ns _ (hmem x hx); omega) (by have := ho.nd _ (hmem x hx); omega))
  have cN := fun W (hW : Below w.heap.size w W) => namesP _ r W (h1.later hW) (by omega) (fun x hx => (h3 x hx).2.2.1)
  rw [hvs] at cN
  rw [hnt] at cC
  rw [hpb] at cE
  have hz : 0 < n → ∃ a b, A = some a ∧ (q.ps.head?.map (·.nt)).getD false = b ∧ ∀ W, Below w.heap.size w W → W.cell? a = some (.bool b) := fun h0 => by
    have hr0 : 0 < r.length := by omega
    rcases hr' : r with _ | ⟨x, t⟩
    · rw [hr'] at hr0; simp at hr0
    · obtain ⟨B, c', hv, k1, k2, k3, k4⟩ := h1
      simp only [Value.slice.injEq] at hv
      obtain ⟨rfl, _, _⟩ := hv
      cases A with
      | none => have := k3 rfl; omega
      | some a =>
        refine ⟨a, x.1.nt, rfl, by rw [← h2, hr']; rfl, fun W hW => ?_⟩
        have h5 := k4 a rfl 0 hr0 0 (.bool x.1.nt) (by simp only [hr']; rfl)
        rw [Nat.zero_mul, Nat.add_zero, addr_zero] at h5
        rw [hW.cell (World.block_lt_of_cell? w _ h5)]; exact h5
  have hPB : partsB q.st q.ps = (decide (1 ≤ n) && decide (n ≤ 8) && !(q.ps.head?.map (·.nt)).getD false && !(q.st && q.ps.any (·.nt)) && q.ps.all partB && namesB (q.ps.map (·.v))) := by
    unfold partsB; rw [hnl]
  rw [← hnl] at cC cE cN hn ⊢
  have b0 := ba w (.cells #[.string q.nm, .bool q.st, .slice A n c, .int .i64 q.wi, .string q.by_, ov] 65)
  have hB := Blk.new w 65 #[.string q.nm, .bool q.st, .slice A n c, .int .i64 q.wi, .string q.by_, ov]
  have H := Lib.hid (And.intro hPB (And.intro cC (And.intro cE (And.intro cN (And.intro b0 (And.intro hB hz)))))); clear hPB cC cE cN b0 hB hz h1 h2 h3 hr hmem hvs hnt hpb hnl ho q1 q2
  go_enter Try.func38, Try.ntmps38
  by_cases h1 : 1 ≤ n
  · have hd1 : decide (n < 1) = false := decide_eq_false (by omega)
    have hd1' : ¬ n < 1 := by omega
    by_cases h8 : n ≤ 8
    · have hd2 : decide (8 < n) = false := decide_eq_false (by omega)
      have hd2' : ¬ 8 < n := by omega
      have hn0 : 0 < n := by omega
      obtain ⟨a, b, rfl, hb, hc⟩ := H.out.2.2.2.2.2.2 (by omega)
      have c0 := hc _ H.out.2.2.2.2.1
      have HP0 := Lib.hid (show partsB q.st q.ps = (!b && !(q.st && q.ps.any (·.nt)) && q.ps.all partB && namesB (q.ps.map (·.v))) by rw [H.out.1, decide_eq_true h1, decide_eq_true h8, hb]; simp)
      clear hc hb
      cases b with
      | true =>
        go_wp2_with fail
        go_ret
        refine ⟨?_, H.out.2.2.2.2.1⟩
        rw [HP0.out]; simp
      | false =>
        have HB := Lib.hid H.out.2.2.2.2.2.1
        cases hst : q.st with
        | false =>
          rw [hst] at H HB HP0 c0
          have HP := Lib.hid (show partsB false q.ps = (q.ps.all partB && namesB (q.ps.map (·.v))) by rw [HP0.out]; simp)
          clear HP0
          go_wp2_with fail
          refine (H.out.2.2.1 _ H.out.2.2.2.2.1).mono ?_
          rintro e w5 ⟨rfl, b5⟩
          have p5 := (HB.out.later b5).cell
          have B5 := Lib.hid (bt H.out.2.2.2.2.1 b5); clear b5
          cases hall : q.ps.all partB with
          | false =>
            have HQ := Lib.hid (show partsB false q.ps = false by rw [HP.out, hall]; rfl)
            clear hall c0
            go_wp2_with fail
            go_ret
            refine ⟨?_, B5.out⟩
            rw [HQ.out]; rfl
          | true =>
            have HQ := Lib.hid (show partsB false q.ps = namesB (q.ps.map (·.v)) by rw [HP.out, hall]; rfl)
            clear hall c0
            go_wp2_with fail
            clear p5
            refine (H.out.2.2.2.1 _ B5.out).mono ?_
            rintro e w6 ⟨rfl, b6⟩
            have B6 := Lib.hid (bt B5.out b6); clear b6
            go_wp2_with fail
            go_ret
            refine ⟨?_, B6.out⟩
            rw [HQ.out]; rfl
        | true =>
          rw [hst] at H HB HP0 c0
          go_wp2_with fail
          refine (H.out.2.1 _ H.out.2.2.2.2.1).mono ?_
          rintro e w4 ⟨rfl, b4⟩
          have p4 := (HB.out.later b4).cell
          have B4 := Lib.hid (bt H.out.2.2.2.2.1 b4); 
          have HB4 := Lib.hid (HB.out.later b4); clear b4
          cases hany : q.ps.any (·.nt) with
          | true =>
            have HQ := Lib.hid (show partsB true q.ps = false by rw [HP0.out, hany]; simp)
            clear hany c0
            go_wp2_with fail
            go_ret
            refine ⟨?_, B4.out⟩
            rw [HQ.out]; rfl
          | false =>
            have HP := Lib.hid (show partsB true q.ps = (q.ps.all partB && namesB (q.ps.map (·.v))) by rw [HP0.out, hany]; simp)
            clear HP0 hany c0
            go_wp2_with fail
            clear p4
            refine (H.out.2.2.1 _ B4.out).mono ?_
            rintro e w5 ⟨rfl, b5⟩
            have p5 := (HB4.out.later b5).cell
            have B5 := Lib.hid (bt B4.out b5); clear b5
            cases hall : q.ps.all partB with
            | false =>
              have HQ := Lib.hid (show partsB true q.ps = false by rw [HP.out, hall]; rfl)
              clear hall
              go_wp2_with fail
              go_ret
              refine ⟨?_, B5.out⟩
              rw [HQ.out]; rfl
            | true =>
              have HQ := Lib.hid (show partsB true q.ps = namesB (q.ps.map (·.v)) by rw [HP.out, hall]; rfl)
              clear hall
              go_wp2_with fail
              clear p5
              refine (H.out.2.2.2.1 _ B5.out).mono ?_
              rintro e w6 ⟨rfl, b6⟩
              have B6 := Lib.hid (bt B5.out b6); clear b6
              go_wp2_with fail
              go_ret
              refine ⟨?_, B6.out⟩
              rw [HQ.out]; rfl
    · have hd2 : decide (8 < n) = true := decide_eq_true (by omega)
      have HQ := Lib.hid (show partsB q.st q.ps = false by rw [H.out.1, decide_eq_false h8]; simp)
      have hd2' : 8 < n := by omega
      go_wp2_with fail
      go_ret
      refine ⟨?_, H.out.2.2.2.2.1⟩
      rw [HQ.out]; rfl
  · have hd1 : decide (n < 1) = true := decide_eq_true (by omega)
    have hd1' : n < 1 := by omega
    have HQ := Lib.hid (show partsB q.st q.ps = false by rw [H.out.1, decide_eq_false h1]; simp)
    go_wp2_with fail
    go_ret
    refine ⟨?_, H.out.2.2.2.2.1⟩
    rw [HQ.out]; rfl
set_option maxRecDepth 20000 in
set_option maxHeartbeats 4000000 in
theorem RightQ_any (q : Qy) (pv ov : Value) (w : World) (h : QyAt w pv ov q) (ho : QOk q) :
    Calls Try.prog 27 #[qv q pv ov] w fun e w' => e = .returned (.bool (queryB q)) ∧ Below w.heap.size w w' := by
  obtain ⟨A, c, rfl, _, _⟩ := h.1.shape
  obtain ⟨A2, c2, rfl, _, _⟩ := h.2.1.shape
  obtain ⟨n, hn⟩ : ∃ n, n = q.ps.length := ⟨_, rfl⟩
  obtain ⟨m, hm⟩ : ∃ m, m = q.os.length := ⟨_, rfl⟩
  have hsn := h.2.2.1
  have hsb := h.2.2.2
  have cP := fun W (hW : Below w.heap.size w W) => rightParts_any q _ _ W (h.later hW) ho
  have cO := fun W (hW : Below w.heap.size w W) => rightOut_any _ q.os W (h.2.1.later hW) ho.ex (by have := ho.no; omega)
  have hQB : queryB q = (nameB q.nm && decide (0 ≤ q.wi) && decide (q.wi ≤ 1000000) && (decide (q.by_.size = 0) || nameB q.by_) && partsB q.st q.ps && outsB q.os) := rfl
  rw [← hn, ← hm] at cP
  rw [← hm] at cO
  rw [← hn, ← hm]
  have b0 := ba w (.cells #[.string q.nm, .bool q.st, .slice A n c, .int .i64 q.wi, .string q.by_, .slice A2 m c2] 65)
  have hB := Blk.new w 65 #[.string q.nm, .bool q.st, .slice A n c, .int .i64 q.wi, .string q.by_, .slice A2 m c2]
  have H := Lib.hid (And.intro hQB (And.intro cP (And.intro cO (And.intro b0 hB)))); clear hQB cP cO b0 hB hn hm h
  go_enter Try.func27, Try.ntmps27
  go_wp2_with fail
  try go_at_call 37
  refine (IsName_any q.nm _ hsn).mono ?_
  rintro e w5 ⟨rfl, rfl⟩
  cases hnb : nameB q.nm with
  | false =>
    have HQ := Lib.hid (show queryB q = false by rw [H.out.1, hnb]; rfl); clear hnb
    go_wp2_with fail
    go_ret
    refine ⟨?_, H.out.2.2.2.1⟩
    rw [HQ.out]; rfl
  | true =>
    by_cases h0 : 0 ≤ q.wi
    · by_cases h1 : q.wi ≤ 1000000
      · have d0 : decide (0 ≤ q.wi) = true := decide_eq_true h0
        have d1 : decide (q.wi ≤ 1000000) = true := decide_eq_true h1
        have HQ := Lib.hid (show queryB q = ((decide (q.by_.size = 0) || nameB q.by_) && partsB q.st q.ps && outsB q.os) by rw [H.out.1, hnb, d0, d1]; simp); clear hnb
        have tail : ∀ (W : World), Below w.heap.size w W → True := fun _ _ => trivial
        clear tail
        by_cases hz : q.by_ = ⟨#[]⟩
        · have HQ2 := Lib.hid (show queryB q = (partsB q.st q.ps && outsB q.os) by rw [HQ.out, hz]; rfl)
          have hzl : q.by_.toList = [] := by rw [hz]; exact nil_toList
          have hzb : (q.by_.toList == (⟨#[]⟩ : ByteArray).toList) = true := by rw [hz]; simp
          clear hz
          go_wp2_with fail
          refine (H.out.2.1 _ H.out.2.2.2.1).mono ?_
          rintro e w6 ⟨rfl, b6⟩
          have p6 := (H.out.2.2.2.2.later b6).cell
          have B6 := Lib.hid (bt H.out.2.2.2.1 b6); clear b6
          cases hpb : partsB q.st q.ps with
          | false =>
            have HQ3 := Lib.hid (show queryB q = false by rw [HQ2.out, hpb]; rfl); clear hpb
            go_wp2_with fail
            go_ret
            refine ⟨?_, B6.out⟩
            rw [HQ3.out]; rfl
          | true =>
            have HQ3 := Lib.hid (show queryB q = outsB q.os by rw [HQ2.out, hpb]; rfl); clear hpb
            go_wp2_with fail
            clear p6
            refine (H.out.2.2.1 _ B6.out).mono ?_
            rintro e w7 ⟨rfl, b7⟩
            have B7 := Lib.hid (bt B6.out b7); clear b7
            go_wp2_with fail
            go_ret
            refine ⟨?_, B7.out⟩
            rw [HQ3.out]; rfl
        · have hzl : ¬ q.by_.toList = [] := fun h => hz (toList_inj (h.trans nil_toList.symm))
          have hzb : (q.by_.toList == (⟨#[]⟩ : ByteArray).toList) = false := by simpa using hzl
          have hzs : decide (q.by_.size = 0) = false := decide_eq_false (fun h => hz (by
            apply toList_inj
            have : q.by_.toList.length = 0 := by rw [Lib.toList_data, Array.length_toList]; exact h
            rw [List.eq_nil_of_length_eq_zero this, nil_toList]))
          have HQ2 := Lib.hid (show queryB q = (nameB q.by_ && partsB q.st q.ps && outsB q.os) by rw [HQ.out, hzs]; simp)
          clear hz hzs
          go_wp2_with fail
          try go_at_call 37
          refine (IsName_any q.by_ _ hsb).mono ?_
          rintro e w6 ⟨rfl, rfl⟩
          cases hnb2 : nameB q.by_ with
          | false =>
            have HQ3 := Lib.hid (show queryB q = false by rw [HQ2.out, hnb2]; rfl); clear hnb2
            go_wp2_with fail
            go_ret
            refine ⟨?_, H.out.2.2.2.1⟩
            rw [HQ3.out]; rfl
          | true =>
            have HQ3 := Lib.hid (show queryB q = (partsB q.st q.ps && outsB q.os) by rw [HQ2.out, hnb2]; rfl); clear hnb2
            go_wp2_with fail
            refine (H.out.2.1 _ H.out.2.2.2.1).mono ?_
            rintro e w6 ⟨rfl, b6⟩
            have p6 := (H.out.2.2.2.2.later b6).cell
            have B6 := Lib.hid (bt H.out.2.2.2.1 b6); clear b6
            cases hpb : partsB q.st q.ps with
            | false =>
              have HQ4 := Lib.hid (show queryB q = false by rw [HQ3.out, hpb]; rfl); clear hpb
              go_wp2_with fail
              go_ret
              refine ⟨?_, B6.out⟩
              rw [HQ4.out]; rfl
            | true =>
              have HQ4 := Lib.hid (show queryB q = outsB q.os by rw [HQ3.out, hpb]; rfl); clear hpb
              go_wp2_with fail
              clear p6
              refine (H.out.2.2.1 _ B6.out).mono ?_
              rintro e w7 ⟨rfl, b7⟩
              have B7 := Lib.hid (bt B6.out b7); clear b7
              go_wp2_with fail
              go_ret
              refine ⟨?_, B7.out⟩
              rw [HQ4.out]; rfl
      · have d1 : decide (q.wi ≤ 1000000) = false := decide_eq_false h1
        have HQ := Lib.hid (show queryB q = false by rw [H.out.1, d1]; simp); clear hnb
        go_wp2_with fail
        go_ret
        refine ⟨?_, H.out.2.2.2.1⟩
        rw [HQ.out]; rfl
    · have d0 : decide (0 ≤ q.wi) = false := decide_eq_false h0
      have HQ := Lib.hid (show queryB q = false by rw [H.out.1, d0]; simp); clear hnb
      go_wp2_with fail
      go_ret
      refine ⟨?_, H.out.2.2.2.1⟩
      rw [HQ.out]; rfl
end Go.Proofs.Ytkmboffbohndjaa
