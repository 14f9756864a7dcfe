/- Layer 9: Right, of queries whose expressions are right. -/
import Derived.Test.YtkmboffbohndjaaQyN
namespace Go.Proofs.Ytkmboffbohndjaa
open Go.ChangeShapes Go.WideShapes Go.ChangeAt Go.RowKit Go.Maps
set_option linter.unusedVariables false
set_option linter.unusedSimpArgs false

theorem exs_sl {w : World} {r : List (Tr × Value)} (h : ∀ x ∈ r, TrAt w x.1 x.2) : ∀ x ∈ r, isSl x.2 := fun x hx => (h x hx).sl
theorem everyRight {w : World} {v : Value} {l : List Tr} (h : ExsAt w v l) (hn : l.length ≤ 1000000) (ho : ∀ t ∈ l, t.ok = true) :
    Calls Try.prog 66 #[v, .func (.func 20) #[] #[]] w fun e w' => e = .returned (.bool true) ∧ Below w.heap.size w w' := by
  obtain ⟨r, h1, h2, h3⟩ := h
  have hr : r.length = l.length := by rw [← h2, List.length_map]
  refine (everyE v r (fun _ => true) w h1 (by omega) (exs_sl h3) (fun x hx W hW => ?_)).mono ?_
  · exact Right_tr x.1 x.2 W ((h3 x hx).later hW) (ho _ (by rw [← h2]; exact List.mem_map.2 ⟨x, hx, rfl⟩))
  · rintro e w' ⟨rfl, hb⟩
    exact ⟨by simp, hb⟩
set_option maxRecDepth 20000 in
set_option maxHeartbeats 4000000 in
theorem rightPart_any (x : Px) (w : World) (h : PxAt w x) (ho : ∀ t ∈ x.1.pd, t.ok = true) (hs : x.1.ss.length ≤ 1000000) (hd : x.1.pd.length ≤ 1000000) :
    Calls Try.prog 54 #[ptV x] w fun e w' => e = .returned (.bool (partB x.1)) ∧ Below w.heap.size w w' := by
  obtain ⟨⟨nt, pl, ss, v, pd⟩, ⟨sA, sn, sc⟩, ⟨dA, dn, dc⟩⟩ := x
  obtain ⟨g1, g2, g3, g4⟩ := h
  simp only at g1 g2 g3 g4 ho hs hd
  obtain ⟨B1, cc, hv, q4, q5, _⟩ := g1.shape
  simp only [Value.slice.injEq] at hv
  obtain ⟨q1, q2, q3⟩ := hv
  subst q2
  subst q3
  subst q1
  obtain ⟨B2, c2, hv, q6, q7⟩ := g2.shape
  simp only [Value.slice.injEq] at hv
  obtain ⟨q1, q2, q3⟩ := hv
  subst q2
  subst q3
  subst q1
  obtain ⟨n, hn⟩ : ∃ n, n = ss.length := ⟨_, rfl⟩
  obtain ⟨m, hm⟩ : ∃ m, m = pd.length := ⟨_, rfl⟩
  have hPB : partB ⟨nt, pl, ss, v, pd⟩ = (decide (1 ≤ n) && decide (n ≤ 4) && !(nt && pl) && decide (m ≤ 1) && namesB ss) := by
    have : pd.all Tr.ok = true := List.all_eq_true.2 ho
    simp only [partB, this, hn, hm, Bool.and_true]
  show Calls Try.prog 54 #[.agg #[.bool nt, .bool pl, .slice sA ss.length sc, .string v, .slice dA pd.length dc]] w _
  rw [← hn] at g1 hs ⊢
  rw [← hm] at g2 hd ⊢
  have b0 := ba w (.cells #[.bool nt, .bool pl, .slice sA n sc, .string v, .slice dA m dc] 59)
  have hB := Blk.new w 59 #[.bool nt, .bool pl, .slice sA n sc, .string v, .slice dA m dc]
  have cE := fun W (hW : Below w.heap.size w W) => everyRight (g2.later hW) (by omega) ho
  have cN := fun W (hW : Below w.heap.size w W) => namesS _ ss W (g1.later hW) (by omega) g4
  rw [List.map_id'] at cN
  have H := Lib.hid (And.intro hPB (And.intro cE (And.intro cN (And.intro b0 hB)))); clear hPB cE cN b0 hB g1 g2 g3 g4 hn hm ho q4 q5 q6 q7
  go_enter Try.func54, Try.ntmps54
  by_cases h1 : 1 ≤ n
  · by_cases h2 : n ≤ 4
    · by_cases h3 : (nt && pl) = true
      · obtain ⟨rfl, rfl⟩ : nt = true ∧ pl = true := by simpa using h3
        have hd1 : decide (1 ≤ n) = true := decide_eq_true h1
        have hd2 : decide (n ≤ 4) = true := decide_eq_true h2
        clear h3
        go_wp2_with fail
        go_ret
        refine ⟨?_, H.out.2.2.2.1⟩
        rw [H.out.1]; simp
      · have h3' : (nt && pl) = false := by simpa using h3
        by_cases h4 : m ≤ 1
        · have hd1 : decide (1 ≤ n) = true := decide_eq_true h1
          have hd2 : decide (n ≤ 4) = true := decide_eq_true h2
          have hd3 : decide (m ≤ 1) = true := decide_eq_true h4
          have hPB : partB ⟨nt, pl, ss, v, pd⟩ = namesB ss := by rw [H.out.1, hd1, hd2, hd3, h3']; simp
          have HP := Lib.hid hPB; clear hPB h3
          have hnp : nt = false ∨ (nt = true ∧ pl = false) := by cases nt <;> cases pl <;> simp_all
          clear h3'
          rcases hnp with rfl | ⟨rfl, rfl⟩
          all_goals
            go_wp2_with fail
            refine (H.out.2.1 _ H.out.2.2.2.1).mono ?_
            rintro e w5 ⟨rfl, b5⟩
            have p5 := (H.out.2.2.2.2.later b5).cell
            have B5 := Lib.hid (bt H.out.2.2.2.1 b5); clear b5
            go_wp2_with fail
            clear p5
            refine (H.out.2.2.1 _ B5.out).mono ?_
            rintro e w6 ⟨rfl, b6⟩
            have B6 := Lib.hid (bt B5.out b6); clear b6
            go_wp2_with fail
            go_ret
            refine ⟨?_, B6.out⟩
            rw [HP.out]; rfl
        · have hd1 : decide (1 ≤ n) = true := decide_eq_true h1
          have hd2 : decide (n ≤ 4) = true := decide_eq_true h2
          have hd3 : decide (m ≤ 1) = false := decide_eq_false h4
          have hPB : partB ⟨nt, pl, ss, v, pd⟩ = false := by rw [H.out.1, hd3]; simp
          have HP := Lib.hid hPB; clear hPB h3
          have hnp : nt = false ∨ (nt = true ∧ pl = false) := by cases nt <;> cases pl <;> simp_all
          clear h3'
          rcases hnp with rfl | ⟨rfl, rfl⟩
          all_goals
            go_wp2_with fail
            go_ret
            refine ⟨?_, H.out.2.2.2.1⟩
            rw [HP.out]; rfl
    · have hd1 : decide (1 ≤ n) = true := decide_eq_true h1
      have hd2 : decide (n ≤ 4) = false := decide_eq_false h2
      have hPB : partB ⟨nt, pl, ss, v, pd⟩ = false := by rw [H.out.1, hd2]; simp
      have HP := Lib.hid hPB; clear hPB
      go_wp2_with fail
      go_ret
      refine ⟨?_, H.out.2.2.2.1⟩
      rw [HP.out]; rfl
  · have hd1 : decide (1 ≤ n) = false := decide_eq_false h1
    have hPB : partB ⟨nt, pl, ss, v, pd⟩ = false := by rw [H.out.1, hd1]; simp
    have HP := Lib.hid hPB; clear hPB
    go_wp2_with fail
    go_ret
    refine ⟨?_, H.out.2.2.2.1⟩
    rw [HP.out]; rfl
theorem rightOut1_any (x : Ox) (w : World) (h : TrAt w x.1.e x.2) (ho : x.1.e.ok = true) :
    Calls Try.prog 58 #[otV x] w fun e w' => e = .returned (.bool true) ∧ Below w.heap.size w w' := by
  obtain ⟨⟨fl, t⟩, K⟩ := x
  obtain ⟨A8, n8, c8, rfl⟩ := h.sl
  obtain ⟨k1, op, vk, vn, vs, va, vf, B8, m8, d8, hval, hnode⟩ := Tr.val_ev' t A8 n8 c8
  simp only [otV, hnode]
  have b0 := ba w (.cells #[.string fl, .int .i64 k1, .string op, .int .i64 vk, .int .i64 vn, .string vs, .string va, .string vf, .slice B8 m8 d8] 62)
  have cR := Right_tr t _ _ (h.later b0) ho
  simp only [hval] at cR
  have H := Lib.hid (And.intro cR b0); clear cR b0
  go_enter Try.func58, Try.ntmps58
  go_wp2_with fail
  refine H.out.1.mono ?_
  rintro e w5 ⟨rfl, b5⟩
  have B5 := Lib.hid (bt H.out.2 b5); clear b5
  go_wp2_with fail
  go_ret
  exact ⟨rfl, B5.out⟩
set_option maxHeartbeats 1000000 in
theorem rightOut_any (v : Value) (os : List Ot) (w : World) (h : OtsAt w v os) (ho : ∀ o ∈ os, o.e.ok = true) (hn : os.length ≤ 1000000) :
    Calls Try.prog 39 #[v] w fun e w' => e = .returned (.bool (outsB os)) ∧ Below w.heap.size w w' := by
  obtain ⟨A, c, rfl, q1, q2⟩ := h.shape
  obtain ⟨r, h1, h2, h3⟩ := h
  have hr : r.length = os.length := by rw [← h2, List.length_map]
  have hfs : r.map (fun x => x.1.f) = os.map (·.f) := by rw [← h2, List.map_map]; rfl
  have hall : os.all (·.e.ok) = true := List.all_eq_true.2 ho
  obtain ⟨n, hnl⟩ : ∃ n, n = os.length := ⟨_, rfl⟩
  have hOB : outsB os = (decide (n ≤ 6) && namesB (os.map (·.f))) := by unfold outsB; rw [hall, hnl]; simp
  have cE : Calls Try.prog 57 #[.slice A os.length c, .func (.func 58) #[] #[]] w fun e w' => e = .returned (.bool true) ∧ Below w.heap.size w w' :=
    (everyO _ r (fun _ => true) w h1 (by omega) (fun x hx => (h3 x hx).1.sl) (fun x hx W hW => rightOut1_any x W ((h3 x hx).1.later hW) (ho _ (by rw [← h2]; exact List.mem_map.2 ⟨x, hx, rfl⟩)))).mono (fun e w' ⟨he, hb⟩ => ⟨by rw [he]; simp, hb⟩)
  have cN := fun W (hW : Below w.heap.size w W) => namesO _ r W (h1.later hW) (by omega) (fun x hx => (h3 x hx).1.sl) (fun x hx => (h3 x hx).2)
  rw [hfs] at cN
  rw [← hnl] at cE cN ⊢
  have H := Lib.hid (And.intro hOB (And.intro cE cN)); clear hOB cE cN h1 h2 h3 hr hfs hall hnl ho hn q1 q2
  go_enter Try.func39, Try.ntmps39
  by_cases h6 : n ≤ 6
  · have hd : decide (n ≤ 6) = true := decide_eq_true h6
    have HP := Lib.hid (show outsB os = namesB (os.map (·.f)) by rw [H.out.1, hd]; simp)
    go_wp2_with fail
    refine H.out.2.1.mono ?_
    rintro e w5 ⟨rfl, b5⟩
    have B5 := Lib.hid b5; clear b5
    go_wp2_with fail
    refine (H.out.2.2 _ B5.out).mono ?_
    rintro e w6 ⟨rfl, b6⟩
    have B6 := Lib.hid (bt B5.out b6); clear b6
    go_wp2_with fail
    go_ret
    refine ⟨?_, B6.out⟩
    rw [HP.out]; rfl
  · have hd : decide (n ≤ 6) = false := decide_eq_false h6
    have HP := Lib.hid (show outsB os = false by rw [H.out.1, hd]; simp)
    go_wp2_with fail
    go_ret
    refine ⟨?_, Below.refl _ _⟩
    rw [HP.out]; rfl
end Go.Proofs.Ytkmboffbohndjaa
