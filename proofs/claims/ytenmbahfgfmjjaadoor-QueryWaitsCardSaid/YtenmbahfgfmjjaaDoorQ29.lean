/- Texts that several proofs stand on, part 29. -/
import Derived.Test.YtenmbahfgfmjjaaDoorQ28
import Derived.Test.YtenmbahfgfmjjaaDoorQ27
import Derived.Deep.DeepCutAuto
import Derived.Deep.CutBlock
namespace Go.Proofs.YtenmbahfgfmjjaaDoor
open Go.ChangeShapes Go.WideShapes Go.ChangeAt Go.RowKit Go.Maps
set_option linter.unusedVariables false
set_option linter.unusedSimpArgs false

theorem ba_eq {a : ByteArray} {l : List UInt8} (h : a.data.toList = l) : a = ⟨l.toArray⟩ := by
  subst h
  cases a; simp
theorem str_ret {a : ByteArray} {l : List UInt8} (h : a.data.toList = l) : Ending.returned (.string a) = Ending.returned (.string ⟨l.toArray⟩) := by rw [ba_eq h]
def partT (p : Pt) : List UInt8 := (if p.nt then [33] else []) ++ (Lib.join (p.ss.map (·.data.toList)) [32, 124, 32] ++ ([32] ++ (p.v.data.toList ++ ((if p.pl then [43] else []) ++ (if p.pd.length = 0 then [] else [91] ++ (Lib.join (p.pd.map putT) [44, 32] ++ [93]))))))
/-- What is few, and right, in an expression. -/
def Sm (t : Tr) : Prop := t.ok = true ∧ t.small ∧ t.len ≤ 400000
theorem exsPut {v : Value} {l : List Tr} {w : World} (h : ExsAt w v l) (hn : l.length ≤ 100) (ho : ∀ t ∈ l, Sm t) (hT : Tab w) :
    Calls Tryd.prog 48 #[v, .func (.func 49) #[] #[], .string ⟨#[44, 32]⟩] w fun e w' => e = .returned (.string ⟨(Lib.join (l.map putT) [44, 32]).toArray⟩) ∧ Below w.heap.size w w' := by
  obtain ⟨r, h1, h2, h3⟩ := h
  have hr : r.length = l.length := by rw [← h2, List.length_map]
  have hm : r.map (fun x => putT x.1) = l.map putT := by rw [← h2, List.map_map]; rfl
  have hsm : ∀ x ∈ r, Sm x.1 := fun x hx => ho _ (by rw [← h2]; exact List.mem_map.2 ⟨x, hx, rfl⟩)
  have hb := join_len 400000 [44, 32] (l.map putT) (fun y hy => by
    obtain ⟨t, ht, rfl⟩ := List.mem_map.1 hy
    have := putT_len t
    have := (ho t ht).2.2
    omega)
  rw [List.length_map] at hb
  have hb2 := Nat.mul_le_mul_right (400000 + ([44, 32] : List UInt8).length) hn
  have := joinedE v r ⟨#[44, 32]⟩ (fun x => putT x.1) w h1 (by omega) (exs_sl h3) (by rw [hm]; exact Nat.le_trans hb (Nat.le_trans hb2 (by decide))) (fun x hx W hW => Put_tr x.1 x.2 W ((h3 x hx).later hW) (hsm x hx).1 (hsm x hx).2.1 (by have := (hsm x hx).2.2; omega) (hT.later hW))
  rw [hm] at this
  exact this
set_option maxRecDepth 20000 in
set_option maxHeartbeats 4000000 in
theorem PtPut_any (x : Px) (w : World) (h : PxAt w x) (hs : x.1.ss.length ≤ 100) (hz : ∀ s ∈ x.1.ss, s.size ≤ 1000) (hvz : x.1.v.size ≤ 1000) (hd : x.1.pd.length ≤ 100) (ho : ∀ t ∈ x.1.pd, Sm t) (hT : Tab w) :
    Calls Tryd.prog 23 #[ptV x] w fun e w' => e = .returned (.string ⟨(partT x.1).toArray⟩) ∧ Below w.heap.size w w' := by
  obtain ⟨⟨nt, pl, ss, v, pd⟩, ⟨sA, sn, sc⟩, ⟨dA, dn, dc⟩⟩ := x
  obtain ⟨g1, g2, g3, g4⟩ := h
  simp only at g1 g2 g3 g4 ho hs hd hz hvz
  obtain ⟨B2, c2, hv, q6, q7⟩ := g2.shape
  simp only [Value.slice.injEq] at hv
  obtain ⟨q1, q2, q3⟩ := hv
  subst q2
  subst q3
  subst q1
  obtain ⟨m, hm⟩ : ∃ m, m = pd.length := ⟨_, rfl⟩
  show Calls Tryd.prog 23 #[.agg #[.bool nt, .bool pl, .slice sA sn sc, .string v, .slice dA pd.length dc]] w _
  have hb := join_len 1000 [32, 124, 32] (ss.map (·.data.toList)) (fun y hy => by
    obtain ⟨t, ht, rfl⟩ := List.mem_map.1 hy
    have := hz t ht
    rw [Array.length_toList]; exact this)
  rw [List.length_map] at hb
  have hb2 := Nat.mul_le_mul_right (1000 + ([32, 124, 32] : List UInt8).length) hs
  have cJ := fun W (hW : Below w.heap.size w W) => Join_any _ ss ⟨#[32, 124, 32]⟩ W (g1.later hW) (by omega) (Nat.le_trans hb (Nat.le_trans hb2 (by decide)))
  have cE := fun W (hW : Below w.heap.size w W) => exsPut (g2.later hW) hd ho (hT.later hW)
  obtain ⟨J, hJ⟩ : ∃ J : ByteArray, J = ⟨(Lib.join (ss.map (·.data.toList)) [32, 124, 32]).toArray⟩ := ⟨_, rfl⟩
  obtain ⟨E, hE⟩ : ∃ E : ByteArray, E = ⟨(Lib.join (pd.map putT) [44, 32]).toArray⟩ := ⟨_, rfl⟩
  have hJd : J.data.toList = Lib.join (ss.map (·.data.toList)) [32, 124, 32] := by rw [hJ]
  have hEd : E.data.toList = Lib.join (pd.map putT) [44, 32] := by rw [hE]
  have hJz : J.size ≤ 1000000 := by
    have e : J.size = (Lib.join (ss.map (·.data.toList)) [32, 124, 32]).length := by rw [← hJd, Array.length_toList]; rfl
    rw [e]; exact Nat.le_trans hb (Nat.le_trans hb2 (by decide))
  have hEz : E.size ≤ 100000000 := by
    have e : E.size = (Lib.join (pd.map putT) [44, 32]).length := by rw [← hEd, Array.length_toList]; rfl
    have hb3 := join_len 400000 [44, 32] (pd.map putT) (fun y hy => by
      obtain ⟨t, ht, rfl⟩ := List.mem_map.1 hy
      have := putT_len t
      have := (ho t ht).2.2
      omega)
    rw [List.length_map] at hb3
    have hb4 := Nat.mul_le_mul_right (400000 + ([44, 32] : List UInt8).length) hd
    rw [e]; exact Nat.le_trans hb3 (Nat.le_trans hb4 (by decide))
  have cJ' : ∀ W, Below w.heap.size w W → Calls Tryd.prog 47 #[.slice sA sn sc, .string ⟨#[32, 124, 32]⟩] W fun e w' => e = .returned (.string J) ∧ Below W.heap.size W w' := fun W hW => by rw [hJ]; exact cJ W hW
  have cE' : ∀ W, Below w.heap.size w W → Calls Tryd.prog 48 #[.slice dA pd.length dc, .func (.func 49) #[] #[], .string ⟨#[44, 32]⟩] W fun e w' => e = .returned (.string E) ∧ Below W.heap.size W w' := fun W hW => by rw [hE]; exact cE W hW
  clear cJ cE
  have hTx : partT ⟨nt, pl, ss, v, pd⟩ = (if nt then [33] else []) ++ (J.data.toList ++ ([32] ++ (v.data.toList ++ ((if pl then [43] else []) ++ (if m = 0 then [] else [91] ++ (E.data.toList ++ [93])))))) := by rw [hJd, hEd, hm]; rfl
  clear hJ hE hJd hEd
  have f1 : ¬ 9223372036854775807 < J.size + 1 := by omega
  have f2 : ¬ 9223372036854775807 < J.size + 1 + v.size := by omega
  rw [← hm] at cE' ⊢
  have b0 := ba w (.cells #[.bool nt, .bool pl, .slice sA sn sc, .string v, .slice dA m dc] 37)
  have hB := Blk.new w 37 #[.bool nt, .bool pl, .slice sA sn sc, .string v, .slice dA m dc]
  obtain ⟨w1, hw1⟩ : ∃ w1, w1 = w.alloc (.cells #[.bool nt, .bool pl, .slice sA sn sc, .string v, .slice dA m dc] 37) := ⟨_, rfl⟩
  rw [← hw1] at b0 hB
  have H := Lib.hid (And.intro cJ' (And.intro cE' (And.intro hTx (And.intro b0 hB)))); clear cJ' cE' hTx b0 hB g1 g2 g3 g4 hm ho hs hz hb hb2 hd q6 q7 hT
  go_enter Tryd.func23, Tryd.ntmps23
  go_upto_region 1 with fail
  rw [← hw1]
  clear hw1
  have keepS : ∀ X, Below w1.heap.size w1 X → X.cell? ⟨w.heap.size, 2, none⟩ = some (.slice sA sn sc) ∧ X.cell? ⟨w.heap.size, 3, none⟩ = some (.string v) := fun X hX => ⟨(H.out.2.2.2.2.later hX).cell 2, (H.out.2.2.2.2.later hX).cell 3⟩
  refine wp_region_held_drew (S := (fun w' => w'.cell? ⟨w.heap.size, 2, none⟩ = some (.slice sA sn sc) ∧ w'.cell? ⟨w.heap.size, 3, none⟩ = some (.string v))) (by kernel_rfl) ?_ (fun hHeld => ?_)
  · exact keepS _ (below_drew (Below.refl _ _))
  refine wpAnyH_take (i := 0) (v := ?v0) rfl (by kernel_rfl) (by kernel_rfl) (by kernel_rfl) (fun _ _ _ h => h) (Or.inl ⟨by rfl, ?hy0⟩) (by assumption) ?rest0
  case hy0 => (intro w hSw; (try dsimp only at hSw); go_simp; try with_reducible rfl)
  try simp only [Act.put, List.setIfInBounds_toArray, List.set_cons_zero, List.set_cons_succ]
  refine wpAnyH_take (i := 1) (v := ?v1) rfl (by kernel_rfl) (by kernel_rfl) (by kernel_rfl) (fun _ _ _ h => h) (Or.inl ⟨by rfl, ?hy1⟩) (by assumption) ?rest1
  case hy1 => (intro w hSw; (try dsimp only at hSw); go_simp; try with_reducible rfl)
  try simp only [Act.put, List.setIfInBounds_toArray, List.set_cons_zero, List.set_cons_succ]
  refine wpAnyH_take (i := 4) (v := ?v4) rfl (by kernel_rfl) (by kernel_rfl) (by kernel_rfl) (fun _ _ _ h => h) (Or.inl ⟨by rfl, ?hy4⟩) (by assumption) ?rest4
  case hy4 => (intro w hSw; (try dsimp only at hSw); go_simp; try with_reducible rfl)
  try simp only [Act.put, List.setIfInBounds_toArray, List.set_cons_zero, List.set_cons_succ]
  refine wpAnyH_take (i := 5) (v := ?v5) rfl (by kernel_rfl) (by kernel_rfl) (by kernel_rfl) (fun _ _ _ h => h) (Or.inl ⟨by rfl, ?hy5⟩) (by assumption) ?rest5
  case hy5 => (intro w hSw; (try dsimp only at hSw); go_simp; try with_reducible rfl)
  try simp only [Act.put, List.setIfInBounds_toArray, List.set_cons_zero, List.set_cons_succ]
  refine wpAnyH_ready (rs := [2]) (by kernel_rfl) (by simp) ?_
  refine AllReadyH.cons rfl (fun K' hK => ?_) AllReadyH.nil
  go_simp
  go_at_call 47
  refine (H.out.1 w1.drew (bt H.out.2.2.2.1 (below_drew (Below.refl _ _)))).mono ?_
  rintro e w5 ⟨rfl, b5⟩
  have B5 := Lib.hid (bt (below_drew (Below.refl w1.heap.size w1)) b5); clear b5
  refine hK.out _ _ ?_ (fun hHeld => ?_)
  · exact keepS w5 B5.out
  clear hK K'
  try simp only [Act.put, List.setIfInBounds_toArray, List.set_cons_zero, List.set_cons_succ]
  refine wpAnyH_take (i := 3) (v := ?v3) rfl (by kernel_rfl) (by kernel_rfl) (by kernel_rfl) (fun _ _ _ h => h) (Or.inl ⟨by rfl, ?hy3⟩) (by assumption) ?rest3
  case hy3 => (intro w hSw; (try dsimp only at hSw); go_simp; try with_reducible rfl)
  try simp only [Act.put, List.setIfInBounds_toArray, List.set_cons_zero, List.set_cons_succ]
  refine wpAnyH_take (i := 6) (v := ?v6) rfl (by kernel_rfl) (by kernel_rfl) (by kernel_rfl) (fun _ _ _ h => h) (Or.inl ⟨by rfl, ?hy6⟩) (by assumption) ?rest6
  case hy6 => (intro w hSw; (try dsimp only at hSw); go_simp; try with_reducible rfl)
  try simp only [Act.put, List.setIfInBounds_toArray, List.set_cons_zero, List.set_cons_succ]
  refine wpAnyH_ready (rs := [7]) (by kernel_rfl) (by simp) ?_
  refine AllReadyH.cons rfl (fun K' hK => ?_) AllReadyH.nil
  go_simp
  refine hK.out _ _ ?_ (fun hHeld => ?_)
  · exact keepS w5 B5.out
  clear hK K'
  try simp only [Act.put, List.setIfInBounds_toArray, List.set_cons_zero, List.set_cons_succ]
  refine wpAnyH_done (by kernel_rfl) ?_ _
  have p5 := (H.out.2.2.2.2.later B5.out).cell
  have B6 := Lib.hid (bt H.out.2.2.2.1 B5.out)
  clear keepS f1 f2
  obtain ⟨T1, hT1⟩ : ∃ T1, T1 = J ++ ⟨#[32]⟩ ++ v := ⟨_, rfl⟩
  try rw [← hT1]
  have hTz : T1.size ≤ 1002000 := by rw [hT1, ByteArray.size_append, ByteArray.size_append]; show J.size + 1 + v.size ≤ _; omega
  have hTd : T1.data.toList = J.data.toList ++ ([32] ++ v.data.toList) := by rw [hT1]; simp
  have HT := Lib.hid hTd
  clear hT1 hTd
  by_cases hm0 : m = 0
  · subst hm0
    cases nt <;> cases pl
    all_goals
      go_wp2_with fail
      go_ret
      refine ⟨str_ret ?_, B6.out⟩
      rw [H.out.2.2.1]
      simp [HT.out]
  · have hm1 : 0 < m := by omega
    have hd1 : decide (0 < m) = true := decide_eq_true hm1
    cases nt <;> cases pl
    all_goals
      go_wp2_with fail
      try go_at_call 48
      refine (H.out.2.1 _ B6.out).mono ?_
      rintro e w7 ⟨rfl, b7⟩
      have B7 := Lib.hid (bt B6.out b7); clear b7 p5
      go_wp2_with fail
      go_ret
      refine ⟨str_ret ?_, B7.out⟩
      rw [H.out.2.2.1]
      simp [HT.out, hm0]
end Go.Proofs.YtenmbahfgfmjjaaDoor
