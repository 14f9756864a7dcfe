/- Layer 12: the document's nodes out of the program's; the document's own words: Loops. -/
import Derived.Test.YtinonfgehbjneaaGphT
import Derived.Deep.RegionHeld3
import Derived.Test.YtinonfgehbjneaaCells3
namespace Go.Proofs.Ytinonfgehbjneaa
open Go.ChangeShapes Go.WideShapes Go.ChangeAt Go.RowKit Go.Maps
open Gr (Nd nmAt frAt)
set_option linter.unusedVariables false
set_option linter.unusedSimpArgs false

theorem at_newM (w : World) (y : Ny) : At (w.alloc (.cells #[.string y.1.1, sl y.2] 53)) 2 rowN (.slice (some ⟨w.heap.size, 0, none⟩) 1 1) [y] := by
  refine ⟨some ⟨w.heap.size, 0, none⟩, 1, rfl, by simp, by unfold maxLen; omega, fun h => by simp at h, fun b hb j hj i v hv => ?_⟩
  obtain rfl : (⟨w.heap.size, 0, none⟩ : Addr) = b := by simpa using hb
  have hj0 : j = 0 := by simpa using hj
  subst hj0
  simp only [List.getElem_cons_zero] at hv
  rw [Nat.zero_mul, Nat.zero_add]
  exact new_cells rfl 53 _ i v hv
set_option maxRecDepth 20000 in
set_option maxHeartbeats 4000000 in
theorem refs_any (v : Value) (N : List Nd) (w : World) (h : NdsAt w v N) (hn : N.length ≤ 1000) :
    Calls Try.prog 13 #[v] w fun e w' => ∃ r, (e = .returned r ∧ NdsAt w' r N) ∧ Below w.heap.size w w' := by
  obtain ⟨js, sj, sy0, sy1, sy2⟩ := info_parts (P := Try.prog) (e := 53) (z := .agg #[.string ⟨#[]⟩, .slice none 0 0]) (size := 2) (bytes := 40) (by kernel_rfl)
  obtain ⟨l, h1, h2, h3⟩ := h
  obtain ⟨A, c, rfl, a1, a2, _⟩ := h1.shape
  obtain ⟨n, hnl⟩ : ∃ n, n = l.length := ⟨_, rfl⟩
  have hN : N.length = n := by rw [hnl, ← h2, List.length_map]
  rw [← hnl] at h1 a1 ⊢
  rw [hN] at hn
  have H := Lib.hid (And.intro h1 (And.intro h2 (And.intro h3 (And.intro hnl hN)))); clear h1 h2 h3 hnl hN a1
  go_enter Try.func13, Try.ntmps13
  go_wp2_with fail
  go_loopw [3, 4] (fun ov iv wr => ∃ i : Nat, i ≤ n ∧ iv = .int .i64 (i : Int) ∧ Own wr w.heap.size 53 2 rowN ov (l.take i) ∧ Below w.heap.size w wr) (fun _ iv _ => n - (intOf iv).toNat)
  case atStart => exact ⟨0, Nat.zero_le _, rfl, Own.nil _ _ _ _ _, Below.refl _ _⟩
  case round =>
    rename World => wr
    obtain ⟨i, hi, rfl, hO, hb⟩ := hrel
    by_cases hlt : i < n
    · have hil : i < l.length := by have := H.out.2.2.2.1; omega
      have hltI : (i : Int) < (n : Int) := by omega
      obtain ⟨a, rfl, hca⟩ := (H.out.1).cells rfl (by omega)
      have KW := fun X (hX : Below w.heap.size w X) => ((hca.later hX).row2 i hil rfl)
      obtain ⟨e0, e1⟩ := KW wr hb
      have htk : l.take (i + 1) = l.take i ++ [l[i]'hil] := Gr.take_more hil
      generalize l[i]'hil = y at *
      obtain ⟨⟨nm, fr⟩, fA, fn, fc⟩ := y
      simp only at e0 e1 KW
      have keepW : ∀ X, Below w.heap.size w X → X.cell? (a.add (i * 2)) = some (.string nm) ∧ X.cell? ⟨(a.add (i * 2)).block, (a.add (i * 2)).off + 1, none⟩ = some (.slice fA fn fc) := fun X hX => KW X hX
      have keepS : ∀ X, Below wr.heap.size wr X → X.cell? (a.add (i * 2)) = some (.string nm) ∧ X.cell? ⟨(a.add (i * 2)).block, (a.add (i * 2)).off + 1, none⟩ = some (.slice fA fn fc) := fun X hX => KW X (bt hb hX)
      change wr.cell? ⟨(a.add (i * 2)).block, (a.add (i * 2)).off + 1, none⟩ = some (.slice fA fn fc) at e1
      have hnew : ∀ X : World, At (X.alloc (.cells #[.string nm, .slice fA fn fc] 53)) 2 rowN (.slice (some ⟨X.heap.size, 0, none⟩) 1 1) [((nm, fr), (fA, fn, fc))] := fun X => at_newM X ((nm, fr), (fA, fn, fc))
      have U := Lib.hid (And.intro hO hb); clear hO KW hca
      obtain ⟨oA, on_, oc, rfl⟩ := own_shape U.out.1
      go_upto_region 5 with fail
      refine wp_region_noPanic ?_
      refine wp_region_held_drew (S := (fun w' => w'.cell? (a.add (i * 2)) = some (.string nm) ∧ w'.cell? ⟨(a.add (i * 2)).block, (a.add (i * 2)).off + 1, none⟩ = some (.slice fA fn fc))) (by kernel_rfl) ?_ (fun hHeld => ?_)
      · exact ⟨e0, e1⟩
      refine wpAnyH_take (i := 0) (v := ?v0) rfl (by kernel_rfl) (by kernel_rfl) (by kernel_rfl) (fun _ _ _ h => h) (Or.inl ⟨by rfl, ?hy0⟩) (by assumption) ?rest0
      case hy0 => (intro w hSw; (try dsimp only at hSw); go_simp; try with_reducible rfl)
      try simp only [Act.put, List.setIfInBounds_toArray, List.set_cons_zero, List.set_cons_succ]
      refine wpAnyH_take (i := 1) (v := ?v1) rfl (by kernel_rfl) (by kernel_rfl) (by kernel_rfl) (fun _ _ _ h => h) (Or.inl ⟨by rfl, ?hy1⟩) (by assumption) ?rest1
      case hy1 => (intro w hSw; (try dsimp only at hSw); go_simp; try with_reducible rfl)
      try simp only [Act.put, List.setIfInBounds_toArray, List.set_cons_zero, List.set_cons_succ]
      refine wpAnyH_take (i := 2) (v := ?v2) rfl (by kernel_rfl) (by kernel_rfl) (by kernel_rfl) (fun _ _ _ h => h) (Or.inl ⟨by rfl, ?hy2⟩) (by assumption) ?rest2
      case hy2 => (intro w hSw; (try dsimp only at hSw); go_simp; try with_reducible rfl)
      try simp only [Act.put, List.setIfInBounds_toArray, List.set_cons_zero, List.set_cons_succ]
      refine wpAnyH_take (i := 3) (v := ?v3) rfl (by kernel_rfl) (by kernel_rfl) (by kernel_rfl) (fun _ _ _ h => h) (Or.inl ⟨by rfl, ?hy3⟩) (by assumption) ?rest3
      case hy3 => (intro w hSw; (try dsimp only at hSw); go_simp; try with_reducible rfl)
      try simp only [Act.put, List.setIfInBounds_toArray, List.set_cons_zero, List.set_cons_succ]
      refine wpAnyH_take (i := 4) (v := ?v4) rfl (by kernel_rfl) (by kernel_rfl) (by kernel_rfl) (fun _ _ _ h => h) (Or.inl ⟨by rfl, ?hy4⟩) (by assumption) ?rest4
      case hy4 => (intro w hSw; (try dsimp only at hSw); go_simp; try with_reducible rfl)
      try simp only [Act.put, List.setIfInBounds_toArray, List.set_cons_zero, List.set_cons_succ]
      refine wpAnyH_take (i := 5) (v := ?v5) rfl (by kernel_rfl) (by kernel_rfl) (by kernel_rfl) (fun _ _ _ h => h) (Or.inl ⟨by rfl, ?hy5⟩) (by assumption) ?rest5
      case hy5 => (intro w hSw; (try dsimp only at hSw); go_simp; try with_reducible rfl)
      try simp only [Act.put, List.setIfInBounds_toArray, List.set_cons_zero, List.set_cons_succ]
      refine wpAnyH_take (i := 6) (v := ?v6) rfl (by kernel_rfl) (by kernel_rfl) (by kernel_rfl) (fun _ _ _ h => h) (Or.inl ⟨by rfl, ?hy6⟩) (by assumption) ?rest6
      case hy6 => (intro w hSw; (try dsimp only at hSw); go_simp; try with_reducible rfl)
      try simp only [Act.put, List.setIfInBounds_toArray, List.set_cons_zero, List.set_cons_succ]
      refine wpAnyH_take (i := 7) (v := ?v7) rfl (by kernel_rfl) (by kernel_rfl) (by kernel_rfl) (fun _ _ _ h => h) (Or.inl ⟨by rfl, ?hy7⟩) (by assumption) ?rest7
      case hy7 => (intro w hSw; (try dsimp only at hSw); go_simp; try with_reducible rfl)
      try simp only [Act.put, List.setIfInBounds_toArray, List.set_cons_zero, List.set_cons_succ]
      refine wpAnyH_take (i := 8) (v := ?v8) rfl (by kernel_rfl) (by kernel_rfl) (by kernel_rfl) (fun _ _ _ h => h) (Or.inl ⟨by rfl, ?hy8⟩) (by assumption) ?rest8
      case hy8 => (intro w hSw; (try dsimp only at hSw); go_simp; try with_reducible rfl)
      try simp only [Act.put, List.setIfInBounds_toArray, List.set_cons_zero, List.set_cons_succ]
      refine wpAnyH_take (i := 9) (v := ?v9) rfl (by kernel_rfl) (by kernel_rfl) (by kernel_rfl) (fun _ _ _ h => h) (Or.inl ⟨by rfl, ?hy9⟩) (by assumption) ?rest9
      case hy9 => (intro w hSw; (try dsimp only at hSw); go_simp; try with_reducible rfl)
      try simp only [Act.put, List.setIfInBounds_toArray, List.set_cons_zero, List.set_cons_succ]
      refine wpAnyH_take (i := 10) (v := ?v10) rfl (by kernel_rfl) (by kernel_rfl) (by kernel_rfl) (fun _ _ _ h => h) (Or.inl ⟨by rfl, ?hy10⟩) (by assumption) ?rest10
      case hy10 => (intro w hSw; (try dsimp only at hSw); go_simp; try with_reducible rfl)
      try simp only [Act.put, List.setIfInBounds_toArray, List.set_cons_zero, List.set_cons_succ]
      refine wpAnyH_take (i := 11) (v := ?v11) rfl (by kernel_rfl) (by kernel_rfl) (by kernel_rfl) (fun _ _ _ h => h) (Or.inl ⟨by rfl, ?hy11⟩) (by assumption) ?rest11
      case hy11 => (intro w hSw; (try dsimp only at hSw); go_simp; try with_reducible rfl)
      try simp only [Act.put, List.setIfInBounds_toArray, List.set_cons_zero, List.set_cons_succ]
      refine wpAnyH_ready (rs := [12]) (by kernel_rfl) (by simp) ?_
      refine AllReadyH.cons rfl (fun K' hK => ?_) AllReadyH.nil
      go_simp
      refine hK.out _ _ ?_ (fun hHeld => ?_)
      · exact keepS _ (bt (below_drew (Below.refl _ _)) (ba _ _))
      clear hK K'
      try simp only [Act.put, List.setIfInBounds_toArray, List.set_cons_zero, List.set_cons_succ]
      refine wpAnyH_ready (rs := [13]) (by kernel_rfl) (by simp) ?_
      refine AllReadyH.cons rfl (fun K' hK => ?_) AllReadyH.nil
      refine step_append_at rfl (.tmp 11) (.tmp 23) 29 rfl w.heap.size 53 js (.agg #[.string ⟨#[]⟩, .slice none 0 0]) 2 40 Try.underlying29 sj sy0 sy1 sy2 rfl (by decide) (f := rowN) (fun _ => rfl) one_rowN _ (l.take i) rfl (U.out.1.later (bt (below_drew (Below.refl _ _)) (ba _ _))) (some ⟨wr.heap.size, 0, none⟩) 1 1 [((nm, fr), (fA, fn, fc))] rfl rfl (hnew wr.drew) (by rw [List.length_take]; unfold maxLen; omega) (by rw [List.length_take]; omega) (bt U.out.2 (bt (below_drew (Below.refl _ _)) (ba wr.drew (.cells #[.string nm, .slice fA fn fc] 53)))).size ?_
      intro v5 w5 hO5 hg5
      have bA : Below w.heap.size w (wr.drew.alloc (.cells #[.string nm, .slice fA fn fc] 53)) := bt U.out.2 (bt (below_drew (Below.refl _ _)) (ba wr.drew (.cells #[.string nm, .slice fA fn fc] 53)))
      have b5 : Below w.heap.size w w5 := bA.trans (grownBy_below hg5 bA.size (fun x hx => (Own.block U.out.1 hx).1))
      have b5r : w5.cell? (a.add (i * 2)) = some (.string nm) ∧ w5.cell? ⟨(a.add (i * 2)).block, (a.add (i * 2)).off + 1, none⟩ = some (.slice fA fn fc) := keepW w5 b5
      refine hK.out _ _ ?_ (fun hHeld => ?_)
      · exact b5r
      clear hK K'
      try simp only [Act.put, List.setIfInBounds_toArray, List.set_cons_zero, List.set_cons_succ]
      refine wpAnyH_ready (rs := [14]) (by kernel_rfl) (by simp) ?_
      refine AllReadyH.cons rfl (fun K' hK => ?_) AllReadyH.nil
      go_simp
      refine hK.out _ _ ?_ (fun hHeld => ?_)
      · exact b5r
      clear hK K'
      try simp only [Act.put, List.setIfInBounds_toArray, List.set_cons_zero, List.set_cons_succ]
      refine wpAnyH_done (by kernel_rfl) ?_ _
      refine NoPanic.normal ?_
      obtain ⟨qA, qn, qc, rfl⟩ := own_shape hO5
      have Y := Lib.hid (And.intro (htk ▸ hO5) b5); clear hO5 hg5 b5 bA b5r htk
      go_wp2
      go_roundw
      case rel => exact ⟨i + 1, by omega, by go_num, Y.out.1, Y.out.2⟩
      case measure => simp [intOf]; omega
    · obtain rfl : i = n := by omega
      have U := Lib.hid (And.intro hO hb); clear hO hb
      go_wp2_with fail
      go_ret
      refine ⟨_, ⟨rfl, ?_⟩, U.out.2⟩
      have hl : l.take i = l := List.take_of_length_le (by have := H.out.2.2.2.1; omega)
      refine ⟨l, ?_, H.out.2.1, fun y hy => ⟨(H.out.2.2.1 y hy).1.later U.out.2, (H.out.2.2.1 y hy).2⟩⟩
      have := U.out.1.at_ (f := rowN) (k := 2) (fun _ => rfl)
      rw [hl] at this
      exact this
set_option maxRecDepth 20000 in
set_option maxHeartbeats 4000000 in
theorem rLoops_any (v : Value) (N : List Nd) (w : World) (h : NdsAt w v N) (hn : N.length ≤ 1000) :
    Calls Try.prog 20 #[v] w (LoopsP N w) := by
  obtain ⟨j0, hj, hy0, hy1, hy2⟩ := info_parts (P := Try.prog) (e := 3) (z := .int .i64 0) (size := 1) (bytes := 8) (by kernel_rfl)
  have hw := h
  obtain ⟨l, h1, h2, h3⟩ := h
  obtain ⟨A, c, rfl, a1, a2, _⟩ := h1.shape
  obtain ⟨n, hnl⟩ : ∃ n, n = l.length := ⟨_, rfl⟩
  have hN : N.length = n := by rw [hnl, ← h2, List.length_map]
  rw [← hnl] at h1 a1 hw ⊢
  have hn' : n ≤ 1000 := by omega
  have H := Lib.hid (And.intro h1 (And.intro h2 (And.intro h3 (And.intro hnl (And.intro hN (And.intro hw hn)))))); clear h1 h2 h3 hnl hN hw hn a1
  go_enter Try.func20, Try.ntmps20
  go_wp2_with fail
  go_loopw [3, 4] (fun lv iv wr => ∃ (i : Nat) (L : List Nat), i ≤ n ∧ iv = .int .i64 (i : Int) ∧ Own wr w.heap.size 3 1 rowP lv L ∧ Rise (fun k => k < i ∧ Gr.Comes N (nmAt N k) k) L ∧ Below w.heap.size w wr) (fun _ iv _ => n - (intOf iv).toNat)
  case atStart => exact ⟨0, [], Nat.zero_le _, rfl, Own.nil _ _ _ _ _, ⟨List.Pairwise.nil, fun k => by simp⟩, Below.refl _ _⟩
  case round =>
    rename World => wr0
    obtain ⟨i, L, hi, rfl, hO, hR, hb⟩ := hrel
    by_cases hlt : i < n
    · have hil : i < l.length := by have := H.out.2.2.2.1; omega
      obtain ⟨a, rfl, hca⟩ := (H.out.1.later hb).cells rfl (by omega)
      obtain ⟨e0, _⟩ := hca.row2 i hil rfl
      obtain ⟨f1, _⟩ := at_node H.out.2.1 hil
      rw [← f1] at e0
      have hLi := hR.len (n := i) (fun k hk => hk.1)
      obtain ⟨lA, lc, rfl, _, _, _⟩ := hO.shape
      obtain ⟨ln, hln⟩ : ∃ ln, ln = L.length := ⟨_, rfl⟩
      rw [← hln] at hO hLi ⊢
      obtain ⟨s, hs⟩ : ∃ s, s = nmAt N i := ⟨_, rfl⟩
      rw [← hs] at e0
      have cA := rAbove_any _ N s wr0 (H.out.2.2.2.2.2.1.later hb) H.out.2.2.2.2.2.2
      have M := Lib.hid (And.intro hO (And.intro hR (And.intro hb (And.intro hs (And.intro hln cA))))); clear hO hR hb hs hln cA hca f1
      go_wp2_with fail
      try go_at_call 22
      refine M.out.2.2.2.2.2.mono ?_
      rintro e w5 ⟨r5, LA, ⟨rfl, oA, hA⟩, b5⟩
      clear e0
      obtain ⟨pA, pc, rfl, _, _, _⟩ := oA.shape
      obtain ⟨fl, hfl⟩ : ∃ fl, fl = LA.length := ⟨_, rfl⟩
      have hfn : fl ≤ 1000 := by
        have := hA.len (n := N.length) (fun k hk => hk.lt)
        rw [H.out.2.2.2.2.1] at this; omega
      rw [← hfl] at oA ⊢
      have Q := Lib.hid (And.intro (M.out.1.later b5) (And.intro (bt M.out.2.2.1 b5) (And.intro oA (And.intro hA (And.intro hfl b5))))); clear oA hA b5 hfl
      go_wp2_with fail
      go_loopw [3, 6] (fun lv tv wr => ∃ (t : Nat) (b : Bool), t ≤ fl ∧ tv = .int .i64 (t : Int) ∧ (b = true ↔ ∃ j, ∃ hj : j < LA.length, j < t ∧ (LA[j]'hj) = i) ∧ (b = false → lv = .slice lA ln lc) ∧ Own wr w.heap.size 3 1 rowP lv (if b then L ++ [i] else L) ∧ Own wr wr0.heap.size 3 1 rowP (.slice pA fl pc) LA ∧ Below w.heap.size w wr) (fun _ tv _ => fl - (intOf tv).toNat)
      case atStart =>
        refine ⟨0, false, Nat.zero_le _, rfl, ?_, fun _ => rfl, Q.out.1, Q.out.2.2.1, Q.out.2.1⟩
        constructor
        · intro h
          cases h
        · rintro ⟨j, hj, h1, _⟩
          omega
      case round =>
        rename World => wr1
        obtain ⟨t, b, ht, rfl, hB, hlv, hO, hat, hb⟩ := hrel
        by_cases hlt2 : t < fl
        · have htl : t < LA.length := by have := Q.out.2.2.2.2.1; omega
          obtain ⟨p2, rfl, hcp⟩ := (hat.at_ (f := rowP) (k := 1) (fun _ => rfl)).cells rfl (by omega)
          have x0 := hcp.row1 t htl rfl
          rw [Nat.mul_one] at x0
          by_cases hti : LA[t]'htl = i
          · rw [hti] at x0
            have hbf : b = false := by
              cases b with
              | false => rfl
              | true =>
                obtain ⟨j, hj, h1, h2⟩ := hB.1 rfl
                have h3 := List.pairwise_iff_getElem.1 Q.out.2.2.2.1.1 j t hj htl h1
                omega
            subst hbf
            have hB2 : ∃ j, ∃ hj : j < LA.length, j < t + 1 ∧ (LA[j]'hj) = i := ⟨t, htl, by omega, hti⟩
            have hLl : ln = L.length := M.out.2.2.2.2.1
            simp only [Bool.false_eq_true, if_false] at hO
            obtain rfl := hlv rfl
            clear hlv
            have Y := Lib.hid (And.intro hO (And.intro hB2 (And.intro hat (And.intro hb hLl)))); clear hO hB hB2 hat hb hcp hti hLl
            have hB1 := at_newP wr1 i
            have hbA := ba wr1 (.cells #[.int .i64 (i : Int)] 3)
            go_wp2_with (at_builtin; refine wpList_append_loc _ rfl (.tmp 32) (.tmp 34) 31 rfl w.heap.size 3 j0 (.int .i64 0) 1 8 Try.underlying31 hj hy0 hy1 hy2 rfl (by decide) (f := rowP) (fun _ => rfl) one_rowP _ L rfl (Y.out.1.later hbA) (some ⟨wr1.heap.size, 0, none⟩) 1 1 [i] rfl rfl hB1 (by have := Y.out.2.2.2.2; unfold maxLen; omega) (by have := Y.out.2.2.2.2; omega) (by have := Y.out.2.2.2.1.size; simp only [World.size_alloc]; omega) ?_; intro v6 w6 hO6 hg6 hq6; have Z := Lib.hid (And.intro hO6 (And.intro hg6 hq6)); clear hO6 hg6 hq6)
            have bA := bt Y.out.2.2.2.1 hbA
            have b6 := bA.trans (grownBy_below Z.out.2.1 bA.size (fun k hk => (Own.block Y.out.1 hk).1))
            have hat6 : Own w6 wr0.heap.size 3 1 rowP (.slice (some p2) fl pc) LA := (Y.out.2.2.1.later hbA).grown Z.out.2.1 (fun g hg e => by
              have h1 := (Own.block Y.out.2.2.1 e).1
              obtain ⟨_, cs, hcs⟩ := Own.block M.out.1 hg
              have h2 := (Array.getElem?_eq_some_iff.1 hcs).1
              omega)
            go_roundw
            case rel => exact ⟨t + 1, true, by omega, by go_num, ⟨fun _ => Y.out.2.1, fun _ => rfl⟩, fun h => (by cases h), Z.out.1, hat6, b6⟩
            case measure => simp [intOf]; omega
          · have hB2 : b = true ↔ ∃ j, ∃ hj : j < LA.length, j < t + 1 ∧ (LA[j]'hj) = i := by
              rw [hB]
              constructor
              · rintro ⟨j, hj, h1, h2⟩
                exact ⟨j, hj, by omega, h2⟩
              · rintro ⟨j, hj, h1, h2⟩
                rcases (by omega : j < t ∨ j = t) with h | rfl
                · exact ⟨j, hj, h, h2⟩
                · exact absurd h2 hti
            generalize LA[t]'htl = y at *
            have hyi : ¬ (y : Int) = (i : Int) := by omega
            have hyb : ((y : Int) == (i : Int)) = false := by simpa using hyi
            have Y := Lib.hid (And.intro hO (And.intro hB2 (And.intro hat (And.intro hb hlv)))); clear hO hB hB2 hat hb hcp hlv
            go_wp2_with fail
            go_roundw
            case rel => exact ⟨t + 1, b, by omega, by go_num, Y.out.2.1, Y.out.2.2.2.2, Y.out.1, Y.out.2.2.1, Y.out.2.2.2.1⟩
            case measure => simp [intOf]; omega
        · obtain rfl : t = fl := by omega
          have hbc : b = true ↔ Gr.Comes N (nmAt N i) i := by
            rw [hB]
            have e1 := Q.out.2.2.2.1.2 i
            have e2 := Q.out.2.2.2.2.1
            rw [M.out.2.2.2.1] at e1
            rw [← e1]
            constructor
            · rintro ⟨j, hj, _, h⟩
              exact h ▸ List.getElem_mem hj
            · intro h
              obtain ⟨j, hj, e⟩ := List.getElem_of_mem h
              exact ⟨j, hj, by omega, e⟩
          have hR2 : Rise (fun k => k < i + 1 ∧ Gr.Comes N (nmAt N k) k) (if b then L ++ [i] else L) := by
            cases b with
            | true => exact M.out.2.1.more (hbc.1 rfl)
            | false => exact M.out.2.1.skip (fun h => by have := hbc.2 h; cases this)
          have Y := Lib.hid (And.intro hO (And.intro hR2 hb)); clear hO hB hbc hR2 hat hb
          go_wp2_with fail
          go_roundw
          case rel => exact ⟨i + 1, _, by omega, by go_num, Y.out.1, Y.out.2.1, Y.out.2.2⟩
          case measure => simp [intOf]; omega
    · obtain rfl : i = n := by omega
      have M := Lib.hid (And.intro hO (And.intro hR hb)); clear hO hR hb
      go_wp2_with fail
      go_ret
      exact ⟨_, L, ⟨rfl, M.out.1, by rw [H.out.2.2.2.2.1]; exact M.out.2.1⟩, M.out.2.2⟩
end Go.Proofs.Ytinonfgehbjneaa
