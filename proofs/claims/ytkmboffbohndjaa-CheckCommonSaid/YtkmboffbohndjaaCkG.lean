/- Layer 11: Of. -/
import Derived.Test.YtkmboffbohndjaaCkB
import Derived.Test.YtkmboffbohndjaaCkE
import Derived.Test.YtkmboffbohndjaaStrmAl
namespace Go.Proofs.Ytkmboffbohndjaa
open Go.ChangeShapes Go.WideShapes Go.ChangeAt Go.RowKit Go.Maps
set_option linter.unusedVariables false
set_option linter.unusedSimpArgs false

theorem isN_same (s : ByteArray) : (fun y : SF => isN s y.1) = fun y : SF => sameB y.1 s := by
  funext y
  unfold isN
  rw [Bool.eq_iff_iff, beq_iff_eq, sameB_iff]
  exact ⟨fun h => toList_inj h, fun h => by rw [h]⟩
/-- Where a stream of that name stands. -/
theorem at_look (s : ByteArray) (ls : List SF) : (atS s ls = -1 ∧ ls.find? (fun y => sameB y.1 s) = none) ∨ ∃ (i : Nat) (hi : i < ls.length), atS s ls = (i : Int) ∧ ls.find? (fun y => sameB y.1 s) = some (ls[i]'hi) := by
  unfold atS idxB
  rw [isN_same]
  by_cases h : ls.findIdx (fun y : SF => sameB y.1 s) < ls.length
  · right
    refine ⟨_, h, by rw [if_pos h], ?_⟩
    rw [List.find?_eq_some_iff_getElem]
    refine ⟨List.findIdx_getElem (w := h), _, h, rfl, fun j hj => ?_⟩
    have := List.not_of_lt_findIdx hj
    simpa using this
  · left
    refine ⟨by rw [if_neg h], ?_⟩
    rw [List.find?_eq_none]
    intro x hx
    have := List.findIdx_eq_length.1 (show ls.findIdx (fun y : SF => sameB y.1 s) = ls.length by have := List.findIdx_le_length (xs := ls) (p := fun y : SF => sameB y.1 s); omega) x hx
    simpa using this
theorem lookS_snoc (ls : List SF) (s : ByteArray) : ∀ a : List ByteArray, lookS ls (a ++ [s]) = match lookS ls a, ls.find? (fun y => sameB y.1 s) with
    | some T, some y => some (T ++ [y])
    | _, _ => none
  | [] => by
    simp only [List.nil_append, lookS]
    cases ls.find? (fun y => sameB y.1 s) <;> rfl
  | t :: a => by
    have ih := lookS_snoc ls s a
    simp only [List.cons_append, lookS]
    rw [ih]
    cases ls.find? (fun y => sameB y.1 t) <;> cases lookS ls a <;> cases ls.find? (fun y => sameB y.1 s) <;> rfl
theorem lookS_none (ls : List SF) (s : ByteArray) (h : ls.find? (fun y => sameB y.1 s) = none) : ∀ ss : List ByteArray, s ∈ ss → lookS ls ss = none
  | [], hs => by simp at hs
  | t :: ss, hs => by
    unfold lookS
    rcases List.mem_cons.1 hs with rfl | hs
    · rw [h]
    · rw [lookS_none ls s h ss hs]
      cases ls.find? (fun y => sameB y.1 t) <;> rfl
theorem lookS_mem (ls : List SF) : ∀ (ss : List ByteArray) (T : List SF), lookS ls ss = some T → T.length = ss.length ∧ ∀ x ∈ T, x ∈ ls
  | [], T, h => by
    obtain rfl : [] = T := by simpa [lookS] using h
    exact ⟨rfl, fun x hx => by simp at hx⟩
  | s :: ss, T, h => by
    unfold lookS at h
    cases h1 : ls.find? (fun y => sameB y.1 s) with
    | none => rw [h1] at h; simp at h
    | some y =>
      cases h2 : lookS ls ss with
      | none => rw [h1, h2] at h; simp at h
      | some U =>
        rw [h1, h2] at h
        obtain rfl : y :: U = T := by simpa using h
        obtain ⟨i1, i2⟩ := lookS_mem ls ss U h2
        refine ⟨by simp [i1], fun x hx => ?_⟩
        rcases List.mem_cons.1 hx with rfl | hx
        · exact List.mem_of_find?_eq_some h1
        · exact i2 x hx
theorem sxF_one (x : Sx) : ∀ u ∈ sxF x, u.oneCell' = true := fun u hu => by
  simp at hu; rcases hu with rfl | rfl <;> rfl
theorem at_newSx (w : World) (y : Sx) : At (w.alloc (.cells (sxF y).toArray 46)) 2 sxF (.slice (some ⟨w.heap.size, 0, none⟩) 1 1) [y] := by
  refine ⟨some ⟨w.heap.size, 0, none⟩, 1, rfl, by simp, by unfold maxLen; omega, fun h => by simp at h, fun b hb j hj i v hv => ?_⟩
  obtain rfl : (⟨w.heap.size, 0, none⟩ : Addr) = b := by simpa using hb
  have hj0 : j = 0 := by simpa using hj
  subst hj0
  simp only [List.getElem_cons_zero] at hv
  rw [Nat.zero_mul, Nat.zero_add]
  exact new_cellsI rfl 46 _ i v hv
abbrev ptV' (x : Px) : Value := .agg #[.bool x.1.nt, .bool x.1.pl, sl x.2.1, .string x.1.v, sl x.2.2]
theorem own_down' {α : Type} {w : World} {b b' : Nat} {e : TypeId} {k : Nat} {f : α → List Value} {v : Value} {l : List α} (h : Own w b e k f v l) (hb : b' ≤ b) : Own w b' e k f v l := by
  refine ⟨h.1, ?_⟩
  rcases h.2 with h0 | ⟨g, cap, cur, q0, q1, q2, q3⟩
  · exact Or.inl h0
  · exact Or.inr ⟨g, cap, cur, q0, by omega, q2, q3⟩
set_option maxRecDepth 20000 in
set_option maxHeartbeats 4000000 in
theorem Of_any (v : Value) (ls : List SF) (x : Px) (w : World) (hv : SAt w v ls) (hx : PxAt w x) (hn : ls.length ≤ 100) (hf : OkS ls) (hs : x.1.ss.length ≤ 100) :
    Calls Try.prog 42 #[v, ptV' x] w fun e w' => ∃ r, (e = .returned r ∧ Own w' w.heap.size 26 2 fldF r (ofF ls x.1.ss)) ∧ Below w.heap.size w w' := by
  obtain ⟨js, sj, sy0, sy1, sy2⟩ := info_parts (P := Try.prog) (e := 46) (z := .agg #[.string ⟨#[]⟩, .slice none 0 0]) (size := 2) (bytes := 40) (by kernel_rfl)
  obtain ⟨⟨nt, pl, ss, pv, pd⟩, ⟨pA, pn, pc⟩, ⟨dA, dn, dc⟩⟩ := x
  obtain ⟨g1, _, _, g4⟩ := hx
  simp only at g1 g4 hs ⊢
  obtain ⟨B1, cc, hvv, q4, q5, _⟩ := g1.shape
  simp only [Value.slice.injEq] at hvv
  obtain ⟨rfl, rfl, rfl⟩ := hvv
  obtain ⟨A, c, rfl, a1, a2⟩ := hv.shape
  obtain ⟨n, hnl⟩ : ∃ n, n = ls.length := ⟨_, rfl⟩
  obtain ⟨sn, hsn⟩ : ∃ sn, sn = ss.length := ⟨_, rfl⟩
  rw [← hnl] at hv hn ⊢
  rw [← hsn] at g1 hs ⊢
  have cF := fun W s (hW : Below w.heap.size w W) => FindS_any s _ ls W (hv.later hW).stms
  have bA := ba w (.cells #[.bool nt, .bool pl, .slice pA sn pc, .string pv, .slice dA dn dc] 59)
  have H := Lib.hid (And.intro hv (And.intro hnl (And.intro hf (And.intro g1 (And.intro hsn (And.intro g4 (And.intro cF bA))))))); clear hv hnl hf g1 hsn g4 cF bA a1 q4 q5
  change Calls _ _ #[.slice A n c, .agg #[.bool nt, .bool pl, .slice pA sn pc, .string pv, .slice dA dn dc]] _ _
  go_enter Try.func42, Try.ntmps42
  go_wp2_with fail
  generalize hw1 : w.alloc _ = w1 at *
  go_loopw [5, 12] (fun cv kv wr => ∃ (k : Nat) (T : List SF) (r : List Sx), k ≤ sn ∧ kv = .int .i64 (k : Int) ∧ lookS ls (ss.take k) = some T ∧ Own wr w.heap.size 46 2 sxF cv r ∧ r.map (·.1) = T ∧ (∀ x ∈ r, At w 2 fldF (sl x.2) x.1.2) ∧ Below w.heap.size w wr) (fun _ kv _ => sn - (intOf kv).toNat)
  case atStart => exact ⟨0, [], [], Nat.zero_le _, rfl, rfl, Own.nil _ _ _ _ _, rfl, fun x hx => by simp at hx, H.out.2.2.2.2.2.2.2⟩
  case round =>
    rename World => wr0
    obtain ⟨k, T, r, hk, rfl, hT, hO, hr, hA, hb⟩ := hrel
    by_cases hlt : k < sn
    · have hks : k < ss.length := by have := H.out.2.2.2.2.1; omega
      obtain ⟨a2', rfl, hc2⟩ := (H.out.2.2.2.1.later hb).cells rfl (by omega)
      have z0 := hc2.row1 k hks rfl
      rw [Nat.mul_one] at z0
      have hsn2 := lookS_snoc ls (ss[k]'hks) (ss.take k)
      rw [← take_snoc hks, hT] at hsn2
      have hmem := List.getElem_mem hks
      have hno := lookS_none ls (ss[k]'hks)
      generalize ss[k]'hks = s at *
      have c1 := H.out.2.2.2.2.2.2.1 wr0 s hb
      rcases at_look s ls with ⟨e1, e2⟩ | ⟨i, hi, e1, e2⟩
      · rw [e1] at c1
        have hof : ofF ls ss = [] := by unfold ofF; rw [hno e2 ss hmem]
        have V := Lib.hid (And.intro c1 (And.intro hb hof)); clear c1 hof hb hO hr hA hT hsn2 hc2 e1 e2 hno hmem
        go_wp2_with (go_at_call 28; ((with_reducible refine (V.out.1).mono ?_); rintro e w2 ⟨rfl, hb2⟩; have B2 := Lib.hid hb2; clear hb2))
        go_ret
        refine ⟨_, ⟨rfl, ?_⟩, bt V.out.2.1 B2.out⟩
        rw [V.out.2.2]
        exact Own.nil _ _ _ _ _
      · rw [e1] at c1
        rw [e2] at hsn2
        simp only at hsn2
        obtain ⟨a, rfl, hrow⟩ := stm_row H.out.1 H.out.2.1 (by have := H.out.2.1; omega)
        obtain ⟨sA, sc, hc3, hc4, _⟩ := hrow i hi
        clear hrow
        generalize ls[i]'hi = y at *
        obtain ⟨nm, F⟩ := y
        simp only at hc3 hc4
        obtain ⟨m, hm⟩ : ∃ m, m = F.length := ⟨_, rfl⟩
        rw [← hm] at hc3 hc4
        have hin : (i : Int) < (n : Int) := by have := H.out.2.1; omega
        have hi0 : ¬ (i : Int) < 0 := by omega
        have hi1 : decide ((i : Int) < 0) = false := decide_eq_false hi0
        have hkl : r.length = k := by
          have := (lookS_mem ls _ T hT).1
          rw [← hr, List.length_map, List.length_take] at this; omega
        have hat := fun W => at_newSx W ((nm, F), (sA, m, sc))
        obtain ⟨vA, vn, vc, rfl⟩ := own_shape hO
        have V := Lib.hid (And.intro c1 (And.intro hb (And.intro hsn2 (And.intro hO (And.intro hr (And.intro hA (And.intro hc4 (And.intro hkl hat)))))))); clear c1 hb hsn2 hO hr hA hc4 hT hc2 e1 e2 hno hmem hkl hat hm
        go_wp2_with (first
          | (go_at_call 28; ((with_reducible refine (V.out.1).mono ?_); rintro e w2 ⟨rfl, hb2⟩; obtain ⟨x0, x1⟩ := hc3 _ (bt V.out.2.1 hb2); have B2 := Lib.hid hb2; clear hb2))
          | (at_builtin; go_loud (refine wpList_append_loc _ rfl (.tmp 21) (.tmp 26) 44 rfl w.heap.size 46 js (.agg #[.string ⟨#[]⟩, .slice none 0 0]) 2 40 Try.underlying44 sj sy0 sy1 sy2 rfl (by decide) (f := sxF) (fun _ => rfl) sxF_one _ r rfl (V.out.2.2.2.1.later (bt B2.out (ba _ _))) (some ⟨w2.heap.size, 0, none⟩) 1 1 [((nm, F), (sA, m, sc))] rfl rfl (V.out.2.2.2.2.2.2.2.2 _) (by unfold maxLen; have := V.out.2.2.2.2.2.2.2.1; omega) (by have := V.out.2.2.2.2.2.2.2.1; omega) (by have := V.out.2.1.size; have := B2.out.size; simp only [World.size_alloc]; omega) ?_; intro v7 w7 hO7 hg7 hl7; obtain ⟨nA, nn, nc, rfl⟩ := own_shape hO7; have Y := Lib.hid (And.intro hO7 hg7); clear hO7 hg7 hl7)))
        have b2' : Below wr0.heap.size wr0 (w2.alloc (.cells (sxF ((nm, F), (sA, m, sc))).toArray 46)) := bt B2.out (ba _ _)
        have b7 : Below w.heap.size w w7 := (bt V.out.2.1 b2').trans (grownBy_below Y.out.2 (Nat.le_trans V.out.2.1.size b2'.size) (fun x hx => (ownBI V.out.2.2.2.1 hx).1))
        go_roundw
        case rel => exact ⟨k + 1, T ++ [(nm, F)], r ++ [((nm, F), (sA, m, sc))], by omega, by go_num, V.out.2.2.1, Y.out.1, by rw [List.map_append, V.out.2.2.2.2.1]; rfl, fun x hx => by
          rcases List.mem_append.1 hx with hx | hx
          · exact V.out.2.2.2.2.2.1 x hx
          · obtain rfl := List.mem_singleton.1 hx
            exact V.out.2.2.2.2.2.2.1, b7⟩
        case measure => simp [intOf]; omega
    · have hkm : sn = k := by omega
      subst hkm
      have hte : ss.take sn = ss := List.take_of_length_le (by have := H.out.2.2.2.2.1; omega)
      rw [hte] at hT
      have hof : ofF ls ss = commonF T := by unfold ofF; rw [hT]
      obtain ⟨hTl, hTm⟩ := lookS_mem ls ss T hT
      obtain ⟨vA, vn, vc, rfl⟩ := own_shape hO
      have c1 := Common_any _ T wr0 ⟨r, hO.at_ (f := sxF) (k := 2) (fun _ => rfl), hr, fun x hx => (hA x hx).later hb⟩ (by have := H.out.2.2.2.2.1; omega) (fun x hx => H.out.2.2.1 x (hTm x hx))
      have V := Lib.hid (And.intro c1 (And.intro hb hof)); clear c1 hb hof hTl hTm hO hr hA hT hte
      go_wp2_with (go_at_call 12; ((with_reducible refine (V.out.1).mono ?_); rintro e w2 ⟨rv, ⟨rfl, hO2⟩, hb2⟩; obtain ⟨RA, rn, rc, rfl⟩ := own_shape hO2; have B2 := Lib.hid (And.intro hO2 hb2); clear hO2 hb2))
      go_ret
      refine ⟨_, ⟨rfl, ?_⟩, bt V.out.2.1 B2.out.2⟩
      rw [V.out.2.2]
      exact own_down' B2.out.1 V.out.2.1.size
end Go.Proofs.Ytkmboffbohndjaa
