/- Layer 11: checkBy. -/
import Derived.Test.YtkmboffbohndjaaCkG
import Derived.BigQuiet
import Derived.BigGuard
namespace Go.Proofs.Ytkmboffbohndjaa
open Go.ChangeShapes Go.WideShapes Go.ChangeAt Go.RowKit Go.Maps
set_option linter.unusedVariables false
set_option linter.unusedSimpArgs false

theorem isN_sameF (s : ByteArray) : (fun y : Fld => isN s y.1) = fun y : Fld => sameB y.1 s := by
  funext y
  unfold isN
  rw [Bool.eq_iff_iff, beq_iff_eq, sameB_iff]
  exact ⟨fun h => toList_inj h, fun h => by rw [h]⟩
/-- Where a field of that name stands. -/
theorem at_field (s : ByteArray) (F : List Fld) : (atF F s = -1 ∧ fieldK F s = none) ∨ ∃ (i : Nat) (hi : i < F.length) (k : Int), atF F s = (i : Int) ∧ F[i]'hi = (s, k) ∧ fieldK F s = some k := by
  unfold atF idxB fieldK
  rw [isN_sameF]
  by_cases h : F.findIdx (fun y : Fld => sameB y.1 s) < F.length
  · right
    have h1 := List.findIdx_getElem (w := h)
    refine ⟨_, h, (F[F.findIdx (fun y : Fld => sameB y.1 s)]'h).2, by rw [if_pos h], Prod.ext (sameB_iff.1 h1) rfl, ?_⟩
    have : F.find? (fun y : Fld => sameB y.1 s) = some (F[F.findIdx (fun y : Fld => sameB y.1 s)]'h) := by
      rw [List.find?_eq_some_iff_getElem]
      refine ⟨h1, _, h, rfl, fun j hj => ?_⟩
      have := List.not_of_lt_findIdx hj
      simpa using this
    rw [this]; rfl
  · left
    refine ⟨by rw [if_neg h], ?_⟩
    have : F.find? (fun y : Fld => sameB y.1 s) = none := by
      rw [List.find?_eq_none]
      intro x hx
      have := List.findIdx_eq_length.1 (show F.findIdx (fun y : Fld => sameB y.1 s) = F.length by have := List.findIdx_le_length (xs := F) (p := fun y : Fld => sameB y.1 s); omega) x hx
      simpa using this
    rw [this]; rfl
set_option maxRecDepth 20000 in
set_option maxHeartbeats 4000000 in
theorem checkBy_any (by_ : ByteArray) (v u : Value) (first own : List Fld) (w : World) (hv : At w 2 fldF v first) (hu : At w 2 fldF u own) (hs : by_.size ≤ maxLen) (hF : by_.size ≠ 0 → (fieldK own by_).isSome = true → (fieldK first by_).isSome = true) :
    Calls Try.prog 43 #[.string by_, v, u] w fun e w' => e = .returned (.int .i64 (byE by_ first own)) ∧ Below w.heap.size w w' := by
  obtain ⟨A, c, rfl, a1, a2, _⟩ := hv.shape
  obtain ⟨B, d, rfl, b1, b2, _⟩ := hu.shape
  obtain ⟨n, hn⟩ : ∃ n, n = first.length := ⟨_, rfl⟩
  obtain ⟨m, hm⟩ : ∃ m, m = own.length := ⟨_, rfl⟩
  rw [← hn] at hv ⊢
  rw [← hm] at hu ⊢
  by_cases h0 : by_.size = 0
  · have e0' : by_ = ⟨#[]⟩ := by
      cases by_ with
      | mk d => have : d.size = 0 := h0; rw [Array.eq_empty_of_size_eq_zero this]
    have hr : byE by_ first own = 0 := by unfold byE; rw [if_pos h0]
    rw [hr]
    subst e0'
    clear hv hu hF hr a1 b1
    go_enter Try.func43, Try.ntmps43
    go_wp2_with fail
    go_ret
    exact ⟨rfl, Below.refl _ _⟩
  · have hne : ¬ by_.toList = [] := fun e => h0 ((size_nil by_).2 e)
    have hne2 : (by_.toList == []) = false := by simpa using hne
    have cO := fun W (hW : Below w.heap.size w W) => At_any ⟨#[]⟩ by_ _ own W (rowsF_of_at (hu.later hW))
    have cF := fun W (hW : Below w.heap.size w W) => At_any ⟨#[]⟩ by_ _ first W (rowsF_of_at (hv.later hW))
    rw [show idxB (fun y : Fld => isN by_ y.1) own = atF own by_ from rfl] at cO
    rw [show idxB (fun y : Fld => isN by_ y.1) first = atF first by_ from rfl] at cF
    rcases at_field by_ own with ⟨e1, e2⟩ | ⟨i, hi, k, e1, e2, e3⟩
    · rw [e1] at cO
      have hr : byE by_ first own = 5 := by unfold byE; rw [if_neg h0, e2]
      rw [hr]
      have H := Lib.hid cO; clear cO cF hv hu hF hr e1 e2 a1 b1 hn hm
      go_enter Try.func43, Try.ntmps43
      go_wp2_with (go_at_call 13; go_loud ((with_reducible refine (H.out _ (Below.refl _ _)).mono ?_); rintro e w2 ⟨rfl, hb2⟩; have B2 := Lib.hid hb2; clear hb2))
      go_ret
      exact ⟨rfl, B2.out⟩
    · rw [e1] at cO
      have h1 := hF h0 (by rw [e3]; rfl)
      rcases at_field by_ first with ⟨f1, f2⟩ | ⟨j, hj, q, f1, f2, f3⟩
      · rw [f2] at h1; cases h1
      rw [f1] at cF
      obtain ⟨a', rfl, hc⟩ := hv.cells rfl (by omega)
      obtain ⟨b', rfl, hd⟩ := hu.cells rfl (by omega)
      have hx := fun W (hW : Below w.heap.size w W) => Row2.later (show Row2 w (a'.add (j * 2)) (.string (first[j]'hj).1) (.int .i64 (first[j]'hj).2) from ⟨(hc.row2 j hj rfl).1, (hc.row2 j hj rfl).2⟩) hW
      have hy := fun W (hW : Below w.heap.size w W) => Row2.later (show Row2 w (b'.add (i * 2)) (.string (own[i]'hi).1) (.int .i64 (own[i]'hi).2) from ⟨(hd.row2 i hi rfl).1, (hd.row2 i hi rfl).2⟩) hW
      rw [f2] at hx
      rw [e2] at hy
      simp only at hx hy
      have hin : (i : Int) < (m : Int) := by omega
      have hjn : (j : Int) < (n : Int) := by omega
      have hi0 : ¬ (i : Int) < 0 := by omega
      have d1 : decide ((i : Int) < 0) = false := decide_eq_false hi0
      have g1 : i < m := by omega
      have g2 : j < n := by omega
      by_cases hkq : k = q
      · have hr : byE by_ first own = 0 := by unfold byE; rw [if_neg h0, e3, f3]; simp [hkq]
        rw [hr]
        subst hkq
        have H := Lib.hid (And.intro cO (And.intro cF (And.intro hx hy))); clear cO cF hv hu hF hr e1 e2 e3 f1 f2 f3 h1 hc hd hx hy a1 b1 hn hm
        go_enter Try.func43, Try.ntmps43
        go_wp2_with (first
          | (go_at_call 13; ((with_reducible refine (H.out.1 _ (Below.refl _ _)).mono ?_); rintro e w2 ⟨rfl, hb2⟩; have B2 := Lib.hid hb2; clear hb2))
          | (go_at_call 13; ((with_reducible refine (H.out.2.1 _ B2.out).mono ?_); rintro e w3 ⟨rfl, hb3⟩; have B3 := Lib.hid (bt B2.out hb3); clear hb3; obtain ⟨x0, x1⟩ := H.out.2.2.1 _ B3.out; obtain ⟨y0, y1⟩ := H.out.2.2.2 _ B3.out)))
        go_quiet (fail)
        go_wp2_with fail
        go_ret
        exact ⟨rfl, below_drewN B3.out _⟩
      · have hr : byE by_ first own = 6 := by unfold byE; rw [if_neg h0, e3, f3]; simp [Ne.symm hkq]
        rw [hr]
        have hkq' : (k == q) = false := by simpa using hkq
        have hkq2 : decide (k = q) = false := by simpa using hkq
        have H := Lib.hid (And.intro cO (And.intro cF (And.intro hx hy))); clear cO cF hv hu hF hr e1 e2 e3 f1 f2 f3 h1 hc hd hx hy a1 b1 hn hm
        go_enter Try.func43, Try.ntmps43
        go_wp2_with (first
          | (go_at_call 13; ((with_reducible refine (H.out.1 _ (Below.refl _ _)).mono ?_); rintro e w2 ⟨rfl, hb2⟩; have B2 := Lib.hid hb2; clear hb2))
          | (go_at_call 13; ((with_reducible refine (H.out.2.1 _ B2.out).mono ?_); rintro e w3 ⟨rfl, hb3⟩; have B3 := Lib.hid (bt B2.out hb3); clear hb3; obtain ⟨x0, x1⟩ := H.out.2.2.1 _ B3.out; obtain ⟨y0, y1⟩ := H.out.2.2.2 _ B3.out)))
        go_quiet (fail)
        go_wp2_with fail
        go_ret
        exact ⟨rfl, below_drewN B3.out _⟩
end Go.Proofs.Ytkmboffbohndjaa
