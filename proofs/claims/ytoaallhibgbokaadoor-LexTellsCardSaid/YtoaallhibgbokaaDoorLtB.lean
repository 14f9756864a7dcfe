/- Words of texts: the reference's name, number, quote. -/
import Derived.Test.YtoaallhibgbokaaDoorLtA
namespace Go.Proofs.YtoaallhibgbokaaDoor
open Go.ChangeShapes Go.WideShapes Go.ChangeAt Go.RowKit
set_option linter.unusedVariables false
set_option linter.unusedSimpArgs false

/-- What the reference tells of a word, without its length. -/
def RfP (o : Option (Int × Bs × Int × Nat)) (w : World) (e : Ending) (w' : World) : Prop :=
  ∃ (k : Int) (t : Bs) (n : Int) (ok : Bool), (e = .returned (.tuple #[tokV k (mk t) n 0, .bool ok]) ∧ t.length ≤ 4000000000 ∧ ((ok = false ∧ o = none) ∨ (ok = true ∧ o = some (k, t, n, t.length)))) ∧ Below w.heap.size w w'
/-- What the reference tells of a word. -/
def RqP (o : Option (Int × Bs × Int × Nat)) (w : World) (e : Ending) (w' : World) : Prop :=
  ∃ (k : Int) (t : Bs) (n : Int) (z : Nat) (ok : Bool), (e = .returned (.tuple #[tokV k (mk t) n 0, .int .i64 (z : Int), .bool ok]) ∧ ((ok = false ∧ o = none) ∨ (ok = true ∧ o = some (k, t, n, z) ∧ 0 < z))) ∧ Below w.heap.size w w'
theorem let_dig {c : UInt8} (h : isLt c = true) : digB c.toNat = false := by
  unfold isLt letB at h
  unfold digB
  simp at h ⊢
  omega
theorem name_cases {c : UInt8} {r : Bs} (h : isLt c = true) {t : Bs} (ht : (c :: r).takeWhile isLd = t) :
    (keyT t = true → wordR t = some (5, t, 0, t.length)) ∧ (keyT t = false → t.length ≤ 20 → wordR t = some (1, t, 0, t.length)) ∧ (keyT t = false → ¬ t.length ≤ 20 → wordR t = none) := by
  have ht' : t = c :: r.takeWhile isLd := by rw [← ht, List.takeWhile_cons, isLd_eq, h]; simp
  have hall := takeWhile_all (p := isLd) (c :: r)
  rw [ht] at hall
  have hn : nameT t = (decide (t.length ≤ 20) && !keyT t) := by
    unfold nameT
    have a1 : decide (1 ≤ t.length) = true := by rw [ht']; simp
    have a2 : t.getD 0 0 = c := by rw [ht']; rfl
    have a3 : (t.all fun c => letB c.toNat || digB c.toNat) = true := List.all_eq_true.2 hall
    rw [a1, a2, let_dig h, a3]; simp
  refine ⟨fun hk => ?_, fun hk hl => ?_, fun hk hl => ?_⟩
  · have hkl : t.length ≤ 20 := by
      have := (show ∀ g ∈ keyL, g.length ≤ 20 by decide) _ ((key_mem t).1 hk)
      exact this
    unfold wordR
    rw [hn, hk, if_neg (by simp), if_neg (by simpa using hkl)]
  · unfold wordR
    rw [hn, hk, decide_eq_true hl, if_pos (by rfl)]
  · unfold wordR
    rw [hn, hk, if_neg (by simpa using hl), if_pos (by simpa using hl)]
set_option maxRecDepth 20000 in
set_option maxHeartbeats 2000000 in
theorem Rname_any (s : ByteArray) (w : World) (c : UInt8) (r : Bs) (hs : s.size ≤ 4000000000) (hcr : s.data.toList = c :: r) (hc : isLt c = true) :
    Calls Tryd.prog 30 #[.string s] w (RfP (wordT s.data.toList) w) := by
  have hle := tw_le isLd s
  have hx := ext_to s isLd
  have hsz := mk_size (s.data.toList.takeWhile isLd)
  have hmore := fun k (h : k < s.size) => tw_more (p := isLd) (s := s) h
  have hstop := fun k (h : k < s.size) => tw_stop (p := isLd) (s := s) h
  unfold wordT
  obtain ⟨t, ht⟩ : ∃ t, s.data.toList.takeWhile isLd = t := ⟨_, rfl⟩
  have hU := name_cases (t := t) (c := c) (r := r) hc (by rw [← hcr]; exact ht)
  rw [ht] at hle hx hsz ⊢
  simp only [ht] at hmore hstop
  clear ht
  have cK := fun w => key_any t w
  obtain ⟨b, hb⟩ : ∃ b, mk t = b := ⟨_, rfl⟩
  obtain ⟨n, hn⟩ : ∃ n, t.length = n := ⟨_, rfl⟩
  rw [hb] at hx hsz cK
  rw [hn] at hle hx hsz hU
  simp only [hn] at hmore hstop
  have hnm : n ≤ 9223372036854775807 := by omega
  have hsm : s.size ≤ 9223372036854775807 := by omega
  have fin : ∀ (k : Int) (ok : Bool) (W : World), (ok = false ∧ wordR t = none) ∨ (ok = true ∧ wordR t = some (k, t, 0, n)) → Below w.heap.size w W → RfP (wordR t) w (.returned (.tuple #[tokV k b 0 0, .bool ok])) W :=
    fun k ok W h hW => ⟨k, t, 0, ok, ⟨by rw [hb], by omega, by rw [hn]; exact h⟩, hW⟩
  have H := Lib.hid (And.intro hU (And.intro hmore (And.intro hstop (And.intro cK (And.intro fin (fun c => Blk.new w 49 c)))))); clear hU hmore hstop cK fin hb hn hc hcr
  have hcL := Lib.hid (fun c w => Rletter_any c w)
  have hcD := Lib.hid (fun c w => Rdigit_any c w)
  go_enter Tryd.func30, Tryd.ntmps30
  go_wp2
  go_loop [4] (fun i => ∃ k : Nat, k ≤ n ∧ i = .int .i64 k) (fun i => s.size - (intOf i).toNat)
  case atStart => exact ⟨0, Nat.zero_le _, rfl⟩
  case round =>
    obtain ⟨k, hk, rfl⟩ := hrel
    by_cases hlt : k < s.size
    · have cL := fun w => hcL.out (s[k]'hlt) w
      have cD := fun w => hcD.out (s[k]'hlt) w
      have hld := isLd_eq (s[k]'hlt)
      rcases h1 : isLt (s[k]'hlt) with _ | _
      · rcases h2 : isDg (s[k]'hlt) with _ | _
        · rw [h1] at cL
          rw [h2] at cD
          have hst := H.out.2.2.1 k hlt hk (by rw [hld, h1, h2]; rfl)
          obtain rfl : n = k := hst
          have C := Lib.hid (And.intro cL cD); clear cL cD hld h1 h2
          have cK := H.out.2.2.2.1
          rcases hky : keyT t with _ | _
          · rw [hky] at cK
            have cK := Lib.hid cK
            by_cases h20 : n ≤ 20
            · have J := Lib.hid (H.out.1.2.1 hky h20)
              clear hky
              go_wp2_with (first
                | (go_at_call 29; ((with_reducible refine (C.out.1 _).mono ?_); rintro e w1 ⟨rfl, rfl⟩))
                | (go_at_call 31; ((with_reducible refine (C.out.2 _).mono ?_); rintro e w1 ⟨rfl, rfl⟩))
                | (go_at_call 44; ((with_reducible refine (cK.out _).mono ?_); rintro e w1 ⟨rfl, b1⟩; have B1 := (H.out.2.2.2.2.2 (tokC 0 ⟨#[]⟩ 0 0)).later b1; have hlt1 := B1.lt; have hf1 := B1.frozen; obtain ⟨y0, y1, y2, y3⟩ := Blk.four B1)))
              exact bodyPost_ret (v := .tuple #[tokV 1 b 0 0, .bool true]) (by simp only [results, Tryd.results30]; simp [go_sem, Act.put, y0, y1, y2, y3]; omega) rfl (H.out.2.2.2.2.1 _ _ _ (Or.inr ⟨rfl, J.out⟩) (below_put4 (bt (ba w _) b1) (Nat.le_refl _) _ _ _ _))
            · have J := Lib.hid (H.out.1.2.2 hky h20)
              clear hky
              go_wp2_with (first
                | (go_at_call 29; ((with_reducible refine (C.out.1 _).mono ?_); rintro e w1 ⟨rfl, rfl⟩))
                | (go_at_call 31; ((with_reducible refine (C.out.2 _).mono ?_); rintro e w1 ⟨rfl, rfl⟩))
                | (go_at_call 44; ((with_reducible refine (cK.out _).mono ?_); rintro e w1 ⟨rfl, b1⟩; have B1 := (H.out.2.2.2.2.2 (tokC 0 ⟨#[]⟩ 0 0)).later b1; have hlt1 := B1.lt; have hf1 := B1.frozen; obtain ⟨y0, y1, y2, y3⟩ := Blk.four B1)))
              exact bodyPost_ret (v := .tuple #[tokV 1 b 0 0, .bool false]) (by simp only [results, Tryd.results30]; simp [go_sem, Act.put, y0, y1, y2, y3]; omega) rfl (H.out.2.2.2.2.1 _ _ _ (Or.inl ⟨rfl, J.out⟩) (below_put4 (bt (ba w _) b1) (Nat.le_refl _) _ _ _ _))
          · rw [hky] at cK
            have cK := Lib.hid cK
            have J := Lib.hid (H.out.1.1 hky)
            clear hky
            go_wp2_with (first
              | (go_at_call 29; ((with_reducible refine (C.out.1 _).mono ?_); rintro e w1 ⟨rfl, rfl⟩))
              | (go_at_call 31; ((with_reducible refine (C.out.2 _).mono ?_); rintro e w1 ⟨rfl, rfl⟩))
              | (go_at_call 44; ((with_reducible refine (cK.out _).mono ?_); rintro e w1 ⟨rfl, b1⟩; have B1 := (H.out.2.2.2.2.2 (tokC 0 ⟨#[]⟩ 0 0)).later b1; have hlt1 := B1.lt; have hf1 := B1.frozen; obtain ⟨y0, y1, y2, y3⟩ := Blk.four B1)))
            exact bodyPost_ret (v := .tuple #[tokV 5 b 0 0, .bool true]) (by simp only [results, Tryd.results30]; simp [go_sem, Act.put, y0, y1, y2, y3]) rfl (H.out.2.2.2.2.1 _ _ _ (Or.inr ⟨rfl, J.out⟩) (below_put4 (bt (ba w _) b1) (Nat.le_refl _) _ _ _ _))
        · rw [h1] at cL
          rw [h2] at cD
          have hmo := H.out.2.1 k hlt hk (by rw [hld, h1, h2]; rfl)
          have C := Lib.hid (And.intro cL cD); clear cL cD hld h1 h2
          go_wp2_with (first
            | (go_at_call 29; ((with_reducible refine (C.out.1 _).mono ?_); rintro e w1 ⟨rfl, rfl⟩))
            | (go_at_call 31; ((with_reducible refine (C.out.2 _).mono ?_); rintro e w1 ⟨rfl, rfl⟩)))
          go_round
          case rel => exact ⟨k + 1, by omega, by go_num⟩
          case measure => simp [intOf]; omega
      · rw [h1] at cL
        have hmo := H.out.2.1 k hlt hk (by rw [hld, h1]; rfl)
        have C := Lib.hid (And.intro cL cD); clear cL cD hld h1
        go_wp2_with (first
          | (go_at_call 29; ((with_reducible refine (C.out.1 _).mono ?_); rintro e w1 ⟨rfl, rfl⟩))
          | (go_at_call 31; ((with_reducible refine (C.out.2 _).mono ?_); rintro e w1 ⟨rfl, rfl⟩)))
        go_round
        case rel => exact ⟨k + 1, by omega, by go_num⟩
        case measure => simp [intOf]; omega
    · obtain rfl : n = k := by omega
      have C := Lib.hid (And.intro hcL.out hcD.out)
      have cK := H.out.2.2.2.1
      rcases hky : keyT t with _ | _
      · rw [hky] at cK
        have cK := Lib.hid cK
        by_cases h20 : n ≤ 20
        · have J := Lib.hid (H.out.1.2.1 hky h20)
          clear hky
          go_wp2_with (first
            | (go_at_call 29; ((with_reducible refine (C.out.1 _).mono ?_); rintro e w1 ⟨rfl, rfl⟩))
            | (go_at_call 31; ((with_reducible refine (C.out.2 _).mono ?_); rintro e w1 ⟨rfl, rfl⟩))
            | (go_at_call 44; ((with_reducible refine (cK.out _).mono ?_); rintro e w1 ⟨rfl, b1⟩; have B1 := (H.out.2.2.2.2.2 (tokC 0 ⟨#[]⟩ 0 0)).later b1; have hlt1 := B1.lt; have hf1 := B1.frozen; obtain ⟨y0, y1, y2, y3⟩ := Blk.four B1)))
          exact bodyPost_ret (v := .tuple #[tokV 1 b 0 0, .bool true]) (by simp only [results, Tryd.results30]; simp [go_sem, Act.put, y0, y1, y2, y3]; omega) rfl (H.out.2.2.2.2.1 _ _ _ (Or.inr ⟨rfl, J.out⟩) (below_put4 (bt (ba w _) b1) (Nat.le_refl _) _ _ _ _))
        · have J := Lib.hid (H.out.1.2.2 hky h20)
          clear hky
          go_wp2_with (first
            | (go_at_call 29; ((with_reducible refine (C.out.1 _).mono ?_); rintro e w1 ⟨rfl, rfl⟩))
            | (go_at_call 31; ((with_reducible refine (C.out.2 _).mono ?_); rintro e w1 ⟨rfl, rfl⟩))
            | (go_at_call 44; ((with_reducible refine (cK.out _).mono ?_); rintro e w1 ⟨rfl, b1⟩; have B1 := (H.out.2.2.2.2.2 (tokC 0 ⟨#[]⟩ 0 0)).later b1; have hlt1 := B1.lt; have hf1 := B1.frozen; obtain ⟨y0, y1, y2, y3⟩ := Blk.four B1)))
          exact bodyPost_ret (v := .tuple #[tokV 1 b 0 0, .bool false]) (by simp only [results, Tryd.results30]; simp [go_sem, Act.put, y0, y1, y2, y3]; omega) rfl (H.out.2.2.2.2.1 _ _ _ (Or.inl ⟨rfl, J.out⟩) (below_put4 (bt (ba w _) b1) (Nat.le_refl _) _ _ _ _))
      · rw [hky] at cK
        have cK := Lib.hid cK
        have J := Lib.hid (H.out.1.1 hky)
        clear hky
        go_wp2_with (first
          | (go_at_call 29; ((with_reducible refine (C.out.1 _).mono ?_); rintro e w1 ⟨rfl, rfl⟩))
          | (go_at_call 31; ((with_reducible refine (C.out.2 _).mono ?_); rintro e w1 ⟨rfl, rfl⟩))
          | (go_at_call 44; ((with_reducible refine (cK.out _).mono ?_); rintro e w1 ⟨rfl, b1⟩; have B1 := (H.out.2.2.2.2.2 (tokC 0 ⟨#[]⟩ 0 0)).later b1; have hlt1 := B1.lt; have hf1 := B1.frozen; obtain ⟨y0, y1, y2, y3⟩ := Blk.four B1)))
        exact bodyPost_ret (v := .tuple #[tokV 5 b 0 0, .bool true]) (by simp only [results, Tryd.results30]; simp [go_sem, Act.put, y0, y1, y2, y3]) rfl (H.out.2.2.2.2.1 _ _ _ (Or.inr ⟨rfl, J.out⟩) (below_put4 (bt (ba w _) b1) (Nat.le_refl _) _ _ _ _))
end Go.Proofs.YtoaallhibgbokaaDoor
