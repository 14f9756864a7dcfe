/- Words of texts: the reference's number. -/
import Derived.Test.YtoaallhibgbokaaDoorLtB
import Derived.BigRegion
namespace Go.Proofs.YtoaallhibgbokaaDoor
open Go.ChangeShapes Go.WideShapes Go.ChangeAt Go.RowKit
set_option linter.unusedVariables false
set_option linter.unusedSimpArgs false

/-- Digits, and what the reference has of them. -/
structure NumQ (D : Bs) (v : Nat) (f : Bool) : Prop where
  le : v ≤ 9223372036854775807
  yes : f = true → v = val 0 D
  no : f = false → 9223372036854775807 < val 0 D
theorem NumQ.start : NumQ [] 0 true := ⟨by decide, fun _ => rfl, fun h => by cases h⟩
theorem NumQ.more {D : Bs} {v : Nat} {f : Bool} (h : NumQ D v f) (c : UInt8) (d : Nat) (hc : c.toNat = 48 + d) (hd : d ≤ 9) :
    (v ≤ (9223372036854775807 - d) / 10 → NumQ (D ++ [c]) (10 * v + d) f) ∧ (¬ v ≤ (9223372036854775807 - d) / 10 → NumQ (D ++ [c]) d false) := by
  have hv : val 0 (D ++ [c]) = val 0 D * 10 + d := by rw [val_app, hc]; omega
  constructor
  · intro hn
    refine ⟨by omega, fun hf => ?_, fun hf => ?_⟩
    · rw [hv, ← h.yes hf]; omega
    · have := h.no hf; rw [hv]; omega
  · intro hn
    refine ⟨by omega, fun hf => (by cases hf), fun _ => ?_⟩
    cases f with
    | true => rw [hv, ← h.yes rfl]; omega
    | false => have := h.no rfl; rw [hv]; omega
theorem num_cases {t : Bs} (h0 : t ≠ []) (hd : ∀ c ∈ t, isDg c = true) (hb : Bool) {v : Nat} {f : Bool} (h : NumQ t v f) :
    (f = false → numberR t hb = none) ∧ (f = true → hb = true → ¬ t.length = 1 → numberR t hb = none) ∧ (f = true → (hb = false ∨ t.length = 1) → numberR t hb = some (2, t, (v : Int), t.length)) := by
  have hp := parse_val h0 hd
  have hl : 1 ≤ t.length := by cases t with
    | nil => exact absurd rfl h0
    | cons => simp
  refine ⟨fun hf => ?_, fun hf hb1 h1 => ?_, fun hf h1 => ?_⟩
  · unfold numberR; rw [hp.2 (h.no hf)]
  · have e := h.yes hf
    have h2 : decide (1 < t.length) = true := by rw [decide_eq_true_eq]; omega
    unfold numberR; rw [hp.1 (by rw [← e]; exact h.le)]
    simp only [hb1, h2]; rfl
  · have e := h.yes hf
    have h2 : (hb && decide (1 < t.length)) = false := by
      rcases h1 with h1 | h1
      · rw [h1]; rfl
      · rw [h1]; simp
    unfold numberR; rw [hp.1 (by rw [← e]; exact h.le)]
    simp only [h2, ← e]; rfl
set_option maxRecDepth 20000 in
set_option maxHeartbeats 4000000 in
theorem Rnumber_any (s : ByteArray) (w : World) (c : UInt8) (r : Bs) (hs : s.size ≤ 4000000000) (hcr : s.data.toList = c :: r) (hc : isDg c = true) :
    Calls Tryd.prog 32 #[.string s] w (RfP (numberT s.data.toList) w) := by
  have hle := tw_le isDg s
  have hx := ext_to s isDg
  have hsz := mk_size (s.data.toList.takeWhile isDg)
  have hmore := fun k (h : k < s.size) => tw_more (p := isDg) (s := s) h
  have hstop := fun k (h : k < s.size) => tw_stop (p := isDg) (s := s) h
  have hall := takeWhile_all (p := isDg) s.data.toList
  have hne : s.data.toList.takeWhile isDg ≠ [] := by rw [hcr, List.takeWhile_cons, hc]; simp
  have hlen : s.data.toList.length = s.size := by simp
  have hs0 : 0 < s.size := by rw [← hlen, hcr]; simp
  have hc0 : s[0]'hs0 = c := by
    have : s.data.toList[0]? = some c := by rw [hcr]; rfl
    rw [List.getElem?_eq_getElem (by simpa using hs0)] at this
    exact Option.some.inj this
  have htk := takeWhile_take (p := isDg) s.data.toList
  unfold numberT
  rw [show (s.data.toList.head? == some 48) = (c == 48) by rw [hcr]; rfl]
  obtain ⟨t, ht⟩ : ∃ t, s.data.toList.takeWhile isDg = t := ⟨_, rfl⟩
  rw [ht] at hle hx hsz hne htk ⊢
  rw [ht] at hall
  simp only [ht] at hmore hstop
  clear ht
  have hN := fun v f (h : NumQ t v f) => num_cases hne hall (c == 48) h
  obtain ⟨b, hb⟩ : ∃ b, mk t = b := ⟨_, rfl⟩
  obtain ⟨n, hn⟩ : ∃ n, t.length = n := ⟨_, rfl⟩
  rw [hb] at hx hsz
  rw [hn] at hle hx hsz htk
  simp only [hn] at hmore hstop hN
  have hnm : n ≤ 9223372036854775807 := by omega
  have hsm : s.size ≤ 9223372036854775807 := by omega
  have hc48 : (c = 48) ↔ ((c.toNat : Int) = 48) := by
    rw [show (48 : UInt8) = UInt8.ofNat 48 from rfl, byte_eq _ _ (by decide)]; omega
  have hcI := c.toNat_lt
  obtain ⟨U, hU⟩ : ∃ U, numberR t (c == 48) = U := ⟨_, rfl⟩
  rw [hU]
  simp only [hU] at hN
  have fin : ∀ (v : Int) (ok : Bool) (W : World), (ok = false ∧ U = none) ∨ (ok = true ∧ U = some (2, t, v, n)) → Below w.heap.size w W → RfP U w (.returned (.tuple #[tokV 2 b v 0, .bool ok])) W :=
    fun v ok W h hW => ⟨2, t, v, ok, ⟨by rw [hb], by omega, by rw [hn]; exact h⟩, hW⟩
  have hg0 : ∀ k (h : k < s.size), s.data.toList.take (k + 1) = s.data.toList.take k ++ [s[k]'h] := fun k h => List.take_succ_eq_append_getElem (by rw [hlen]; exact h)
  have H := Lib.hid (And.intro hmore (And.intro hstop (And.intro hN (And.intro fin (And.intro hg0 htk))))); clear hmore hstop hN fin hb hn hcr hall hne htk hU hg0 hlen hc
  have HB := Lib.hid (Blk.new w 49 (tokC 0 ⟨#[]⟩ 0 0))
  have hcD := Lib.hid (fun c w => Rdigit_any c w)
  have hC0 := Lib.hid (And.intro hc0 hc48); clear hc0 hc48
  go_enter Tryd.func32, Tryd.ntmps32
  go_wp2
  go_loop [4, 5, 6] (fun i vv ff => ∃ (k v : Nat) (f : Bool), k ≤ n ∧ i = .int .i64 k ∧ vv = .int .i64 (v : Int) ∧ ff = .bool f ∧ NumQ (s.data.toList.take k) v f) (fun i _ _ => s.size - (intOf i).toNat)
  case atStart => exact ⟨0, 0, true, Nat.zero_le _, rfl, rfl, rfl, NumQ.start⟩
  case round =>
    obtain ⟨k, v, f, hk, rfl, rfl, rfl, hQ⟩ := hrel
    have Q0 := Lib.hid hQ
    have hvm := hQ.le
    clear hQ
    by_cases hlt : k < s.size
    · have cD := fun w => hcD.out (s[k]'hlt) w
      rcases h2 : isDg (s[k]'hlt) with _ | _
      · rw [h2] at cD
        have hst := H.out.2.1 k hlt hk h2
        obtain rfl : n = k := hst
        have C := Lib.hid cD; clear cD h2
        have hQ := Q0.out
        rw [H.out.2.2.2.2.2] at hQ
        have hC := H.out.2.2.1 v f hQ
        clear hQ Q0
        have B1 := HB.out
        have hlt1 := B1.lt
        have hf1 := B1.frozen
        obtain ⟨y0, y1, y2, y3⟩ := Blk.four B1
        cases f with
        | false =>
          have J := Lib.hid (hC.1 rfl)
          clear hC B1
          go_wp2_with ((go_at_call 31; ((with_reducible refine (C.out _).mono ?_); rintro e w1 ⟨rfl, rfl⟩)))
          go_region
          all_goals
            go_wp2
            exact bodyPost_ret (v := .tuple #[tokV 2 b (v : Int) 0, .bool false]) (by simp only [results, Tryd.results32]; simp [go_sem, Act.put, y0, y1, y2, y3]) rfl (H.out.2.2.2.1 _ _ _ (Or.inl ⟨rfl, J.out⟩) (below_drew (ba w _)))
        | true =>
          by_cases h1 : n = 1
          · have J := Lib.hid (hC.2.2 rfl (Or.inr h1))
            have h1I : (n : Int) = 1 := by omega
            have h1b : ((n : Int) == 1) = true := by simpa using h1I
            clear hC B1 h1 h1I
            go_wp2_with ((go_at_call 31; ((with_reducible refine (C.out _).mono ?_); rintro e w1 ⟨rfl, rfl⟩)))
            go_region
            all_goals
              go_wp2
              exact bodyPost_ret (v := .tuple #[tokV 2 b (v : Int) 0, .bool true]) (by simp only [results, Tryd.results32]; simp [go_sem, Act.put, y0, y1, y2, y3]) rfl (H.out.2.2.2.1 _ _ _ (Or.inr ⟨rfl, J.out⟩) (below_drew (ba w _)))
          · have h1I : ¬ (n : Int) = 1 := by omega
            have h1b : ((n : Int) == 1) = false := by simpa using h1I
            by_cases h48 : c = 48
            · have J := Lib.hid (hC.2.1 rfl (by simpa using h48) h1)
              have h4 : ((s[0]'hs0).toNat : Int) = 48 := by rw [hC0.out.1]; exact hC0.out.2.1 h48
              clear hC B1
              go_wp2_with ((go_at_call 31; ((with_reducible refine (C.out _).mono ?_); rintro e w1 ⟨rfl, rfl⟩)))
              go_region
              all_goals
                go_wp2
                exact bodyPost_ret (v := .tuple #[tokV 2 b (v : Int) 0, .bool false]) (by simp only [results, Tryd.results32]; simp [go_sem, Act.put, y0, y1, y2, y3]) rfl (H.out.2.2.2.1 _ _ _ (Or.inl ⟨rfl, J.out⟩) (below_drew (ba w _)))
            · have J := Lib.hid (hC.2.2 rfl (Or.inl (by simpa using h48)))
              have h4 : ¬ ((s[0]'hs0).toNat : Int) = 48 := by rw [hC0.out.1]; exact fun e => h48 (hC0.out.2.2 e)
              have h4b : (((s[0]'hs0).toNat : Int) == 48) = false := by simpa using h4
              have h4n : ¬ (s[0]'hs0).toNat = 48 := by omega
              clear hC B1
              go_wp2_with ((go_at_call 31; ((with_reducible refine (C.out _).mono ?_); rintro e w1 ⟨rfl, rfl⟩)))
              go_region
              all_goals
                go_wp2
                exact bodyPost_ret (v := .tuple #[tokV 2 b (v : Int) 0, .bool true]) (by simp only [results, Tryd.results32]; simp [go_sem, Act.put, y0, y1, y2, y3]; exact h4) rfl (H.out.2.2.2.1 _ _ _ (Or.inr ⟨rfl, J.out⟩) (below_drew (ba w _)))
      · rw [h2] at cD
        have hmo := H.out.1 k hlt hk h2
        obtain ⟨h48, h57⟩ := isDg_nat h2
        obtain ⟨d, hd⟩ : ∃ d : Nat, (s[k]'hlt).toNat = 48 + d := ⟨(s[k]'hlt).toNat - 48, by omega⟩
        have hd9 : d ≤ 9 := by omega
        have hmr := Q0.out.more (s[k]'hlt) d hd hd9
        rw [← H.out.2.2.2.2.1 k hlt] at hmr
        have hdI : ((s[k]'hlt).toNat : Int) = 48 + (d : Int) := by omega
        rw [hdI] at cD
        have C := Lib.hid (And.intro cD hmr); clear cD h2 hmr h48 h57
        have e1 : IntKind.u8.wrap (48 + (d : Int) - 48) = (d : Int) := by
          rw [show (48 + (d : Int) - 48) = (d : Int) by omega]
          exact IntWalk.u8_in _ (by omega)
        have e2 : IntKind.u8.wrap (d : Int) = (d : Int) := IntWalk.u8_in _ (by omega)
        have e3 : IntKind.i64.wrap (d : Int) = (d : Int) := IntWalk.i64_in _ (by omega)
        have k1 : IntKind.i64.wrap (9223372036854775807 - (d : Int)) = 9223372036854775807 - (d : Int) := IntWalk.i64_in _ (by omega)
        have k2 : (9223372036854775807 - (d : Int)).tdiv 10 = (((9223372036854775807 - d) / 10 : Nat) : Int) := by rw [Int.tdiv_eq_ediv_of_nonneg (by omega)]; omega
        have k2' : (9223372036854775807 - (d : Int)) / 10 = (((9223372036854775807 - d) / 10 : Nat) : Int) := by omega
        obtain ⟨q, hq⟩ : ∃ q : Nat, (9223372036854775807 - d) / 10 = q := ⟨_, rfl⟩
        have hqm : q ≤ 9223372036854775807 := by omega
        by_cases hvq : v ≤ q
        · have hN := C.out.2.1 (by rw [hq]; exact hvq)
          have hlim : 10 * v + d ≤ 9223372036854775807 := by omega
          rw [hq] at k2 k2'
          have k6 : IntKind.i64.wrap ((q : Nat) : Int) = (q : Int) := IntWalk.i64_in _ (by omega)
          have k5 : IntKind.i64.wrap (10 * (v : Int)) = 10 * (v : Int) := IntWalk.i64_in _ (by omega)
          have k7 : IntKind.i64.wrap (10 * (v : Int) + (d : Int)) = ((10 * v + d : Nat) : Int) := by rw [IntWalk.i64_in _ (by omega)]; omega
          have g1 : ¬ (q : Int) < (v : Int) := by omega
          have g2 : ¬ q < v := by omega
          have E := Lib.hid hN
          clear hq hN hd
          go_wp2_with ((go_at_call 31; ((with_reducible refine (C.out.1 _).mono ?_); rintro e w1 ⟨rfl, rfl⟩)))
          go_round
          case rel => exact ⟨k + 1, 10 * v + d, f, by omega, by go_num, by go_num, rfl, E.out⟩
          case measure => simp [intOf]; omega
        · have hN := C.out.2.2 (by rw [hq]; exact hvq)
          rw [hq] at k2 k2'
          have k6 : IntKind.i64.wrap ((q : Nat) : Int) = (q : Int) := IntWalk.i64_in _ (by omega)
          have g1 : (q : Int) < (v : Int) := by omega
          have g2 : q < v := by omega
          have k5 : IntKind.i64.wrap (10 * (0 : Int)) = 0 := by decide
          have k8 : IntKind.i64.wrap (0 + (d : Int)) = (d : Int) := by rw [Int.zero_add]; exact e3
          have E := Lib.hid hN
          clear hq hN hd
          go_wp2_with ((go_at_call 31; ((with_reducible refine (C.out.1 _).mono ?_); rintro e w1 ⟨rfl, rfl⟩)))
          go_round
          case rel => exact ⟨k + 1, d, false, by omega, by go_num, by go_num, rfl, E.out⟩
          case measure => simp [intOf]; omega
    · obtain rfl : n = k := by omega
      have C := Lib.hid hcD.out
      have hQ := Q0.out
      rw [H.out.2.2.2.2.2] at hQ
      have hC := H.out.2.2.1 v f hQ
      clear hQ Q0
      have B1 := HB.out
      have hlt1 := B1.lt
      have hf1 := B1.frozen
      obtain ⟨y0, y1, y2, y3⟩ := Blk.four B1
      cases f with
      | false =>
        have J := Lib.hid (hC.1 rfl)
        clear hC B1
        go_wp2_with ((go_at_call 31; ((with_reducible refine (C.out _).mono ?_); rintro e w1 ⟨rfl, rfl⟩)))
        go_region
        all_goals
          go_wp2
          exact bodyPost_ret (v := .tuple #[tokV 2 b (v : Int) 0, .bool false]) (by simp only [results, Tryd.results32]; simp [go_sem, Act.put, y0, y1, y2, y3]) rfl (H.out.2.2.2.1 _ _ _ (Or.inl ⟨rfl, J.out⟩) (below_drew (ba w _)))
      | true =>
        by_cases h1 : n = 1
        · have J := Lib.hid (hC.2.2 rfl (Or.inr h1))
          have h1I : (n : Int) = 1 := by omega
          have h1b : ((n : Int) == 1) = true := by simpa using h1I
          clear hC B1 h1 h1I
          go_wp2_with ((go_at_call 31; ((with_reducible refine (C.out _).mono ?_); rintro e w1 ⟨rfl, rfl⟩)))
          go_region
          all_goals
            go_wp2
            exact bodyPost_ret (v := .tuple #[tokV 2 b (v : Int) 0, .bool true]) (by simp only [results, Tryd.results32]; simp [go_sem, Act.put, y0, y1, y2, y3]) rfl (H.out.2.2.2.1 _ _ _ (Or.inr ⟨rfl, J.out⟩) (below_drew (ba w _)))
        · have h1I : ¬ (n : Int) = 1 := by omega
          have h1b : ((n : Int) == 1) = false := by simpa using h1I
          by_cases h48 : c = 48
          · have J := Lib.hid (hC.2.1 rfl (by simpa using h48) h1)
            have h4 : ((s[0]'hs0).toNat : Int) = 48 := by rw [hC0.out.1]; exact hC0.out.2.1 h48
            clear hC B1
            go_wp2_with ((go_at_call 31; ((with_reducible refine (C.out _).mono ?_); rintro e w1 ⟨rfl, rfl⟩)))
            go_region
            all_goals
              go_wp2
              exact bodyPost_ret (v := .tuple #[tokV 2 b (v : Int) 0, .bool false]) (by simp only [results, Tryd.results32]; simp [go_sem, Act.put, y0, y1, y2, y3]) rfl (H.out.2.2.2.1 _ _ _ (Or.inl ⟨rfl, J.out⟩) (below_drew (ba w _)))
          · have J := Lib.hid (hC.2.2 rfl (Or.inl (by simpa using h48)))
            have h4 : ¬ ((s[0]'hs0).toNat : Int) = 48 := by rw [hC0.out.1]; exact fun e => h48 (hC0.out.2.2 e)
            have h4b : (((s[0]'hs0).toNat : Int) == 48) = false := by simpa using h4
            have h4n : ¬ (s[0]'hs0).toNat = 48 := by omega
            clear hC B1
            go_wp2_with ((go_at_call 31; ((with_reducible refine (C.out _).mono ?_); rintro e w1 ⟨rfl, rfl⟩)))
            go_region
            all_goals
              go_wp2
              exact bodyPost_ret (v := .tuple #[tokV 2 b (v : Int) 0, .bool true]) (by simp only [results, Tryd.results32]; simp [go_sem, Act.put, y0, y1, y2, y3]; exact h4) rfl (H.out.2.2.2.1 _ _ _ (Or.inr ⟨rfl, J.out⟩) (below_drew (ba w _)))
end Go.Proofs.YtoaallhibgbokaaDoor
