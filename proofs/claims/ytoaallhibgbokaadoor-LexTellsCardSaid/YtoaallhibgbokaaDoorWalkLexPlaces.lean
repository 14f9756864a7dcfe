/- The walk of LexPlaces. -/
import Derived.Test.YtoaallhibgbokaaDoorLexH
namespace Go.Proofs.YtoaallhibgbokaaDoor
open Go.ChangeShapes Go.WideShapes Go.ChangeAt Go.RowKit
set_option linter.unusedVariables false
set_option linter.unusedSimpArgs false

theorem lexR_err {f : Nat} : ∀ {s : Bs} {p q : Nat}, s.length < f → lexR f s p = .error q → q < p + s.length ∧ p ≤ q := by
  induction f with
  | zero => intro s p q h; omega
  | succ f ih =>
    intro s p q h he
    cases s with
    | nil => rw [lexR_nil] at he; cases he
    | cons c r =>
      rw [List.length_cons] at h
      cases hc : isSp c with
      | true =>
        rw [lexR_sp f p r hc] at he
        have := ih (by omega) he
        rw [List.length_cons]; omega
      | false =>
        cases hf : firstT (c :: r) with
        | none => rw [lexR_no f p hc hf] at he; cases he; rw [List.length_cons]; omega
        | some y =>
          obtain ⟨k, t, n, z⟩ := y
          obtain ⟨_, hz0, hz1, _⟩ := firstT_raw hf p
          rw [lexR_one f p hc hf] at he
          cases hl : lexR f ((c :: r).drop z) (p + z) with
          | error q' =>
            rw [hl] at he
            cases he
            have h2 : ((c :: r).drop z).length < f := by rw [List.length_drop, List.length_cons]; omega
            have := ih h2 hl
            rw [List.length_drop] at this
            omega
          | ok L' => rw [hl] at he; cases he
theorem lexR_count {f : Nat} : ∀ {s : Bs} {p : Nat} {L : List Tk}, lexR f s p = .ok L → L.length ≤ s.length := by
  induction f with
  | zero => intro s p L he; cases he
  | succ f ih =>
    intro s p L he
    cases s with
    | nil => rw [lexR_nil] at he; cases he; exact Nat.le_refl _
    | cons c r =>
      rw [List.length_cons]
      cases hc : isSp c with
      | true =>
        rw [lexR_sp f p r hc] at he
        have := ih he
        omega
      | false =>
        cases hf : firstT (c :: r) with
        | none => rw [lexR_no f p hc hf] at he; cases he
        | some y =>
          obtain ⟨k, t, n, z⟩ := y
          obtain ⟨_, hz0, hz1, _⟩ := firstT_raw hf p
          rw [lexR_one f p hc hf] at he
          cases hl : lexR f ((c :: r).drop z) (p + z) with
          | error q' => rw [hl] at he; cases he
          | ok L' =>
            rw [hl] at he
            cases he
            have := ih hl
            rw [List.length_drop, List.length_cons] at this
            rw [List.length_cons]; omega
theorem resT_cases (s : ByteArray) (h : s.size ≤ 2048) : (∃ L, lexL s.data.toList = .ok L ∧ resT s.data.toList = (L, s.size, 0) ∧ L.length ≤ s.size) ∨ (∃ p, lexL s.data.toList = .error p ∧ resT s.data.toList = ([], p, 2) ∧ p < s.size) := by
  have hsz : s.data.toList.length = s.size := by simp
  unfold resT
  rw [if_neg (by rw [hsz]; omega), hsz]
  cases hl : lexL s.data.toList with
  | ok L =>
    refine Or.inl ⟨L, rfl, rfl, ?_⟩
    have := lexR_count hl
    rw [hsz] at this; exact this
  | error p =>
    refine Or.inr ⟨p, rfl, rfl, ?_⟩
    have := lexR_err (Nat.lt_succ_self _) hl
    omega
theorem sp_byte {c : UInt8} (h : isSp c = true) : (c.toNat : Int) = 32 ∨ (c.toNat : Int) = 9 ∨ (c.toNat : Int) = 10 ∨ (c.toNat : Int) = 13 := by
  rcases sp_or h with rfl | rfl | rfl | rfl
  · exact Or.inr (Or.inl rfl)
  · exact Or.inr (Or.inr (Or.inl rfl))
  · exact Or.inr (Or.inr (Or.inr rfl))
  · exact Or.inl rfl
set_option maxRecDepth 20000 in
set_option maxHeartbeats 4000000 in
theorem walk_LexPlaces (v : Value) (l : Bs) (tight : Bool) (w : World) (hv : BytesAt w v l) (hl : l.length ≤ 140737488351232) (hT : Tab w) :
    Calls Tryd.prog 5 #[v, .bool tight] w fun e w' => e = .returned (.bool true) ∧ Below w.heap.size w w' := by
  have cW := fun W (hb : Below w.heap.size w W) => words_any v l tight W (by first | exact bytesAt_later hv hb | exact hv.later hb) hl
  have H := Lib.hid (And.intro cW hT); clear cW hT hv
  go_enter Tryd.func5, Tryd.ntmps5
  go_wp2_with (go_at_call 9; ((with_reducible refine (examples_any _ H.out.2).mono ?_); rintro e w1 ⟨rfl, b1⟩; have B1 := Lib.hid b1; clear b1))
  go_at_call 10
  refine (H.out.1 _ B1.out).mono ?_
  rintro e w2 ⟨s, ⟨rfl, hs690, _⟩, b2⟩
  have B2 := Lib.hid (bt B1.out b2); clear b2
  go_wp2_with fail
  go_at_call 11
  refine (All_any s _ (by unfold maxLen; omega) (H.out.2.later B2.out)).mono ?_
  rintro e w3 ⟨v3, ⟨rfl, hO⟩, b3⟩
  have B3 := Lib.hid (bt B2.out b3); clear b3
  rcases resT_cases s (by omega) with ⟨L, hlex, hR, hLs⟩ | ⟨p, hlex, hR, hp⟩
  · rw [hR] at hO ⊢
    have hsz : s.data.toList.length = s.size := by simp
    have hpl := lexR_pl s.data.toList (Nat.zero_le _) (by rw [List.drop_zero]; exact hlex)
    obtain ⟨A, n, c, rfl⟩ := own_shape hO
    have hn : n = L.length := by
      have h' := Own.at_ (f := rowT) (k := 4) (fun _ => rfl) hO
      obtain ⟨A', c', hv, _⟩ := h'.shape
      simp only [Value.slice.injEq] at hv
      exact hv.2.1
    have hrow := fun h0 => (tok_row hO h0).2
    have hgood := lexR_ok hlex
    have E := Lib.hid (And.intro hrow (And.intro hn hsz)); clear hrow hn hR hlex hO hsz
    have hnm : n ≤ 690 := by have := E.out.2.1; omega
    go_wp2_with fail
    go_loop [10, 11] (fun ev iv => ∃ (e i : Nat), iv = .int .i64 (i : Int) ∧ ev = .int .i64 (e : Int) ∧ ((i ≤ n ∧ PlAt s.data.toList e (L.drop i)) ∨ i = n + 1)) (fun _ iv => n + 1 - (intOf iv).toNat)
    case atStart => exact ⟨0, 0, rfl, rfl, Or.inl ⟨Nat.zero_le _, hpl⟩⟩
    case round =>
      clear hpl
      obtain ⟨e, i, rfl, rfl, hst⟩ := hrel
      rcases hst with ⟨hin, hP⟩ | rfl
      · rcases Nat.lt_or_ge i n with hlt | hge
        · have hil : i < L.length := by rw [← E.out.2.1]; exact hlt
          obtain ⟨g, rfl, hC⟩ := E.out.1 (by omega)
          obtain ⟨c0, c1, c2, c3⟩ := hC i hil
          clear hC
          rw [List.drop_eq_getElem_cons hil] at hP
          generalize L[i]'hil = x at *
          obtain ⟨xk, xt, xn, xa⟩ := x
          obtain ⟨h1, h2, h3, h4, h5⟩ := hP
          simp only at c0 c1 c2 c3 h1 h2 h3 h4 h5
          have hrz := mk_size (raw ⟨xk, xt, xn, xa⟩)
          obtain ⟨rl, hrl⟩ : ∃ rl, (raw ⟨xk, xt, xn, xa⟩).length = rl := ⟨_, rfl⟩
          rw [hrl] at h2 h3 h5 hrz
          rw [E.out.2.2] at h2
          have hx : s.extract xa (xa + rl) = mk (raw ⟨xk, xt, xn, xa⟩) := by
            rw [extract_mk, ← h3, List.drop_take, Nat.add_sub_cancel_left]
          have htz := mk_size xt
          have hq : (xk = 3 ∧ (⟨#[39]⟩ : ByteArray) ++ mk xt ++ ⟨#[39]⟩ = mk (raw ⟨xk, xt, xn, xa⟩) ∧ xt.length + 2 = rl) ∨ (¬ xk = 3 ∧ mk xt = mk (raw ⟨xk, xt, xn, xa⟩)) := by
            by_cases h : xk = 3
            · subst h
              refine Or.inl ⟨rfl, ?_, ?_⟩
              · rw [← mk_list (⟨#[39]⟩ ++ mk xt ++ ⟨#[39]⟩)]
                refine congrArg mk ?_
                rw [ByteArray.data_append, ByteArray.data_append, Array.toList_append, Array.toList_append, mk_data]
                rfl
              · rw [← hrl]; unfold raw; simp
            · refine Or.inr ⟨h, ?_⟩
              unfold raw; rw [if_neg h]
          obtain ⟨tb, htb⟩ : ∃ tb, mk xt = tb := ⟨_, rfl⟩
          obtain ⟨rb, hrb⟩ : ∃ rb, mk (raw ⟨xk, xt, xn, xa⟩) = rb := ⟨_, rfl⟩
          rw [htb] at c1 htz
          rw [hrb] at hrz hx
          rw [hrb, htb] at hq
          have M := Lib.hid (And.intro h1 (And.intro h4 h5)); clear h1 h3 h4 h5 hrl htb hrb
          have h1e := M.out.1
          have g1 : ¬ xa < e := by omega
          have g2 : ¬ (s.size : Int) < (xa : Int) + (rl : Int) := by omega
          have g3 : (0 : Int) ≤ (xa : Int) + (rl : Int) := by omega
          have g4 : (xa : Int) ≤ (xa : Int) + (rl : Int) := by omega
          have g5 : (xa : Int) + (rl : Int) ≤ (s.size : Int) := by omega
          have g6 : ((xa : Int) + (rl : Int)).toNat = xa + rl := by omega
          have g7 : IntKind.i64.wrap ((xa : Int) + (rl : Int)) = (xa : Int) + (rl : Int) := IntWalk.i64_in _ (by omega)
          rcases hq with ⟨rfl, hq, hq2⟩ | ⟨hk3, hq⟩
          · have gg1 : ¬ 9223372036854775807 < 1 + tb.size := by omega
            have gg2 : ¬ 9223372036854775807 < 1 + tb.size + 1 := by omega
            go_wp2
            go_loop [14] (fun kv => ∃ (k : Nat), e ≤ k ∧ k ≤ xa ∧ kv = .int .i64 (k : Int)) (fun kv => xa - (intOf kv).toNat)
            case atStart => exact ⟨e, Nat.le_refl _, M.out.1, rfl⟩
            case round =>
              obtain ⟨k, hke, hka, rfl⟩ := hrel
              by_cases hlt2 : k < xa
              · have hks : k < s.size := by omega
                have hkl : k < s.data.toList.length := by rw [E.out.2.2]; exact hks
                have hsp := M.out.2.1 k (s[k]'hks) hke hlt2 (by rw [List.getElem?_eq_getElem hkl]; rfl)
                have hbb := sp_byte hsp
                clear hsp
                rcases hbb with hq | hq | hq | hq
                all_goals
                  go_wp2
                  go_round
                  case rel => exact ⟨k + 1, by omega, by omega, by go_num⟩
                  case measure => first | (simp [intOf]; omega) | (simp [intOf]; done)
              · obtain rfl : xa = k := by omega
                go_wp2
                go_round
                case rel => exact ⟨xa + rl, i + 1, by go_num, by first | rfl | go_num, Or.inl ⟨by omega, M.out.2.2⟩⟩
                case measure => first | (simp [intOf]; omega) | (simp [intOf]; done)
          · rw [hq] at c1
            clear hq htz
            have hk3d : (xk == 3) = false := beq_eq_false_iff_ne.2 hk3
            go_wp2
            go_loop [14] (fun kv => ∃ (k : Nat), e ≤ k ∧ k ≤ xa ∧ kv = .int .i64 (k : Int)) (fun kv => xa - (intOf kv).toNat)
            case atStart => exact ⟨e, Nat.le_refl _, M.out.1, rfl⟩
            case round =>
              obtain ⟨k, hke, hka, rfl⟩ := hrel
              by_cases hlt2 : k < xa
              · have hks : k < s.size := by omega
                have hkl : k < s.data.toList.length := by rw [E.out.2.2]; exact hks
                have hsp := M.out.2.1 k (s[k]'hks) hke hlt2 (by rw [List.getElem?_eq_getElem hkl]; rfl)
                have hbb := sp_byte hsp
                clear hsp
                rcases hbb with hq | hq | hq | hq
                all_goals
                  go_wp2
                  go_round
                  case rel => exact ⟨k + 1, by omega, by omega, by go_num⟩
                  case measure => first | (simp [intOf]; omega) | (simp [intOf]; done)
              · obtain rfl : xa = k := by omega
                go_wp2
                go_round
                case rel => exact ⟨xa + rl, i + 1, by go_num, by first | rfl | go_num, Or.inl ⟨by omega, M.out.2.2⟩⟩
                case measure => first | (simp [intOf]; omega) | (simp [intOf]; done)
        · obtain rfl : i = n := by omega
          rw [List.drop_of_length_le (by rw [E.out.2.1]; exact Nat.le_refl _)] at hP
          obtain ⟨h1, h2⟩ := hP
          rw [E.out.2.2] at h1
          have h4 : ∀ k c, e ≤ k → k < s.size → s.data.toList[k]? = some c → isSp c = true := fun k c hk _ hc => h2 k c hk hc
          have M := Lib.hid (And.intro h1 (And.intro h4 trivial)); clear h2 h4
          have hx : s.extract s.size s.size = ⟨#[]⟩ := by rw [extract_mk, List.take_of_length_le (by simp), List.drop_of_length_le (by simp)]; rfl
          go_wp2
          go_loop [14] (fun kv => ∃ (k : Nat), e ≤ k ∧ k ≤ s.size ∧ kv = .int .i64 (k : Int)) (fun kv => s.size - (intOf kv).toNat)
          case atStart => exact ⟨e, Nat.le_refl _, M.out.1, rfl⟩
          case round =>
            obtain ⟨k, hke, hka, rfl⟩ := hrel
            by_cases hlt2 : k < s.size
            · have hks : k < s.size := by omega
              have hkl : k < s.data.toList.length := by rw [E.out.2.2]; exact hks
              have hsp := M.out.2.1 k (s[k]'hks) hke hlt2 (by rw [List.getElem?_eq_getElem hkl]; rfl)
              have hbb := sp_byte hsp
              clear hsp
              rcases hbb with hq | hq | hq | hq
              all_goals
                go_wp2
                go_round
                case rel => exact ⟨k + 1, by omega, by omega, by go_num⟩
                case measure => first | (simp [intOf]; omega) | (simp [intOf]; done)
            · obtain rfl : s.size = k := by omega
              go_wp2
              go_round
              case rel => exact ⟨s.size + 0, i + 1, by go_num, by first | rfl | go_num, Or.inr rfl⟩
              case measure => first | (simp [intOf]; omega) | (simp [intOf]; done)
      · go_wp2
        go_ret
        exact ⟨rfl, B3.out⟩
  · rw [hR] at hO ⊢
    obtain ⟨A, n, c, rfl⟩ := own_shape hO
    have hp0 : (0 : Int) ≤ (p : Int) := by omega
    have hmx : ¬ (s.size : Int) < 1 := by omega
    have hm1 : max (s.size : Int) 1 = (s.size : Int) := by omega
    clear hR hlex hO
    go_wp2
    go_ret
    exact ⟨rfl, B3.out⟩
end Go.Proofs.YtoaallhibgbokaaDoor
