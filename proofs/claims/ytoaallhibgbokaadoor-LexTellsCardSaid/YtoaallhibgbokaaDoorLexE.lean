/- Words of texts: contracts of first, All. -/
import Derived.Test.YtoaallhibgbokaaDoorLexD
import Derived.Test.YtoaallhibgbokaaDoorCells2
namespace Go.Proofs.YtoaallhibgbokaaDoor
open Go.ChangeShapes Go.WideShapes Go.ChangeAt Go.RowKit
set_option linter.unusedVariables false
set_option linter.unusedSimpArgs false

theorem firstT_nz {s : Bs} : firstT s = firstT s := rfl
set_option maxHeartbeats 1000000 in
theorem first_any (s : ByteArray) (w : World) (hs : s.size ≤ 4000000000) (h0 : 0 < s.size) (hT : Tab w) :
    Calls Tryd.prog 19 #[.string s] w (TkP (firstT s.data.toList) w) := by
  obtain ⟨c, r, hcr⟩ : ∃ c r, s.data.toList = c :: r := by
    cases hd : s.data.toList with
    | nil => have : s.data.toList.length = s.size := by simp
             rw [hd] at this; simp at this; omega
    | cons c r => exact ⟨c, r, rfl⟩
  have hc0 : s[0]'h0 = c := by
    have : s.data.toList[0]? = some c := by rw [hcr]; rfl
    rw [List.getElem?_eq_getElem (by simpa using h0)] at this
    exact Option.some.inj this
  have cL := fun w => letter_any c w
  have cD := fun w => digit_any c w
  have hm : s.size ≤ 9223372036854775807 := by omega
  have hB := fun c => Blk.new w 40 c
  have hF : firstT s.data.toList = if isLt c then wordT s.data.toList else if isDg c then numberT s.data.toList else if c = 39 then quoteT s.data.toList else signTk s.data.toList := by rw [hcr, firstT_cons]
  by_cases h1 : isLt c = true
  · rw [if_pos h1] at hF
    have cW := fun w => word_any s w (by unfold maxLen; omega) (by rw [hcr, List.takeWhile_cons, isLd_eq, h1]; simp)
    rw [h1] at cL
    rw [← hF] at cW
    have H := Lib.hid (And.intro cL (And.intro cW (And.intro hB hT))); clear cL cW hB hT cD hF h1 hcr
    go_enter Tryd.func19, Tryd.ntmps19
    go_wp2_with (first
      | (go_at_call 23; ((with_reducible refine (H.out.1 _).mono ?_); rintro e w1 ⟨rfl, rfl⟩))
      | (go_at_call 24; ((with_reducible refine (H.out.2.1 _).mono ?_); rintro e w1 ⟨k, t, n, z, ⟨rfl, hz⟩, b1⟩; have B1 := (H.out.2.2.1 (tokC 0 ⟨#[]⟩ 0 0)).later b1; have hlt1 := B1.lt; have hf1 := B1.frozen; obtain ⟨y0, y1, y2, y3⟩ := Blk.four B1)))
    exact bodyPost_ret (v := .tuple #[tokV k (mk t) n 0, .int .i64 (z : Int)]) (by simp only [results, Tryd.results19]; simp [go_sem, Act.put, y0, y1, y2, y3]) rfl ⟨k, t, n, z, ⟨rfl, hz⟩, below_put4 (bt (ba w _) b1) (Nat.le_refl _) _ _ _ _⟩
  · have h1' : isLt c = false := by simpa using h1
    rw [if_neg h1] at hF
    rw [h1'] at cL
    by_cases h2 : isDg c = true
    · rw [if_pos h2] at hF
      have cW := fun w hT => number_any s w hs (by rw [hcr, List.takeWhile_cons, h2]; simp) hT
      rw [h2] at cD
      rw [← hF] at cW
      have H := Lib.hid (And.intro cL (And.intro cW (And.intro hB (And.intro hT cD)))); clear cL cW hB hT cD hF h1 h1' h2 hcr
      go_enter Tryd.func19, Tryd.ntmps19
      go_wp2_with (first
        | (go_at_call 23; ((with_reducible refine (H.out.1 _).mono ?_); rintro e w1 ⟨rfl, rfl⟩))
        | (go_at_call 25; ((with_reducible refine (H.out.2.2.2.2 _).mono ?_); rintro e w1 ⟨rfl, rfl⟩))
        | (go_at_call 26; ((with_reducible refine (H.out.2.1 _ (H.out.2.2.2.1.later (ba w _))).mono ?_); rintro e w1 ⟨k, t, n, z, ⟨rfl, hz⟩, b1⟩; have B1 := (H.out.2.2.1 (tokC 0 ⟨#[]⟩ 0 0)).later b1; have hlt1 := B1.lt; have hf1 := B1.frozen; obtain ⟨y0, y1, y2, y3⟩ := Blk.four B1)))
      exact bodyPost_ret (v := .tuple #[tokV k (mk t) n 0, .int .i64 (z : Int)]) (by simp only [results, Tryd.results19]; simp [go_sem, Act.put, y0, y1, y2, y3]) rfl ⟨k, t, n, z, ⟨rfl, hz⟩, below_put4 (bt (ba w _) b1) (Nat.le_refl _) _ _ _ _⟩
    · have h2' : isDg c = false := by simpa using h2
      rw [if_neg h2] at hF
      rw [h2'] at cD
      have hc39 : (c = 39) ↔ ((c.toNat : Int) = 39) := by
        rw [show (39 : UInt8) = UInt8.ofNat 39 from rfl, byte_eq _ _ (by decide)]; omega
      by_cases h3 : c = 39
      · have h3' := hc39.1 h3
        rw [if_pos h3] at hF
        have cW := fun w hT => quote_any s w r hs (by rw [hcr, h3]) hT
        rw [← hF] at cW
        rw [h3'] at cL cD
        have H := Lib.hid (And.intro cL (And.intro cW (And.intro hB (And.intro hT cD)))); clear cL cW hB hT cD hF h1 h1' h2 h2' hcr h3 hc39
        go_enter Tryd.func19, Tryd.ntmps19
        go_wp2_with (first
          | (go_at_call 23; ((with_reducible refine (H.out.1 _).mono ?_); rintro e w1 ⟨rfl, rfl⟩))
          | (go_at_call 25; ((with_reducible refine (H.out.2.2.2.2 _).mono ?_); rintro e w1 ⟨rfl, rfl⟩))
          | (go_at_call 27; ((with_reducible refine (H.out.2.1 _ (H.out.2.2.2.1.later (ba w _))).mono ?_); rintro e w1 ⟨k, t, n, z, ⟨rfl, hz⟩, b1⟩; have B1 := (H.out.2.2.1 (tokC 0 ⟨#[]⟩ 0 0)).later b1; have hlt1 := B1.lt; have hf1 := B1.frozen; obtain ⟨y0, y1, y2, y3⟩ := Blk.four B1)))
        exact bodyPost_ret (v := .tuple #[tokV k (mk t) n 0, .int .i64 (z : Int)]) (by simp only [results, Tryd.results19]; simp [go_sem, Act.put, y0, y1, y2, y3]) rfl ⟨k, t, n, z, ⟨rfl, hz⟩, below_put4 (bt (ba w _) b1) (Nat.le_refl _) _ _ _ _⟩
      · have h3' : ¬ (c.toNat : Int) = 39 := fun e => h3 (hc39.2 e)
        have h3'' : ¬ c.toNat = 39 := by omega
        have h3d : ((c.toNat : Int) == 39) = false := beq_eq_false_iff_ne.2 h3'
        rw [if_neg h3] at hF
        have cW := fun w hT => sign_any s w hs hT
        rw [← hF] at cW
        have H := Lib.hid (And.intro cL (And.intro cW (And.intro hB (And.intro hT cD)))); clear cL cW hB hT cD hF h1 h1' h2 h2' hcr h3 hc39
        go_enter Tryd.func19, Tryd.ntmps19
        go_wp2_with (first
          | (go_at_call 23; ((with_reducible refine (H.out.1 _).mono ?_); rintro e w1 ⟨rfl, rfl⟩))
          | (go_at_call 25; ((with_reducible refine (H.out.2.2.2.2 _).mono ?_); rintro e w1 ⟨rfl, rfl⟩))
          | (go_at_call 28; ((with_reducible refine (H.out.2.1 _ (H.out.2.2.2.1.later (ba w _))).mono ?_); rintro e w1 ⟨k, t, n, z, ⟨rfl, hz⟩, b1⟩; have B1 := (H.out.2.2.1 (tokC 0 ⟨#[]⟩ 0 0)).later b1; have hlt1 := B1.lt; have hf1 := B1.frozen; obtain ⟨y0, y1, y2, y3⟩ := Blk.four B1)))
        exact bodyPost_ret (v := .tuple #[tokV k (mk t) n 0, .int .i64 (z : Int)]) (by simp only [results, Tryd.results19]; simp [go_sem, Act.put, y0, y1, y2, y3]) rfl ⟨k, t, n, z, ⟨rfl, hz⟩, below_put4 (bt (ba w _) b1) (Nat.le_refl _) _ _ _ _⟩

abbrev rowT (x : Tk) : List Value := [.int .i64 x.k, .string (mk x.t), .int .i64 x.n, .int .i64 (x.at_ : Int)]
/-- What All tells: the words, a place, an error. -/
def resT (s : Bs) : List Tk × Nat × Int := if 2048 < s.length then ([], 2048, 4) else match lexL s with
  | .ok L => (L, s.length, 0)
  | .error p => ([], p, 2)
def AllP (s : Bs) (w : World) (e : Ending) (w' : World) : Prop :=
  ∃ v, (e = .returned (.tuple #[v, .int .i64 ((resT s).2.1 : Int), .int .i64 (resT s).2.2]) ∧ Own w' w.heap.size 40 4 rowT v (resT s).1) ∧ Below w.heap.size w w'
set_option maxRecDepth 20000 in
set_option maxHeartbeats 4000000 in
theorem All_any (s : ByteArray) (w : World) (hs : s.size ≤ maxLen) (hT : Tab w) :
    Calls Tryd.prog 11 #[.string s] w (AllP s.data.toList w) := by
  have hsz : s.data.toList.length = s.size := by simp
  unfold maxLen at hs
  by_cases hbig : 2048 < s.size
  · have hR : resT s.data.toList = ([], 2048, 4) := by unfold resT; rw [if_pos (by rw [hsz]; exact hbig)]
    unfold AllP
    rw [hR]
    go_enter Tryd.func11, Tryd.ntmps11
    go_wp2
    exact bodyPost_ret (v := .tuple #[.slice none 0 0, .int .i64 2048, .int .i64 4]) (by simp [results, Tryd.results11, go_sem]) rfl ⟨_, ⟨rfl, Own.nil _ _ _ _ _⟩, Below.refl _ _⟩
  · have hR : resT s.data.toList = match lexL s.data.toList with | .ok L => (L, s.size, 0) | .error p => ([], p, 2) := by unfold resT; rw [if_neg (by rw [hsz]; exact hbig), hsz]
    obtain ⟨j0, hj, hy0, hy1, hy2⟩ := info_parts (P := Tryd.prog) (e := 40) (z := .agg #[.int .i64 0, .string ⟨#[]⟩, .int .i64 0, .int .i64 0]) (size := 4) (bytes := 40) (by kernel_rfl)
    have H := Lib.hid (And.intro hT (And.intro hR hsz)); clear hT hR hsz
    go_enter Tryd.func11, Tryd.ntmps11
    go_wp2
    go_loopw [2, 3] (fun v iv wr => ∃ (k : Nat) (L : List Tk), k ≤ s.size ∧ L.length ≤ k ∧ iv = .int .i64 (k : Int) ∧ Own wr w.heap.size 40 4 rowT v L ∧ Below w.heap.size w wr ∧ Cont s.data.toList L k) (fun _ iv _ => s.size - (intOf iv).toNat)
    case atStart => exact ⟨0, [], Nat.zero_le _, Nat.le_refl _, rfl, Own.nil _ _ _ _ _, Below.refl _ _, Cont.start _⟩
    case round =>
      obtain ⟨k, L, hk, hLk, rfl, hO, hb, hC⟩ := hrel
      have hCk := Lib.hid hC
      have K := Lib.hid (And.intro hO (And.intro hb hLk)); clear hO hb hC hLk
      have cS := fun c w => space_any c w
      go_wp2
      go_loop [3] (fun iv => ∃ (i : Nat), k ≤ i ∧ i ≤ s.size ∧ iv = .int .i64 (i : Int) ∧ Cont s.data.toList L i) (fun iv => s.size - (intOf iv).toNat)
      case atStart => exact ⟨k, Nat.le_refl _, hk, rfl, hCk.out⟩
      case round =>
        obtain ⟨i, hki, his, rfl, hC⟩ := hrel
        have C := Lib.hid hC; clear hC hCk
        by_cases hlt : i < s.size
        · have hil : i < s.data.toList.length := by rw [H.out.2.2]; exact hlt
          have hget : s.data.toList[i]'hil = s[i]'hlt := rfl
          have cP := fun w => cS (s[i]'hlt) w
          rcases hsp : isSp (s[i]'hlt) with _ | _
          · rw [hsp] at cP
            have hx := ext_from s i
            have hdl : (s.data.toList.drop i).length = s.size - i := by rw [List.length_drop, H.out.2.2]
            have hz := mk_size (s.data.toList.drop i)
            rw [hdl] at hz
            have cF := fun W hT => first_any (mk (s.data.toList.drop i)) W (by rw [hz]; omega) (by rw [hz]; omega) hT
            rw [mk_data] at cF
            have hone := fun kd n t z hf => Cont.one (kd := kd) (n := n) (t := t) (z := z) C.out hil (by rw [hget]; exact hsp) hf
            have hno := fun hf => Cont.no C.out hil (by rw [hget]; exact hsp) hf
            obtain ⟨db, hdb⟩ : ∃ db, mk (s.data.toList.drop i) = db := ⟨_, rfl⟩
            rw [hdb] at hx cF
            have hne : ¬ i = s.size := by omega
            have hneI : ¬ (i : Int) = (s.size : Int) := by omega
            have F := Lib.hid (And.intro cP (And.intro cF (And.intro hone hno))); clear cP cF hone hno hz hdl hdb hget hsp
            go_wp2_with (go_at_call 18; ((with_reducible refine (F.out.1 _).mono ?_); rintro e w1 ⟨rfl, rfl⟩))
            go_at_call 19
            refine (F.out.2.1 _ (H.out.1.later K.out.2.1)).mono ?_
            rintro e w1 ⟨kd, t, n, z, ⟨rfl, hz⟩, b1⟩
            rcases hz with ⟨hn, rfl⟩ | ⟨hsome, hz0⟩
            · have hE := F.out.2.2.2 hn
              have hR := H.out.2.1
              rw [hE] at hR
              simp only at hR
              have R := Lib.hid (And.intro hR (bt K.out.2.1 (bt b1 (ba w1 (.cells (tokC kd (mk t) n 0) 40))))); clear hR hE hn b1
              go_wp2
              exact bodyPost_ret (v := .tuple #[.slice none 0 0, .int .i64 (i : Int), .int .i64 2]) (by simp [results, Tryd.results11, go_sem]) rfl ⟨.slice none 0 0, ⟨by rw [R.out.1], by rw [R.out.1]; exact Own.nil _ _ _ _ _⟩, R.out.2⟩
            · obtain ⟨h1, h2, _, h4⟩ := F.out.2.2.1 kd n t z hsome
              rw [H.out.2.2] at h2
              obtain ⟨A, n0, c0, hv⟩ := own_shape K.out.1
              subst hv
              obtain ⟨ln, hln⟩ : ∃ ln, ln = L.length := ⟨_, rfl⟩
              have hll := K.out.2.2
              rw [← hln] at hll
              have hnz : ¬ z = 0 := by omega
              have hnzI : ¬ (z : Int) = 0 := by omega
              have hnzb : ((z : Int) == 0) = false := beq_eq_false_iff_ne.2 hnzI
              have hOw : ∀ X, Below wr.heap.size wr X → X.ownsRow w.heap.size 40 4 (.slice A n0 c0) ln (L.flatMap rowT) := fun X hX => by
                have := K.out.1.later hX
                unfold Own at this
                rw [← hln] at this; exact this
              have b2 := bt b1 (bt (ba w1 (.cells (tokC kd (mk t) n (i : Int)) 40)) (ba (w1.alloc (.cells (tokC kd (mk t) n (i : Int)) 40)) (.cells (tokC kd (mk t) n (i : Int)) 40)))
              have hnew := blk_cells (Blk.new (w1.alloc (.cells (tokC kd (mk t) n (i : Int)) 40)) 40 (tokC kd (mk t) n (i : Int)))
              rw [World.size_alloc] at hnew
              have hwi : IntKind.i64.wrap ((i : Int) + (z : Int)) = ((i + z : Nat) : Int) := by rw [show (i : Int) + (z : Int) = ((i + z : Nat) : Int) by omega]; exact IntWalk.i64_in _ (by omega)
              have M := Lib.hid (And.intro (hOw _ b2) (And.intro hnew (And.intro h1 (And.intro (bt K.out.2.1 b2) (And.intro hln K.out.1))))); clear hOw b1 b2 hnew h1 hln hsome
              go_wp2_with (at_builtin; go_loud (refine wpList_append_own _ rfl (.tmp 40) (.tmp 42) 26 rfl w.heap.size 40 j0 (.agg #[.int .i64 0, .string ⟨#[]⟩, .int .i64 0, .int .i64 0]) 4 40 Tryd.underlying26 hj hy0 hy1 hy2 rfl (by decide) (.slice A n0 c0) ln _ rfl M.out.1 ⟨_, 0, none⟩ 1 1 (rowT ⟨kd, t, n, i⟩) rfl rfl M.out.2.1 (by simp [Value.oneCell']) (by unfold maxLen; omega) (by omega) M.out.2.2.2.1.size ?_); intro v5 w5 hO5 hg5 _; obtain ⟨A5, n5, c5, rfl⟩ := own_shape hO5; have Z5 := Lib.hid (And.intro hO5 (own_past M.out.2.2.2.1 hg5 M.out.2.2.2.2.2)); clear hO5 hg5)
              go_roundw
              case rel => exact ⟨i + z, L ++ [⟨kd, t, n, i⟩], by omega, by rw [List.length_append, ← M.out.2.2.2.2.1]; simp; omega, by first | rfl | (go_num), Own.more M.out.2.2.2.2.1 Z5.out.1, Z5.out.2, M.out.2.2.1⟩
              case measure => simp [intOf]; omega
          · rw [hsp] at cP
            have F := Lib.hid (And.intro cP (Cont.sp C.out hil (by rw [hget]; exact hsp))); clear cP hget hsp
            go_wp2_with (go_at_call 18; ((with_reducible refine (F.out.1 _).mono ?_); rintro e w1 ⟨rfl, rfl⟩))
            go_round
            case rel => exact ⟨i + 1, by omega, by omega, by go_num, F.out.2⟩
            case measure => simp [intOf]; omega
        · obtain rfl : i = s.size := by omega
          have hE := Cont.end_ (by rw [H.out.2.2]; exact C.out)
          have hR := H.out.2.1
          rw [hE] at hR
          simp only at hR
          obtain ⟨A, n0, c0, hv⟩ := own_shape K.out.1
          subst hv
          have R := Lib.hid hR; clear hR hE
          go_wp2
          exact bodyPost_ret (v := .tuple #[.slice A n0 c0, .int .i64 (s.size : Int), .int .i64 0]) (by simp [results, Tryd.results11, go_sem]) rfl ⟨.slice A n0 c0, ⟨by rw [R.out], by rw [R.out]; exact K.out.1⟩, K.out.2.1⟩
end Go.Proofs.YtoaallhibgbokaaDoor
