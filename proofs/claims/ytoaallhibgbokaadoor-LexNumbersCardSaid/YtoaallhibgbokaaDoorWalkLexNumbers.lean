/- The walk of LexNumbers. -/
import Derived.Test.YtoaallhibgbokaaDoorLexZ
namespace Go.Proofs.YtoaallhibgbokaaDoor
open Go.ChangeShapes Go.WideShapes Go.ChangeAt Go.RowKit
set_option linter.unusedVariables false
set_option linter.unusedSimpArgs false

theorem add0 (a : Addr) : a.add 0 = a := by first | exact Addr.add_zero a | (unfold Addr.add; split <;> simp_all) | (cases a; rfl)
theorem u8_digit (d : Nat) (h : d ≤ 9) : IntKind.u8.wrap (48 + (d : Int)) = ((UInt8.ofNat (48 + d)).toNat : Int) := by
  rw [(digit_of d h).2, IntWalk.u8_in _ (by omega)]; omega
theorem rep_snoc (j : Nat) (D : Bs) : (⟨#[48]⟩ : ByteArray) ++ mk (List.replicate j 48 ++ D) = mk (List.replicate (j + 1) 48 ++ D) := by
  rw [← mk_list (⟨#[48]⟩ ++ mk (List.replicate j 48 ++ D))]
  refine congrArg mk ?_
  rw [ByteArray.data_append, Array.toList_append, mk_data]
  rfl
theorem mk_snoc (D : Bs) (c : UInt8) : mk D ++ ⟨#[c]⟩ = mk (D ++ [c]) := by
  rw [← mk_list (mk D ++ ⟨#[c]⟩)]
  refine congrArg mk ?_
  rw [ByteArray.data_append, Array.toList_append, mk_data]
set_option maxRecDepth 20000 in
set_option maxHeartbeats 4000000 in
theorem walk_LexNumbers (v : Value) (l : Bs) (ah : Int) (word : Bool) (w : World) (hv : BytesAt w v l) (hl : l.length ≤ 140737488351232) (ah0 : 0 ≤ ah) (ah1 : ah ≤ 255) (hT : Tab w) :
    Calls Tryd.prog 6 #[v, .int .u8 ah, .bool word] w fun e w' => e = .returned (.bool true) ∧ Below w.heap.size w w' := by
  obtain ⟨A, cap, hve, hc⟩ : ∃ (A : Option Addr) (cap : Nat), v = .slice A l.length cap ∧ (0 < l.length → ∃ a, A = some a ∧ ∀ j (hj : j < l.length), w.cell? (a.add j) = some (.int .u8 (l[j].toNat : Int))) := by
    rcases hv with ⟨rfl, rfl⟩ | ⟨a, cap, rfl, h1, h2, h3⟩
    · exact ⟨none, 0, rfl, fun h => absurd h (by simp)⟩
    · exact ⟨some a, cap, rfl, fun _ => ⟨a, rfl, h3⟩⟩
  subst hve
  clear hv
  obtain ⟨nl, hnl⟩ : ∃ nl, nl = l.length := ⟨_, rfl⟩
  rw [← hnl] at hl ⊢
  have hnm : nl ≤ 9223372036854775807 := by omega
  obtain ⟨m, hm⟩ : ∃ m, m = min nl 22 := ⟨_, rfl⟩
  have hm22 : m ≤ 22 := by omega
  obtain ⟨z, hzz, hz3⟩ : ∃ z : Nat, ah % 3 = (z : Int) ∧ z < 3 := ⟨(ah % 3).toNat, by omega, by omega⟩
  have z1 : ah.tmod 3 = (z : Int) := by rw [Int.tmod_eq_emod_of_nonneg ah0]; exact hzz
  have z2 : IntKind.i64.wrap (z : Int) = (z : Int) := IntWalk.i64_in _ (by omega)
  have H := Lib.hid (And.intro hT (And.intro hc (And.intro hnl hm))); clear hT hc hnl hm
  go_enter Tryd.func6, Tryd.ntmps6
  go_wp2_with (go_at_call 9; ((with_reducible refine (examples_any _ H.out.1).mono ?_); rintro e w1 ⟨rfl, b1⟩; have B1 := Lib.hid b1; clear b1))
  go_loopw [8, 9, 10, 11] (fun sv nv fv iv wr => ∃ (i : Nat) (D : Bs) (n : Nat) (ft : Bool), i ≤ m ∧ iv = .int .i64 (i : Int) ∧ sv = .string (mk D) ∧ nv = .int .u64 (n : Int) ∧ fv = .bool ft ∧ D.length = i ∧ NumOk D n ft ∧ Below w.heap.size w wr) (fun _ _ _ iv _ => m - (intOf iv).toNat)
  case atStart => exact ⟨0, [], 0, true, Nat.zero_le _, rfl, rfl, rfl, rfl, rfl, NumOk.start, B1.out⟩
  case round =>
    obtain ⟨i, D, n, ft, him, rfl, rfl, rfl, rfl, hDi, hOk, hb⟩ := hrel
    by_cases hlt : i < nl ∧ i < 22
    · obtain ⟨c1, c2⟩ := hlt
      have him2 : i < m := by have := H.out.2.2.2; omega
      have hil : i < l.length := by rw [← H.out.2.2.1]; exact c1
      obtain ⟨a, rfl, hcc⟩ := H.out.2.1 (by omega)
      have hcell := hcc i hil
      have hcell' : wr.cell? (a.add i) = some (.int .u8 ((l[i]'hil).toNat : Int)) := by
        rw [hb.cell (World.block_lt_of_cell? w _ hcell)]; exact hcell
      have hb255 := (l[i]'hil).toNat_lt
      generalize (l[i]'hil).toNat = b at *
      clear hcell hcc
      have hnle := hOk.le
      have hDz := mk_size D
      rw [hDi] at hDz
      obtain ⟨r, hr, r1, r2⟩ : ∃ r : Nat, r ≤ 9 ∧ (b : Int).tmod 10 = (r : Int) ∧ (b : Int) % 10 = (r : Int) := ⟨b % 10, by omega, by rw [Int.tmod_eq_emod_of_nonneg (by omega)]; omega, by omega⟩
      have r3 : IntKind.u64.wrap (r : Int) = (r : Int) := IntWalk.u64_in _ (by omega)
      have hfirst : ∃ d : Nat, d ≤ 9 ∧ (D = [] → 1 ≤ d) ∧ ((i = 0 ∧ (r : Int).tmod 9 = ((d - 1 : Nat) : Int) ∧ (r : Int) % 9 = ((d - 1 : Nat) : Int) ∧ IntKind.u64.wrap (1 + ((d - 1 : Nat) : Int)) = (d : Int)) ∨ (¬ i = 0 ∧ r = d)) := by
        by_cases h0 : i = 0
        · refine ⟨1 + r % 9, by omega, fun _ => by omega, Or.inl ⟨h0, ?_, by omega, ?_⟩⟩
          · rw [Int.tmod_eq_emod_of_nonneg (by omega)]; omega
          · rw [IntWalk.u64_in _ (by omega)]; omega
        · exact ⟨r, hr, fun hD => by rw [hD] at hDi; exact absurd hDi.symm h0, Or.inr ⟨h0, rfl⟩⟩
      obtain ⟨d, hd9, hd1, hway⟩ := hfirst
      obtain ⟨hy, hn⟩ := hOk.more d hd9 hd1
      have hE := mk_snoc D (UInt8.ofNat (48 + d))
      have k1 : IntKind.u64.wrap (9223372036854775807 - (d : Int)) = 9223372036854775807 - (d : Int) := IntWalk.u64_in _ (by omega)
      have k2 : (9223372036854775807 - (d : Int)).tdiv 10 = (((9223372036854775807 - d) / 10 : Nat) : Int) := by rw [Int.tdiv_eq_ediv_of_nonneg (by omega)]; omega
      have k2' : (9223372036854775807 - (d : Int)) / 10 = (((9223372036854775807 - d) / 10 : Nat) : Int) := by omega
      obtain ⟨q, hq⟩ : ∃ q : Nat, (9223372036854775807 - d) / 10 = q := ⟨_, rfl⟩
      rw [hq] at k2 k2' hy hn
      have k6 : IntKind.u64.wrap ((q : Nat) : Int) = (q : Int) := IntWalk.u64_in _ (by omega)
      have k3 : IntKind.u64.wrap (48 + (d : Int)) = 48 + (d : Int) := IntWalk.u64_in _ (by omega)
      have k4 := u8_digit d hd9
      have hbs := fun W : World => byte_string W ((UInt8.ofNat (48 + d)).toNat : Int) (UInt8.ofNat (48 + d)) rfl
      obtain ⟨c, hcd⟩ : ∃ c, UInt8.ofNat (48 + d) = c := ⟨_, rfl⟩
      rw [hcd] at hy hn hE k4 hbs
      have gg : ¬ 9223372036854775807 < (mk D).size + 1 := by omega
      obtain ⟨cI, hcI⟩ : ∃ cI : Int, (c.toNat : Int) = cI := ⟨_, rfl⟩
      rw [hcI] at k4 hbs
      have S0 := Lib.hid (And.intro hE (And.intro hb hDi)); clear hE hb hOk hcd hcI hq hd1
      obtain ⟨sb, hsb⟩ : ∃ sb, mk D = sb := ⟨_, rfl⟩
      rw [hsb] at gg hDz ⊢
      have S1 := Lib.hid hsb; clear hsb
      by_cases hle : n ≤ q
      · have f1 : ¬ q < n := by omega
        have f1I : ¬ (q : Int) < (n : Int) := by omega
        have k5 : IntKind.u64.wrap (10 * (n : Int)) = 10 * (n : Int) := IntWalk.u64_in _ (by omega)
        have k7 : IntKind.u64.wrap (10 * (n : Int) + (d : Int)) = ((10 * n + d : Nat) : Int) := by rw [IntWalk.u64_in _ (by omega)]; omega
        have O := Lib.hid (hy hle); clear hy hn
        rcases hway with ⟨h0, w1', w2', w3'⟩ | ⟨h0, hrd⟩
        · subst h0
          have hcell0 : wr.cell? a = some (.int .u8 (b : Int)) := by rw [show a = a.add 0 from (add0 a).symm]; exact hcell'
          go_wp2
          go_roundw
          case rel => exact ⟨0 + 1, D ++ [c], 10 * n + d, ft, by omega, by first | rfl | go_num, by rw [← S1.out, S0.out.1], by first | rfl | (push_cast; rfl) | simp, rfl, by rw [List.length_append, S0.out.2.2]; rfl, O.out, bt S0.out.2.1 (ba wr _)⟩
          case measure => first | (simp [intOf]; omega) | (simp [intOf]; done)
        · have h0d : ((i : Int) == 0) = false := beq_eq_false_iff_ne.2 (by omega)
          have hrd := hrd.symm
          subst hrd
          go_wp2
          go_roundw
          case rel => exact ⟨i + 1, D ++ [c], 10 * n + d, ft, by omega, by first | rfl | go_num, by rw [← S1.out, S0.out.1], by first | rfl | (push_cast; rfl) | simp, rfl, by rw [List.length_append, S0.out.2.2]; rfl, O.out, bt S0.out.2.1 (ba wr _)⟩
          case measure => first | (simp [intOf]; omega) | (simp [intOf]; done)
      · have f1 : q < n := by omega
        have f1I : (q : Int) < (n : Int) := by omega
        have k5 : IntKind.u64.wrap (10 * (0 : Int)) = 0 := by decide
        have k7 : IntKind.u64.wrap (d : Int) = (d : Int) := IntWalk.u64_in _ (by omega)
        have k8 : IntKind.u64.wrap (0 + (d : Int)) = (d : Int) := by rw [Int.zero_add]; exact k7
        have O := Lib.hid (hn hle); clear hy hn
        rcases hway with ⟨h0, w1', w2', w3'⟩ | ⟨h0, hrd⟩
        · subst h0
          have hcell0 : wr.cell? a = some (.int .u8 (b : Int)) := by rw [show a = a.add 0 from (add0 a).symm]; exact hcell'
          go_wp2
          go_roundw
          case rel => exact ⟨0 + 1, D ++ [c], d, false, by omega, by first | rfl | go_num, by rw [← S1.out, S0.out.1], by first | rfl | (push_cast; rfl) | simp, rfl, by rw [List.length_append, S0.out.2.2]; rfl, O.out, bt S0.out.2.1 (ba wr _)⟩
          case measure => first | (simp [intOf]; omega) | (simp [intOf]; done)
        · have h0d : ((i : Int) == 0) = false := beq_eq_false_iff_ne.2 (by omega)
          have hrd := hrd.symm
          subst hrd
          go_wp2
          go_roundw
          case rel => exact ⟨i + 1, D ++ [c], d, false, by omega, by first | rfl | go_num, by rw [← S1.out, S0.out.1], by first | rfl | (push_cast; rfl) | simp, rfl, by rw [List.length_append, S0.out.2.2]; rfl, O.out, bt S0.out.2.1 (ba wr _)⟩
          case measure => first | (simp [intOf]; omega) | (simp [intOf]; done)
    · have hway : ¬ i < nl ∨ (i < nl ∧ ¬ i < 22) := by omega
      clear hlt
      have hDl : D.length ≤ 22 := by omega
      have hnle := hOk.le
      have O := Lib.hid (And.intro hOk hb); clear hOk hb
      have hDz := mk_size D
      rcases hway with c1 | ⟨c1, c2⟩
      all_goals
        go_wp2
        go_loop [8, 14] (fun sv jv => ∃ (j : Nat), j ≤ z ∧ jv = .int .i64 (j : Int) ∧ sv = .string (mk (List.replicate j 48 ++ D))) (fun _ jv => z - (intOf jv).toNat)
        case atStart => exact ⟨0, Nat.zero_le _, rfl, rfl⟩
        case round =>
          obtain ⟨j, hjz, rfl, rfl⟩ := hrel
          have hSz := mk_size (List.replicate j 48 ++ D)
          rw [List.length_append, List.length_replicate] at hSz
          by_cases hj : j < z
          · have gg : ¬ 9223372036854775807 < 1 + (mk (List.replicate j 48 ++ D)).size := by omega
            have R := Lib.hid (rep_snoc j D)
            obtain ⟨sb, hsb⟩ : ∃ sb, mk (List.replicate j 48 ++ D) = sb := ⟨_, rfl⟩
            rw [hsb] at R gg ⊢
            clear hsb hSz
            go_wp2
            go_round
            case rel => exact ⟨j + 1, by omega, by go_num, by rw [R.out]⟩
            case measure => simp [intOf]; omega
          · obtain rfl : j = z := by omega
            clear hSz
            have hSz := mk_size (List.replicate j 48 ++ D)
            have hSd := mk_data (List.replicate j 48 ++ D)
            have hSl : (List.replicate j (48 : UInt8) ++ D).length = j + D.length := by rw [List.length_append, List.length_replicate]
            have hdg : ∀ c ∈ List.replicate j 48 ++ D, isDg c = true := fun c hc => by
              rcases List.mem_append.1 hc with hc | hc
              · rw [(List.mem_replicate.1 hc).2]; decide
              · exact O.out.1.dig c hc
            have hnI : IntKind.i64.wrap (n : Int) = (n : Int) := IntWalk.i64_in _ (by omega)
            by_cases hne : List.replicate j 48 ++ D = []
            · have hj0 : j = 0 := by rw [hne] at hSl; simp at hSl; omega
              have hD0 : D = [] := by rw [hne] at hSl; simp at hSl; exact List.length_eq_zero_iff.1 (by omega)
              subst hj0
              subst hD0
              have hft : ft = true := by
                cases ft with
                | true => rfl
                | false => have := O.out.1.no rfl; have h0 : val 0 [] = 0 := rfl; omega
              subst hft
              have hn0 : n = 0 := O.out.1.yes rfl
              subst hn0
              have hmk : mk (List.replicate 0 48 ++ []) = ⟨#[]⟩ := rfl
              rw [hmk]
              clear hmk hSz hSd hSl hdg hne
              have hne : ([48] : Bs) ≠ [] := by simp
              have hdg : ∀ c ∈ ([48] : Bs), isDg c = true := by decide
              have hln9 : ([48] : Bs).length ≤ 1000 := by decide
              have hsz48 : (⟨#[48]⟩ : ByteArray).size = 1 := rfl
              have hsd48 : (⟨#[48]⟩ : ByteArray).data.toList = [48] := rfl
              have hmk48 : mk [48] = ⟨#[48]⟩ := rfl
              cases word with
              | true =>
                have hR := (res_num (S := [48]) hne hdg hln9 0 true).1 rfl
                rw [show (if true then [120] else [] : Bs) = [120] from rfl] at hR
                have q1 : (⟨#[59, 32]⟩ ++ (⟨#[48]⟩ : ByteArray) ++ ⟨#[120]⟩ : ByteArray).data.toList = 59 :: 32 :: ([48] ++ [120]) := by
                  rw [ByteArray.data_append, ByteArray.data_append, Array.toList_append, Array.toList_append, hsd48]; first | rfl | (rw [List.append_nil]; rfl)
                have s1 : (⟨#[59, 32]⟩ ++ (⟨#[48]⟩ : ByteArray) ++ ⟨#[120]⟩ : ByteArray).size = 2 + 1 + 1 := by rw [ByteArray.size_append, ByteArray.size_append, hsz48]; rfl
                have cA := fun W hT => All_any (⟨#[59, 32]⟩ ++ (⟨#[48]⟩ : ByteArray) ++ ⟨#[120]⟩) W (by rw [s1]; unfold maxLen; omega) hT
                unfold AllP at cA
                rw [q1, hR] at cA
                have gg1 : ¬ 9223372036854775807 < 2 + ((⟨#[48]⟩ : ByteArray) : ByteArray).size := by rw [hsz48]; omega
                have gg2 : ¬ 9223372036854775807 < 2 + ((⟨#[48]⟩ : ByteArray) : ByteArray).size + 1 := by rw [hsz48]; omega
                have F := Lib.hid cA; clear cA hR q1 s1
                go_wp2_with fail
                go_at_call 11
                refine (F.out _ (H.out.1.later O.out.2)).mono ?_
                rintro e w6 ⟨v6, ⟨rfl, hO6⟩, b6⟩
                obtain ⟨A6, n6, c6, rfl⟩ := own_shape hO6
                obtain ⟨hn6, g6, rfl, hC⟩ := tok_row hO6 (by unfold numT; simp)
                obtain ⟨p0, p1, p2, p3⟩ := hC 1 (by unfold numT; simp)
                have hn6' : n6 = 3 := by rw [hn6]; rfl
                subst hn6'
                have e1 : (numT [48] 0 true)[1]'(by unfold numT; simp) = ⟨2, [48], ((0 : Nat) : Int), 2⟩ := rfl
                rw [e1] at p0 p1 p2 p3
                simp only [Nat.one_mul, Nat.reduceAdd, Int.cast_ofNat_Int, hmk48] at p0 p1 p2 p3
                have W6 := Lib.hid (bt O.out.2 b6); clear b6 hO6 hC e1 hn6
                go_wp2
                go_ret
                exact ⟨rfl, W6.out⟩
              | false =>
                have hR := (res_num (S := [48]) hne hdg hln9 0 false).1 rfl
                rw [show (if false then [120] else [] : Bs) = [] from rfl] at hR
                have q1 : (⟨#[59, 32]⟩ ++ (⟨#[48]⟩ : ByteArray) : ByteArray).data.toList = 59 :: 32 :: ([48] ++ []) := by
                  rw [ByteArray.data_append, Array.toList_append, hsd48]; first | rfl | (rw [List.append_nil]; rfl)
                have s1 : (⟨#[59, 32]⟩ ++ (⟨#[48]⟩ : ByteArray) : ByteArray).size = 2 + 1 := by rw [ByteArray.size_append, hsz48]; rfl
                have cA := fun W hT => All_any (⟨#[59, 32]⟩ ++ (⟨#[48]⟩ : ByteArray)) W (by rw [s1]; unfold maxLen; omega) hT
                unfold AllP at cA
                rw [q1, hR] at cA
                have gg1 : ¬ 9223372036854775807 < 2 + ((⟨#[48]⟩ : ByteArray) : ByteArray).size := by rw [hsz48]; omega
                have gg2 : ¬ 9223372036854775807 < 2 + ((⟨#[48]⟩ : ByteArray) : ByteArray).size + 1 := by rw [hsz48]; omega
                have F := Lib.hid cA; clear cA hR q1 s1
                go_wp2_with fail
                go_at_call 11
                refine (F.out _ (H.out.1.later O.out.2)).mono ?_
                rintro e w6 ⟨v6, ⟨rfl, hO6⟩, b6⟩
                obtain ⟨A6, n6, c6, rfl⟩ := own_shape hO6
                obtain ⟨hn6, g6, rfl, hC⟩ := tok_row hO6 (by unfold numT; simp)
                obtain ⟨p0, p1, p2, p3⟩ := hC 1 (by unfold numT; simp)
                have hn6' : n6 = 2 := by rw [hn6]; rfl
                subst hn6'
                have e1 : (numT [48] 0 false)[1]'(by unfold numT; simp) = ⟨2, [48], ((0 : Nat) : Int), 2⟩ := rfl
                rw [e1] at p0 p1 p2 p3
                simp only [Nat.one_mul, Nat.reduceAdd, Int.cast_ofNat_Int, hmk48] at p0 p1 p2 p3
                have W6 := Lib.hid (bt O.out.2 b6); clear b6 hO6 hC e1 hn6
                go_wp2
                go_ret
                exact ⟨rfl, W6.out⟩
            · have O1 := num_out O.out.1 j hne
              have hln9 : (List.replicate j (48 : UInt8) ++ D).length ≤ 1000 := by omega
              obtain ⟨S, hS⟩ : ∃ S, List.replicate j (48 : UInt8) ++ D = S := ⟨_, rfl⟩
              rw [hS] at O1 hln9 hne hSz hSd hdg hSl ⊢
              clear hS
              obtain ⟨sn, hsn⟩ : ∃ sn, S.length = sn := ⟨_, rfl⟩
              rw [hsn] at hSz hSl hln9 O1
              have hsn0 : 0 < sn := by rw [← hsn]; exact List.length_pos_iff.2 hne
              obtain ⟨sb, hsb⟩ : ∃ sb, mk S = sb := ⟨_, rfl⟩
              rw [hsb] at hSz hSd ⊢
              have hnil : ¬ sb.toList = [] := by
                rw [Lib.toList_data, hSd]; exact hne
              have hnilb : (sb.toList == []) = false := by simpa using hnil
              clear hln9
              have hln9 : S.length ≤ 1000 := by omega
              clear hSl
              rcases Bool.eq_false_or_eq_true ft with hft | hft
              · subst hft
                by_cases hz0 : j = 0
                · have hz0b : ((j : Int) == 0) = true := by simp [hz0]
                  have O2 := O1.1 ⟨rfl, Or.inl hz0⟩
                  subst hz0
                  cases word with
                  | true =>
                    have hR := (res_num (S := S) hne hdg hln9 n true).1 (by rw [hsn]; exact O2)
                    rw [show (if true then [120] else [] : Bs) = [120] from rfl] at hR
                    have q1 : (⟨#[59, 32]⟩ ++ sb ++ ⟨#[120]⟩ : ByteArray).data.toList = 59 :: 32 :: (S ++ [120]) := by
                      rw [ByteArray.data_append, ByteArray.data_append, Array.toList_append, Array.toList_append, hSd]; first | rfl | (rw [List.append_nil]; rfl)
                    have s1 : (⟨#[59, 32]⟩ ++ sb ++ ⟨#[120]⟩ : ByteArray).size = 2 + sn + 1 := by rw [ByteArray.size_append, ByteArray.size_append, hSz]; rfl
                    have cA := fun W hT => All_any (⟨#[59, 32]⟩ ++ sb ++ ⟨#[120]⟩) W (by rw [s1]; unfold maxLen; omega) hT
                    unfold AllP at cA
                    rw [q1, hR] at cA
                    have gg1 : ¬ 9223372036854775807 < 2 + (sb : ByteArray).size := by rw [hSz]; omega
                    have gg2 : ¬ 9223372036854775807 < 2 + (sb : ByteArray).size + 1 := by rw [hSz]; omega
                    have F := Lib.hid cA; clear cA hR q1 s1
                    go_wp2_with fail
                    go_at_call 11
                    refine (F.out _ (H.out.1.later O.out.2)).mono ?_
                    rintro e w6 ⟨v6, ⟨rfl, hO6⟩, b6⟩
                    obtain ⟨A6, n6, c6, rfl⟩ := own_shape hO6
                    obtain ⟨hn6, g6, rfl, hC⟩ := tok_row hO6 (by unfold numT; simp)
                    obtain ⟨p0, p1, p2, p3⟩ := hC 1 (by unfold numT; simp)
                    have hn6' : n6 = 3 := by rw [hn6]; rfl
                    subst hn6'
                    have e1 : (numT S n true)[1]'(by unfold numT; simp) = ⟨2, S, ((n : Nat) : Int), 2⟩ := rfl
                    rw [e1] at p0 p1 p2 p3
                    simp only [Nat.one_mul, Nat.reduceAdd, Int.cast_ofNat_Int, hsb] at p0 p1 p2 p3
                    have W6 := Lib.hid (bt O.out.2 b6); clear b6 hO6 hC e1 hn6
                    go_wp2
                    go_ret
                    exact ⟨rfl, W6.out⟩
                  | false =>
                    have hR := (res_num (S := S) hne hdg hln9 n false).1 (by rw [hsn]; exact O2)
                    rw [show (if false then [120] else [] : Bs) = [] from rfl] at hR
                    have q1 : (⟨#[59, 32]⟩ ++ sb : ByteArray).data.toList = 59 :: 32 :: (S ++ []) := by
                      rw [ByteArray.data_append, Array.toList_append, hSd]; first | rfl | (rw [List.append_nil]; rfl)
                    have s1 : (⟨#[59, 32]⟩ ++ sb : ByteArray).size = 2 + sn := by rw [ByteArray.size_append, hSz]; rfl
                    have cA := fun W hT => All_any (⟨#[59, 32]⟩ ++ sb) W (by rw [s1]; unfold maxLen; omega) hT
                    unfold AllP at cA
                    rw [q1, hR] at cA
                    have gg1 : ¬ 9223372036854775807 < 2 + (sb : ByteArray).size := by rw [hSz]; omega
                    have gg2 : ¬ 9223372036854775807 < 2 + (sb : ByteArray).size + 1 := by rw [hSz]; omega
                    have F := Lib.hid cA; clear cA hR q1 s1
                    go_wp2_with fail
                    go_at_call 11
                    refine (F.out _ (H.out.1.later O.out.2)).mono ?_
                    rintro e w6 ⟨v6, ⟨rfl, hO6⟩, b6⟩
                    obtain ⟨A6, n6, c6, rfl⟩ := own_shape hO6
                    obtain ⟨hn6, g6, rfl, hC⟩ := tok_row hO6 (by unfold numT; simp)
                    obtain ⟨p0, p1, p2, p3⟩ := hC 1 (by unfold numT; simp)
                    have hn6' : n6 = 2 := by rw [hn6]; rfl
                    subst hn6'
                    have e1 : (numT S n false)[1]'(by unfold numT; simp) = ⟨2, S, ((n : Nat) : Int), 2⟩ := rfl
                    rw [e1] at p0 p1 p2 p3
                    simp only [Nat.one_mul, Nat.reduceAdd, Int.cast_ofNat_Int, hsb] at p0 p1 p2 p3
                    have W6 := Lib.hid (bt O.out.2 b6); clear b6 hO6 hC e1 hn6
                    go_wp2
                    go_ret
                    exact ⟨rfl, W6.out⟩
                · have hz0b : ((j : Int) == 0) = false := beq_eq_false_iff_ne.2 (by omega)
                  by_cases hs1 : sn = 1
                  · have O2 := O1.1 ⟨rfl, Or.inr hs1⟩
                    subst hs1
                    cases word with
                    | true =>
                      have hR := (res_num (S := S) hne hdg hln9 n true).1 (by rw [hsn]; exact O2)
                      rw [show (if true then [120] else [] : Bs) = [120] from rfl] at hR
                      have q1 : (⟨#[59, 32]⟩ ++ sb ++ ⟨#[120]⟩ : ByteArray).data.toList = 59 :: 32 :: (S ++ [120]) := by
                        rw [ByteArray.data_append, ByteArray.data_append, Array.toList_append, Array.toList_append, hSd]; first | rfl | (rw [List.append_nil]; rfl)
                      have s1 : (⟨#[59, 32]⟩ ++ sb ++ ⟨#[120]⟩ : ByteArray).size = 2 + 1 + 1 := by rw [ByteArray.size_append, ByteArray.size_append, hSz]; rfl
                      have cA := fun W hT => All_any (⟨#[59, 32]⟩ ++ sb ++ ⟨#[120]⟩) W (by rw [s1]; unfold maxLen; omega) hT
                      unfold AllP at cA
                      rw [q1, hR] at cA
                      have gg1 : ¬ 9223372036854775807 < 2 + (sb : ByteArray).size := by rw [hSz]; omega
                      have gg2 : ¬ 9223372036854775807 < 2 + (sb : ByteArray).size + 1 := by rw [hSz]; omega
                      have F := Lib.hid cA; clear cA hR q1 s1
                      go_wp2_with fail
                      go_at_call 11
                      refine (F.out _ (H.out.1.later O.out.2)).mono ?_
                      rintro e w6 ⟨v6, ⟨rfl, hO6⟩, b6⟩
                      obtain ⟨A6, n6, c6, rfl⟩ := own_shape hO6
                      obtain ⟨hn6, g6, rfl, hC⟩ := tok_row hO6 (by unfold numT; simp)
                      obtain ⟨p0, p1, p2, p3⟩ := hC 1 (by unfold numT; simp)
                      have hn6' : n6 = 3 := by rw [hn6]; rfl
                      subst hn6'
                      have e1 : (numT S n true)[1]'(by unfold numT; simp) = ⟨2, S, ((n : Nat) : Int), 2⟩ := rfl
                      rw [e1] at p0 p1 p2 p3
                      simp only [Nat.one_mul, Nat.reduceAdd, Int.cast_ofNat_Int, hsb] at p0 p1 p2 p3
                      have W6 := Lib.hid (bt O.out.2 b6); clear b6 hO6 hC e1 hn6
                      go_wp2
                      go_ret
                      exact ⟨rfl, W6.out⟩
                    | false =>
                      have hR := (res_num (S := S) hne hdg hln9 n false).1 (by rw [hsn]; exact O2)
                      rw [show (if false then [120] else [] : Bs) = [] from rfl] at hR
                      have q1 : (⟨#[59, 32]⟩ ++ sb : ByteArray).data.toList = 59 :: 32 :: (S ++ []) := by
                        rw [ByteArray.data_append, Array.toList_append, hSd]; first | rfl | (rw [List.append_nil]; rfl)
                      have s1 : (⟨#[59, 32]⟩ ++ sb : ByteArray).size = 2 + 1 := by rw [ByteArray.size_append, hSz]; rfl
                      have cA := fun W hT => All_any (⟨#[59, 32]⟩ ++ sb) W (by rw [s1]; unfold maxLen; omega) hT
                      unfold AllP at cA
                      rw [q1, hR] at cA
                      have gg1 : ¬ 9223372036854775807 < 2 + (sb : ByteArray).size := by rw [hSz]; omega
                      have gg2 : ¬ 9223372036854775807 < 2 + (sb : ByteArray).size + 1 := by rw [hSz]; omega
                      have F := Lib.hid cA; clear cA hR q1 s1
                      go_wp2_with fail
                      go_at_call 11
                      refine (F.out _ (H.out.1.later O.out.2)).mono ?_
                      rintro e w6 ⟨v6, ⟨rfl, hO6⟩, b6⟩
                      obtain ⟨A6, n6, c6, rfl⟩ := own_shape hO6
                      obtain ⟨hn6, g6, rfl, hC⟩ := tok_row hO6 (by unfold numT; simp)
                      obtain ⟨p0, p1, p2, p3⟩ := hC 1 (by unfold numT; simp)
                      have hn6' : n6 = 2 := by rw [hn6]; rfl
                      subst hn6'
                      have e1 : (numT S n false)[1]'(by unfold numT; simp) = ⟨2, S, ((n : Nat) : Int), 2⟩ := rfl
                      rw [e1] at p0 p1 p2 p3
                      simp only [Nat.one_mul, Nat.reduceAdd, Int.cast_ofNat_Int, hsb] at p0 p1 p2 p3
                      have W6 := Lib.hid (bt O.out.2 b6); clear b6 hO6 hC e1 hn6
                      go_wp2
                      go_ret
                      exact ⟨rfl, W6.out⟩
                  · have hs1b : ((sn : Int) == 1) = false := beq_eq_false_iff_ne.2 (by omega)
                    have O2 := O1.2 (Or.inr ⟨hz0, hs1⟩)
                    cases word with
                    | true =>
                      have hR := (res_num (S := S) hne hdg hln9 n true).2 O2
                      rw [show (if true then [120] else [] : Bs) = [120] from rfl] at hR
                      have q1 : (⟨#[59, 32]⟩ ++ sb ++ ⟨#[120]⟩ : ByteArray).data.toList = 59 :: 32 :: (S ++ [120]) := by
                        rw [ByteArray.data_append, ByteArray.data_append, Array.toList_append, Array.toList_append, hSd]; first | rfl | (rw [List.append_nil]; rfl)
                      have s1 : (⟨#[59, 32]⟩ ++ sb ++ ⟨#[120]⟩ : ByteArray).size = 2 + sn + 1 := by rw [ByteArray.size_append, ByteArray.size_append, hSz]; rfl
                      have cA := fun W hT => All_any (⟨#[59, 32]⟩ ++ sb ++ ⟨#[120]⟩) W (by rw [s1]; unfold maxLen; omega) hT
                      unfold AllP at cA
                      rw [q1, hR] at cA
                      have gg1 : ¬ 9223372036854775807 < 2 + (sb : ByteArray).size := by rw [hSz]; omega
                      have gg2 : ¬ 9223372036854775807 < 2 + (sb : ByteArray).size + 1 := by rw [hSz]; omega
                      have F := Lib.hid cA; clear cA hR q1 s1
                      go_wp2_with fail
                      go_at_call 11
                      refine (F.out _ (H.out.1.later O.out.2)).mono ?_
                      rintro e w6 ⟨v6, ⟨rfl, hO6⟩, b6⟩
                      obtain ⟨A6, n6, c6, rfl⟩ := own_shape hO6
                      have hn6 : n6 = 0 := by
                        have h' := Own.at_ (f := rowT) (k := 4) (fun _ => rfl) hO6
                        obtain ⟨A'', c'', hv, _⟩ := h'.shape
                        simp only [Value.slice.injEq] at hv
                        exact hv.2.1
                      subst hn6
                      have W6 := Lib.hid (bt O.out.2 b6); clear b6 hO6
                      go_wp2
                      go_ret
                      exact ⟨rfl, W6.out⟩
                    | false =>
                      have hR := (res_num (S := S) hne hdg hln9 n false).2 O2
                      rw [show (if false then [120] else [] : Bs) = [] from rfl] at hR
                      have q1 : (⟨#[59, 32]⟩ ++ sb : ByteArray).data.toList = 59 :: 32 :: (S ++ []) := by
                        rw [ByteArray.data_append, Array.toList_append, hSd]; first | rfl | (rw [List.append_nil]; rfl)
                      have s1 : (⟨#[59, 32]⟩ ++ sb : ByteArray).size = 2 + sn := by rw [ByteArray.size_append, hSz]; rfl
                      have cA := fun W hT => All_any (⟨#[59, 32]⟩ ++ sb) W (by rw [s1]; unfold maxLen; omega) hT
                      unfold AllP at cA
                      rw [q1, hR] at cA
                      have gg1 : ¬ 9223372036854775807 < 2 + (sb : ByteArray).size := by rw [hSz]; omega
                      have gg2 : ¬ 9223372036854775807 < 2 + (sb : ByteArray).size + 1 := by rw [hSz]; omega
                      have F := Lib.hid cA; clear cA hR q1 s1
                      go_wp2_with fail
                      go_at_call 11
                      refine (F.out _ (H.out.1.later O.out.2)).mono ?_
                      rintro e w6 ⟨v6, ⟨rfl, hO6⟩, b6⟩
                      obtain ⟨A6, n6, c6, rfl⟩ := own_shape hO6
                      have hn6 : n6 = 0 := by
                        have h' := Own.at_ (f := rowT) (k := 4) (fun _ => rfl) hO6
                        obtain ⟨A'', c'', hv, _⟩ := h'.shape
                        simp only [Value.slice.injEq] at hv
                        exact hv.2.1
                      subst hn6
                      have W6 := Lib.hid (bt O.out.2 b6); clear b6 hO6
                      go_wp2
                      go_ret
                      exact ⟨rfl, W6.out⟩
              · subst hft
                have O2 := O1.2 (Or.inl rfl)
                cases word with
                | true =>
                  have hR := (res_num (S := S) hne hdg hln9 n true).2 O2
                  rw [show (if true then [120] else [] : Bs) = [120] from rfl] at hR
                  have q1 : (⟨#[59, 32]⟩ ++ sb ++ ⟨#[120]⟩ : ByteArray).data.toList = 59 :: 32 :: (S ++ [120]) := by
                    rw [ByteArray.data_append, ByteArray.data_append, Array.toList_append, Array.toList_append, hSd]; first | rfl | (rw [List.append_nil]; rfl)
                  have s1 : (⟨#[59, 32]⟩ ++ sb ++ ⟨#[120]⟩ : ByteArray).size = 2 + sn + 1 := by rw [ByteArray.size_append, ByteArray.size_append, hSz]; rfl
                  have cA := fun W hT => All_any (⟨#[59, 32]⟩ ++ sb ++ ⟨#[120]⟩) W (by rw [s1]; unfold maxLen; omega) hT
                  unfold AllP at cA
                  rw [q1, hR] at cA
                  have gg1 : ¬ 9223372036854775807 < 2 + (sb : ByteArray).size := by rw [hSz]; omega
                  have gg2 : ¬ 9223372036854775807 < 2 + (sb : ByteArray).size + 1 := by rw [hSz]; omega
                  have F := Lib.hid cA; clear cA hR q1 s1
                  go_wp2_with fail
                  go_at_call 11
                  refine (F.out _ (H.out.1.later O.out.2)).mono ?_
                  rintro e w6 ⟨v6, ⟨rfl, hO6⟩, b6⟩
                  obtain ⟨A6, n6, c6, rfl⟩ := own_shape hO6
                  have hn6 : n6 = 0 := by
                    have h' := Own.at_ (f := rowT) (k := 4) (fun _ => rfl) hO6
                    obtain ⟨A'', c'', hv, _⟩ := h'.shape
                    simp only [Value.slice.injEq] at hv
                    exact hv.2.1
                  subst hn6
                  have W6 := Lib.hid (bt O.out.2 b6); clear b6 hO6
                  go_wp2
                  go_ret
                  exact ⟨rfl, W6.out⟩
                | false =>
                  have hR := (res_num (S := S) hne hdg hln9 n false).2 O2
                  rw [show (if false then [120] else [] : Bs) = [] from rfl] at hR
                  have q1 : (⟨#[59, 32]⟩ ++ sb : ByteArray).data.toList = 59 :: 32 :: (S ++ []) := by
                    rw [ByteArray.data_append, Array.toList_append, hSd]; first | rfl | (rw [List.append_nil]; rfl)
                  have s1 : (⟨#[59, 32]⟩ ++ sb : ByteArray).size = 2 + sn := by rw [ByteArray.size_append, hSz]; rfl
                  have cA := fun W hT => All_any (⟨#[59, 32]⟩ ++ sb) W (by rw [s1]; unfold maxLen; omega) hT
                  unfold AllP at cA
                  rw [q1, hR] at cA
                  have gg1 : ¬ 9223372036854775807 < 2 + (sb : ByteArray).size := by rw [hSz]; omega
                  have gg2 : ¬ 9223372036854775807 < 2 + (sb : ByteArray).size + 1 := by rw [hSz]; omega
                  have F := Lib.hid cA; clear cA hR q1 s1
                  go_wp2_with fail
                  go_at_call 11
                  refine (F.out _ (H.out.1.later O.out.2)).mono ?_
                  rintro e w6 ⟨v6, ⟨rfl, hO6⟩, b6⟩
                  obtain ⟨A6, n6, c6, rfl⟩ := own_shape hO6
                  have hn6 : n6 = 0 := by
                    have h' := Own.at_ (f := rowT) (k := 4) (fun _ => rfl) hO6
                    obtain ⟨A'', c'', hv, _⟩ := h'.shape
                    simp only [Value.slice.injEq] at hv
                    exact hv.2.1
                  subst hn6
                  have W6 := Lib.hid (bt O.out.2 b6); clear b6 hO6
                  go_wp2
                  go_ret
                  exact ⟨rfl, W6.out⟩

end Go.Proofs.YtoaallhibgbokaaDoor
