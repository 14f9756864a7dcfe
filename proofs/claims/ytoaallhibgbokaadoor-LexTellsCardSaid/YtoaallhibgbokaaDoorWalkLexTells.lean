/- The walk of LexTells. -/
import Derived.Test.YtoaallhibgbokaaDoorLtH
import Derived.Test.YtoaallhibgbokaaDoorWalkLexAgain
import Derived.Test.YtoaallhibgbokaaDoorWalkLexErrors
namespace Go.Proofs.YtoaallhibgbokaaDoor
open Go.ChangeShapes Go.WideShapes Go.ChangeAt Go.RowKit
set_option linter.unusedVariables false
set_option linter.unusedSimpArgs false

def strLen : Value → Nat
  | .string X => X.size
  | _ => 0
theorem putT_pre : ∀ (L M : List Tk), (putT L).length ≤ (putT (L ++ M)).length
  | [], M => Nat.zero_le _
  | [x], [] => Nat.le_refl _
  | [x], y :: M => by
    show (raw x).length ≤ (raw x ++ 32 :: putT (y :: M)).length
    rw [List.length_append]; omega
  | x :: y :: L, M => by
    show (raw x ++ 32 :: putT (y :: L)).length ≤ (raw x ++ 32 :: putT ((y :: L) ++ M)).length
    have := putT_pre (y :: L) M
    rw [List.length_append, List.length_append, List.length_cons, List.length_cons]; omega
theorem putT_take (L : List Tk) (k : Nat) : (putT (L.take k)).length ≤ (putT L).length := by
  have := putT_pre (L.take k) (L.drop k)
  rw [List.take_append_drop] at this
  exact this
theorem res_small (u : ByteArray) : (resT u.data.toList).1.length ≤ 2048 ∧ (putT (resT u.data.toList).1).length ≤ 4096 ∧ ∀ x ∈ (resT u.data.toList).1, x.t.length ≤ 2048 := by
  by_cases hb : 2048 < u.size
  · have hR : resT u.data.toList = ([], 2048, 4) := by unfold resT; rw [if_pos (by simpa using hb)]
    rw [hR]
    exact ⟨Nat.zero_le _, Nat.zero_le _, fun x h => by cases h⟩
  · have hsz : u.data.toList.length = u.size := by simp
    rcases resT_cases u (by omega) with ⟨L, hlex, hR, hLs⟩ | ⟨p, _, hR, _⟩
    · rw [hR]
      have h1 := lexR_put_len hlex
      have h2 := lexR_small hlex
      rw [hsz] at h1
      refine ⟨?_, ?_, fun x hx => ?_⟩
      · show L.length ≤ 2048; omega
      · show (putT L).length ≤ 4096; omega
      · have := h2 x hx; omega
    · rw [hR]
      exact ⟨Nat.zero_le _, Nat.zero_le _, fun x h => by cases h⟩
theorem own_len {α : Type} {f : α → List Value} {k : Nat} (hf : ∀ x, (f x).length = k) {w : World} {b : Nat} {e : TypeId} {A : Option Addr} {n c : Nat} {L : List α} (h : Own w b e k f (.slice A n c) L) : n = L.length := by
  obtain ⟨A', c', hv, _⟩ := (Own.at_ hf h).shape
  simp only [Value.slice.injEq] at hv
  exact hv.2.1
set_option maxRecDepth 20000 in
set_option maxHeartbeats 8000000 in
theorem walk_LexTells (s : ByteArray) (v : Value) (l : Bs) (tight : Bool) (long by_ : Int) (w : World) (hs : s.size ≤ 140737488351232) (hv : BytesAt w v l) (hl : l.length ≤ 140737488351232) (m0 : 0 ≤ long) (m1 : long ≤ 65535) (by0 : 0 ≤ by_) (by1 : by_ ≤ 255) (hT : Tab w) :
    Calls Tryd.prog 3 #[.string s, v, .bool tight, .int .u16 long, .int .u8 by_] w fun e w' => e = .returned (.bool true) ∧ Below w.heap.size w w' := by
  have cW := fun W (hb : Below w.heap.size w W) => words_any v l tight W (hv.later hb) hl
  obtain ⟨c, rfl⟩ : ∃ c : UInt8, by_ = (c.toNat : Int) := ⟨UInt8.ofNat by_.toNat, by simp; omega⟩
  obtain ⟨i0, hi, hz0, hz1, hz2⟩ := info_parts (P := Tryd.prog) (e := 5) (z := .int .u8 0) (size := 1) (bytes := 1) (by kernel_rfl)
  obtain ⟨q, hq, hq9⟩ : ∃ q : Nat, long % 4 = (q : Int) ∧ q < 4 := ⟨(long % 4).toNat, by omega, by omega⟩
  have q1 : long.tmod 4 = (q : Int) := by rw [Int.tmod_eq_emod_of_nonneg m0]; exact hq
  have q2 : IntKind.i64.wrap (q : Int) = (q : Int) := IntWalk.i64_in _ (by omega)
  have H := Lib.hid (And.intro cW hT); clear cW hT hv
  have hbs := fun W : World => byte_string W (c.toNat : Int) c rfl
  have hcI := c.toNat_lt
  clear by0 by1
  go_enter Tryd.func3, Tryd.ntmps3
  go_wp2_with (go_at_call 9; ((with_reducible refine (examples_any _ H.out.2).mono ?_); rintro e w1 ⟨rfl, b1⟩; have B1 := Lib.hid b1; clear b1))
  try go_at_call 10
  refine (H.out.1 _ B1.out).mono ?_
  rintro e w2 ⟨t, ⟨rfl, ht690, _⟩, b2⟩
  have B2 := Lib.hid (bt B1.out b2); clear b2
  have gg0 : ¬ 9223372036854775807 < s.size + t.size := by omega
  have huz : (s ++ t).size = s.size + t.size := ByteArray.size_append
  have hubd : (s ++ t).size ≤ 140737488351232 + 690 := by omega
  by_cases hlong : 60000 < long
  · obtain ⟨a, ha⟩ : ∃ a, s ++ t = a := ⟨_, rfl⟩
    rw [ha] at hubd huz
    have hmt := made_text w2 q
    have bM := Lib.hid (bt B2.out (ba w2 (.cells (madeCells #[.int .u8 0] q) 5)))
    have hlz := mk_size (List.replicate q 0)
    rw [List.length_replicate] at hlz
    obtain ⟨lb, hlb⟩ : ∃ lb, mk (List.replicate q 0) = lb := ⟨_, rfl⟩
    rw [hlb] at hmt hlz
    clear hlb
    have gg1 : ¬ 9223372036854775807 < a.size + lb.size := by omega
    have haz : (a ++ lb).size = a.size + lb.size := ByteArray.size_append
    obtain ⟨a2, ha2⟩ : ∃ a2, a ++ lb = a2 := ⟨_, rfl⟩
    rw [ha2] at haz
    have h2bd : a2.size ≤ 140737488351232 + 694 := by omega
    clear haz
    go_wp2_with (at_make; refine wpList_make_row _ rfl _ _ 22 rfl 5 i0 (.int .u8 0) Tryd.underlying22 hi hz0 hz1 rfl .i64 .i64 q rfl rfl (by rw [hz2]; omega) (by omega) ?_)
    clear ha ha2 gg0 gg1 huz hmt hlz hubd
    go_loopw [0] (fun sv wr => ∃ X : ByteArray, sv = .string X ∧ X.size ≤ 140737488351232 + 3000 ∧ Below w.heap.size w wr) (fun sv _ => 2040 - strLen sv)
    case atStart => exact ⟨a2, rfl, by omega, bM.out⟩
    case round =>
      obtain ⟨X, rfl, hX, hb⟩ := hrel
      have B := Lib.hid hb; clear hb
      by_cases hlt : X.size < 2040
      · have gg : ¬ 9223372036854775807 < X.size + 1 := by omega
        have hXz : (X ++ ⟨#[c]⟩ : ByteArray).size = X.size + 1 := by rw [ByteArray.size_append]; rfl
        obtain ⟨Y, hY⟩ : ∃ Y, X ++ ⟨#[c]⟩ = Y := ⟨_, rfl⟩
        rw [hY] at hXz
        have Z := Lib.hid hXz; clear hXz
        go_wp2
        go_roundw
        case rel => exact ⟨Y, rfl, by have := Z.out; omega, bt B.out (ba wr _)⟩
        case measure => have := Z.out; simp [strLen]; omega
      · go_wp2_with fail
        try go_at_call 10
        refine (H.out.1 _ B.out).mono ?_
        rintro e w2' ⟨t', ⟨rfl, ht690', _⟩, b2'⟩
        have B2' := Lib.hid (bt B.out b2'); clear b2'
        have gg0 : ¬ 9223372036854775807 < X.size + t'.size := by omega
        have huz : (X ++ t').size = X.size + t'.size := ByteArray.size_append
        obtain ⟨u, hu⟩ : ∃ u, X ++ t' = u := ⟨_, rfl⟩
        rw [hu] at huz
        have hubd : u.size ≤ 140737488351232 + 4000 := by omega
        clear huz
        obtain ⟨R1, R2, R3⟩ := res_small u
        have cA := fun W hT => All_any u W (by unfold maxLen; omega) hT
        have cR := fun W => RAll_any u W (by unfold maxLen; omega)
        unfold AllP at cA
        unfold AllR at cR
        obtain ⟨L, ra, re, hR⟩ : ∃ L ra re, resT u.data.toList = (L, ra, re) := ⟨_, _, _, rfl⟩
        rw [hR] at cA cR R1 R2 R3
        simp only at cA cR R1 R2 R3
        have E := Lib.hid (And.intro cA (And.intro cR (And.intro R1 (And.intro R2 R3)))); clear cA cR R1 R2 R3 hR
        go_wp2_with fail
        try go_at_call 11
        refine (E.out.1 _ (H.out.2.later B2'.out)).mono ?_
        rintro e w3 ⟨v3, ⟨rfl, hO3⟩, b3⟩
        have B3 := Lib.hid (bt B2'.out b3); clear b3
        obtain ⟨A3, n3, c3, rfl⟩ := own_shape hO3
        have At3 := Lib.hid (Own.at_ (f := rowT) (k := 4) (fun _ => rfl) hO3); clear hO3
        go_wp2_with fail
        try go_at_call 12
        refine (E.out.2.1 _).mono ?_
        rintro e w4 ⟨v4, ⟨rfl, hO4⟩, b4⟩
        have b34 := Lib.hid b4
        have B4 := Lib.hid (bt B3.out b4); clear b4
        obtain ⟨A4, n4, c4, rfl⟩ := own_shape hO4
        have At4 := Lib.hid (Own.at_ (f := rowT) (k := 4) (fun _ => rfl) hO4); clear hO4
        have At34 := Lib.hid (At3.out.later b34.out)
        go_wp2_with fail
        try go_at_call 13
        refine (Signs_any _ (H.out.2.later B4.out)).mono ?_
        rintro e w5 ⟨v5, ⟨rfl, hO5⟩, b5⟩
        have b45 := Lib.hid b5
        have B5 := Lib.hid (bt B4.out b5); clear b5
        obtain ⟨A5, n5, c5, rfl⟩ := own_shape hO5
        have hn5 := own_len (f := rowS) (fun _ => rfl) hO5
        have hn5' : n5 = 25 := hn5
        subst hn5'
        have At5 := Lib.hid (Own.at_ (f := rowS) (k := 1) (fun _ => rfl) hO5); clear hO5 hn5
        go_wp2_with fail
        try go_at_call 14
        refine (RSigns_any _).mono ?_
        rintro e w6 ⟨rfl, rfl⟩
        obtain ⟨w6, hw6⟩ : ∃ w6, w5.alloc (.cells (rowSs signL) 9) = w6 := ⟨_, rfl⟩
        have hbk := Blk.new w5 9 (rowSs signL)
        have b56 := ba w5 (.cells (rowSs signL) 9)
        rw [hw6] at hbk b56 ⊢
        have Bk := Lib.hid (And.intro hbk b56); clear hbk b56 hw6
        have At36 := Lib.hid (At34.out.later (bt b45.out Bk.out.2))
        have At46 := Lib.hid (At4.out.later (bt b45.out Bk.out.2))
        have At56 := Lib.hid (At5.out.later Bk.out.2)
        have B6 := Lib.hid (bt B5.out Bk.out.2)
        go_wp2
        go_loopw [20] (fun iv wr => ∃ (k : Nat), k ≤ 25 ∧ iv = .int .i64 (k : Int) ∧ Below w6.heap.size w6 wr) (fun i _ => 25 - (intOf i).toNat)
        case atStart => exact ⟨0, Nat.zero_le _, rfl, Below.refl _ _⟩
        case round =>
          obtain ⟨k, hk, rfl, hb⟩ := hrel
          have D := Lib.hid hb; clear hb
          by_cases hlt : k < 25
          · have hkl : k < signL.length := hlt
            have hg := ((Bk.out.1.later D.out).cell k).trans (rowSs_get signL k hkl)
            obtain ⟨a5, hA5, hC⟩ : ∃ a, A5 = some a ∧ CellsOf w6 1 rowS a signL := At56.out.cells rfl (by decide)
            subst hA5
            have hc := (hC.later D.out).row1 k hkl rfl
            rw [Nat.mul_one] at hc
            clear hC
            generalize signL[k]'hkl = x at *
            obtain ⟨tb, htb⟩ : ∃ tb, mk x = tb := ⟨_, rfl⟩
            rw [htb] at hg hc
            have e1 : (tb.toList == tb.toList) = true := by simp
            clear htb
            go_wp2
            go_quiet (fail)
            go_wp2
            go_roundw
            case rel => exact ⟨k + 1, by omega, by go_num, below_drewN D.out _⟩
            case measure => simp [intOf]; omega
          · obtain rfl : k = 25 := by omega
            have cS := fun W (hb : Below w6.heap.size w6 W) => same_any (.slice A3 n3 c3) (.slice A4 n4 c4) L W (At36.out.later hb) (At46.out.later hb) (by have := E.out.2.2.1; omega)
            have cP := fun W (hb : Below w6.heap.size w6 W) => Put_any (.slice A3 n3 c3) L W (At36.out.later hb) (by have := E.out.2.2.1; omega) (fun x hx => by have := E.out.2.2.2.2 x hx; omega) (by have := E.out.2.2.2.1; omega)
            have cQ := fun W (hb : Below w6.heap.size w6 W) => RPut_any (.slice A4 n4 c4) L W (At46.out.later hb) (by have := E.out.2.2.1; omega) (fun x hx => by have := E.out.2.2.2.2 x hx; omega) (fun k => by have := E.out.2.2.2.1; have := putT_take L k; omega)
            obtain ⟨tb, htb⟩ : ∃ tb, mk (putT L) = tb := ⟨_, rfl⟩
            rw [htb] at cP cQ
            have e1 : (tb.toList == tb.toList) = true := by simp
            have P := Lib.hid (And.intro cS (And.intro cP cQ)); clear cS cP cQ htb
            go_wp2_with (first
              | (go_at_call 15; ((with_reducible refine (P.out.1 _ D.out).mono ?_); rintro e w7 ⟨rfl, b7⟩; have D7 := Lib.hid (D.out.trans (b7.mono D.out.size)); clear b7))
              | (go_at_call 16; ((with_reducible refine (P.out.2.1 _ D7.out).mono ?_); rintro e w8 ⟨rfl, b8⟩; have D8 := Lib.hid (D7.out.trans (b8.mono D7.out.size)); clear b8))
              | (go_at_call 17; ((with_reducible refine (P.out.2.2 _ D8.out).mono ?_); rintro e w9 ⟨rfl, b9⟩; have D9 := Lib.hid (D8.out.trans (b9.mono D8.out.size)); clear b9)))
            go_ret
            exact ⟨rfl, bt B6.out D9.out⟩
  · obtain ⟨u, hu⟩ : ∃ u, s ++ t = u := ⟨_, rfl⟩
    rw [hu] at hubd huz
    clear huz
    obtain ⟨R1, R2, R3⟩ := res_small u
    have cA := fun W hT => All_any u W (by unfold maxLen; omega) hT
    have cR := fun W => RAll_any u W (by unfold maxLen; omega)
    unfold AllP at cA
    unfold AllR at cR
    obtain ⟨L, ra, re, hR⟩ : ∃ L ra re, resT u.data.toList = (L, ra, re) := ⟨_, _, _, rfl⟩
    rw [hR] at cA cR R1 R2 R3
    simp only at cA cR R1 R2 R3
    have E := Lib.hid (And.intro cA (And.intro cR (And.intro R1 (And.intro R2 R3)))); clear cA cR R1 R2 R3 hR
    go_wp2_with fail
    try go_at_call 11
    refine (E.out.1 _ (H.out.2.later B2.out)).mono ?_
    rintro e w3 ⟨v3, ⟨rfl, hO3⟩, b3⟩
    have B3 := Lib.hid (bt B2.out b3); clear b3
    obtain ⟨A3, n3, c3, rfl⟩ := own_shape hO3
    have At3 := Lib.hid (Own.at_ (f := rowT) (k := 4) (fun _ => rfl) hO3); clear hO3
    go_wp2_with fail
    try go_at_call 12
    refine (E.out.2.1 _).mono ?_
    rintro e w4 ⟨v4, ⟨rfl, hO4⟩, b4⟩
    have b34 := Lib.hid b4
    have B4 := Lib.hid (bt B3.out b4); clear b4
    obtain ⟨A4, n4, c4, rfl⟩ := own_shape hO4
    have At4 := Lib.hid (Own.at_ (f := rowT) (k := 4) (fun _ => rfl) hO4); clear hO4
    have At34 := Lib.hid (At3.out.later b34.out)
    go_wp2_with fail
    try go_at_call 13
    refine (Signs_any _ (H.out.2.later B4.out)).mono ?_
    rintro e w5 ⟨v5, ⟨rfl, hO5⟩, b5⟩
    have b45 := Lib.hid b5
    have B5 := Lib.hid (bt B4.out b5); clear b5
    obtain ⟨A5, n5, c5, rfl⟩ := own_shape hO5
    have hn5 := own_len (f := rowS) (fun _ => rfl) hO5
    have hn5' : n5 = 25 := hn5
    subst hn5'
    have At5 := Lib.hid (Own.at_ (f := rowS) (k := 1) (fun _ => rfl) hO5); clear hO5 hn5
    go_wp2_with fail
    try go_at_call 14
    refine (RSigns_any _).mono ?_
    rintro e w6 ⟨rfl, rfl⟩
    obtain ⟨w6, hw6⟩ : ∃ w6, w5.alloc (.cells (rowSs signL) 9) = w6 := ⟨_, rfl⟩
    have hbk := Blk.new w5 9 (rowSs signL)
    have b56 := ba w5 (.cells (rowSs signL) 9)
    rw [hw6] at hbk b56 ⊢
    have Bk := Lib.hid (And.intro hbk b56); clear hbk b56 hw6
    have At36 := Lib.hid (At34.out.later (bt b45.out Bk.out.2))
    have At46 := Lib.hid (At4.out.later (bt b45.out Bk.out.2))
    have At56 := Lib.hid (At5.out.later Bk.out.2)
    have B6 := Lib.hid (bt B5.out Bk.out.2)
    go_wp2
    go_loopw [20] (fun iv wr => ∃ (k : Nat), k ≤ 25 ∧ iv = .int .i64 (k : Int) ∧ Below w6.heap.size w6 wr) (fun i _ => 25 - (intOf i).toNat)
    case atStart => exact ⟨0, Nat.zero_le _, rfl, Below.refl _ _⟩
    case round =>
      obtain ⟨k, hk, rfl, hb⟩ := hrel
      have D := Lib.hid hb; clear hb
      by_cases hlt : k < 25
      · have hkl : k < signL.length := hlt
        have hg := ((Bk.out.1.later D.out).cell k).trans (rowSs_get signL k hkl)
        obtain ⟨a5, hA5, hC⟩ : ∃ a, A5 = some a ∧ CellsOf w6 1 rowS a signL := At56.out.cells rfl (by decide)
        subst hA5
        have hc := (hC.later D.out).row1 k hkl rfl
        rw [Nat.mul_one] at hc
        clear hC
        generalize signL[k]'hkl = x at *
        obtain ⟨tb, htb⟩ : ∃ tb, mk x = tb := ⟨_, rfl⟩
        rw [htb] at hg hc
        have e1 : (tb.toList == tb.toList) = true := by simp
        clear htb
        go_wp2
        go_quiet (fail)
        go_wp2
        go_roundw
        case rel => exact ⟨k + 1, by omega, by go_num, below_drewN D.out _⟩
        case measure => simp [intOf]; omega
      · obtain rfl : k = 25 := by omega
        have cS := fun W (hb : Below w6.heap.size w6 W) => same_any (.slice A3 n3 c3) (.slice A4 n4 c4) L W (At36.out.later hb) (At46.out.later hb) (by have := E.out.2.2.1; omega)
        have cP := fun W (hb : Below w6.heap.size w6 W) => Put_any (.slice A3 n3 c3) L W (At36.out.later hb) (by have := E.out.2.2.1; omega) (fun x hx => by have := E.out.2.2.2.2 x hx; omega) (by have := E.out.2.2.2.1; omega)
        have cQ := fun W (hb : Below w6.heap.size w6 W) => RPut_any (.slice A4 n4 c4) L W (At46.out.later hb) (by have := E.out.2.2.1; omega) (fun x hx => by have := E.out.2.2.2.2 x hx; omega) (fun k => by have := E.out.2.2.2.1; have := putT_take L k; omega)
        obtain ⟨tb, htb⟩ : ∃ tb, mk (putT L) = tb := ⟨_, rfl⟩
        rw [htb] at cP cQ
        have e1 : (tb.toList == tb.toList) = true := by simp
        have P := Lib.hid (And.intro cS (And.intro cP cQ)); clear cS cP cQ htb
        go_wp2_with (first
          | (go_at_call 15; ((with_reducible refine (P.out.1 _ D.out).mono ?_); rintro e w7 ⟨rfl, b7⟩; have D7 := Lib.hid (D.out.trans (b7.mono D.out.size)); clear b7))
          | (go_at_call 16; ((with_reducible refine (P.out.2.1 _ D7.out).mono ?_); rintro e w8 ⟨rfl, b8⟩; have D8 := Lib.hid (D7.out.trans (b8.mono D7.out.size)); clear b8))
          | (go_at_call 17; ((with_reducible refine (P.out.2.2 _ D8.out).mono ?_); rintro e w9 ⟨rfl, b9⟩; have D9 := Lib.hid (D8.out.trans (b9.mono D8.out.size)); clear b9)))
        go_ret
        exact ⟨rfl, bt B6.out D9.out⟩
end Go.Proofs.YtoaallhibgbokaaDoor
