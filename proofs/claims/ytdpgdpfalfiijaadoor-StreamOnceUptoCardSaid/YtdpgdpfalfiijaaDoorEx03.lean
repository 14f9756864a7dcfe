/- The examples of chapter 3 hold. -/
import Derived.Test.YtdpgdpfalfiijaaDoorStrmX
namespace Go.Proofs.YtdpgdpfalfiijaaDoor
open Go.ChangeShapes Go.WideShapes Go.ChangeAt Go.RowKit
set_option linter.unusedVariables false
set_option linter.unusedSimpArgs false

def Two3 (w : World) (g : Nat) : Prop := w.cell? ⟨g, 2, none⟩ = some (.string ⟨#[121]⟩) ∧ w.cell? ⟨g, 3, none⟩ = some (.int .i64 3)
theorem Two3.later {w w' : World} {g : Nat} (h : Two3 w g) (hb : Below w.heap.size w w') : Two3 w' g :=
  ⟨by rw [hb.cell (World.block_lt_of_cell? w _ h.1)]; exact h.1, by rw [hb.cell (World.block_lt_of_cell? w _ h.2)]; exact h.2⟩
theorem two3 {base : Nat} {w : World} {v : Value} (h : NewF base w v exL) : ∃ g c, v = .slice (some ⟨g, 0, none⟩) 2 c ∧ Two3 w g ∧ RowsAt rowF w v exL := by
  have hr := h.rows
  rcases h.2 with ⟨_, h0⟩ | ⟨g, cap, cur, rfl, h1, h2, h3, h4, h5, h6⟩
  · exact absurd h0 (by decide)
  · have hc := World.ownsRow.cellAt h
    obtain ⟨a0, a1⟩ := cells2_at exL 1 (by decide)
    exact ⟨g, cap, rfl, ⟨by rw [hc _ (by decide)]; exact a0, by rw [hc _ (by decide)]; exact a1⟩, hr⟩
theorem rows_lit {w : World} {g : Nat} {n : ByteArray} {k : Int} {n' : ByteArray} {k' : Int} (h : Blk w g 60 #[.string n, .int .i64 k, .string n', .int .i64 k']) : RowsAt rowF w (.slice (some ⟨g, 0, none⟩) 2 2) [(n, k), (n', k')] := by
  refine ⟨some ⟨g, 0, none⟩, 2, rfl, by simp, by unfold maxLen; omega, fun _ => ⟨_, rfl, fun j hj => ?_⟩⟩
  unfold Row2
  rw [addr_pl]
  match j, hj with
  | 0, _ => exact ⟨h.cell 0, h.cell 1⟩
  | 1, _ => exact ⟨h.cell 2, h.cell 3⟩
theorem stms_one {w : World} {v : Value} (hv : RowsAt rowF w v exL) : StmsAt (w.alloc (.cells #[.string ⟨#[97]⟩, v] 28)) (.slice (some ⟨w.heap.size, 0, none⟩) 1 1) [(⟨#[97]⟩, exL)] := by
  have B := Blk.new w 28 #[.string ⟨#[97]⟩, v]
  have hv := hv.later (ba w (.cells #[.string ⟨#[97]⟩, v] 28))
  refine ⟨[(⟨#[97]⟩, v)], ⟨some ⟨w.heap.size, 0, none⟩, 1, rfl, by simp, by unfold maxLen; omega, fun _ => ⟨_, rfl, fun j hj => ?_⟩⟩, rfl, fun j hj _ => ?_⟩
  · unfold Row2
    rw [addr_pl]
    match j, hj with
    | 0, _ => exact ⟨B.cell 0, B.cell 1⟩
  · match j, hj with
    | 0, _ => exact ⟨rfl, hv⟩
theorem stms_two {w : World} {v : Value} (hv : RowsAt rowF w v exL) : StmsAt (w.alloc (.cells #[.string ⟨#[97]⟩, v, .string ⟨#[97]⟩, v] 28)) (.slice (some ⟨w.heap.size, 0, none⟩) 2 2) [(⟨#[97]⟩, exL), (⟨#[97]⟩, exL)] := by
  have B := Blk.new w 28 #[.string ⟨#[97]⟩, v, .string ⟨#[97]⟩, v]
  have hv := hv.later (ba w (.cells #[.string ⟨#[97]⟩, v, .string ⟨#[97]⟩, v] 28))
  refine ⟨[(⟨#[97]⟩, v), (⟨#[97]⟩, v)], ⟨some ⟨w.heap.size, 0, none⟩, 2, rfl, by simp, by unfold maxLen; omega, fun _ => ⟨_, rfl, fun j hj => ?_⟩⟩, rfl, fun j hj _ => ?_⟩
  · unfold Row2
    rw [addr_pl]
    match j, hj with
    | 0, _ => exact ⟨B.cell 0, B.cell 1⟩
    | 1, _ => exact ⟨B.cell 2, B.cell 3⟩
  · match j, hj with
    | 0, _ => exact ⟨rfl, hv⟩
    | 1, _ => exact ⟨rfl, hv⟩
theorem exOk : OkF exL := by
  intro x hx
  simp only [List.mem_cons, List.not_mem_nil, or_false] at hx
  rcases hx with rfl | rfl
  · exact ⟨by decide, by decide⟩
  · exact ⟨by decide, by decide⟩
theorem exOk2 : OkF [(⟨#[120]⟩, 1), (⟨#[120]⟩, 2)] := by
  intro x hx
  simp only [List.mem_cons, List.not_mem_nil, or_false] at hx
  rcases hx with rfl | rfl
  · exact ⟨by decide, by decide⟩
  · exact ⟨by decide, by decide⟩
theorem cGetA (m : Int) (w : World) (hm : w.cell? ⟨0, 0, none⟩ = some (.int .i64 m)) : Calls Tryd.prog 13 #[.string exA] w fun e w' => ∃ v, (e = .returned (.tuple #[st ⟨#[97]⟩ v, .bool true]) ∧ NewF w.heap.size w' v exL) ∧ Below w.heap.size w w' :=
  (SGet_any exA m w (by decide) hm).mono fun e w' ⟨h, hb⟩ => by
    rcases h with ⟨h1, _⟩ | ⟨n, l, v, h1, h2, h3⟩
    · rw [xg1] at h1; cases h1
    · rw [xg1] at h1; cases h1
      exact ⟨v, ⟨h2, h3⟩, hb⟩
theorem cGetB (m : Int) (w : World) (hm : w.cell? ⟨0, 0, none⟩ = some (.int .i64 m)) : Calls Tryd.prog 13 #[.string exB] w fun e w' => e = .returned (.tuple #[st ⟨#[]⟩ (.slice none 0 0), .bool false]) ∧ Below w.heap.size w w' :=
  (SGet_any exB m w (by decide) hm).mono fun e w' ⟨h, hb⟩ => by
    rcases h with ⟨h1, h2⟩ | ⟨n, l, v, h1, _⟩
    · exact ⟨h2, hb⟩
    · rw [xg2] at h1; cases h1
theorem exJ : (putJ exL).length ≤ 140737488355328 := by
  have : (putJ exL).length = 12 := by decide +kernel
  omega
theorem cPut (v : Value) (w : World) (hv : RowsAt rowF w v exL) : Calls Tryd.prog 12 #[st ⟨#[97]⟩ v] w fun e w' => e = .returned (.string exA) ∧ Below w.heap.size w w' :=
  (Put_anyS ⟨#[97]⟩ v exL w hv (by decide) (by decide) (by decide) exJ).mono fun e w' ⟨h, hb⟩ => ⟨by rw [h, xput], hb⟩
theorem cRight (v : Value) (w : World) (hv : RowsAt rowF w v exL) : Calls Tryd.prog 22 #[st ⟨#[97]⟩ v] w fun e w' => e = .returned (.int .i64 0) ∧ Below w.heap.size w w' :=
  (Right_any ⟨#[97]⟩ v exL w hv (by decide) exOk).mono fun e w' ⟨h, hb⟩ => ⟨by rw [h, xr], hb⟩
theorem cRight2 (v : Value) (w : World) (hv : RowsAt rowF w v [(⟨#[120]⟩, 1), (⟨#[120]⟩, 2)]) : Calls Tryd.prog 22 #[st ⟨#[97]⟩ v] w fun e w' => e = .returned (.int .i64 11) ∧ Below w.heap.size w w' :=
  (Right_any ⟨#[97]⟩ v _ w hv (by decide) exOk2).mono fun e w' ⟨h, hb⟩ => ⟨by rw [h, xr2], hb⟩
theorem cAll (v : Value) (w : World) (hv : RowsAt rowF w v exL) : Calls Tryd.prog 18 #[.slice (some ⟨w.heap.size, 0, none⟩) 2 2] (w.alloc (.cells #[.string ⟨#[97]⟩, v, .string ⟨#[97]⟩, v] 28)) fun e w' => e = .returned (.int .i64 11) ∧ Below w.heap.size w w' :=
  (All_any _ _ _ (stms_two hv) (fun x hx => by
    have : x = (⟨#[97]⟩, exL) := by simpa using hx
    subst this
    exact ⟨by decide, exOk⟩)).mono fun e w' ⟨h, hb⟩ => ⟨by rw [h, xall], bt (ba w _) hb⟩
theorem cAt1 (v : Value) (w : World) (hv : RowsAt rowF w v exL) : Calls Tryd.prog 24 #[st ⟨#[97]⟩ v, .string ⟨#[121]⟩] w fun e w' => e = .returned (.int .i64 1) ∧ Below w.heap.size w w' :=
  (At_any ⟨#[97]⟩ ⟨#[121]⟩ v exL w hv).mono fun e w' ⟨h, hb⟩ => ⟨by rw [h, xat1], hb⟩
theorem cAt2 (v : Value) (w : World) (hv : RowsAt rowF w v exL) : Calls Tryd.prog 24 #[st ⟨#[97]⟩ v, .string ⟨#[122]⟩] w fun e w' => e = .returned (.int .i64 (-1)) ∧ Below w.heap.size w w' :=
  (At_any ⟨#[97]⟩ ⟨#[122]⟩ v exL w hv).mono fun e w' ⟨h, hb⟩ => ⟨by rw [h, xat2], hb⟩
theorem cFind (v : Value) (w : World) (hv : RowsAt rowF w v exL) : Calls Tryd.prog 20 #[.slice (some ⟨w.heap.size, 0, none⟩) 1 1, .string ⟨#[97]⟩] (w.alloc (.cells #[.string ⟨#[97]⟩, v] 28)) fun e w' => e = .returned (.int .i64 0) ∧ Below w.heap.size w w' :=
  (FindS_any _ _ _ _ (stms_one hv)).mono fun e w' ⟨h, hb⟩ => ⟨by rw [h, xfind], bt (ba w _) hb⟩
theorem cSame (v : Value) (w : World) (hv : RowsAt rowF w v exL) : Calls Tryd.prog 27 #[st ⟨#[97]⟩ v, st ⟨#[97]⟩ v] w fun e w' => e = .returned (.bool true) ∧ Below w.heap.size w w' :=
  (SameS_any ⟨#[97]⟩ ⟨#[97]⟩ v v exL exL w hv hv).mono fun e w' ⟨h, hb⟩ => ⟨by rw [h, xsame], hb⟩
theorem cN1 (w : World) : Calls Tryd.prog 16 #[.string ⟨#[95, 97, 49]⟩] w fun e w' => e = .returned (.bool true) ∧ w = w' := (IsName_any _ w (by decide)).mono fun e w' ⟨h, hb⟩ => ⟨by rw [h, xname1], hb⟩
theorem cN2 (w : World) : Calls Tryd.prog 16 #[.string ⟨#[66, 89]⟩] w fun e w' => e = .returned (.bool false) ∧ w = w' := (IsName_any _ w (by decide)).mono fun e w' ⟨h, hb⟩ => ⟨by rw [h, xname2], hb⟩
theorem cN3 (w : World) : Calls Tryd.prog 16 #[.string ⟨#[49, 97]⟩] w fun e w' => e = .returned (.bool false) ∧ w = w' := (IsName_any _ w (by decide)).mono fun e w' ⟨h, hb⟩ => ⟨by rw [h, xname3], hb⟩
theorem cN4 (w : World) : Calls Tryd.prog 16 #[.string ⟨#[]⟩] w fun e w' => e = .returned (.bool false) ∧ w = w' := (IsName_any _ w (by decide)).mono fun e w' ⟨h, hb⟩ => ⟨by rw [h, xname4], hb⟩
set_option maxRecDepth 20000 in
set_option maxHeartbeats 1000000 in
theorem examples_any (m : Int) (w : World) (hm : w.cell? ⟨0, 0, none⟩ = some (.int .i64 m)) : Calls Tryd.prog 9 #[] w fun e w' => e = .returned (.bool true) ∧ Below w.heap.size w w' := by
  have HM := Lib.hid hm; clear hm
  go_enter Tryd.func9, Tryd.ntmps9
  go_wp2_with fail
  go_at_call 13
  ((with_reducible refine (cGetA m w HM.out).mono ?_); rintro e w1 ⟨v1, ⟨rfl, hv1⟩, b1⟩)
  obtain ⟨g1, c1, rfl, hc1, hr1⟩ := two3 hv1
  have bA := ba w1 (.cells #[.string ⟨#[97]⟩, .slice (some ⟨g1, 0, none⟩) 2 c1] 28)
  have K := Lib.hid (And.intro (bt b1 bA) (And.intro (hr1.later bA) (And.intro (hc1.later bA) (Box2.new w1 (.string ⟨#[97]⟩) (.slice (some ⟨g1, 0, none⟩) 2 c1) 28))))
  have hm1 := (bt b1 bA).cell (World.block_lt_of_cell? w _ HM.out) |>.trans HM.out
  have HM1 := Lib.hid hm1
  clear b1 bA hv1 hc1 hr1 hm1
  go_wp2_with fail
  go_at_call 13
  ((with_reducible refine (cGetB m _ HM1.out).mono ?_); rintro e w2 ⟨rfl, b2⟩)
  have bB := bt b2 (ba w2 (.cells #[.string ⟨#[]⟩, .slice none 0 0] 28))
  have k0 := K.out; replace K := Lib.hid (And.intro (bt (k0.1) (bB)) (And.intro ((k0.2.1).later (bB)) (And.intro ((k0.2.2.1).later (bB)) ((k0.2.2.2).later (bB))))); clear k0
  clear b2 bB HM1
  generalize hW2 : w2.alloc (.cells #[.string ⟨#[]⟩, .slice none 0 0] 28) = W2 at *
  have hz2 : W2.heap.size = w2.heap.size + 1 := by rw [← hW2]; simp
  have bC := bt (ba W2 (.cells #[.string ⟨#[120]⟩, .int .i64 1, .string ⟨#[120]⟩, .int .i64 2] 60)) (ba _ (.cells #[.string ⟨#[97]⟩, .slice (some ⟨w2.heap.size + 1, 0, none⟩) 2 2] 28))
  have B4 := Box2.new (W2.alloc (.cells #[.string ⟨#[120]⟩, .int .i64 1, .string ⟨#[120]⟩, .int .i64 2] 60)) (.string ⟨#[97]⟩) (.slice (some ⟨w2.heap.size + 1, 0, none⟩) 2 2) 28
  have R4 := rows_lit ((Blk.new W2 60 #[.string ⟨#[120]⟩, .int .i64 1, .string ⟨#[120]⟩, .int .i64 2]).later (ba _ (.cells #[.string ⟨#[97]⟩, .slice (some ⟨w2.heap.size + 1, 0, none⟩) 2 2] 28)))
  rw [World.size_alloc, hz2] at B4
  rw [hz2] at R4
  obtain ⟨-, -, -, ⟨x0, x1⟩⟩ := K.out
  have k0 := K.out; replace K := Lib.hid (And.intro (bt (k0.1) (bC)) (And.intro ((k0.2.1).later (bC)) (And.intro ((k0.2.2.1).later (bC)) (And.intro ((k0.2.2.2).later (bC)) (And.intro (B4) (R4)))))); clear k0
  clear bC B4 R4 hz2
  subst hW2
  have KL := K
  obtain ⟨-, -, ⟨e2, e3⟩, ⟨x0, x1⟩, ⟨y0, y1⟩, -⟩ := KL.out
  clear KL
  go_wp2_with (first
    | (go_at_call 12; ((with_reducible refine (cPut _ _ (K.out.2.1)).mono ?_); rintro e w9 ⟨rfl, b9⟩; have k0 := K.out; replace K := Lib.hid (And.intro (bt (k0.1) (b9)) (And.intro ((k0.2.1).later (b9)) (And.intro ((k0.2.2.1).later (b9)) (And.intro ((k0.2.2.2.1).later (b9)) (And.intro ((k0.2.2.2.2.1).later (b9)) ((k0.2.2.2.2.2).later (b9))))))); clear k0; clear b9; obtain ⟨-, -, ⟨e2, e3⟩, ⟨x0, x1⟩, ⟨y0, y1⟩, -⟩ := K.out))
    | (go_at_call 22; ((with_reducible refine (cRight _ _ (K.out.2.1)).mono ?_); rintro e w9 ⟨rfl, b9⟩; have k0 := K.out; replace K := Lib.hid (And.intro (bt (k0.1) (b9)) (And.intro ((k0.2.1).later (b9)) (And.intro ((k0.2.2.1).later (b9)) (And.intro ((k0.2.2.2.1).later (b9)) (And.intro ((k0.2.2.2.2.1).later (b9)) ((k0.2.2.2.2.2).later (b9))))))); clear k0; clear b9; obtain ⟨-, -, ⟨e2, e3⟩, ⟨x0, x1⟩, ⟨y0, y1⟩, -⟩ := K.out))
    | (go_at_call 22; ((with_reducible refine (cRight2 _ _ (K.out.2.2.2.2.2)).mono ?_); rintro e w9 ⟨rfl, b9⟩; have k0 := K.out; replace K := Lib.hid (And.intro (bt (k0.1) (b9)) (And.intro ((k0.2.1).later (b9)) (And.intro ((k0.2.2.1).later (b9)) (And.intro ((k0.2.2.2.1).later (b9)) (And.intro ((k0.2.2.2.2.1).later (b9)) ((k0.2.2.2.2.2).later (b9))))))); clear k0; clear b9; obtain ⟨-, -, ⟨e2, e3⟩, ⟨x0, x1⟩, ⟨y0, y1⟩, -⟩ := K.out))
    | (go_at_call 18; ((with_reducible refine (cAll _ _ (K.out.2.1)).mono ?_); rintro e w9 ⟨rfl, b9⟩; have k0 := K.out; replace K := Lib.hid (And.intro (bt (k0.1) (b9)) (And.intro ((k0.2.1).later (b9)) (And.intro ((k0.2.2.1).later (b9)) (And.intro ((k0.2.2.2.1).later (b9)) (And.intro ((k0.2.2.2.2.1).later (b9)) ((k0.2.2.2.2.2).later (b9))))))); clear k0; clear b9; obtain ⟨-, -, ⟨e2, e3⟩, ⟨x0, x1⟩, ⟨y0, y1⟩, -⟩ := K.out))
    | (go_at_call 24; ((with_reducible refine (cAt1 _ _ (K.out.2.1)).mono ?_); rintro e w9 ⟨rfl, b9⟩; have k0 := K.out; replace K := Lib.hid (And.intro (bt (k0.1) (b9)) (And.intro ((k0.2.1).later (b9)) (And.intro ((k0.2.2.1).later (b9)) (And.intro ((k0.2.2.2.1).later (b9)) (And.intro ((k0.2.2.2.2.1).later (b9)) ((k0.2.2.2.2.2).later (b9))))))); clear k0; clear b9; obtain ⟨-, -, ⟨e2, e3⟩, ⟨x0, x1⟩, ⟨y0, y1⟩, -⟩ := K.out))
    | (go_at_call 24; ((with_reducible refine (cAt2 _ _ (K.out.2.1)).mono ?_); rintro e w9 ⟨rfl, b9⟩; have k0 := K.out; replace K := Lib.hid (And.intro (bt (k0.1) (b9)) (And.intro ((k0.2.1).later (b9)) (And.intro ((k0.2.2.1).later (b9)) (And.intro ((k0.2.2.2.1).later (b9)) (And.intro ((k0.2.2.2.2.1).later (b9)) ((k0.2.2.2.2.2).later (b9))))))); clear k0; clear b9; obtain ⟨-, -, ⟨e2, e3⟩, ⟨x0, x1⟩, ⟨y0, y1⟩, -⟩ := K.out))
    | (go_at_call 20; ((with_reducible refine (cFind _ _ (K.out.2.1)).mono ?_); rintro e w9 ⟨rfl, b9⟩; have k0 := K.out; replace K := Lib.hid (And.intro (bt (k0.1) (b9)) (And.intro ((k0.2.1).later (b9)) (And.intro ((k0.2.2.1).later (b9)) (And.intro ((k0.2.2.2.1).later (b9)) (And.intro ((k0.2.2.2.2.1).later (b9)) ((k0.2.2.2.2.2).later (b9))))))); clear k0; clear b9; obtain ⟨-, -, ⟨e2, e3⟩, ⟨x0, x1⟩, ⟨y0, y1⟩, -⟩ := K.out))
    | (go_at_call 27; ((with_reducible refine (cSame _ _ (K.out.2.1)).mono ?_); rintro e w9 ⟨rfl, b9⟩; have k0 := K.out; replace K := Lib.hid (And.intro (bt (k0.1) (b9)) (And.intro ((k0.2.1).later (b9)) (And.intro ((k0.2.2.1).later (b9)) (And.intro ((k0.2.2.2.1).later (b9)) (And.intro ((k0.2.2.2.2.1).later (b9)) ((k0.2.2.2.2.2).later (b9))))))); clear k0; clear b9; obtain ⟨-, -, ⟨e2, e3⟩, ⟨x0, x1⟩, ⟨y0, y1⟩, -⟩ := K.out))
    | (go_at_call 16; ((with_reducible refine (cN1 _).mono ?_); rintro e w9 ⟨rfl, rfl⟩))
    | (go_at_call 16; ((with_reducible refine (cN2 _).mono ?_); rintro e w9 ⟨rfl, rfl⟩))
    | (go_at_call 16; ((with_reducible refine (cN3 _).mono ?_); rintro e w9 ⟨rfl, rfl⟩))
    | (go_at_call 16; ((with_reducible refine (cN4 _).mono ?_); rintro e w9 ⟨rfl, rfl⟩)))
  go_ret
  exact ⟨rfl, K.out.1⟩
end Go.Proofs.YtdpgdpfalfiijaaDoor
