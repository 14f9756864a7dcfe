/- Words of texts: the reference's All. -/
import Derived.Test.YtoaallhibgbokaaDoorLtF
namespace Go.Proofs.YtoaallhibgbokaaDoor
open Go.ChangeShapes Go.WideShapes Go.ChangeAt Go.RowKit
set_option linter.unusedVariables false
set_option linter.unusedSimpArgs false

def AllR (s : Bs) (w : World) (e : Ending) (w' : World) : Prop :=
  ∃ v, (e = .returned (.tuple #[v, .int .i64 ((resT s).2.1 : Int), .int .i64 (resT s).2.2]) ∧ Own w' w.heap.size 49 4 rowT v (resT s).1) ∧ Below w.heap.size w w'
set_option maxRecDepth 20000 in
set_option maxHeartbeats 4000000 in
theorem RAll_any (s : ByteArray) (w : World) (hs : s.size ≤ maxLen) :
    Calls Tryd.prog 12 #[.string s] w (AllR s.data.toList w) := by
  have hsz : s.data.toList.length = s.size := by simp
  unfold maxLen at hs
  by_cases hbig : 2048 < s.size
  · have hR : resT s.data.toList = ([], 2048, 4) := by unfold resT; rw [if_pos (by rw [hsz]; exact hbig)]
    unfold AllR
    rw [hR]
    go_enter Tryd.func12, Tryd.ntmps12
    go_wp2
    exact bodyPost_ret (v := .tuple #[.slice none 0 0, .int .i64 2048, .int .i64 4]) (by simp [results, Tryd.results12, go_sem]) rfl ⟨_, ⟨rfl, Own.nil _ _ _ _ _⟩, Below.refl _ _⟩
  · have hR : resT s.data.toList = match lexL s.data.toList with | .ok L => (L, s.size, 0) | .error p => ([], p, 2) := by unfold resT; rw [if_neg (by rw [hsz]; exact hbig), hsz]; cases lexL s.data.toList <;> rfl
    obtain ⟨j0, hj, hy0, hy1, hy2⟩ := info_parts (P := Tryd.prog) (e := 49) (z := .agg #[.int .i64 0, .string ⟨#[]⟩, .int .i64 0, .int .i64 0]) (size := 4) (bytes := 40) (by kernel_rfl)
    have H := Lib.hid (And.intro hR hsz); clear hR hsz
    have cS := Lib.hid (fun c w => Rspace_any c w)
    go_enter Tryd.func12, Tryd.ntmps12
    go_wp2
    go_loopw [5, 6] (fun v iv wr => ∃ (k : Nat) (L : List Tk), k ≤ s.size ∧ L.length ≤ k ∧ iv = .int .i64 (k : Int) ∧ Own wr w.heap.size 49 4 rowT v L ∧ Below w.heap.size w wr ∧ Cont s.data.toList L k) (fun _ iv _ => s.size - (intOf iv).toNat)
    case atStart => exact ⟨0, [], Nat.zero_le _, Nat.le_refl _, rfl, Own.nil _ _ _ _ _, Below.refl _ _, Cont.start _⟩
    case round =>
      obtain ⟨i, L, his, hLk, rfl, hO, hb, hC⟩ := hrel
      have C := Lib.hid hC
      have K := Lib.hid (And.intro hO (And.intro hb hLk)); clear hO hb hC hLk
      by_cases hlt : i < s.size
      · have hil : i < s.data.toList.length := by rw [H.out.2]; exact hlt
        have hget : s.data.toList[i]'hil = s[i]'hlt := rfl
        have cP := fun w => cS.out (s[i]'hlt) w
        rcases hsp : isSp (s[i]'hlt) with _ | _
        · rw [hsp] at cP
          have hx := ext_from s i
          have hdl : (s.data.toList.drop i).length = s.size - i := by rw [List.length_drop, H.out.2]
          have hz := mk_size (s.data.toList.drop i)
          rw [hdl] at hz
          have cF := fun W => Rone_any (mk (s.data.toList.drop i)) W (by rw [hz]; omega) (by rw [hz]; omega)
          rw [mk_data] at cF
          have hone := fun kd n t z hf => Cont.one (kd := kd) (n := n) (t := t) (z := z) C.out hil (by rw [hget]; exact hsp) hf
          have hno := fun hf => Cont.no C.out hil (by rw [hget]; exact hsp) hf
          obtain ⟨db, hdb⟩ : ∃ db, mk (s.data.toList.drop i) = db := ⟨_, rfl⟩
          rw [hdb] at hx cF
          have F := Lib.hid (And.intro cP (And.intro cF (And.intro hone hno))); clear cP cF hone hno hz hdl hdb hget hsp
          go_wp2_with (go_at_call 20; ((with_reducible refine (F.out.1 _).mono ?_); rintro e w1 ⟨rfl, rfl⟩))
          try go_at_call 21
          refine (F.out.2.1 _).mono ?_
          rintro e w1 ⟨kd, t, n, z, ok, ⟨rfl, hz⟩, b1⟩
          rcases hz with ⟨rfl, hn⟩ | ⟨rfl, hsome, hz0⟩
          · have hE := F.out.2.2.2 hn
            have hR := H.out.1
            rw [hE] at hR
            simp only at hR
            have R := Lib.hid (And.intro hR (bt K.out.2.1 (bt b1 (ba w1 (.cells (tokC kd (mk t) n 0) 49))))); clear hR hE hn b1
            go_wp2
            exact bodyPost_ret (v := .tuple #[.slice none 0 0, .int .i64 (i : Int), .int .i64 2]) (by simp [results, Tryd.results12, go_sem]) rfl ⟨.slice none 0 0, ⟨by rw [R.out.1], by rw [R.out.1]; exact Own.nil _ _ _ _ _⟩, R.out.2⟩
          · obtain ⟨h1, h2, _, h4⟩ := F.out.2.2.1 kd n t z hsome
            rw [H.out.2] at h2
            obtain ⟨A, n0, c0, hv⟩ := own_shape K.out.1
            subst hv
            obtain ⟨ln, hln⟩ : ∃ ln, ln = L.length := ⟨_, rfl⟩
            have hll := K.out.2.2
            rw [← hln] at hll
            have hOw : ∀ X, Below wr.heap.size wr X → X.ownsRow w.heap.size 49 4 (.slice A n0 c0) ln (L.flatMap rowT) := fun X hX => by
              have := K.out.1.later hX
              unfold Own at this
              rw [← hln] at this; exact this
            have b2 := bt b1 (bt (ba w1 (.cells (tokC kd (mk t) n (i : Int)) 49)) (ba (w1.alloc (.cells (tokC kd (mk t) n (i : Int)) 49)) (.cells (tokC kd (mk t) n (i : Int)) 49)))
            have hnew := blk_cells (Blk.new (w1.alloc (.cells (tokC kd (mk t) n (i : Int)) 49)) 49 (tokC kd (mk t) n (i : Int)))
            rw [World.size_alloc] at hnew
            have hwi : IntKind.i64.wrap ((i : Int) + (z : Int)) = ((i + z : Nat) : Int) := by rw [show (i : Int) + (z : Int) = ((i + z : Nat) : Int) by omega]; exact IntWalk.i64_in _ (by omega)
            have M := Lib.hid (And.intro (hOw _ b2) (And.intro hnew (And.intro h1 (And.intro (bt K.out.2.1 b2) (And.intro hln K.out.1))))); clear hOw b1 b2 hnew h1 hln hsome
            go_wp2_with (at_builtin; go_loud (refine wpList_append_own _ rfl (.tmp 36) (.tmp 38) 30 rfl w.heap.size 49 j0 (.agg #[.int .i64 0, .string ⟨#[]⟩, .int .i64 0, .int .i64 0]) 4 40 Tryd.underlying30 hj hy0 hy1 hy2 rfl (by decide) (.slice A n0 c0) ln _ rfl M.out.1 ⟨_, 0, none⟩ 1 1 (rowT ⟨kd, t, n, i⟩) rfl rfl M.out.2.1 (by simp [Value.oneCell']) (by unfold maxLen; omega) (by omega) M.out.2.2.2.1.size ?_); intro v5 w5 hO5 hg5 _; obtain ⟨A5, n5, c5, rfl⟩ := own_shape hO5; have Z5 := Lib.hid (And.intro hO5 (own_past M.out.2.2.2.1 hg5 M.out.2.2.2.2.2)); clear hO5 hg5)
            go_roundw
            case rel => exact ⟨i + z, L ++ [⟨kd, t, n, i⟩], by omega, by rw [List.length_append, ← M.out.2.2.2.2.1]; simp; omega, by first | rfl | (go_num), Own.more M.out.2.2.2.2.1 Z5.out.1, Z5.out.2, M.out.2.2.1⟩
            case measure => simp [intOf]; omega
        · rw [hsp] at cP
          have F := Lib.hid (And.intro cP (Cont.sp C.out hil (by rw [hget]; exact hsp))); clear cP hget hsp
          go_wp2_with (go_at_call 20; ((with_reducible refine (F.out.1 _).mono ?_); rintro e w1 ⟨rfl, rfl⟩))
          go_roundw
          case rel => exact ⟨i + 1, L, by omega, by have := K.out.2.2; omega, by go_num, K.out.1, K.out.2.1, F.out.2⟩
          case measure => simp [intOf]; omega
      · obtain rfl : i = s.size := by omega
        have hE := Cont.end_ (by rw [H.out.2]; exact C.out)
        have hR := H.out.1
        rw [hE] at hR
        simp only at hR
        obtain ⟨A, n0, c0, hv⟩ := own_shape K.out.1
        subst hv
        have R := Lib.hid hR; clear hR hE
        go_wp2
        exact bodyPost_ret (v := .tuple #[.slice A n0 c0, .int .i64 (s.size : Int), .int .i64 0]) (by simp [results, Tryd.results12, go_sem]) rfl ⟨.slice A n0 c0, ⟨by rw [R.out], by rw [R.out]; exact K.out.1⟩, K.out.2.1⟩
end Go.Proofs.YtoaallhibgbokaaDoor
