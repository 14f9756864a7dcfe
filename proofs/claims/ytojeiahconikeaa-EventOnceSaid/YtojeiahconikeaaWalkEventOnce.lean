/- EventOnce: the walk. -/
import Derived.Test.YtojeiahconikeaaWalkEventTorn
import Derived.Test.YtojeiahconikeaaWalkEventBack
import Derived.StillTailTactics
namespace Go.Proofs.Ytojeiahconikeaa
open Go.ChangeShapes Go.WideShapes Go.ChangeAt Go.RowKit
open Ev (V3 rightV OkV)
set_option linter.unusedVariables false
set_option linter.unusedSimpArgs false

theorem xor_byte (a b : Int) : ∃ c : UInt8, bits .xor .u8 a b = (c.toNat : Int) := by
  have h : ∃ x : Int, bits .xor .u8 a b = IntKind.u8.wrap x := ⟨_, rfl⟩
  obtain ⟨x, h⟩ := h
  refine ⟨(x % 256).toNat.toUInt8, ?_⟩
  rw [h, IntKind.wrap_u8]
  simp; omega
theorem BufAt.free {w : World} {base : Nat} {e : TypeId} {g n cap : Nat} {bs : List UInt8} (h : BufAt w base e (.slice (some ⟨g, 0, none⟩) n cap) bs) (j : Nat) (hj : j < bs.length) : w.frozen? ⟨g, j, none⟩ = false := by
  obtain ⟨g', cap', cur, fz, he, h1, h2, h3, h4, h5, h6, h7⟩ := h
  injection he with e1 e2 e3
  injection e1 with e1
  injection e1 with e1
  subst e1
  have := h3 j (by omega)
  simp only [World.frozen?, h2]
  simpa using this
theorem BufAt.put {w : World} {base : Nat} {e : TypeId} {g n cap : Nat} {bs : List UInt8} (h : BufAt w base e (.slice (some ⟨g, 0, none⟩) n cap) bs) (j : Nat) (hj : j < bs.length) (c : UInt8) : BufAt (w.setCell ⟨g, j, none⟩ (byteV c)) base e (.slice (some ⟨g, 0, none⟩) n cap) (bs.set j c) := by
  obtain ⟨g', cap', cur, fz, he, h1, h2, h3, h4, h5, h6, h7⟩ := h
  injection he with e1 e2 e3
  injection e1 with e1
  injection e1 with e1
  subst e1 e2 e3
  refine ⟨g, cap, cur.setIfInBounds j (byteV c), fz, by simp, h1, ?_, h3, by simpa using h4, h5, by simpa using h6, ?_⟩
  · simp [World.setCell, Array.getElem?_modify, h2]
  · rw [Array.toList_setIfInBounds, List.length_set, List.take_set, h7, List.map_set]
theorem once_pack (S : ByteArray) (T : Int) (V : List V3) (h : Ev.get S = some (T, V)) (x : UInt8) :
    Ev.plain T V = true ∧ (∀ v ∈ V, OkV v) ∧ S.data.toList = Ev.put T V ∧ 2 ≤ S.size ∧ S.size ≤ 500 ∧ Ev.get (S ++ ⟨#[x]⟩) = none ∧ Ev.get (S.extract 0 (S.size - 1)) = none := by
  obtain ⟨hp, ho, hS⟩ := Ev.get_spec h
  have hsz : S.size = (Ev.put T V).length := by rw [← hS]; simp
  have h2 := Ev.put_pos hp
  refine ⟨hp, ho, hS, by omega, by have := Ev.put_len hp ho; omega, ?_, ?_⟩
  · exact Ev.get_more hp ho [x] (by rw [ByteArray.data_append, Array.toList_append, hS]) (by simp)
  · refine Ev.get_less hp ho (S.data.toList.drop (S.size - 1)) ?_ ?_
    · rw [extract_list, List.drop_zero, ← hS, List.take_append_drop]
    · intro h3
      have h4 := congrArg List.length h3
      rw [List.length_drop] at h4
      have h5 : S.data.toList.length = S.size := by simp
      rw [h5] at h4
      simp at h4; omega

set_option maxHeartbeats 2000000 in
set_option maxRecDepth 20000 in
theorem walk_EventOnce (s : ByteArray) (a : Int) (v : Value) (l : List UInt8) (at_ by_ : Int) (near : Bool) (more : Int) (w : World) (hs : s.size ≤ 140737488351232) (a0 : 0 ≤ a) (a1 : a ≤ 18446744073709551615) (hv : BytesAt w v l) (hl : l.length ≤ 140737488351232) (t0 : 0 ≤ at_) (t1 : at_ ≤ 255) (y0 : 0 ≤ by_) (y1 : by_ ≤ 255) (m0 : 0 ≤ more) (m1 : more ≤ 255) :
    Calls Try.prog 5 #[.string s, .int .u64 a, v, .int .u8 at_, .int .u8 by_, .bool near, .int .u8 more] w fun e w' => e = .returned (.bool true) ∧ Below w.heap.size w w' := by
  have hmo : more = ((more.toNat.toUInt8).toNat : Int) := by simp; omega
  generalize more.toNat.toUInt8 = xm at *
  have HM := Lib.hid hmo; clear hmo
  cases near
  · clear hv
    have hSm : s.size ≤ maxLen := by unfold maxLen; omega
    go_enter Try.func5, Try.ntmps5
    go_wp2_with fail
    go_at_call 8
    ((with_reducible refine (examples_any _).mono ?_); rintro e w1 ⟨rfl, bW⟩)
    have hzS := nil_or s
    generalize s = S at *
    rcases hg : Ev.get S with _ | ⟨T, V⟩
    · have HG := Lib.hid hg; clear hg
      go_wp2_with fail
      go_at_call 14
      ((with_reducible refine (EGet_no _ _ hSm HG.out).mono ?_); rintro e w5 ⟨rfl, b5⟩)
      go_wp2
      go_ret
      exact ⟨rfl, bt bW (bt b5 (ba _ _))⟩
    · obtain ⟨hp', ho', hS', hS2, hS5, gm, gl⟩ := once_pack S T V hg xm
      have HG := Lib.hid hg; clear hg
      have cP : ∀ w u, ValsAt w u V → Calls Try.prog 24 #[ev T u] w fun e w' => e = .returned (.bool true) ∧ Below w.heap.size w w' := fun w u hu => (Plain_any T u V w hu (ok_size ho')).mono fun _ _ ⟨he, hw⟩ => ⟨by rw [he, hp'], hw⟩
      have eS : (⟨(Ev.put T V).toArray⟩ : ByteArray) = S := ByteArray.ext (Array.toList_inj.1 (by rw [hS']))
      have cU : ∀ w u, ValsAt w u V → Calls Try.prog 11 #[ev T u] w fun e w' => e = .returned (.string S) ∧ Below w.heap.size w w' := fun w u hu => (Put_yes T u V w hu ho' hp').mono fun _ _ ⟨he, hw⟩ => ⟨by rw [he, eS], hw⟩
      have hz2 : (S ++ ⟨#[xm]⟩ : ByteArray).size ≤ maxLen := by rw [ByteArray.size_append]; show S.size + 1 ≤ _; unfold maxLen; omega
      have hsl : ∀ w, (Instr.slice 9 (.string S) none (some (.int .i64 ((S.size : Int) - 1))) none).run Try.prog w = .ok (.string (S.extract 0 (S.size - 1))) w := fun w => by
        have h := slice_upto Try.prog w 9 Try.underlying9 S ((S.size : Int) - 1) (by omega) (by omega)
        rwa [show ((S.size : Int) - 1).toNat = S.size - 1 by omega] at h
      have hz3 : (S.extract 0 (S.size - 1)).size ≤ maxLen := by rw [ByteArray.size_extract]; unfold maxLen; omega
      generalize S.extract 0 (S.size - 1) = S1 at *
      have c2 := fun w => EGet_no _ w hz2 gm
      have c3 := fun w => EGet_no _ w hz3 gl
      have D := Lib.hid (And.intro cP (And.intro cU (And.intro c2 c3)))
      have hne : ¬ S.toList = [] := by intro h; have := (size_nil S).2 h; omega
      clear cP cU c2 c3 eS hz2 hz3 gm gl hp' ho' hS' hzS
      go_wp2_with fail
      go_at_call 14
      ((with_reducible refine (EGet_yes _ _ hSm _ _ HG.out).mono ?_); rintro e w5 ⟨u, ⟨rfl, hu⟩, b5⟩)
      obtain ⟨A1, c1, rfl⟩ := hu.shape
      have K1 := Lib.hid (And.intro ((Box2.new w5 (.int .i64 T) (.slice A1 V.length c1) 24).later (ba _ (.cells #[.int .u8 more] 5))) (And.intro ((hu.vals.later (ba w5 (.cells #[.int .i64 T, .slice A1 V.length c1] 24))).later (ba _ (.cells #[.int .u8 more] 5))) (bt (bt bW (bt b5 (ba w5 (.cells #[.int .i64 T, .slice A1 V.length c1] 24)))) (ba _ (.cells #[.int .u8 more] 5)))))
      have hcv1 := byte_string (w5.alloc (.cells #[.int .i64 T, .slice A1 V.length c1] 24)) more xm HM.out
      rw [World.size_alloc] at hcv1
      clear b5 hu
      go_wp2_with fail
      go_at_call 14
      ((with_reducible refine (D.out.2.2.1 _).mono ?_); rintro e w6 ⟨rfl, b9⟩)
      have b10 := bt b9 (ba w6 (.cells #[.int .i64 0, .slice none 0 0] 24))
      have K := K1; clear K1
      have k0 := K.out; replace K := Lib.hid (And.intro ((k0.1).later (b10)) (And.intro ((k0.2.1).later (b10)) (bt (k0.2.2) (b10)))); clear k0
      clear b9 b10 hcv1
      go_wp2_with fail
      go_at_call 14
      ((with_reducible refine (D.out.2.2.2 _).mono ?_); rintro e w7 ⟨rfl, b9⟩)
      have b10 := bt b9 (ba w7 (.cells #[.int .i64 0, .slice none 0 0] 24))
      have k0 := K.out; replace K := Lib.hid (And.intro ((k0.1).later (b10)) (And.intro ((k0.2.1).later (b10)) (bt (k0.2.2) (b10)))); clear k0
      clear b9 b10
      obtain ⟨⟨e0, e1⟩, -, -⟩ := K.out
      go_wp2_with (first
        | (go_at_call 24; ((with_reducible refine (D.out.1 _ _ K.out.2.1).mono ?_); rintro e w9 ⟨rfl, b9⟩; have k0 := K.out; replace K := Lib.hid (And.intro ((k0.1).later (b9)) (And.intro ((k0.2.1).later (b9)) (bt (k0.2.2) (b9)))); clear k0; clear b9; obtain ⟨⟨e0, e1⟩, -, -⟩ := K.out))
        | (go_at_call 11; ((with_reducible refine (D.out.2.1 _ _ K.out.2.1).mono ?_); rintro e w9 ⟨rfl, b9⟩; have k0 := K.out; replace K := Lib.hid (And.intro ((k0.1).later (b9)) (And.intro ((k0.2.1).later (b9)) (bt (k0.2.2) (b9)))); clear k0; clear b9; obtain ⟨⟨e0, e1⟩, -, -⟩ := K.out)))
      go_ret
      exact ⟨rfl, K.out.2.2⟩
  · have hp := plain_plain a a0 l s
    have ho := plainV_ok l s
    have cpl := fun (w0 : World) (hb : Below w.heap.size w w0) => plain_any a v l s w0 a0 a1 (hv.later hb) hl (by unfold maxLen; omega)
    generalize plainT a = T0 at *
    generalize plainV l s = V0 at *
    obtain ⟨X, hX, cX, gX, sX, -, -⟩ := ev_pack T0 V0 hp ho
    have sX2 : 2 ≤ X.size := by have := Ev.put_pos hp; have h1 : X.size = X.data.toList.length := by simp
                                rw [h1, hX]; exact this
    have hq : (at_ % (X.size : Int)).toNat < X.data.toList.length := by
      have h1 := Int.emod_nonneg at_ (show (X.size : Int) ≠ 0 by omega)
      have h2 := Int.emod_lt_of_pos at_ (show (0 : Int) < (X.size : Int) by omega)
      simp; omega
    obtain ⟨q, hqe⟩ : ∃ q : Nat, at_ % (X.size : Int) = (q : Int) := ⟨(at_ % (X.size : Int)).toNat, by have h1 := Int.emod_nonneg at_ (show (X.size : Int) ≠ 0 by omega); omega⟩
    have hq' : q < X.data.toList.length := by rw [hqe] at hq; simpa using hq
    obtain ⟨xc, hxc⟩ := xor_byte ((X.data.toList[q]'hq').toNat : Int) by_
    obtain ⟨S, hS⟩ : ∃ S : ByteArray, S = ⟨(X.data.toList.set q xc).toArray⟩ := ⟨_, rfl⟩
    have hSs : S.size = X.size := by rw [hS]; show (X.data.toList.set q xc).length = _; simp
    have C := Lib.hid (And.intro cpl (And.intro cX hS))
    clear cpl cX gX hX hp ho hv hq hS
    have hX0 : ¬ (X.size : Int) = 0 := by omega
    go_enter Try.func5, Try.ntmps5
    go_wp2_with fail
    go_at_call 8
    ((with_reducible refine (examples_any _).mono ?_); rintro e w1 ⟨rfl, b1⟩)
    go_wp2_with fail
    go_at_call 9
    ((with_reducible refine (C.out.1 _ b1).mono ?_); rintro e w2 ⟨u, ⟨rfl, hu⟩, b2⟩)
    go_wp2_with fail
    go_at_call 11
    ((with_reducible refine (C.out.2.1 _ _ hu.vals).mono ?_); rintro e w3 ⟨rfl, b3⟩)
    have hcv := Lib.run_convert_string_bytes (P := Try.prog) w3 9 27 5 X Try.underlying9 Try.underlying27 Try.underlying5
    have b123 := bt b1 (bt b2 b3)
    have hbuf := buf_made w3 w3.heap.size 5 X (Nat.le_refl _) (by unfold maxLen; omega)
    have bM := bt b123 (below_made (B := w3.heap.size) w3 5 X (Nat.le_refl _))
    have z0 := hbuf.cell q hq'
    have z1 := hbuf.free q hq'
    unfold byteV at z0
    generalize (X.data.toList[q]'hq') = xq at *
    have hcap : grownCap w3 X.size 0 5 ≤ maxLen := grownCap_le_maxLen _ _ _ _ (by unfold maxLen; omega)
    have hcap2 := grownCap_ge w3 X.size 0 5
    have hw3 : w.heap.size ≤ w3.heap.size := b123.size
    have K := Lib.hid (And.intro hbuf bM)
    clear b1 b2 b3 b123 hbuf bM hu
    have hqi : (q : Int) < (X.size : Int) := by have : X.data.toList.length = X.size := by simp
                                                omega
    go_wp2_with fail
    generalize Lib.bytesWorld w3 5 X = w4 at *
    generalize grownCap w3 X.size 0 5 = cp at *
    have hwr : IntKind.i64.wrap at_ = at_ := IntWalk.i64_in _ (by omega)
    have htm : at_.tmod (X.size : Int) = (q : Int) := by rw [Int.tmod_eq_emod_of_nonneg t0]; exact hqe
    have hXe : ¬ X = ByteArray.empty := by intro h; rw [h] at sX2; exact absurd sX2 (by decide)
    have hq0 : (0 : Int) ≤ (q : Int) := by omega
    have hqX : q < X.size := by omega
    go_region_law (fail)
    have hb5 : BufAt (w4.setCell ⟨w3.heap.size, q, none⟩ (.int .u8 (xc.toNat : Int))).drew w3.heap.size 5 (.slice (some ⟨w3.heap.size, 0, none⟩) X.size cp) (X.data.toList.set q xc) := K.out.1.put q hq' xc
    have hcv2 := buf_string Try.prog _ 27 9 5 Try.underlying27 Try.underlying5 Try.underlying9 hb5
    rw [← C.out.2.2] at hcv2
    have bW : Below w.heap.size w (w4.setCell ⟨w3.heap.size, q, none⟩ (.int .u8 (xc.toNat : Int))).drew := below_drew (K.out.2.setCell (p := ⟨w3.heap.size, q, none⟩) hw3 _)
    generalize (w4.setCell ⟨w3.heap.size, q, none⟩ (.int .u8 (xc.toNat : Int))).drew = w5 at *
    have hSm : S.size ≤ maxLen := by unfold maxLen; omega
    have hSb : S.size ≤ 500 := by omega
    have hzS := nil_or S
    have hS2' : 2 ≤ S.size := by omega
    clear hb5 K C z0 z1 hqe htm hwr hcv hcap hcap2 hXe hq0 hqX hqi hX0 hxc hSs
    go_wp2_with fail
    rcases hg : Ev.get S with _ | ⟨T, V⟩
    · have HG := Lib.hid hg; clear hg
      go_wp2_with fail
      go_at_call 14
      ((with_reducible refine (EGet_no _ _ hSm HG.out).mono ?_); rintro e w5 ⟨rfl, b5⟩)
      go_wp2
      go_ret
      exact ⟨rfl, bt bW (bt b5 (ba _ _))⟩
    · obtain ⟨hp', ho', hS', hS2, hS5, gm, gl⟩ := once_pack S T V hg xm
      have HG := Lib.hid hg; clear hg
      have cP : ∀ w u, ValsAt w u V → Calls Try.prog 24 #[ev T u] w fun e w' => e = .returned (.bool true) ∧ Below w.heap.size w w' := fun w u hu => (Plain_any T u V w hu (ok_size ho')).mono fun _ _ ⟨he, hw⟩ => ⟨by rw [he, hp'], hw⟩
      have eS : (⟨(Ev.put T V).toArray⟩ : ByteArray) = S := ByteArray.ext (Array.toList_inj.1 (by rw [hS']))
      have cU : ∀ w u, ValsAt w u V → Calls Try.prog 11 #[ev T u] w fun e w' => e = .returned (.string S) ∧ Below w.heap.size w w' := fun w u hu => (Put_yes T u V w hu ho' hp').mono fun _ _ ⟨he, hw⟩ => ⟨by rw [he, eS], hw⟩
      have hz2 : (S ++ ⟨#[xm]⟩ : ByteArray).size ≤ maxLen := by rw [ByteArray.size_append]; show S.size + 1 ≤ _; unfold maxLen; omega
      have hsl : ∀ w, (Instr.slice 9 (.string S) none (some (.int .i64 ((S.size : Int) - 1))) none).run Try.prog w = .ok (.string (S.extract 0 (S.size - 1))) w := fun w => by
        have h := slice_upto Try.prog w 9 Try.underlying9 S ((S.size : Int) - 1) (by omega) (by omega)
        rwa [show ((S.size : Int) - 1).toNat = S.size - 1 by omega] at h
      have hz3 : (S.extract 0 (S.size - 1)).size ≤ maxLen := by rw [ByteArray.size_extract]; unfold maxLen; omega
      generalize S.extract 0 (S.size - 1) = S1 at *
      have c2 := fun w => EGet_no _ w hz2 gm
      have c3 := fun w => EGet_no _ w hz3 gl
      have D := Lib.hid (And.intro cP (And.intro cU (And.intro c2 c3)))
      have hne : ¬ S.toList = [] := by intro h; have := (size_nil S).2 h; omega
      clear cP cU c2 c3 eS hz2 hz3 gm gl hp' ho' hS' hzS
      go_wp2_with fail
      go_at_call 14
      ((with_reducible refine (EGet_yes _ _ hSm _ _ HG.out).mono ?_); rintro e w5 ⟨u, ⟨rfl, hu⟩, b5⟩)
      obtain ⟨A1, c1, rfl⟩ := hu.shape
      have K1 := Lib.hid (And.intro ((Box2.new w5 (.int .i64 T) (.slice A1 V.length c1) 24).later (ba _ (.cells #[.int .u8 more] 5))) (And.intro ((hu.vals.later (ba w5 (.cells #[.int .i64 T, .slice A1 V.length c1] 24))).later (ba _ (.cells #[.int .u8 more] 5))) (bt (bt bW (bt b5 (ba w5 (.cells #[.int .i64 T, .slice A1 V.length c1] 24)))) (ba _ (.cells #[.int .u8 more] 5)))))
      have hcv1 := byte_string (w5.alloc (.cells #[.int .i64 T, .slice A1 V.length c1] 24)) more xm HM.out
      rw [World.size_alloc] at hcv1
      clear b5 hu
      go_wp2_with fail
      go_at_call 14
      ((with_reducible refine (D.out.2.2.1 _).mono ?_); rintro e w6 ⟨rfl, b9⟩)
      have b10 := bt b9 (ba w6 (.cells #[.int .i64 0, .slice none 0 0] 24))
      have K := K1; clear K1
      have k0 := K.out; replace K := Lib.hid (And.intro ((k0.1).later (b10)) (And.intro ((k0.2.1).later (b10)) (bt (k0.2.2) (b10)))); clear k0
      clear b9 b10 hcv1
      go_wp2_with fail
      go_at_call 14
      ((with_reducible refine (D.out.2.2.2 _).mono ?_); rintro e w7 ⟨rfl, b9⟩)
      have b10 := bt b9 (ba w7 (.cells #[.int .i64 0, .slice none 0 0] 24))
      have k0 := K.out; replace K := Lib.hid (And.intro ((k0.1).later (b10)) (And.intro ((k0.2.1).later (b10)) (bt (k0.2.2) (b10)))); clear k0
      clear b9 b10
      obtain ⟨⟨e0, e1⟩, -, -⟩ := K.out
      go_wp2_with (first
        | (go_at_call 24; ((with_reducible refine (D.out.1 _ _ K.out.2.1).mono ?_); rintro e w9 ⟨rfl, b9⟩; have k0 := K.out; replace K := Lib.hid (And.intro ((k0.1).later (b9)) (And.intro ((k0.2.1).later (b9)) (bt (k0.2.2) (b9)))); clear k0; clear b9; obtain ⟨⟨e0, e1⟩, -, -⟩ := K.out))
        | (go_at_call 11; ((with_reducible refine (D.out.2.1 _ _ K.out.2.1).mono ?_); rintro e w9 ⟨rfl, b9⟩; have k0 := K.out; replace K := Lib.hid (And.intro ((k0.1).later (b9)) (And.intro ((k0.2.1).later (b9)) (bt (k0.2.2) (b9)))); clear k0; clear b9; obtain ⟨⟨e0, e1⟩, -, -⟩ := K.out)))
      go_ret
      exact ⟨rfl, K.out.2.2⟩
end Go.Proofs.Ytojeiahconikeaa
