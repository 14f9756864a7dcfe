/- Contract of the document's own GetItem (chapter 4). -/
import Derived.Test.YtbmkbpehkpdcmaaRef4P
namespace Go.Proofs.Ytbmkbpehkpdcmaa
open Go.ChangeShapes Go.WideShapes Go.ChangeAt Go.RowKit
open Ev (V3 rightV OkV)
set_option linter.unusedVariables false
set_option linter.unusedSimpArgs false

def ItemGotR (S : ByteArray) (w : World) (e : Ending) (w' : World) : Prop :=
  ((Ev.getI S = none ∧ e = .returned (.tuple #[item false 0 (.slice none 0 0), .bool false])) ∨ ∃ (m : Bool) (t : Int) (l : List V3) (v : Value), Ev.getI S = some (m, t, l) ∧ e = .returned (.tuple #[item m t v, .bool true]) ∧ Own w' w.heap.size 83 3 rowV v l) ∧ Below w.heap.size w w'
theorem rGetItem_nil (S : ByteArray) (w : World) (hz : S.size = 0) : Calls Try.prog 9 #[.string S] w (ItemGotR S w) := by
  have HE := Lib.hid (Ev.getI_nil hz)
  have hl := (size_nil S).1 hz
  have hb : (S.toList == []) = true := by simpa using hl
  clear hz
  go_enter Try.func9, Try.ntmps9
  go_wp2
  exact bodyPost_ret (v := .tuple #[item false 0 (.slice none 0 0), .bool false]) (by simp [results, Try.results9, go_sem]) rfl ⟨Or.inl ⟨HE.out, rfl⟩, ba _ _⟩
theorem head_get {S : ByteArray} {c : UInt8} {l : List UInt8} (h : S.data.toList = c :: l) : ∃ h0 : 0 < S.size, S[0]'h0 = c := by
  have hsz : S.size = S.data.toList.length := by simp
  have h0 : 0 < S.size := by rw [hsz, h]; simp
  refine ⟨h0, ?_⟩
  have : S.data.toList[0]'(by rw [← hsz]; exact h0) = c := by simp only [h]; rfl
  rw [← this]
  simp [ByteArray.getElem_eq_getElem_data]
theorem rGetItem_other (S : ByteArray) (w : World) (hs : S.size ≤ maxLen) (c : UInt8) (l : List UInt8) (h : S.data.toList = c :: l) (hc : 1 < c.toNat) : Calls Try.prog 9 #[.string S] w (ItemGotR S w) := by
  have HE := Lib.hid (Ev.getI_other h hc)
  obtain ⟨h1, h2, h3, h4⟩ := head_list h
  obtain ⟨h0, hg⟩ := head_get h
  have d1 : (1 : Int) < ((S[0]'h0).toNat : Int) := by rw [hg]; omega
  unfold maxLen at hs
  clear h h1 h2 hc hg
  go_enter Try.func9, Try.ntmps9
  go_wp2
  exact bodyPost_ret (v := .tuple #[item false 0 (.slice none 0 0), .bool false]) (by simp [results, Try.results9, go_sem]) rfl ⟨Or.inl ⟨HE.out, rfl⟩, ba _ _⟩
set_option maxRecDepth 20000 in
theorem rGetItem_event (S : ByteArray) (w : World) (hs : S.size ≤ maxLen) (l : List UInt8) (h : S.data.toList = 0 :: l) : Calls Try.prog 9 #[.string S] w (ItemGotR S w) := by
  have HE := Lib.hid (Ev.getI_event h)
  obtain ⟨h1, h2, h3, h4⟩ := head_list h
  obtain ⟨h0, hg⟩ := head_get h
  have d0 : ((S[0]'h0).toNat : Int) = 0 := by rw [hg]; rfl
  have d1 : ¬ (1 : Int) < ((S[0]'h0).toNat : Int) := by omega
  have d2 : decide (1 < ((S[0]'h0).toNat : Int)) = false := decide_eq_false d1
  have htl := fun w => slice_tail Try.prog w 9 Try.underlying9 S (by omega)
  have hU : (S.extract 1 S.size).size ≤ maxLen := by rw [ByteArray.size_extract]; omega
  have cG := Lib.hid (fun w => rEGet_any (S.extract 1 S.size) w hU)
  have hz : 1 ≤ S.size := by omega
  unfold maxLen at hs
  clear h h1 h2 hg hU
  have B0 := Lib.hid (Blk.new w 46 #[.bool false, .int .i64 0, .slice none 0 0])
  generalize S.extract 1 S.size = U at *
  go_enter Try.func9, Try.ntmps9
  go_wp2_with fail
  try go_at_call 11
  with_reducible refine (cG.out _).mono ?_
  rintro e w1 ⟨hg, b1⟩
  have B1 := B0.out.later b1
  rcases hg with ⟨hg, rfl⟩ | ⟨t, m, v, hg, rfl, hO⟩
  · have K := Lib.hid (And.intro (bt (ba w _) b1) (show Ev.getI S = none by rw [HE.out, hg]; rfl)); clear hg b1
    have B3 := (Blk.put3 B1 (.bool false) (.int .i64 0) (.slice none 0 0)).later (ba _ (.cells #[.int .i64 0, (.slice none 0 0)] 44))
    have q0 := B3.cell 0
    have q1 := B3.cell 1
    have q2 := B3.cell 2
    have hbz := (below_put3 K.out.1 (Nat.le_refl w.heap.size) (.bool false) (.int .i64 0) (.slice none 0 0)).alloc (by simp only [World.size_setCell]; have := K.out.1.size; omega) (.cells #[.int .i64 0, (.slice none 0 0)] 44)
    have r4 := B1.cell
    have r5 := B1.frozen
    have r6 := B1.lt
    have Q := Lib.hid (And.intro q0 (And.intro q1 (And.intro q2 hbz))); clear q0 q1 q2 hbz B3 B1
    go_wp2_with fail
    exact bodyPost_ret (v := .tuple #[item false 0 (.slice none 0 0), .bool false]) (by have q0 := Q.out.1; have q1 := Q.out.2.1; have q2 := Q.out.2.2.1; simp at q0 q1 q2; simp [results, Try.results9, go_sem, q0, q1, q2]) rfl ⟨Or.inl ⟨K.out.2, rfl⟩, Q.out.2.2.2⟩
  · obtain ⟨vA, vn, vc, rfl⟩ := own_shape hO
    have K := Lib.hid (And.intro (bt (ba w _) b1) (And.intro (show Ev.getI S = some (false, t, m) by rw [HE.out, hg]; rfl) hO)); clear hg b1 hO
    have B3 := (Blk.put3 B1 (.bool false) (.int .i64 t) (.slice vA vn vc)).later (ba _ (.cells #[.int .i64 t, (.slice vA vn vc)] 44))
    have q0 := B3.cell 0
    have q1 := B3.cell 1
    have q2 := B3.cell 2
    have hbz := (below_put3 K.out.1 (Nat.le_refl w.heap.size) (.bool false) (.int .i64 t) (.slice vA vn vc)).alloc (by simp only [World.size_setCell]; have := K.out.1.size; omega) (.cells #[.int .i64 t, (.slice vA vn vc)] 44)
    have r4 := B1.cell
    have r5 := B1.frozen
    have r6 := B1.lt
    have Q := Lib.hid (And.intro q0 (And.intro q1 (And.intro q2 hbz))); clear q0 q1 q2 hbz B3 B1
    go_wp2_with fail
    have hOz : Own ((((w1.setCell ⟨w.heap.size, 0, none⟩ (.bool false)).setCell ⟨w.heap.size, 1, none⟩ (.int .i64 t)).setCell ⟨w.heap.size, 2, none⟩ (.slice vA vn vc)).alloc (.cells #[.int .i64 t, .slice vA vn vc] 44)) w.heap.size 83 3 rowV (.slice vA vn vc) m := by
      have hlt : w.heap.size < (w.alloc (.cells #[.bool false, .int .i64 0, .slice none 0 0] 46)).heap.size := by rw [World.size_alloc]; omega
      exact ((((K.out.2.2.far (p := ⟨w.heap.size, 0, none⟩) hlt _).far (p := ⟨w.heap.size, 1, none⟩) hlt _).far (p := ⟨w.heap.size, 2, none⟩) hlt _).later (ba _ _)).lift (by omega)
    exact bodyPost_ret (v := .tuple #[item false t (.slice vA vn vc), .bool true]) (by have q0 := Q.out.1; have q1 := Q.out.2.1; have q2 := Q.out.2.2.1; simp at q0 q1 q2; simp [results, Try.results9, go_sem, q0, q1, q2]) rfl ⟨Or.inr ⟨_, _, _, _, K.out.2.1, rfl, hOz⟩, Q.out.2.2.2⟩
set_option maxRecDepth 20000 in
theorem rGetItem_mark (S : ByteArray) (w : World) (hs : S.size ≤ maxLen) (l : List UInt8) (h : S.data.toList = 1 :: l) : Calls Try.prog 9 #[.string S] w (ItemGotR S w) := by
  have HE := Lib.hid (Ev.getI_mark h)
  obtain ⟨h1, h2, h3, h4⟩ := head_list h
  obtain ⟨h0, hg⟩ := head_get h
  have d0 : ((S[0]'h0).toNat : Int) = 1 := by rw [hg]; rfl
  have d1 : ¬ (1 : Int) < ((S[0]'h0).toNat : Int) := by omega
  have d2 : decide (1 < ((S[0]'h0).toNat : Int)) = false := decide_eq_false d1
  have hz : 1 ≤ S.size := by omega
  clear h h1 h2 hg
  rcases hn : Num.getAt S.data.toList 1 with _ | ⟨u, k⟩
  · have K := Lib.hid (show Ev.getI S = none by rw [HE.out, hn])
    have cG := Lib.hid (fun w => rGet_none S 1 w hs hn)
    unfold maxLen at hs
    clear hn
    go_enter Try.func9, Try.ntmps9
    go_wp2_with (go_at_call 30; ((with_reducible refine (cG.out _).mono ?_); rintro e w1 ⟨rfl, rfl⟩))
    exact bodyPost_ret (v := .tuple #[item false 0 (.slice none 0 0), .bool false]) (by simp [results, Try.results9, go_sem]) rfl ⟨Or.inl ⟨K.out, rfl⟩, ba _ _⟩
  · have cG := Lib.hid (fun w => rGet_some S 1 w hs u k hn)
    by_cases hu : u ≤ 2305843009213693952
    · have e1 : ¬ (2305843009213693952 : Int) < (u : Int) := by omega
      have e2 : decide (2305843009213693952 < (u : Int)) = false := decide_eq_false e1
      have hwi : IntKind.i64.wrap (u : Int) = (u : Int) := IntWalk.i64_in _ (by omega)
      by_cases hk : k = S.size
      · have K := Lib.hid (show Ev.getI S = some (true, (u : Int), []) by rw [HE.out, hn]; exact if_pos ⟨hu, hk⟩)
        subst hk
        unfold maxLen at hs
        clear hn
        go_enter Try.func9, Try.ntmps9
        go_wp2_with (go_at_call 30; ((with_reducible refine (cG.out _).mono ?_); rintro e w1 ⟨rfl, rfl⟩))
        exact bodyPost_ret (v := .tuple #[item true (u : Int) (.slice none 0 0), .bool true]) (by simp [results, Try.results9, go_sem]) rfl ⟨Or.inr ⟨_, _, _, _, K.out, rfl, Own.nil _ _ _ _ _⟩, ba _ _⟩
      · have K := Lib.hid (show Ev.getI S = none by rw [HE.out, hn]; exact if_neg (by omega))
        have e3 : ¬ (k : Int) = (S.size : Int) := by omega
        have e4 : ((k : Int) == (S.size : Int)) = false := by rw [beq_eq_false_iff_ne]; omega
        unfold maxLen at hs
        clear hn
        go_enter Try.func9, Try.ntmps9
        go_wp2_with (go_at_call 30; ((with_reducible refine (cG.out _).mono ?_); rintro e w1 ⟨rfl, rfl⟩))
        exact bodyPost_ret (v := .tuple #[item false 0 (.slice none 0 0), .bool false]) (by simp [results, Try.results9, go_sem]) rfl ⟨Or.inl ⟨K.out, rfl⟩, ba _ _⟩
    · have K := Lib.hid (show Ev.getI S = none by rw [HE.out, hn]; exact if_neg (by omega))
      have e1 : (2305843009213693952 : Int) < (u : Int) := by omega
      unfold maxLen at hs
      clear hn
      go_enter Try.func9, Try.ntmps9
      go_wp2_with (go_at_call 30; ((with_reducible refine (cG.out _).mono ?_); rintro e w1 ⟨rfl, rfl⟩))
      exact bodyPost_ret (v := .tuple #[item false 0 (.slice none 0 0), .bool false]) (by simp [results, Try.results9, go_sem]) rfl ⟨Or.inl ⟨K.out, rfl⟩, ba _ _⟩
theorem rGetItem_any (S : ByteArray) (w : World) (hs : S.size ≤ maxLen) : Calls Try.prog 9 #[.string S] w (ItemGotR S w) := by
  rcases hl : S.data.toList with _ | ⟨c, r⟩
  · have hz : S.size = 0 := by
      have : S.size = S.data.toList.length := by simp
      rw [this, hl]; rfl
    exact rGetItem_nil S w hz
  · rcases (by omega : c.toNat = 0 ∨ c.toNat = 1 ∨ 1 < c.toNat) with hc | hc | hc
    · obtain rfl : c = 0 := UInt8.toNat_inj.1 hc
      exact rGetItem_event S w hs r hl
    · obtain rfl : c = 1 := UInt8.toNat_inj.1 hc
      exact rGetItem_mark S w hs r hl
    · exact rGetItem_other S w hs c r hl hc
end Go.Proofs.Ytbmkbpehkpdcmaa
