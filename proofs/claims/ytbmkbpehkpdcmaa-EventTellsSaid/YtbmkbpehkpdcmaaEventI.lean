/- Contracts of package event: items. -/
import Derived.Test.YtbmkbpehkpdcmaaMem
import Derived.Test.YtbmkbpehkpdcmaaEventG
import Derived.Test.YtbmkbpehkpdcmaaEventP
namespace Go.Proofs.Ytbmkbpehkpdcmaa
open Go.ChangeShapes Go.WideShapes Go.ChangeAt Go.RowKit
open Ev (V3 rightV OkV)
set_option linter.unusedVariables false
set_option linter.unusedSimpArgs false

/-- An item, as the program has it. -/
abbrev item (m : Bool) (t : Int) (v : Value) : Value := .agg #[.bool m, .int .i64 t, v]

theorem Right_i (m : Bool) (t : Int) (v : Value) (l : List V3) (w : World) (hv : ValsAt w v l) (hs : ∀ x ∈ l, x.2.2.size ≤ maxLen) :
    Calls Try.prog 22 #[item m t v] w fun e w' => e = .returned (.bool (Ev.rightI m t l)) ∧ Below w.heap.size w w' := by
  have bA := ba w (.cells #[.bool m, .int .i64 t, v] 26)
  have cP := fun (w0 : World) (b : Below w.heap.size w w0) => Plain_any t v l w0 (hv.later b) hs
  have B0 := Box3.new w (.bool m) (.int .i64 t) v 26
  obtain ⟨A, cap, rfl, h1, h2, h3⟩ := hv
  have hm : l.length ≤ 9223372036854775807 := by unfold maxLen at h2; omega
  have H := Lib.hid (And.intro cP B0); clear cP B0 h3 hs
  have hr : Ev.rightI m t l = (Ev.plain t l && (!m || decide (l.length = 0))) := rfl
  rw [hr]; clear hr
  generalize Ev.plain t l = p at *
  cases p
  · go_enter Try.func22, Try.ntmps22
    go_wp2_with (go_at_call 20; ((with_reducible refine (H.out.1 _ bA).mono ?_); rintro e w1 ⟨rfl, b1⟩; obtain ⟨c0, c1, c2⟩ := H.out.2.later b1))
    go_ret
    exact ⟨by simp, bt bA b1⟩
  · cases m
    · go_enter Try.func22, Try.ntmps22
      go_wp2_with (go_at_call 20; ((with_reducible refine (H.out.1 _ bA).mono ?_); rintro e w1 ⟨rfl, b1⟩; obtain ⟨c0, c1, c2⟩ := H.out.2.later b1))
      go_ret
      exact ⟨by simp, bt bA b1⟩
    · go_enter Try.func22, Try.ntmps22
      go_wp2_with (go_at_call 20; ((with_reducible refine (H.out.1 _ bA).mono ?_); rintro e w1 ⟨rfl, b1⟩; obtain ⟨c0, c1, c2⟩ := H.out.2.later b1))
      go_ret
      have hh : (((l.length : Nat) : Int) == 0) = decide (l.length = 0) := by rw [Bool.eq_iff_iff]; simp
      exact ⟨by simp [hh], bt bA b1⟩

theorem SameItem_any (m : Bool) (t : Int) (v : Value) (l : List V3) (m' : Bool) (t' : Int) (v' : Value) (l' : List V3) (w : World) (hv : ValsAt w v l) (hv' : ValsAt w v' l') :
    Calls Try.prog 17 #[item m t v, item m' t' v'] w fun e w' => e = .returned (.bool (decide (m = m') && (decide (t = t') && decide (l = l')))) ∧ Below w.heap.size w w' := by
  have bA : Below w.heap.size w ((w.alloc (.cells #[.bool m, .int .i64 t, v] 26)).alloc (.cells #[.bool m', .int .i64 t', v'] 26)) := bt (ba _ _) (ba _ _)
  have cS := fun (w0 : World) (b : Below w.heap.size w w0) => Same_any t v l t' v' l' w0 (hv.later b) (hv'.later b)
  have H := Lib.hid cS; clear cS hv hv'
  generalize (decide (t = t') && decide (l = l')) = q at *
  cases m <;> cases m'
  all_goals
    go_enter Try.func17, Try.ntmps17
    go_wp2_with (go_at_call 15; ((with_reducible refine (H.out _ bA).mono ?_); rintro e w1 ⟨rfl, b1⟩; have b2 := bt bA b1))
    go_ret
    first | exact ⟨by simp, b2⟩ | exact ⟨by simp, bA⟩

theorem EPut_any (t : Int) (v : Value) (l : List V3) (w : World) (hv : ValsAt w v l) (hs : ∀ x ∈ l, x.2.2.size ≤ maxLen) (ho : Ev.plain t l = true → ∀ x ∈ l, OkV x) :
    Calls Try.prog 7 #[ev t v] w fun e w' => e = .returned (.string ⟨(Ev.put t l).toArray⟩) ∧ Below w.heap.size w w' := by
  rcases hp : Ev.plain t l with _ | _
  · exact Put_no t v l w hv hs hp
  · exact Put_yes t v l w hv (ho hp) hp

theorem PutItem_no (m : Bool) (t : Int) (v : Value) (l : List V3) (w : World) (hv : ValsAt w v l) (hs : ∀ x ∈ l, x.2.2.size ≤ maxLen) (hr : Ev.rightI m t l = false) :
    Calls Try.prog 6 #[item m t v] w fun e w' => e = .returned (.string ⟨(Ev.putI m t l).toArray⟩) ∧ Below w.heap.size w w' := by
  have bA := ba w (.cells #[.bool m, .int .i64 t, v] 26)
  have cR := fun (w0 : World) (b : Below w.heap.size w w0) => Right_i m t v l w0 (hv.later b) hs
  rw [hr] at cR
  rw [show Ev.putI m t l = [] by unfold Ev.putI; rw [hr]; rfl]
  have H := Lib.hid cR; clear cR hv hs hr
  go_enter Try.func6, Try.ntmps6
  go_wp2_with (go_at_call 22; ((with_reducible refine (H.out _ bA).mono ?_); rintro e w1 ⟨rfl, b1⟩))
  go_ret
  exact ⟨rfl, bt bA b1⟩
theorem PutItem_mark (t : Int) (v : Value) (l : List V3) (w : World) (hv : ValsAt w v l) (hs : ∀ x ∈ l, x.2.2.size ≤ maxLen) (hr : Ev.rightI true t l = true) :
    Calls Try.prog 6 #[item true t v] w fun e w' => e = .returned (.string ⟨(Ev.putI true t l).toArray⟩) ∧ Below w.heap.size w w' := by
  have bA := ba w (.cells #[.bool true, .int .i64 t, v] 26)
  have cR := fun (w0 : World) (b : Below w.heap.size w w0) => Right_i true t v l w0 (hv.later b) hs
  rw [hr] at cR
  rw [Ev.putI_mark hr]
  obtain ⟨p0, p1, -, -⟩ := Ev.plain_parts (Ev.rightI_plain hr)
  have n10 := Num.put_ten (u := t.toNat) (by omega)
  have B0 := Box3.new w (.bool true) (.int .i64 t) v 26
  have H := Lib.hid (And.intro cR B0); clear cR hv hs hr B0
  go_enter Try.func6, Try.ntmps6
  go_wp2_with (first
    | (go_at_call 22; ((with_reducible refine (H.out.1 _ bA).mono ?_); rintro e w1 ⟨rfl, b1⟩; obtain ⟨c0, c1, c2⟩ := H.out.2.later b1))
    | (go_at_call 27; ((with_reducible refine (Put_any t _ p0 (by omega)).mono ?_); rintro e w2 ⟨rfl, b2⟩)))
  go_ret
  exact ⟨ret_buf (by simp), bt (bt bA b1) b2⟩
theorem PutItem_event (t : Int) (v : Value) (l : List V3) (w : World) (hv : ValsAt w v l) (hs : ∀ x ∈ l, OkV x) (hp : Ev.plain t l = true) :
    Calls Try.prog 6 #[item false t v] w fun e w' => e = .returned (.string ⟨(Ev.putI false t l).toArray⟩) ∧ Below w.heap.size w w' := by
  have bA := ba w (.cells #[.bool false, .int .i64 t, v] 26)
  have hs1 : ∀ x ∈ l, x.2.2.size ≤ maxLen := fun x hx => by have := (hs x hx).size; unfold maxLen; omega
  have hr : Ev.rightI false t l = true := by unfold Ev.rightI; simp [hp]
  have cR := fun (w0 : World) (b : Below w.heap.size w w0) => Right_i false t v l w0 (hv.later b) hs1
  rw [hr] at cR
  have hl := Ev.put_len hp hs
  rw [Ev.putI_event hp]
  have B0 := Box3.new w (.bool false) (.int .i64 t) v 26
  obtain ⟨X, hX⟩ : ∃ X : ByteArray, X = ⟨(Ev.put t l).toArray⟩ := ⟨_, rfl⟩
  have cX : ∀ (w0 : World) (b : Below w.heap.size w w0), Calls Try.prog 7 #[ev t v] w0 fun e w' => e = .returned (.string X) ∧ Below w0.heap.size w0 w' := fun w0 b => (Put_yes t v l w0 (hv.later b) hs hp).mono fun _ _ ⟨he, hw⟩ => ⟨by rw [he, hX], hw⟩
  have hXs : X.size ≤ 500 := by rw [hX]; exact hl
  have H := Lib.hid (And.intro cR (And.intro B0 (And.intro cX hX))); clear cR hv hs hr B0 hs1 cX hX hl hp
  go_enter Try.func6, Try.ntmps6
  go_wp2_with (first
    | (go_at_call 22; ((with_reducible refine (H.out.1 _ bA).mono ?_); rintro e w1 ⟨rfl, b1⟩; obtain ⟨c0, c1, c2⟩ := H.out.2.1.later b1; have b01 := bt bA b1))
    | (go_at_call 7; ((with_reducible refine (H.out.2.2.1 _ b01).mono ?_); rintro e w2 ⟨rfl, b2⟩)))
  go_ret
  exact ⟨ret_buf (by rw [H.out.2.2.2]; simp), bt b01 b2⟩

/-- What GetItem leaves. -/
def ItemGot (S : ByteArray) (w : World) (e : Ending) (w' : World) : Prop :=
  ((Ev.getI S = none ∧ e = .returned (.tuple #[item false 0 (.slice none 0 0), .bool false])) ∨ ∃ (m : Bool) (t : Int) (l : List V3) (v : Value), Ev.getI S = some (m, t, l) ∧ e = .returned (.tuple #[item m t v, .bool true]) ∧ NewAt w.heap.size w' v l) ∧ Below w.heap.size w w'

theorem GetItem_nil (S : ByteArray) (w : World) (hz : S.size = 0) : Calls Try.prog 8 #[.string S] w (ItemGot S w) := by
  have HE := Lib.hid (Ev.getI_nil hz)
  have hl := (size_nil S).1 hz
  have hb : (S.toList == []) = true := by simpa using hl
  clear hz
  go_enter Try.func8, Try.ntmps8
  go_wp2
  exact bodyPost_ret (v := .tuple #[item false 0 (.slice none 0 0), .bool false]) (by simp [results, Try.results8, go_sem]) rfl ⟨Or.inl ⟨HE.out, rfl⟩, ba _ _⟩

theorem GetItem_other (S : ByteArray) (w : World) (hs : S.size ≤ maxLen) (c : UInt8) (l : List UInt8) (h : S.data.toList = c :: l) (hc : 1 < c.toNat) : Calls Try.prog 8 #[.string S] w (ItemGot S w) := by
  have HE := Lib.hid (Ev.getI_other h hc)
  obtain ⟨h1, h2, h3, h4⟩ := head_list h
  have hsl := fun w => slice_head Try.prog w 9 Try.underlying9 S (by omega)
  have e0 : ¬ c = 0 := fun h => by rw [h] at hc; exact absurd hc (by decide)
  have e1 : ¬ c = 1 := fun h => by rw [h] at hc; exact absurd hc (by decide)
  have n0 : ¬ (S.extract 0 1).toList = [0] := by rw [h2]; simpa using e0
  have n1 : ¬ (S.extract 0 1).toList = [1] := by rw [h2]; simpa using e1
  have n0b : ((S.extract 0 1).toList == [0]) = false := by simpa using n0
  have n1b : ((S.extract 0 1).toList == [1]) = false := by simpa using n1
  have hz : 1 ≤ S.size := by omega
  unfold maxLen at hs
  clear h h1 h2 hc e0 e1
  generalize S.extract 0 1 = T at *
  go_enter Try.func8, Try.ntmps8
  go_wp2
  exact bodyPost_ret (v := .tuple #[item false 0 (.slice none 0 0), .bool false]) (by simp [results, Try.results8, go_sem]) rfl ⟨Or.inl ⟨HE.out, rfl⟩, ba _ _⟩

theorem GetItem_e0 (S : ByteArray) (w : World) (hs : S.size ≤ maxLen) (l : List UInt8) (h : S.data.toList = 0 :: l) (hg : Ev.get (S.extract 1 S.size) = none) : Calls Try.prog 8 #[.string S] w (ItemGot S w) := by
  have HE := Lib.hid (show Ev.getI S = none by rw [Ev.getI_event h, hg]; rfl)
  obtain ⟨h1, h2, h3, h4⟩ := head_list h
  have hsl := fun w => slice_head Try.prog w 9 Try.underlying9 S (by omega)
  have htl := fun w => slice_tail Try.prog w 9 Try.underlying9 S (by omega)
  have n0b : ((S.extract 0 1).toList == [0]) = true := by simpa using h2
  have hU : (S.extract 1 S.size).size ≤ maxLen := by rw [ByteArray.size_extract]; omega
  have cG := fun w => EGet_no (S.extract 1 S.size) w hU hg
  have H := Lib.hid cG
  have hz : 1 ≤ S.size := by omega
  clear h h1 hs cG hg hU
  generalize S.extract 0 1 = T at *
  generalize S.extract 1 S.size = U at *
  go_enter Try.func8, Try.ntmps8
  go_wp2_with (go_at_call 10; ((with_reducible refine (H.out _).mono ?_); rintro e w1 ⟨rfl, b1⟩; have B1 := (Blk.new w 26 #[.bool false, .int .i64 0, .slice none 0 0]).later b1; obtain ⟨c0, c1, c2⟩ := B1.three; have c3 := B1.frozen; have c4 := B1.lt; have B2 := (B1.put3 (.bool false) (.int .i64 0) (.slice none 0 0)).alloc (.cells #[.int .i64 0, .slice none 0 0] 24); have HR := Lib.hid (And.intro B2.three (below_put3 (bt (ba _ _) b1) (Nat.le_refl _) (.bool false) (.int .i64 0) (.slice none 0 0))); clear B1 B2))
  exact bodyPost_ret (v := .tuple #[item false 0 (.slice none 0 0), .bool false]) (by simp [results, Try.results8, go_sem, HR.out.1.1, HR.out.1.2.1, HR.out.1.2.2]) rfl ⟨Or.inl ⟨HE.out, rfl⟩, HR.out.2.alloc (by simp only [World.size_setCell]; omega) _⟩
theorem GetItem_e1 (S : ByteArray) (w : World) (hs : S.size ≤ maxLen) (l : List UInt8) (h : S.data.toList = 0 :: l) (t : Int) (m : List V3) (hg : Ev.get (S.extract 1 S.size) = some (t, m)) : Calls Try.prog 8 #[.string S] w (ItemGot S w) := by
  have HE := Lib.hid (show Ev.getI S = some (false, t, m) by rw [Ev.getI_event h, hg]; rfl)
  obtain ⟨h1, h2, h3, h4⟩ := head_list h
  have hsl := fun w => slice_head Try.prog w 9 Try.underlying9 S (by omega)
  have htl := fun w => slice_tail Try.prog w 9 Try.underlying9 S (by omega)
  have n0b : ((S.extract 0 1).toList == [0]) = true := by simpa using h2
  have hU : (S.extract 1 S.size).size ≤ maxLen := by rw [ByteArray.size_extract]; omega
  have cG := fun w => EGet_yes (S.extract 1 S.size) w hU t m hg
  have H := Lib.hid cG
  have hz : 1 ≤ S.size := by omega
  clear h h1 hs cG hg hU
  generalize S.extract 0 1 = T at *
  generalize S.extract 1 S.size = U at *
  go_enter Try.func8, Try.ntmps8
  go_wp2_with (go_at_call 10; ((with_reducible refine (H.out _).mono ?_); rintro e w1 ⟨v, ⟨rfl, hv⟩, b1⟩; obtain ⟨A1, cap1, rfl⟩ := hv.shape; have B1 := (Blk.new w 26 #[.bool false, .int .i64 0, .slice none 0 0]).later b1; obtain ⟨c0, c1, c2⟩ := B1.three; have c3 := B1.frozen; have c4 := B1.lt; have B2 := (B1.put3 (.bool false) (.int .i64 t) (.slice A1 m.length cap1)).alloc (.cells #[.int .i64 t, .slice A1 m.length cap1] 24); have hv2 := ((hv.put3 (g := w.heap.size) (by simp) (.bool false) (.int .i64 t) (.slice A1 m.length cap1)).later (ba _ (.cells #[.int .i64 t, .slice A1 m.length cap1] 24))).weak (base' := w.heap.size) (by simp); have HR := Lib.hid (And.intro B2.three (And.intro (below_put3 (bt (ba _ _) b1) (Nat.le_refl _) (.bool false) (.int .i64 t) (.slice A1 m.length cap1)) hv2)); clear B1 B2 hv hv2))
  exact bodyPost_ret (v := .tuple #[item false t (.slice A1 m.length cap1), .bool true]) (by simp [results, Try.results8, go_sem, HR.out.1.1, HR.out.1.2.1, HR.out.1.2.2]) rfl ⟨Or.inr ⟨_, _, _, _, HE.out, rfl, HR.out.2.2⟩, HR.out.2.1.alloc (by simp only [World.size_setCell]; omega) _⟩
theorem GetItem_m0 (S : ByteArray) (w : World) (hs : S.size ≤ maxLen) (l : List UInt8) (h : S.data.toList = 1 :: l) (hg : Num.getAt S.data.toList 1 = none ∨ ∃ u k, Num.getAt S.data.toList 1 = some (u, k) ∧ 2305843009213693952 < u) : Calls Try.prog 8 #[.string S] w (ItemGot S w) := by
  have HE := Lib.hid (show Ev.getI S = none by
    rw [Ev.getI_mark h]
    rcases hg with hg | ⟨u, k, hg, hu⟩
    · rw [hg]
    · rw [hg]; exact if_neg (by omega))
  have cT : ∀ w, Calls Try.prog 29 #[.string S, .int .i64 1] w fun e w' => e = .returned (.tuple #[.int .i64 0, .int .i64 0, .bool false]) ∧ w = w' := fun w => by
    rcases hg with hg | ⟨u, k, hg, hu⟩
    · exact getTime_no S 1 w hs hg
    · exact getTime_big S 1 w hs u k hg hu
  obtain ⟨h1, h2, h3, h4⟩ := head_list h
  have hsl := fun w => slice_head Try.prog w 9 Try.underlying9 S (by omega)
  have n0 : ¬ (S.extract 0 1).toList = [0] := by rw [h2]; decide
  have n0b : ((S.extract 0 1).toList == [0]) = false := by simpa using n0
  have n1b : ((S.extract 0 1).toList == [1]) = true := by simpa using h2
  have H := Lib.hid cT
  have hz : 1 ≤ S.size := by omega
  clear h h1 hs cT hg
  generalize S.extract 0 1 = T at *
  go_enter Try.func8, Try.ntmps8
  go_wp2_with (go_at_call 29; ((with_reducible refine (H.out _).mono ?_); rintro e w1 ⟨rfl, rfl⟩))
  exact bodyPost_ret (v := .tuple #[item false 0 (.slice none 0 0), .bool false]) (by simp [results, Try.results8, go_sem]) rfl ⟨Or.inl ⟨HE.out, rfl⟩, ba _ _⟩
theorem GetItem_m1 (S : ByteArray) (w : World) (hs : S.size ≤ maxLen) (l : List UInt8) (h : S.data.toList = 1 :: l) (u k : Nat) (hg : Num.getAt S.data.toList 1 = some (u, k)) (hu : u ≤ 2305843009213693952) (hk : ¬ k = S.size) : Calls Try.prog 8 #[.string S] w (ItemGot S w) := by
  have HE := Lib.hid (show Ev.getI S = none by rw [Ev.getI_mark h, hg]; exact if_neg (by omega))
  have cT := fun w => getTime_yes S 1 w hs u k hg hu
  obtain ⟨h1, h2, h3, h4⟩ := head_list h
  have hsl := fun w => slice_head Try.prog w 9 Try.underlying9 S (by omega)
  have n0 : ¬ (S.extract 0 1).toList = [0] := by rw [h2]; decide
  have n0b : ((S.extract 0 1).toList == [0]) = false := by simpa using n0
  have n1b : ((S.extract 0 1).toList == [1]) = true := by simpa using h2
  have H := Lib.hid cT
  have hz : 1 ≤ S.size := by omega
  have hk1 : ¬ (k : Int) = (S.size : Int) := by omega
  have hk2 : ((k : Int) == (S.size : Int)) = false := by rw [beq_eq_false_iff_ne]; omega
  unfold maxLen at hs
  clear h h1 cT hg hk
  generalize S.extract 0 1 = T at *
  go_enter Try.func8, Try.ntmps8
  go_wp2_with (go_at_call 29; ((with_reducible refine (H.out _).mono ?_); rintro e w1 ⟨rfl, rfl⟩))
  exact bodyPost_ret (v := .tuple #[item false 0 (.slice none 0 0), .bool false]) (by simp [results, Try.results8, go_sem]) rfl ⟨Or.inl ⟨HE.out, rfl⟩, ba _ _⟩
theorem GetItem_m2 (S : ByteArray) (w : World) (hs : S.size ≤ maxLen) (l : List UInt8) (h : S.data.toList = 1 :: l) (u : Nat) (hg : Num.getAt S.data.toList 1 = some (u, S.size)) (hu : u ≤ 2305843009213693952) : Calls Try.prog 8 #[.string S] w (ItemGot S w) := by
  have HE := Lib.hid (show Ev.getI S = some (true, (u : Int), []) by rw [Ev.getI_mark h, hg]; exact if_pos ⟨hu, rfl⟩)
  have cT := fun w => getTime_yes S 1 w hs u S.size hg hu
  obtain ⟨h1, h2, h3, h4⟩ := head_list h
  have hsl := fun w => slice_head Try.prog w 9 Try.underlying9 S (by omega)
  have n0 : ¬ (S.extract 0 1).toList = [0] := by rw [h2]; decide
  have n0b : ((S.extract 0 1).toList == [0]) = false := by simpa using n0
  have n1b : ((S.extract 0 1).toList == [1]) = true := by simpa using h2
  have H := Lib.hid cT
  have hz : 1 ≤ S.size := by omega
  unfold maxLen at hs
  clear h h1 cT hg
  generalize S.extract 0 1 = T at *
  go_enter Try.func8, Try.ntmps8
  go_wp2_with (go_at_call 29; ((with_reducible refine (H.out _).mono ?_); rintro e w1 ⟨rfl, rfl⟩))
  exact bodyPost_ret (v := .tuple #[item true (u : Int) (.slice none 0 0), .bool true]) (by simp [results, Try.results8, go_sem]) rfl ⟨Or.inr ⟨_, _, _, _, HE.out, rfl, NewAt.nil _ _⟩, ba _ _⟩
theorem GetItem_any (S : ByteArray) (w : World) (hs : S.size ≤ maxLen) : Calls Try.prog 8 #[.string S] w (ItemGot S w) := by
  rcases hl : S.data.toList with _ | ⟨c, r⟩
  · have hz : S.size = 0 := by
      have : S.size = S.data.toList.length := by simp
      rw [this, hl]; rfl
    exact GetItem_nil S w hz
  · rcases (by omega : c.toNat = 0 ∨ c.toNat = 1 ∨ 1 < c.toNat) with hc | hc | hc
    · obtain rfl : c = 0 := UInt8.toNat_inj.1 hc
      rcases hg : Ev.get (S.extract 1 S.size) with _ | ⟨t, m⟩
      · exact GetItem_e0 S w hs r hl hg
      · exact GetItem_e1 S w hs r hl t m hg
    · obtain rfl : c = 1 := UInt8.toNat_inj.1 hc
      rcases hg : Num.getAt S.data.toList 1 with _ | ⟨u, k⟩
      · exact GetItem_m0 S w hs r hl (Or.inl hg)
      · by_cases hu : u ≤ 2305843009213693952
        · by_cases hk : k = S.size
          · subst hk; exact GetItem_m2 S w hs r hl u hg hu
          · exact GetItem_m1 S w hs r hl u k hg hu hk
        · exact GetItem_m0 S w hs r hl (Or.inr ⟨u, k, hg, by omega⟩)
    · exact GetItem_other S w hs c r hl hc
theorem GetItem_no (S : ByteArray) (w : World) (hs : S.size ≤ maxLen) (h : Ev.getI S = none) :
    Calls Try.prog 8 #[.string S] w fun e w' => e = .returned (.tuple #[item false 0 (.slice none 0 0), .bool false]) ∧ Below w.heap.size w w' :=
  (GetItem_any S w hs).mono fun _ _ ⟨hg, hw⟩ => by
    rcases hg with ⟨_, he⟩ | ⟨m, t, l, v, hg, _⟩
    · exact ⟨he, hw⟩
    · rw [h] at hg; cases hg
theorem GetItem_yes (S : ByteArray) (w : World) (hs : S.size ≤ maxLen) (m : Bool) (t : Int) (l : List V3) (h : Ev.getI S = some (m, t, l)) :
    Calls Try.prog 8 #[.string S] w fun e w' => ∃ v, (e = .returned (.tuple #[item m t v, .bool true]) ∧ NewAt w.heap.size w' v l) ∧ Below w.heap.size w w' :=
  (GetItem_any S w hs).mono fun _ _ ⟨hg, hw⟩ => by
    rcases hg with ⟨hg, _⟩ | ⟨m', t', l', v, hg, he, hv⟩
    · rw [h] at hg; cases hg
    · rw [h] at hg
      obtain ⟨rfl, h4⟩ := Prod.mk.inj (Option.some.inj hg)
      obtain ⟨rfl, rfl⟩ := Prod.mk.inj h4
      exact ⟨v, ⟨he, hv⟩, hw⟩
end Go.Proofs.Ytbmkbpehkpdcmaa
