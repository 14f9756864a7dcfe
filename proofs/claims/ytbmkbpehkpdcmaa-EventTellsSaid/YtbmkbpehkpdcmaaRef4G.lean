/- Contract of the document's own Get (chapter 4). -/
import Derived.Test.YtbmkbpehkpdcmaaEventG
import Derived.Test.YtbmkbpehkpdcmaaEventI
import Derived.Test.YtbmkbpehkpdcmaaRef2G
import Derived.Test.YtbmkbpehkpdcmaaCells
namespace Go.Proofs.Ytbmkbpehkpdcmaa
open Go.ChangeShapes Go.WideShapes Go.ChangeAt Go.RowKit
open Ev (V3 rightV OkV)
set_option linter.unusedVariables false
set_option linter.unusedSimpArgs false

abbrev rowV (x : V3) : List Value := [.int .i64 x.1, .int .i64 x.2.1, .string x.2.2]
/-- What Get leaves. -/
def EventGotR (S : ByteArray) (w : World) (e : Ending) (w' : World) : Prop :=
  ((Ev.get S = none ∧ e = .returned (.tuple #[ev 0 (.slice none 0 0), .bool false])) ∨ ∃ (t : Int) (l : List V3) (v : Value), Ev.get S = some (t, l) ∧ e = .returned (.tuple #[ev t v, .bool true]) ∧ Own w' w.heap.size 83 3 rowV v l) ∧ Below w.heap.size w w'

theorem rGet_e1 (S : ByteArray) (w : World) (hs : S.size ≤ maxLen) (h : Num.getAt S.data.toList 0 = none) : Calls Try.prog 11 #[.string S] w (EventGotR S w) := by
  have E := Lib.hid (Ev.get_none (Ev.pre_none h))
  have H := Lib.hid h; clear h
  go_enter Try.func11, Try.ntmps11
  go_wp2_with (go_at_call 30; ((with_reducible refine (rGet_none _ _ _ hs H.out).mono ?_); rintro e w' ⟨rfl, rfl⟩))
  exact bodyPost_ret (v := .tuple #[ev 0 (.slice none 0 0), .bool false]) (by simp [results, Try.results11, go_sem]) rfl ⟨Or.inl ⟨E.out, rfl⟩, ba _ _⟩
theorem rGet_e2 (S : ByteArray) (w : World) (hs : S.size ≤ maxLen) (u k : Nat) (h : Num.getAt S.data.toList 0 = some (u, k)) (hu : 2305843009213693952 < u) : Calls Try.prog 11 #[.string S] w (EventGotR S w) := by
  have E := Lib.hid (Ev.get_none (Ev.pre_no h (by omega)))
  have H := Lib.hid h; clear h
  go_enter Try.func11, Try.ntmps11
  go_wp2_with (go_at_call 30; ((with_reducible refine (rGet_some _ _ _ hs _ _ H.out).mono ?_); rintro e w' ⟨rfl, rfl⟩))
  exact bodyPost_ret (v := .tuple #[ev 0 (.slice none 0 0), .bool false]) (by simp [results, Try.results11, go_sem]) rfl ⟨Or.inl ⟨E.out, rfl⟩, ba _ _⟩
theorem rGet_e3 (S : ByteArray) (w : World) (hs : S.size ≤ maxLen) (u k : Nat) (h : Num.getAt S.data.toList 0 = some (u, k)) (hu : u ≤ 2305843009213693952) (hk : S.size ≤ k) : Calls Try.prog 11 #[.string S] w (EventGotR S w) := by
  have E := Lib.hid (Ev.get_none (Ev.pre_no h (by omega)))
  have hl : k ≤ S.size := by simpa using (Num.getAt_some h).2.2.2.1
  have H := Lib.hid h; clear h
  have hs' := hs; unfold maxLen at hs'
  go_enter Try.func11, Try.ntmps11
  go_wp2_with (go_at_call 30; ((with_reducible refine (rGet_some _ _ _ hs _ _ H.out).mono ?_); rintro e w' ⟨rfl, rfl⟩))
  exact bodyPost_ret (v := .tuple #[ev 0 (.slice none 0 0), .bool false]) (by simp [results, Try.results11, go_sem]) rfl ⟨Or.inl ⟨E.out, rfl⟩, ba _ _⟩
theorem rGet_e4 (S : ByteArray) (w : World) (hs : S.size ≤ maxLen) (u k : Nat) (h : Num.getAt S.data.toList 0 = some (u, k)) (hu : u ≤ 2305843009213693952) (hk : k < S.size) (hc : 6 < (S[k]'hk).toNat) : Calls Try.prog 11 #[.string S] w (EventGotR S w) := by
  have E := Lib.hid (Ev.get_none (Ev.pre_no h (by rw [Val.getD_in S k hk]; omega)))
  have H := Lib.hid h; clear h
  have hs' := hs; unfold maxLen at hs'
  go_enter Try.func11, Try.ntmps11
  go_wp2_with (go_at_call 30; ((with_reducible refine (rGet_some _ _ _ hs _ _ H.out).mono ?_); rintro e w' ⟨rfl, rfl⟩))
  exact bodyPost_ret (v := .tuple #[ev 0 (.slice none 0 0), .bool false]) (by simp [results, Try.results11, go_sem]) rfl ⟨Or.inl ⟨E.out, rfl⟩, ba _ _⟩

theorem rGetV_none (S : ByteArray) (a : Int) (w : World) (hs : S.size ≤ maxLen) (h : Val.getAt S a = none) :
    Calls Try.prog 32 #[.string S, .int .i64 a] w fun e w' => e = .returned (.tuple #[vv 0 0 ⟨#[]⟩, .int .i64 0, .bool false]) ∧ Below w.heap.size w w' :=
  (rGetV_v S a w hs).mono fun _ _ ⟨he, hw⟩ => ⟨by rw [he, h]; rfl, hw⟩
theorem rGetV_some (S : ByteArray) (a : Int) (w : World) (hs : S.size ≤ maxLen) (k n : Int) (t : ByteArray) (next : Nat) (h : Val.getAt S a = some ((k, n, t), next)) :
    Calls Try.prog 32 #[.string S, .int .i64 a] w fun e w' => e = .returned (.tuple #[vv k n t, .int .i64 (next : Int), .bool true]) ∧ Below w.heap.size w w' :=
  (rGetV_v S a w hs).mono fun _ _ ⟨he, hw⟩ => ⟨by rw [he, h]; rfl, hw⟩

set_option maxRecDepth 20000 in
set_option maxHeartbeats 1000000 in
theorem rGet_e5 (S : ByteArray) (w : World) (hs : S.size ≤ maxLen) (u k : Nat) (h : Num.getAt S.data.toList 0 = some (u, k)) (hu : u ≤ 2305843009213693952) (hk : k < S.size) (hc : (S[k]'hk).toNat ≤ 6) : Calls Try.prog 11 #[.string S] w (EventGotR S w) := by
  have E := Ev.pre_in h hu hk (by rw [Val.getD_in S k hk]; exact hc)
  rw [Val.getD_in S k hk] at E
  have E := Lib.hid E
  have H := Lib.hid h; clear h
  have hs' := hs; unfold maxLen at hs'
  have d1 : decide (S.size ≤ k) = false := decide_eq_false (by omega)
  have d2 : decide (6 < ((S[k]'hk).toNat : Int)) = false := decide_eq_false (by omega)
  go_enter Try.func11, Try.ntmps11
  go_wp2_with (go_at_call 30; ((with_reducible refine (rGet_some _ _ _ hs _ _ H.out).mono ?_); rintro e w' ⟨rfl, rfl⟩))
  clear d1 d2
  generalize hcE : (S[k]'hk).toNat = c at *
  clear hcE
  have hm2 : w.heap.size + 2 ≤ ((w.alloc (.cells #[.int .i64 0, .slice none 0 0] 44)).alloc (.cells #[.int .i64 (u : Int), .slice none 0 0] 44)).heap.size := by simp
  go_loopw [5, 9] (fun av iv wr => ∃ (i : Nat) (l : List V3) (b : Nat) (v : Value), i ≤ c ∧ Ev.vals S (k + 1) i = some (l, b) ∧ av = .int .i64 (b : Int) ∧ iv = .int .i64 (i : Int) ∧
      Blk wr w.heap.size 44 #[.int .i64 0, .slice none 0 0] ∧ Blk wr (w.heap.size + 1) 44 #[.int .i64 (u : Int), v] ∧ wr.ownsRow (w.heap.size + 2) 83 3 v l.length (cells3 l) ∧ Below w.heap.size w wr ∧ w.heap.size + 2 ≤ wr.heap.size)
    (fun _ iv _ => c - (intOf iv).toNat)
  case atStart =>
    refine ⟨0, [], k + 1, .slice none 0 0, Nat.zero_le _, rfl, by go_num, rfl, ?_, ?_, World.ownsRow_nil _ _ _ _, bt (ba _ _) (ba _ _), hm2⟩
    · exact (Blk.new w _ _).alloc _
    · have := Blk.new (w.alloc (.cells #[.int .i64 0, .slice none 0 0] 44)) 44 #[.int .i64 (u : Int), .slice none 0 0]
      rwa [World.size_alloc] at this
  case round =>
    clear hm2
    obtain ⟨i, l, b, v, hic, hvals, rfl, rfl, hB1, hB2, hown, hW, hz⟩ := hrel
    obtain ⟨g1, g2, g3, g4, g5⟩ := Ev.vals_spec (by omega) hvals
    have HV := Lib.hid (And.intro hvals (And.intro g1 g4)); clear hvals g4 g5
    have hl6 : l.length ≤ 6 := by omega
    clear g1
    have K := Lib.hid (And.intro hB1 (And.intro hB2 (And.intro hown hW))); clear hB1 hB2 hown hW
    by_cases hlt : i < c
    · rcases hg : Val.getAt S (b : Int) with _ | ⟨⟨x, y, z⟩, nx⟩
      · have HE := Lib.hid (show Ev.get S = none from Ev.get_none (by
          have h0 := Ev.vals_none (Ev.vals_stop HV.out.1 hg) (c - (i + 1))
          rw [show i + 1 + (c - (i + 1)) = c by omega] at h0
          rw [E.out, h0]; rfl))
        have HG := Lib.hid hg; clear hg
        go_wp2_with fail
        go_at_call 32
        ((with_reducible refine (rGetV_none _ _ _ hs HG.out).mono ?_); rintro e w5 ⟨rfl, b5⟩)
        have bA := ba w5 (.cells #[.int .i64 0, .int .i64 0, .string ⟨#[]⟩] 83)
        have B0 := K.out.1.later b5
        have z0 : w5.cell? ⟨w.heap.size, 0, none⟩ = some (.int .i64 0) := B0.cell 0
        have z1 : w5.cell? ⟨w.heap.size, 1, none⟩ = some (.slice none 0 0) := B0.cell 1
        have z2 := B0.frozen
        have hlt' := B0.lt
        have B2 := ((B0.set_ 0 (.int .i64 0)).set_ 1 (.slice none 0 0)).alloc (.cells #[.int .i64 0, .int .i64 0, .string ⟨#[]⟩] 83)
        have r0 : (((w5.setCell ⟨w.heap.size, 0, none⟩ (.int .i64 0)).setCell ⟨w.heap.size, 1, none⟩ (.slice none 0 0)).alloc (.cells #[.int .i64 0, .int .i64 0, .string ⟨#[]⟩] 83)).cell? ⟨w.heap.size, 0, none⟩ = some (.int .i64 0) := B2.cell 0
        have r1 : (((w5.setCell ⟨w.heap.size, 0, none⟩ (.int .i64 0)).setCell ⟨w.heap.size, 1, none⟩ (.slice none 0 0)).alloc (.cells #[.int .i64 0, .int .i64 0, .string ⟨#[]⟩] 83)).cell? ⟨w.heap.size, 1, none⟩ = some (.slice none 0 0) := B2.cell 1
        have hW := (((bt K.out.2.2.2 b5).setCell (p := ⟨w.heap.size, 0, none⟩) (Nat.le_refl _) (.int .i64 0)).setCell (p := ⟨w.heap.size, 1, none⟩) (Nat.le_refl _) (.slice none 0 0)).alloc (by simp only [World.size_setCell]; omega) (.cells #[.int .i64 0, .int .i64 0, .string ⟨#[]⟩] 83)
        have HR := Lib.hid (And.intro r0 (And.intro r1 hW))
        clear b5 bA B0 r0 r1 hW B2
        go_wp2
        exact bodyPost_ret (v := .tuple #[ev 0 (.slice none 0 0), .bool false]) (by simp [results, Try.results11, go_sem, HR.out.1, HR.out.2.1]) rfl ⟨Or.inl ⟨HE.out, rfl⟩, HR.out.2.2⟩
      · have HG := Lib.hid hg; clear hg
        have hvn := fun (h : Ev.vals S (k + 1) i = some (l, b)) => Ev.vals_succ h HG.out
        go_wp2_with fail
        go_at_call 32
        ((with_reducible refine (rGetV_some _ _ _ hs _ _ _ _ HG.out).mono ?_); rintro e w5 ⟨rfl, b5⟩)
        have bA := ba w5 (.cells #[.int .i64 x, .int .i64 y, .string z] 83)
        have b5A := bt b5 bA
        have B2 := K.out.2.1.later b5
        have z0 : w5.cell? ⟨w.heap.size + 1, 1, none⟩ = some v := B2.cell 1
        have hlt' := B2.lt
        have hgs := getAt_spec HG.out
        have hn1 : nx ≤ S.size := hgs.2.2.1
        obtain ⟨i0, hi, hz0, hz1, hz2⟩ := info_parts (P := Try.prog) (e := 83) (z := .agg #[.int .i64 0, .int .i64 0, .string ⟨#[]⟩]) (size := 3) (bytes := 32) (by kernel_rfl)
        have hown2 := ownsRow_later (ownsRow_later K.out.2.2.1 b5A) (ba (w5.alloc (.cells #[.int .i64 x, .int .i64 y, .string z] 83)) (.cells #[.int .i64 x, .int .i64 y, .string z] 83))
        have hsz : w.heap.size + 2 ≤ ((w5.alloc (.cells #[.int .i64 x, .int .i64 y, .string z] 83)).alloc (.cells #[.int .i64 x, .int .i64 y, .string z] 83)).heap.size := by have := b5.size; simp only [World.size_alloc]; omega
        have b5AA := bt b5A (ba (w5.alloc (.cells #[.int .i64 x, .int .i64 y, .string z] 83)) (.cells #[.int .i64 x, .int .i64 y, .string z] 83))
        have HD := Lib.hid (And.intro hown2 (And.intro hsz (And.intro (K.out.1.later b5AA) (And.intro (K.out.2.1.later b5AA) (And.intro (bt K.out.2.2.2 b5AA) hvn)))))
        have h3 := three_new (w5.alloc (.cells #[.int .i64 x, .int .i64 y, .string z] 83)) (.int .i64 x) (.int .i64 y) (.string z) 83
        rw [World.size_alloc] at h3
        have H3 := Lib.hid h3
        clear hown2 hsz b5AA hvn h3 B2 bA b5A hgs b5
        go_wp2_with (at_builtin; refine wpList_append_own _ rfl (.tmp 63) (.tmp 65) 42 rfl (w.heap.size + 2) 83 i0 (.agg #[.int .i64 0, .int .i64 0, .string ⟨#[]⟩]) 3 32 Try.underlying42 hi hz0 hz1 hz2 rfl (by decide) _ _ _ rfl HD.out.1 ⟨_, 0, none⟩ 1 1 [.int .i64 x, .int .i64 y, .string z] rfl rfl H3.out (three_one x y z) (by unfold maxLen; omega) (by omega) HD.out.2.1 ?_; intro v7 w7 ho7 hg7 _; obtain ⟨A7, n7, c7, rfl⟩ := own_shape ho7; have C2 := HD.out.2.2.2.1.grown hg7 (own_ne HD.out.1 (by omega)); have q0 : w7.cell? ⟨w.heap.size + 1, 1, none⟩ = some v := C2.cell 1; have q1 := C2.frozen)
        go_roundw
        case rel =>
          refine ⟨i + 1, l ++ [(x, y, z)], nx, .slice A7 n7 c7, by omega, HD.out.2.2.2.2.2 HV.out.1, rfl, by go_num, ?_, ?_, ?_, ?_, ?_⟩
          · exact (HD.out.2.2.1.grown hg7 (own_ne HD.out.1 (by omega))).far (by simp) _
          · have := C2.set_ 1 (.slice A7 n7 c7)
            simpa using this
          · rw [cells3_snoc, List.length_append]
            exact ownsRow_far ho7 (by simp) _
          · exact ((HD.out.2.2.2.2.1).grown hg7 (by have := HD.out.2.1; omega) (fun k hk => by have := (HD.out.1.lt k hk).1; omega)).setCell (by simp) _
          · have h9 := hg7.size
            have h8 := HD.out.2.1
            rw [World.size_setCell]
            omega
        case measure => simp [intOf]; omega
    · obtain rfl : i = c := by omega
      have hpre : Ev.pre S = some ((u : Int), l, b) := by rw [E.out, HV.out.1]; rfl
      have hgo := Ev.get_of hpre
      have z0 : wr.cell? ⟨w.heap.size, 0, none⟩ = some (.int .i64 0) := K.out.1.cell 0
      have z1 : wr.cell? ⟨w.heap.size, 1, none⟩ = some (.slice none 0 0) := K.out.1.cell 1
      have z2 := K.out.1.frozen
      have z3 : wr.cell? ⟨w.heap.size + 1, 0, none⟩ = some (.int .i64 (u : Int)) := K.out.2.1.cell 0
      have z4 : wr.cell? ⟨w.heap.size + 1, 1, none⟩ = some v := K.out.2.1.cell 1
      by_cases hb : b = S.size
      · have HE := Lib.hid (show Ev.get S = some ((u : Int), l) by rw [hgo, if_pos hb])
        have hb' : ¬ ((b : Int) ≠ (S.size : Int)) := by omega
        have B2 := (K.out.1.set_ 0 (.int .i64 (u : Int))).set_ 1 v
        have r0 : ((wr.setCell ⟨w.heap.size, 0, none⟩ (.int .i64 (u : Int))).setCell ⟨w.heap.size, 1, none⟩ v).cell? ⟨w.heap.size, 0, none⟩ = some (.int .i64 (u : Int)) := B2.cell 0
        have r1 : ((wr.setCell ⟨w.heap.size, 0, none⟩ (.int .i64 (u : Int))).setCell ⟨w.heap.size, 1, none⟩ v).cell? ⟨w.heap.size, 1, none⟩ = some v := B2.cell 1
        have hW := ((K.out.2.2.2).setCell (p := ⟨w.heap.size, 0, none⟩) (Nat.le_refl _) (.int .i64 (u : Int))).setCell (p := ⟨w.heap.size, 1, none⟩) (Nat.le_refl _) v
        have hv := (((show Own wr (w.heap.size + 2) 83 3 rowV v l from K.out.2.2.1).far (p := ⟨w.heap.size, 0, none⟩) (by show w.heap.size < _; omega) (.int .i64 (u : Int))).far (p := ⟨w.heap.size, 1, none⟩) (by show w.heap.size < _; omega) v).lift (base' := w.heap.size) (by omega)
        obtain ⟨A7, n7, c7, rfl⟩ := own_shape K.out.2.2.1
        have HR := Lib.hid (And.intro r0 (And.intro r1 (And.intro hW hv)))
        clear B2 r0 r1 hW hv hb' hgo hpre
        subst hb
        go_wp2
        exact bodyPost_ret (v := .tuple #[ev (u : Int) (.slice A7 n7 c7), .bool true]) (by simp [results, Try.results11, go_sem, HR.out.1, HR.out.2.1]) rfl ⟨Or.inr ⟨_, _, _, HE.out, rfl, HR.out.2.2.2⟩, HR.out.2.2.1⟩
      · have HE := Lib.hid (show Ev.get S = none by rw [hgo, if_neg hb])
        have B2 := (K.out.1.set_ 0 (.int .i64 0)).set_ 1 (.slice none 0 0)
        have r0 : ((wr.setCell ⟨w.heap.size, 0, none⟩ (.int .i64 0)).setCell ⟨w.heap.size, 1, none⟩ (.slice none 0 0)).cell? ⟨w.heap.size, 0, none⟩ = some (.int .i64 0) := B2.cell 0
        have r1 : ((wr.setCell ⟨w.heap.size, 0, none⟩ (.int .i64 0)).setCell ⟨w.heap.size, 1, none⟩ (.slice none 0 0)).cell? ⟨w.heap.size, 1, none⟩ = some (.slice none 0 0) := B2.cell 1
        have hW := ((K.out.2.2.2).setCell (p := ⟨w.heap.size, 0, none⟩) (Nat.le_refl _) (.int .i64 0)).setCell (p := ⟨w.heap.size, 1, none⟩) (Nat.le_refl _) (.slice none 0 0)
        have HR := Lib.hid (And.intro r0 (And.intro r1 hW))
        clear B2 r0 r1 hW hgo hpre z3 z4
        go_wp2
        exact bodyPost_ret (v := .tuple #[ev 0 (.slice none 0 0), .bool false]) (by simp [results, Try.results11, go_sem, HR.out.1, HR.out.2.1]) rfl ⟨Or.inl ⟨HE.out, rfl⟩, HR.out.2.2⟩

theorem rEGet_any (S : ByteArray) (w : World) (hs : S.size ≤ maxLen) : Calls Try.prog 11 #[.string S] w (EventGotR S w) := by
  rcases h : Num.getAt S.data.toList 0 with _ | ⟨u, k⟩
  · exact rGet_e1 S w hs h
  · by_cases hu : u ≤ 2305843009213693952
    · by_cases hk : k < S.size
      · by_cases hc : (S[k]'hk).toNat ≤ 6
        · exact rGet_e5 S w hs u k h hu hk hc
        · exact rGet_e4 S w hs u k h hu hk (by omega)
      · exact rGet_e3 S w hs u k h hu (by omega)
    · exact rGet_e2 S w hs u k h (by omega)
theorem rEGet_no (S : ByteArray) (w : World) (hs : S.size ≤ maxLen) (h : Ev.get S = none) :
    Calls Try.prog 11 #[.string S] w fun e w' => e = .returned (.tuple #[ev 0 (.slice none 0 0), .bool false]) ∧ Below w.heap.size w w' :=
  (rEGet_any S w hs).mono fun _ _ ⟨hg, hw⟩ => by
    rcases hg with ⟨_, he⟩ | ⟨t, l, v, hg, _⟩
    · exact ⟨he, hw⟩
    · rw [h] at hg; cases hg
theorem rEGet_yes (S : ByteArray) (w : World) (hs : S.size ≤ maxLen) (t : Int) (l : List V3) (h : Ev.get S = some (t, l)) :
    Calls Try.prog 11 #[.string S] w fun e w' => ∃ v, (e = .returned (.tuple #[ev t v, .bool true]) ∧ Own w' w.heap.size 83 3 rowV v l) ∧ Below w.heap.size w w' :=
  (rEGet_any S w hs).mono fun _ _ ⟨hg, hw⟩ => by
    rcases hg with ⟨hg, _⟩ | ⟨t', l', v, hg, he, hv⟩
    · rw [h] at hg; cases hg
    · rw [h] at hg
      obtain ⟨rfl, rfl⟩ := Prod.mk.inj (Option.some.inj hg)
      exact ⟨v, ⟨he, hv⟩, hw⟩
end Go.Proofs.Ytbmkbpehkpdcmaa
