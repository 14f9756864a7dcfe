/- MergeLow: the walk. -/
import Derived.Test.YtcggkbopipnnoaaEx16
import Derived.Test.YtcggkbopipnnoaaCells3
import Derived.Deep.DeepCutAuto
import Derived.Deep.RegionHeld3
import Derived.Deep.AppendLies
namespace Go.Proofs.Ytcggkbopipnnoaa
open Go.ChangeShapes Go.WideShapes Go.ChangeAt Go.RowKit
open Mrg (Hd hlt ilt Least PickIs LowIs liveB keyI holdsB IsBest NoneHas)
set_option linter.unusedVariables false
set_option linter.unusedSimpArgs false

def lowH (c : Nat) : Hd := (decide (c % 3 = 0), ((c / 16 % 4 : Nat) : Int), ((c / 64 : Nat) : Int), decide (c % 4 = 1))
theorem lowH_obj (c : Nat) (h : c < 256) : rowH (lowH c) = (#[.bool ((c : Int).tmod 3 == 0), .int .i64 (IntKind.i64.wrap (((c : Int) / 16).tmod 4)), .int .i64 (IntKind.i64.wrap ((c : Int) / 64)), .bool ((c : Int).tmod 4 == 1)] : Array Value).toList := by
  have e3 : (c : Int).tmod 3 = ((c % 3 : Nat) : Int) := by rw [Int.tmod_eq_emod_of_nonneg (by omega)]; omega
  have e4 : (c : Int).tmod 4 = ((c % 4 : Nat) : Int) := by rw [Int.tmod_eq_emod_of_nonneg (by omega)]; omega
  have e5 : ((c : Int) / 16).tmod 4 = ((c / 16 % 4 : Nat) : Int) := by rw [Int.tmod_eq_emod_of_nonneg (by omega)]; omega
  rw [e3, e4, e5, IntWalk.i64_in _ (by omega), IntWalk.i64_in _ (by omega)]
  unfold lowH
  have a1 : (((c % 3 : Nat) : Int) == 0) = decide (c % 3 = 0) := by rw [Bool.eq_iff_iff]; simp; omega
  have a2 : (((c % 4 : Nat) : Int) == 1) = decide (c % 4 = 1) := by rw [Bool.eq_iff_iff]; simp; omega
  rw [a1, a2]
  rfl
def lowL (l : List UInt8) : List Hd := (l.take 6).map fun b => lowH b.toNat
theorem low_len (l : List UInt8) : (lowL l).length = min 6 l.length := by unfold lowL; simp
theorem low_snoc (l : List UInt8) (k : Nat) (h : k < l.length) (h6 : k < 6) : (lowL l).take (k + 1) = (lowL l).take k ++ [lowH (l[k]'h).toNat] := by
  rw [List.take_succ_eq_append_getElem (by rw [low_len]; omega)]
  unfold lowL; simp
theorem szHL (W : World) : (sizeOf (Try.prog.elem 22)).run Try.prog W = .ok 4 W := by kernel_rfl
theorem undHL : Try.prog.underlying 22 = some (.slice (Try.prog.elem 22)) := by kernel_rfl
theorem headL_one (x : Hd) : ∀ u ∈ rowH x, u.oneCell' = true := by simp [Value.oneCell']
theorem cell_laterL {w w' : World} {a : Addr} {v : Value} (h : w.cell? a = some v) (hb : Below w.heap.size w w') : w'.cell? a = some v := by rw [hb.cell (World.block_lt_of_cell? w _ h)]; exact h
/-- What Low tells, behind a look at each head. -/
theorem low_fin {L : List Hd} {t p : Int} {ok : Bool} (hl : LowIs L t ok) (hp : PickIs L p) :
    ((ok == L.any liveB) = true) ∧ (ok = true ∨ t = 0) ∧ (L.any liveB = false ∨ L.any (fun h => liveB h && keyI h == t) = true) ∧ (p < 0 ∨ ∃ (q : Nat) (hq : q < L.length), p = q ∧ (L[q]'hq).1 = true ∧ (L[q]'hq).2.1 = t) := by
  have h4 : p < 0 ∨ ∃ (q : Nat) (hq : q < L.length), p = q ∧ (L[q]'hq).1 = true ∧ (L[q]'hq).2.1 = t := by
    rcases Mrg.pick_low hp hl with rfl | h
    · exact Or.inl (by omega)
    · exact Or.inr h
  rcases hl with ⟨rfl, rfl, h⟩ | ⟨rfl, ⟨j, hj, h1, h2⟩, h3⟩
  · have : L.any liveB = false := by
      rw [List.any_eq_false]
      intro x hx
      obtain ⟨j, hj, rfl⟩ := List.getElem_of_mem hx
      rw [h j hj]; simp
    exact ⟨by rw [this]; rfl, Or.inr rfl, Or.inl this, h4⟩
  · have : L.any liveB = true := List.any_eq_true.2 ⟨_, List.getElem_mem hj, h1⟩
    have h5 : L.any (fun h => liveB h && keyI h == t) = true := List.any_eq_true.2 ⟨_, List.getElem_mem hj, by rw [h1, h2]; simp⟩
    exact ⟨by rw [this]; rfl, Or.inl rfl, Or.inr h5, h4⟩
theorem low_all {L : List Hd} {t : Int} {ok : Bool} (hl : LowIs L t ok) (j : Nat) (hj : j < L.length) (h : liveB (L[j]'hj) = true) : ¬ keyI (L[j]'hj) < t := by
  rcases hl with ⟨_, _, h1⟩ | ⟨_, _, h3⟩
  · rw [h1 j hj] at h; exact absurd h (by simp)
  · have := h3 j hj h; omega
theorem any_snoc {α : Type} (p : α → Bool) (l : List α) (k : Nat) (h : k < l.length) : (l.take (k + 1)).any p = ((l.take k).any p || p (l[k]'h)) := by
  rw [List.take_succ_eq_append_getElem h, List.any_append, List.any_cons, List.any_nil, Bool.or_false]
set_option maxRecDepth 20000 in
set_option maxHeartbeats 4000000 in
theorem walk_MergeLow (u : Value) (L : List Hd) (v : Value) (l : List UInt8) (w : World) (hu : At w 4 rowH u L) (hL : L.length ≤ 4398046511104) (hv : BytesAt w v l) (hl : l.length ≤ 140737488351232) :
    Calls Try.prog 6 #[u, v] w fun e w' => e = .returned (.bool true) ∧ Below w.heap.size w w' := by
  obtain ⟨A, n, cap, hve, hn, hc⟩ : ∃ (A : Option Addr) (n cap : Nat), v = .slice A n cap ∧ n = l.length ∧ (0 < n → ∃ a, A = some a ∧ ∀ j (hj : j < l.length), w.cell? (a.add j) = some (.int .u8 (l[j].toNat : Int))) := by
    rcases hv with ⟨rfl, rfl⟩ | ⟨a, cap, rfl, h1, h2, h3⟩
    · exact ⟨none, 0, 0, rfl, rfl, fun h => absurd h (by omega)⟩
    · exact ⟨some a, _, cap, rfl, rfl, fun _ => ⟨a, rfl, h3⟩⟩
  subst hve
  obtain rfl : n = l.length := hn
  obtain ⟨i0, hi, hz0, hz1, hz2⟩ := info_parts (P := Try.prog) (e := 28) (z := .agg #[.bool false, .int .i64 0, .int .i64 0, .bool false]) (size := 4) (bytes := 32) (by kernel_rfl)
  obtain ⟨U, ucap, rfl, _, _, _⟩ := hu.shape
  have H := Lib.hid (And.intro hc hu); clear hc hv hu
  go_enter Try.func6, Try.ntmps6
  go_wp2_with (go_at_call 8; ((with_reducible refine (examples_any _).mono ?_); rintro e w0 ⟨rfl, b0⟩; have HB := Lib.hid b0; clear b0))
  go_loopw [0, 6] (fun lv iv wr => ∃ (k : Nat), k ≤ l.length ∧ k ≤ 6 ∧ iv = .int .i64 k ∧ At wr 4 rowH lv (L ++ (lowL l).take k) ∧ Below w.heap.size w wr) (fun _ i _ => 6 - (intOf i).toNat)
  case atStart => exact ⟨0, Nat.zero_le _, Nat.zero_le _, rfl, by simpa using H.out.2.later HB.out, HB.out⟩
  case round =>
    clear HB
    obtain ⟨k, hk, hk6, rfl, hO, hb⟩ := hrel
    have hln : (L ++ (lowL l).take k).length = L.length + k := by rw [List.length_append, List.length_take, low_len]; omega
    obtain ⟨B, d, rfl, b1, b2, b3⟩ := hO.shape
    by_cases hlt : k < l.length ∧ k < 6
    · obtain ⟨hlt, hlt6⟩ := hlt
      obtain ⟨a, rfl, hc⟩ := H.out.1 (by omega)
      have hcell := hc k hlt
      rw [← hb.cell (World.block_lt_of_cell? w _ hcell)] at hcell
      have hsn := low_snoc l k hlt hlt6
      have hx := (l[k]'hlt).toNat_lt
      generalize (l[k]'hlt).toNat = c at *
      obtain ⟨N, hN⟩ : ∃ N, N = (L ++ (lowL l).take k).length := ⟨_, rfl⟩
      rw [← hN] at hO ⊢
      obtain ⟨B', hrun, hat⟩ := At.full (P := Try.prog) undHL szHL hO
      have hN2 : N ≤ 4398046511110 := by omega
      have hN3 : N ≤ 9223372036854775807 := by omega
      have K := Lib.hid (And.intro hO (And.intro hb (And.intro hsn (And.intro hat (And.intro hN hln))))); clear hO hb hsn hat hN hln b1 b2 b3 hc
      go_upto_region 7 with fail
      have hq1 : IntKind.u8.wrap ((c : Int) / 16) = (c : Int) / 16 := by rw [IntKind.wrap_u8]; omega
      have hq2 : IntKind.u8.wrap ((c : Int) / 64) = (c : Int) / 64 := by rw [IntKind.wrap_u8]; omega
      go_region_held3 (fun w' => w'.cell? (a.add k) = some (.int .u8 (c : Int)))
        (first
          | go_keep
          | exact cell_laterL hcell b5)
        ((refine step_append_full rfl (.tmp 32) (.tmp 59) 22 rfl 28 i0 (.agg #[.bool false, .int .i64 0, .int .i64 0, .bool false]) 4 32 Try.underlying22 hi hz0 hz1 hz2 rfl (by decide) (f := rowH) (fun _ => rfl) headL_one B' N _ K.out.2.2.2.2.1 rfl (K.out.2.2.2.1.later (below_drew (ba _ _))) ⟨_, 0, none⟩ 1 (lowH c) rfl (by rw [lowH_obj c (by omega)]; exact new_cells rfl _ _) (by unfold maxLen; omega) (by omega) (by decide) ?_; intro v5 w5 hO5 hg5; have b5 : Below wr.heap.size wr w5 := (below_drew (ba wr _)).trans (grownBy_below hg5 (by simp only [World.size_drew, World.size_alloc]; omega) (fun k hk => by simp at hk)); obtain ⟨A5, n5, c5, rfl⟩ := own_shape hO5; clear hg5))
      go_simp
      go_wp2
      go_roundw
      case rel => exact ⟨k + 1, by omega, by omega, by go_num, by rw [K.out.2.2.1, ← List.append_assoc]; exact Own.at_ (f := rowH) (k := 4) (fun _ => rfl) hO5, bt K.out.2.1 b5⟩
      case measure => simp [intOf]; omega
    · have hT : (lowL l).take k = lowL l := List.take_of_length_le (by rw [low_len]; omega)
      rw [hT] at hO ⊢
      have hk7 : L.length + k ≤ 4398046511110 := by omega
      rw [hT] at hln
      generalize hM : L ++ lowL l = M at *
      clear hM
      have cL := Low_any M _ wr hO.heads (by omega)
      have K := Lib.hid (And.intro hO (And.intro hb (And.intro cL hln))); clear hO hb cL hln hT
      have hcond : ¬ k < l.length ∨ (k < l.length ∧ ¬ k < 6) := by omega
      clear hlt hk hk6
      have hMl : M.length ≤ 4398046511110 := by have := K.out.2.2.2; omega
      rcases hcond with hc1 | ⟨hc1, hc2⟩
      all_goals
        go_wp2_with fail
        go_at_call 10
        ((with_reducible refine (K.out.2.2.1).mono ?_); rintro e w1 ⟨t, ok, ⟨rfl, hLI⟩, b1⟩)
        have hO1 := K.out.1.later b1
        have cP := fun W (h : Below w1.heap.size w1 W) => Pick_any M _ W (hO1.later h).heads
        have KK := Lib.hid (And.intro hO1 (And.intro (bt K.out.2.1 b1) (And.intro cP hLI))); clear hO1 b1 cP hLI K
        go_wp2_with fail
        go_loopw [9, 10, 11, 12] (fun av nv iv tv wr => wr = w1 ∧ ∃ (m : Nat), m ≤ M.length ∧ iv = .int .i64 m ∧ av = .bool ((M.take m).any (fun h => liveB h && keyI h == t)) ∧ nv = .bool ((M.take m).any liveB)) (fun _ _ i _ _ => M.length - (intOf i).toNat)
        case atStart => exact ⟨rfl, 0, Nat.zero_le _, rfl, rfl, rfl⟩
        case round =>
          obtain ⟨rfl, m, hm, rfl, rfl, rfl⟩ := hrel
          by_cases hlt : m < M.length
          · obtain ⟨g, rfl, hc⟩ := KK.out.1.cells rfl (by omega)
            obtain ⟨c0, c1, c2, c3⟩ := hc.row4 m hlt rfl
            have s1 := any_snoc (fun h => liveB h && keyI h == t) M m hlt
            have s2 := any_snoc liveB M m hlt
            have hlo := low_all KK.out.2.2.2 m hlt
            generalize M[m]'hlt = h at *
            generalize (M.take m).any (fun h => liveB h && keyI h == t) = X at *
            generalize (M.take m).any liveB = Y at *
            obtain ⟨x, s, y, dn⟩ := h
            simp only at c0 c1 c2 c3
            have KS := Lib.hid (And.intro s1 (And.intro s2 hlo)); clear s1 s2 hlo hc
            cases x
            · cases dn
              · have hge : ¬ y < t := KS.out.2.2 rfl
                cases X <;> cases Y <;> by_cases hyt : y = t
                all_goals
                  go_wp2
                  go_roundw
                  case rel => exact ⟨by first | rfl | trivial, m + 1, by omega, by go_num, congrArg Value.bool (by rw [KS.out.1]; simp [liveB, keyI, hyt]), congrArg Value.bool (by rw [KS.out.2.1]; simp [liveB])⟩
                  case measure => simp [intOf]; omega
              · go_wp2
                go_roundw
                case rel => exact ⟨by first | rfl | trivial, m + 1, by omega, by go_num, congrArg Value.bool (by rw [KS.out.1]; simp [liveB]), congrArg Value.bool (by rw [KS.out.2.1]; simp [liveB])⟩
                case measure => simp [intOf]; omega
            · have hge : ¬ s < t := KS.out.2.2 rfl
              cases X <;> cases Y <;> by_cases hyt : s = t
              all_goals
                go_wp2
                go_roundw
                case rel => exact ⟨by first | rfl | trivial, m + 1, by omega, by go_num, congrArg Value.bool (by rw [KS.out.1]; simp [liveB, keyI, hyt]), congrArg Value.bool (by rw [KS.out.2.1]; simp [liveB])⟩
                case measure => simp [intOf]; omega
          · have hTT : M.take m = M := List.take_of_length_le (by omega)
            rw [hTT]
            have hf := fun p (h : PickIs M p) => low_fin KK.out.2.2.2 h
            have hOO := KK.out.1
            generalize M.any (fun h => liveB h && keyI h == t) = X at *
            generalize M.any liveB = Y at *
            go_wp2_with fail
            go_at_call 12
            ((with_reducible refine (KK.out.2.2.1 _ (Below.refl _ _)).mono ?_); rintro e w5 ⟨p, ⟨rfl, hPI⟩, b5⟩)
            obtain ⟨f1, f2, f3, f4⟩ := hf p hPI
            have HZ := Lib.hid (And.intro (bt KK.out.2.1 b5) (hOO.later b5)); clear hf hPI hOO b5
            obtain rfl : ok = Y := by simpa using f1
            rcases f4 with f4 | ⟨q, hq, rfl, f5, f6⟩
            · rcases f2 with rfl | rfl
              · obtain rfl : X = true := by simpa using f3
                go_wp2
                go_ret
                exact ⟨rfl, HZ.out.1⟩
              · cases ok
                · go_wp2
                  go_ret
                  exact ⟨rfl, HZ.out.1⟩
                · obtain rfl : X = true := by simpa using f3
                  go_wp2
                  go_ret
                  exact ⟨rfl, HZ.out.1⟩
            · obtain ⟨g, rfl, hc⟩ := HZ.out.2.cells rfl (by omega)
              obtain ⟨c0, c1, c2, c3⟩ := hc.row4 q hq rfl
              rw [f5] at c0
              rw [f6] at c1
              clear hc c2 c3 f5 f6
              have g3 : ¬ (q : Int) < 0 := by omega
              rcases f2 with rfl | rfl
              · obtain rfl : X = true := by simpa using f3
                go_wp2
                go_ret
                exact ⟨rfl, HZ.out.1⟩
              · cases ok
                · go_wp2
                  go_ret
                  exact ⟨rfl, HZ.out.1⟩
                · obtain rfl : X = true := by simpa using f3
                  go_wp2
                  go_ret
                  exact ⟨rfl, HZ.out.1⟩
end Go.Proofs.Ytcggkbopipnnoaa
