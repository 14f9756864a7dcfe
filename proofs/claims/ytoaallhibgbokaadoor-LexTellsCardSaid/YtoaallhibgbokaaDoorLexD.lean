/- Words of texts: contracts of sign, first. -/
import Derived.Test.YtoaallhibgbokaaDoorLexC
namespace Go.Proofs.YtoaallhibgbokaaDoor
open Go.ChangeShapes Go.WideShapes Go.ChangeAt Go.RowKit
set_option linter.unusedVariables false
set_option linter.unusedSimpArgs false

theorem signs_len : signL.length = 25 := rfl
theorem signOf_snoc (s : Bs) (k : Nat) (hk : k < signL.length) : signOf s (signL.take (k + 1)) [] = if (signL[k]'hk).isPrefixOf s && decide ((signOf s (signL.take k) []).length < (signL[k]'hk).length) then signL[k]'hk else signOf s (signL.take k) [] := by
  unfold signOf
  rw [List.take_succ_eq_append_getElem hk, List.foldl_append]
  rfl
theorem HasP_any (s g : Bs) (b : ByteArray) (hb : b.data.toList = s) (w : World) :
    Calls Tryd.prog 43 #[.string b, .string (mk g)] w fun e w' => e = .returned (.bool (g.isPrefixOf s)) ∧ w' = w := by
  have := Tryd.strings_HasPrefix b (mk g) w
  rw [mk_data, hb] at this
  exact this
set_option maxRecDepth 20000 in
set_option maxHeartbeats 1000000 in
theorem sign_any (s : ByteArray) (w : World) (hs : s.size ≤ 4000000000) (hT : Tab w) :
    Calls Tryd.prog 28 #[.string s] w (TkP (signTk s.data.toList) w) := by
  have hP := fun g w => HasP_any s.data.toList g s rfl w
  have HT := Lib.hid (And.intro hT hP); clear hT hP
  go_enter Tryd.func28, Tryd.ntmps28
  go_wp2
  go_loop [4, 6] (fun b i => ∃ (k : Nat) (x : Bs), k ≤ 25 ∧ i = .int .i64 k ∧ b = .string (mk x) ∧ x = signOf s.data.toList (signL.take k) []) (fun b i => 25 - (intOf i).toNat)
  case atStart => exact ⟨0, [], Nat.zero_le _, rfl, rfl, rfl⟩
  case round =>
    obtain ⟨k, x, hk, rfl, rfl, hx⟩ := hrel
    have HX := Lib.hid hx; clear hx
    by_cases hlt : k < 25
    · have hkl : k < signL.length := hlt
      have hg := (HT.out.1.later (ba w (.cells (tokC 0 ⟨#[]⟩ 0 0) 40))).signs k hkl
      have hsn := signOf_snoc s.data.toList k hkl
      have hlen := (show ∀ g ∈ signL, g.length ≤ 2 by decide) _ (List.getElem_mem hkl)
      generalize (signL[k]'hkl) = g at *
      rw [← HX.out] at hsn
      have hgz := mk_size g
      have hxz := mk_size x
      have hxl : x.length ≤ 9223372036854775807 := by
        have := (show x.length ≤ s.size by
          rw [HX.out]
          rcases signOf_cases s.data.toList (signL.take k) [] with h | ⟨_, h⟩
          · rw [h]; exact Nat.zero_le _
          · have := prefix_len h; simpa using this)
        omega
      obtain ⟨gl, hgl⟩ : ∃ gl, g.length = gl := ⟨_, rfl⟩
      obtain ⟨xl, hxl'⟩ : ∃ xl, x.length = xl := ⟨_, rfl⟩
      rw [hgl] at hgz hsn hlen
      rw [hxl'] at hxz hsn hxl
      obtain ⟨gb, hgb⟩ : ∃ gb, mk g = gb := ⟨_, rfl⟩
      obtain ⟨xb, hxb⟩ : ∃ xb, mk x = xb := ⟨_, rfl⟩
      have cP := fun w => HT.out.2 g w
      rw [hgb] at hg hgz cP
      rw [hxb] at hxz ⊢
      rcases hpb : g.isPrefixOf s.data.toList with _ | _
      · rw [hpb] at cP hsn
        have HC := Lib.hid (And.intro cP (And.intro hsn hxb)); clear cP hsn hpb hxb hgb hgl hxl'
        go_wp2_with (go_at_call 43; ((with_reducible refine (HC.out.1 _).mono ?_); rintro e w1 ⟨rfl, rfl⟩))
        go_round
        case rel => exact ⟨k + 1, x, by omega, by go_num, by rw [HC.out.2.2], by rw [HC.out.2.1]; rfl⟩
        case measure => simp [intOf]; omega
      · rw [hpb] at cP hsn
        by_cases hll : xl < gl
        · rw [decide_eq_true hll] at hsn
          have HC := Lib.hid (And.intro cP (And.intro hsn hgb)); clear cP hsn hpb hxb hgb hgl hxl'
          go_wp2_with (go_at_call 43; ((with_reducible refine (HC.out.1 _).mono ?_); rintro e w1 ⟨rfl, rfl⟩))
          go_round
          case rel => exact ⟨k + 1, g, by omega, by go_num, by rw [HC.out.2.2], by rw [HC.out.2.1]; rfl⟩
          case measure => simp [intOf]; omega
        · rw [decide_eq_false hll] at hsn
          have HC := Lib.hid (And.intro cP (And.intro hsn hxb)); clear cP hsn hpb hxb hgb hgl hxl'
          go_wp2_with (go_at_call 43; ((with_reducible refine (HC.out.1 _).mono ?_); rintro e w1 ⟨rfl, rfl⟩))
          go_round
          case rel => exact ⟨k + 1, x, by omega, by go_num, by rw [HC.out.2.2], by rw [HC.out.2.1]; rfl⟩
          case measure => simp [intOf]; omega
    · obtain rfl : k = 25 := by omega
      have hx : x = signT s.data.toList := HX.out
      have hxz := mk_size x
      have hxl : x.length ≤ s.size := by
        have := (signT_take s.data.toList).2
        rw [← hx] at this; simpa using this
      have hxm : x.length ≤ 9223372036854775807 := by omega
      obtain ⟨xb, hxb⟩ : ∃ xb, mk x = xb := ⟨_, rfl⟩
      obtain ⟨n, hn⟩ : ∃ n, x.length = n := ⟨_, rfl⟩
      have fin : ∀ (W : World), Below w.heap.size w W → TkP (signTk s.data.toList) w (.returned (.tuple #[tokV 4 xb 0 0, .int .i64 (n : Int)])) W := fun W hW => by
        refine ⟨4, x, 0, n, ⟨by rw [hxb], ?_⟩, hW⟩
        unfold signTk
        rw [← hx, hn]
        by_cases h0 : n = 0
        · rw [h0]; exact Or.inl ⟨rfl, rfl⟩
        · rw [if_neg (by simpa using h0)]; exact Or.inr ⟨rfl, by omega⟩
      rw [hn] at hxz hxm
      rw [hxb] at hxz ⊢
      have H := Lib.hid (And.intro fin (fun c => Blk.new w 40 c)); clear fin hx hxb hn hxl
      go_wp2
      obtain ⟨z0, z1, z2, z3⟩ := Blk.four (H.out.2 (tokC 4 xb 0 0))
      exact bodyPost_ret (v := .tuple #[tokV 4 xb 0 0, .int .i64 (n : Int)]) (by simp only [results, Tryd.results28]; simp [go_sem, Act.put, z0, z1, z2, z3]) rfl (H.out.1 _ (ba w _))
end Go.Proofs.YtoaallhibgbokaaDoor
