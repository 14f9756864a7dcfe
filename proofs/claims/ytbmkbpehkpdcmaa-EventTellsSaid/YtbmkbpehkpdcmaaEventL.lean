/- The laws' own events (chapter 4). -/
import Derived.Test.YtbmkbpehkpdcmaaEventI
import Derived.Test.YtbmkbpehkpdcmaaTail
import Derived.Deep.RegionLaw
namespace Go.Proofs.Ytbmkbpehkpdcmaa
open Go.ChangeShapes Go.WideShapes Go.ChangeAt Go.RowKit
open Ev (V3 rightV OkV)
set_option linter.unusedVariables false
set_option linter.unusedSimpArgs false

def ownK (c : Int) : Int := if c % 3 = 0 then 1 else if c % 3 = 1 then 2 else 3
def ownN (c n : Int) : Int := if c % 3 = 0 then n else if c % 3 = 1 then n % 2 else 0
def ownS (c : Int) (s : ByteArray) : ByteArray := if c % 3 = 2 then s.extract 0 (min s.size 64) else ⟨#[]⟩
theorem own_v (c n : Int) (s : ByteArray) (w : World) (hs : s.size ≤ maxLen) (c0 : 0 ≤ c) (c1 : c ≤ 255) (n0 : -9223372036854775808 ≤ n) (n1 : n ≤ 9223372036854775807) :
    Calls Try.prog 26 #[.int .u8 c, .int .i64 n, .string s] w fun e w' => e = .returned (vv (ownK c) (ownN c n) (ownS c s)) ∧ Below w.heap.size w w' := by
  unfold maxLen at hs
  rcases (by omega : c % 3 = 0 ∨ c % 3 = 1 ∨ c % 3 = 2) with h | h | h
  · have e1 : ownK c = 1 := by unfold ownK; rw [if_pos h]
    have e2 : ownN c n = n := by unfold ownN; rw [if_pos h]
    have e3 : ownS c s = ⟨#[]⟩ := by unfold ownS; rw [if_neg (by omega)]
    rw [e1, e2, e3]
    clear e1 e2 e3
    go_enter Try.func26, Try.ntmps26
    go_wp2
    exact bodyPost_ret (v := vv 1 n ⟨#[]⟩) (by simp [results, Try.results26, go_sem]) rfl ⟨rfl, (Below.refl _ _).alloc (Nat.le_refl _) _⟩
  · have e1 : ownK c = 2 := by unfold ownK; rw [if_neg (by omega), if_pos h]
    have e2 : ownN c n = n % 2 := by unfold ownN; rw [if_neg (by omega), if_pos h]
    have e3 : ownS c s = ⟨#[]⟩ := by unfold ownS; rw [if_neg (by omega)]
    rw [e1, e2, e3]
    clear e1 e2 e3
    have hw : (IntKind.u64.wrap n).tmod 2 = n % 2 := by rw [IntKind.wrap_u64, Int.tmod_eq_emod_of_nonneg (by omega)]; omega
    go_enter Try.func26, Try.ntmps26
    go_wp2
    exact bodyPost_ret (v := vv 2 (n % 2) ⟨#[]⟩) (by simp [results, Try.results26, go_sem]) rfl ⟨rfl, (Below.refl _ _).alloc (Nat.le_refl _) _⟩
  · have e1 : ownK c = 3 := by unfold ownK; rw [if_neg (by omega), if_neg (by omega)]
    have e2 : ownN c n = 0 := by unfold ownN; rw [if_neg (by omega), if_neg (by omega)]
    by_cases hz : s.size ≤ 64
    · have e3 : ownS c s = s := by
        unfold ownS; rw [if_pos h]
        refine ByteArray.ext (Array.toList_inj.1 ?_)
        rw [extract_list, List.drop_zero, List.take_of_length_le (by simp; omega)]
      rw [e1, e2, e3]
      clear e1 e2 e3
      go_enter Try.func26, Try.ntmps26
      go_wp2
      exact bodyPost_ret (v := vv 3 0 s) (by simp [results, Try.results26, go_sem]) rfl ⟨rfl, (Below.refl _ _).alloc (Nat.le_refl _) _⟩
    · have e3 : ownS c s = s.extract 0 64 := by unfold ownS; rw [if_pos h, show min s.size 64 = 64 by omega]
      have hz' : 64 < s.size := by omega
      rw [e1, e2, e3]
      clear e1 e2 e3 hz
      go_enter Try.func26, Try.ntmps26
      go_wp2
      exact bodyPost_ret (v := vv 3 0 (s.extract 0 64)) (by simp [results, Try.results26, go_sem]) rfl ⟨rfl, (Below.refl _ _).alloc (Nat.le_refl _) _⟩
open Val in
theorem own_right (c n : Int) (s : ByteArray) (c0 : 0 ≤ c) : right (ownK c) (ownN c n) (ownS c s) = true := by
  rcases (by omega : c % 3 = 0 ∨ c % 3 = 1 ∨ c % 3 = 2) with h | h | h
  · unfold ownK ownN ownS; simp only [h]; unfold right; simp; rfl
  · unfold ownK ownN ownS; simp only [h]; unfold right; simp; exact ⟨rfl, by omega⟩
  · unfold ownK ownN ownS; simp only [h]; unfold right; simp; omega
open Val in
theorem own_kind (c : Int) (c0 : 0 ≤ c) : ownK c = 1 ∨ ownK c = 2 ∨ ownK c = 3 := by
  unfold ownK; split
  · exact Or.inl rfl
  · split
    · exact Or.inr (Or.inl rfl)
    · exact Or.inr (Or.inr rfl)
theorem ownN_lo (c n : Int) (h : -9223372036854775808 ≤ n) : -9223372036854775808 ≤ ownN c n := by unfold ownN; split; exact h; split <;> omega
theorem ownN_hi (c n : Int) (h : n ≤ 9223372036854775807) : ownN c n ≤ 9223372036854775807 := by unfold ownN; split; exact h; split <;> omega
theorem ownS_size (c : Int) (s : ByteArray) : (ownS c s).size ≤ 64 := by
  unfold ownS; split
  · rw [ByteArray.size_extract]; omega
  · decide


def plainN (c : Int) : Int := if 250 < c then (if c % 2 = 0 then -9223372036854775808 else 9223372036854775807) else c / 3 - 40
def plainT (t : Int) : Int := t % 2305843009213693953
def plainX (s : ByteArray) (b : UInt8) : V3 := (ownK b.toNat, ownN b.toNat (plainN b.toNat), ownS b.toNat s)
/-- The values of a plain event by bytes. -/
def plainV (l : List UInt8) (s : ByteArray) : List V3 := (l.take 6).map (plainX s)
theorem plainN_bd (c : Int) (c0 : 0 ≤ c) (c1 : c ≤ 255) : -9223372036854775808 ≤ plainN c ∧ plainN c ≤ 9223372036854775807 := by
  unfold plainN; split
  · split <;> omega
  · omega
theorem plainX_ok (s : ByteArray) (b : UInt8) : OkV (plainX s b) := by
  have hb := b.toNat_lt
  have := plainN_bd b.toNat (by omega) (by omega)
  exact ⟨own_right _ _ _ (by omega), ownN_lo _ _ this.1, ownN_hi _ _ this.2, ownS_size _ _⟩
theorem plainV_ok (l : List UInt8) (s : ByteArray) : ∀ v ∈ plainV l s, OkV v := by
  intro v hv
  obtain ⟨b, _, rfl⟩ := List.mem_map.1 hv
  exact plainX_ok s b
theorem plainV_len (l : List UInt8) (s : ByteArray) : (plainV l s).length ≤ 6 := by unfold plainV; simp; omega
theorem plain_plain (t : Int) (h0 : 0 ≤ t) (l : List UInt8) (s : ByteArray) : Ev.plain (plainT t) (plainV l s) = true := by
  refine Ev.plain_mk ?_ ?_ (plainV_len l s) (fun v hv => (plainV_ok l s v hv).right)
  · unfold plainT; omega
  · unfold plainT; omega
theorem plainV_take (l : List UInt8) (s : ByteArray) (k : Nat) (h : k < l.length) (h6 : k < 6) : (plainV l s).take (k + 1) = (plainV l s).take k ++ [plainX s (l[k]'h)] := by
  have hl : k < (plainV l s).length := by unfold plainV; simp; omega
  rw [List.take_succ_eq_append_getElem hl]
  congr 2
  unfold plainV
  simp

theorem plainV_tlen (l : List UInt8) (s : ByteArray) (k : Nat) (h : k ≤ l.length) (h6 : k ≤ 6) : ((plainV l s).take k).length = k := by
  have : (plainV l s).length = min 6 l.length := by unfold plainV; simp
  rw [List.length_take]; omega
set_option maxRecDepth 20000 in
set_option maxHeartbeats 1000000 in
theorem plain_any (t : Int) (v : Value) (l : List UInt8) (s : ByteArray) (w : World) (t0 : 0 ≤ t) (t1 : t ≤ 18446744073709551615) (hv : BytesAt w v l) (hl : l.length ≤ 140737488351232) (hs : s.size ≤ maxLen) :
    Calls Try.prog 5 #[.int .u64 t, v, .string s] w fun e w' => ∃ u, (e = .returned (ev (plainT t) u) ∧ NewAt w.heap.size w' u (plainV l s)) ∧ Below w.heap.size w w' := by
  have hT : 0 ≤ plainT t ∧ plainT t ≤ 2305843009213693952 := by unfold plainT; omega
  have hTe : t % 2305843009213693953 = plainT t := rfl
  generalize plainT t = T at *
  obtain ⟨A, n, cap, hve, hn, hc⟩ : ∃ (A : Option Addr) (n cap : Nat), v = .slice A n cap ∧ n = l.length ∧ (0 < n → ∃ a, A = some a ∧ ∀ j (hj : j < l.length), w.cell? (a.add j) = some (.int .u8 (l[j].toNat : Int))) := by
    rcases hv with ⟨rfl, rfl⟩ | ⟨a, cap, rfl, h1, h2, h3⟩
    · exact ⟨none, 0, 0, rfl, rfl, fun h => absurd h (by omega)⟩
    · exact ⟨some a, _, cap, rfl, rfl, fun _ => ⟨a, rfl, h3⟩⟩
  subst hve
  obtain rfl : n = l.length := hn
  have H := Lib.hid (And.intro hc hTe); clear hv hc hTe
  go_enter Try.func5, Try.ntmps5
  go_wp2
  have hm2 : w.heap.size + 2 ≤ ((w.alloc (.cells #[.int .i64 0, .slice none 0 0] 24)).alloc (.cells #[.int .i64 (t % 2305843009213693953), .slice none 0 0] 24)).heap.size := by simp
  rw [H.out.2] at hm2 ⊢
  go_loopw [8] (fun iv wr => ∃ (k : Nat) (v : Value), k ≤ l.length ∧ k ≤ 6 ∧ iv = .int .i64 (k : Int) ∧
      Blk wr w.heap.size 24 #[.int .i64 0, .slice none 0 0] ∧ Blk wr (w.heap.size + 1) 24 #[.int .i64 T, v] ∧ NewAt (w.heap.size + 2) wr v ((plainV l s).take k) ∧ Below w.heap.size w wr ∧ w.heap.size + 2 ≤ wr.heap.size)
    (fun iv _ => 6 - (intOf iv).toNat)
  case atStart =>
    refine ⟨0, .slice none 0 0, Nat.zero_le _, Nat.zero_le _, rfl, ?_, ?_, NewAt.nil _ _, bt (ba _ _) (ba _ _), hm2⟩
    · exact (Blk.new w _ _).alloc _
    · have := Blk.new (w.alloc (.cells #[.int .i64 0, .slice none 0 0] 24)) 24 #[.int .i64 T, .slice none 0 0]
      rwa [World.size_alloc] at this
  case round =>
    clear hm2
    obtain ⟨k, v, hk, hk6, rfl, hB1, hB2, hown, hW, hz⟩ := hrel
    have K := Lib.hid (And.intro hB1 (And.intro hB2 (And.intro hown hW))); clear hB1 hB2 hown hW
    by_cases hlt : k < l.length ∧ k < 6
    · obtain ⟨hlt, hlt6⟩ := hlt
      obtain ⟨a, rfl, hc⟩ := H.out.1 (by omega)
      have hb := hc k hlt
      rw [← K.out.2.2.2.cell (World.block_lt_of_cell? w _ hb)] at hb
      have htk := plainV_take l s k hlt hlt6
      have hpl := plainV_tlen l s k (by omega) hk6
      have hbN := (l[k]'hlt).toNat_lt
      have hpb := plainN_bd (l[k]'hlt).toNat (by omega) (by omega)
      have cO : ∀ w, Calls Try.prog 26 #[.int .u8 ((l[k]'hlt).toNat : Int), .int .i64 (plainN (l[k]'hlt).toNat), .string s] w fun e w' => e = .returned (vv (plainX s (l[k]'hlt)).1 (plainX s (l[k]'hlt)).2.1 (plainX s (l[k]'hlt)).2.2) ∧ Below w.heap.size w w' :=
        fun w => own_v _ _ s w hs (by omega) (by omega) hpb.1 hpb.2
      have hpN : plainN (l[k]'hlt).toNat = if 250 < ((l[k]'hlt).toNat : Int) then (if ((l[k]'hlt).toNat : Int) % 2 = 0 then -9223372036854775808 else 9223372036854775807) else ((l[k]'hlt).toNat : Int) / 3 - 40 := rfl
      generalize plainN (l[k]'hlt).toNat = pn at *
      generalize plainX s (l[k]'hlt) = X at *
      obtain ⟨x, y, z⟩ := X
      clear hc
      generalize (l[k]'hlt).toNat = c at *
      have HT := Lib.hid (And.intro htk (And.intro hpl cO))
      clear htk hpl cO
      by_cases h250 : (250 : Int) < (c : Int)
      · have hc2 : (c : Int) % 2 = 0 ∨ (c : Int) % 2 = 1 := by omega
        rw [if_pos h250] at hpN
        have h250' : 250 < c := by omega
        rcases hc2 with hc2 | hc2
        all_goals
          first | rw [if_pos hc2] at hpN | rw [if_neg (by omega)] at hpN
          have HN := Lib.hid hpN
          have hcN : c % 2 = 0 ∨ c % 2 = 1 := by omega
          have KA := And.intro (K.out.1.alloc (.cells #[.int .i64 (-9223372036854775808), .int .i64 9223372036854775807] 2)) (And.intro (K.out.2.1.alloc (.cells #[.int .i64 (-9223372036854775808), .int .i64 9223372036854775807] 2)) (And.intro (K.out.2.2.1.later (ba wr (.cells #[.int .i64 (-9223372036854775808), .int .i64 9223372036854775807] 2))) (bt K.out.2.2.2 (ba wr (.cells #[.int .i64 (-9223372036854775808), .int .i64 9223372036854775807] 2)))))
          have hbA : (wr.alloc (.cells #[.int .i64 (-9223372036854775808), .int .i64 9223372036854775807] 2)).cell? (a.add k) = some (.int .u8 (c : Int)) := by rw [(ba wr (.cells #[.int .i64 (-9223372036854775808), .int .i64 9223372036854775807] 2)).cell (World.block_lt_of_cell? wr _ hb)]; exact hb
          have hzA : w.heap.size + 2 ≤ (wr.alloc (.cells #[.int .i64 (-9223372036854775808), .int .i64 9223372036854775807] 2)).heap.size := by simp only [World.size_alloc]; omega
          have HA := Lib.hid (And.intro KA (And.intro hbA hzA))
          clear hpN hpb KA hzA
          go_wp2_with fail
          replace K := Lib.hid HA.out.1
          clear hb
          replace hz := HA.out.2.2
          clear HA
          generalize wr.alloc (.cells #[.int .i64 (-9223372036854775808), .int .i64 9223372036854775807] 2) = wr at *
          rw [← HN.out]
          have z0 : wr.cell? ⟨w.heap.size + 1, 1, none⟩ = some v := K.out.2.1.cell 1
          have hlt' := K.out.2.1.lt
          obtain ⟨i0, hi, hz0, hz1, hz2⟩ := info_parts value_info
          obtain ⟨A7, n7, c7, rfl⟩ := own_shape K.out.2.2.1
          go_region_law (first
            | (refine step_append_own rfl (.tmp 45) (.tmp 53) 22 rfl (w.heap.size + 2) 35 i0 (.agg #[.int .i64 0, .int .i64 0, .string ⟨#[]⟩]) 3 32 Try.underlying22 hi hz0 hz1 hz2 rfl (by decide) _ _ _ (by simp [Act.eval, Act.put]) HD.out.1 ⟨_, 0, none⟩ 1 1 [.int .i64 x, .int .i64 y, .string z] (by simp [Act.eval, Act.put]) rfl HD.out.2.1 (three_one x y z) HD.out.2.2.1 HD.out.2.2.2.1 HD.out.2.2.2.2.1 ?_; intro v7 w7 ho7 hg7 _; obtain ⟨A8, n8, c8, rfl⟩ := own_shape ho7; have C2 := HD.out.2.2.2.2.2.1.grown hg7 (own_ne HD.out.1 (by omega)); have q0 : w7.cell? ⟨w.heap.size + 1, 1, none⟩ = some (.slice A7 n7 c7) := C2.cell 1; have q1 := C2.frozen; have HE := Lib.hid (And.intro ho7 (And.intro (HD.out.2.2.2.2.2.2.1.grown hg7 (own_ne HD.out.1 (by omega))) (And.intro C2 (HD.out.2.2.2.2.2.2.2.grown hg7 (by have := HD.out.2.2.2.2.1; omega) (fun k hk => by have := (HD.out.1.lt k hk).1; omega))))); have h9 : w.heap.size + 2 ≤ w7.heap.size := Nat.le_trans HD.out.2.2.2.2.1 hg7.size; clear C2 ho7 hg7)
            | (go_simp; go_at_call 26; ((with_reducible refine (HT.out.2.2 _).mono ?_); rintro e w5 ⟨rfl, b5⟩; have b6 : Below wr.heap.size wr w5 := ⟨b5.os, b5.tape, b5.output, b5.size, b5.block⟩; have b7 := bt b6 (ba w5 (.cells #[.int .i64 x, .int .i64 y, .string z] 35)); have hh := ownsRow_later K.out.2.2.1 b7; have B2 := K.out.2.1.later b6; have z1 : w5.cell? ⟨w.heap.size + 1, 1, none⟩ = some (.slice A7 n7 c7) := B2.cell 1; have hlt5 := B2.lt; have HD := Lib.hid (And.intro hh (And.intro (three_new w5 (.int .i64 x) (.int .i64 y) (.string z) 35) (And.intro (show ((plainV l s).take k).length + 1 ≤ maxLen by rw [HT.out.2.1]; unfold maxLen; omega) (And.intro (show (((plainV l s).take k).length + 1) * 32 ≤ 140737488355328 by rw [HT.out.2.1]; omega) (And.intro (show w.heap.size + 2 ≤ (w5.alloc (.cells #[.int .i64 x, .int .i64 y, .string z] 35)).heap.size by have := b6.size; simp only [World.size_alloc]; omega) (And.intro (K.out.2.1.later b7) (And.intro (K.out.1.later b7) (bt K.out.2.2.2 b7)))))))); clear b5 b6 b7 hh B2)))
          all_goals
            go_wp2
            go_roundw
            case rel =>
              refine ⟨k + 1, .slice A8 n8 c8, by omega, by omega, by go_num, HE.out.2.1.far (by simp) _, ?_, ?_, (HE.out.2.2.2).setCell (by simp) _, by rw [World.size_setCell]; exact h9⟩
              · have := HE.out.2.2.1.set_ 1 (.slice A8 n8 c8)
                simpa using this
              · rw [HT.out.1]
                unfold NewAt
                rw [cells3_snoc, List.length_append]
                exact ownsRow_far HE.out.1 (by simp) _
            case measure => simp [intOf]; omega
      · rw [if_neg h250] at hpN
        have h250' : c ≤ 250 := by omega
        have HN := Lib.hid hpN
        clear h250 hpN hpb
        go_wp2_with fail
        rw [← HN.out]
        have z0 : wr.cell? ⟨w.heap.size + 1, 1, none⟩ = some v := K.out.2.1.cell 1
        have hlt' := K.out.2.1.lt
        obtain ⟨i0, hi, hz0, hz1, hz2⟩ := info_parts value_info
        obtain ⟨A7, n7, c7, rfl⟩ := own_shape K.out.2.2.1
        go_region_law (first
          | (refine step_append_own rfl (.tmp 45) (.tmp 53) 22 rfl (w.heap.size + 2) 35 i0 (.agg #[.int .i64 0, .int .i64 0, .string ⟨#[]⟩]) 3 32 Try.underlying22 hi hz0 hz1 hz2 rfl (by decide) _ _ _ (by simp [Act.eval, Act.put]) HD.out.1 ⟨_, 0, none⟩ 1 1 [.int .i64 x, .int .i64 y, .string z] (by simp [Act.eval, Act.put]) rfl HD.out.2.1 (three_one x y z) HD.out.2.2.1 HD.out.2.2.2.1 HD.out.2.2.2.2.1 ?_; intro v7 w7 ho7 hg7 _; obtain ⟨A8, n8, c8, rfl⟩ := own_shape ho7; have C2 := HD.out.2.2.2.2.2.1.grown hg7 (own_ne HD.out.1 (by omega)); have q0 : w7.cell? ⟨w.heap.size + 1, 1, none⟩ = some (.slice A7 n7 c7) := C2.cell 1; have q1 := C2.frozen; have HE := Lib.hid (And.intro ho7 (And.intro (HD.out.2.2.2.2.2.2.1.grown hg7 (own_ne HD.out.1 (by omega))) (And.intro C2 (HD.out.2.2.2.2.2.2.2.grown hg7 (by have := HD.out.2.2.2.2.1; omega) (fun k hk => by have := (HD.out.1.lt k hk).1; omega))))); have h9 : w.heap.size + 2 ≤ w7.heap.size := Nat.le_trans HD.out.2.2.2.2.1 hg7.size; clear C2 ho7 hg7)
          | (go_simp; go_at_call 26; ((with_reducible refine (HT.out.2.2 _).mono ?_); rintro e w5 ⟨rfl, b5⟩; have b6 : Below wr.heap.size wr w5 := ⟨b5.os, b5.tape, b5.output, b5.size, b5.block⟩; have b7 := bt b6 (ba w5 (.cells #[.int .i64 x, .int .i64 y, .string z] 35)); have hh := ownsRow_later K.out.2.2.1 b7; have B2 := K.out.2.1.later b6; have z1 : w5.cell? ⟨w.heap.size + 1, 1, none⟩ = some (.slice A7 n7 c7) := B2.cell 1; have hlt5 := B2.lt; have HD := Lib.hid (And.intro hh (And.intro (three_new w5 (.int .i64 x) (.int .i64 y) (.string z) 35) (And.intro (show ((plainV l s).take k).length + 1 ≤ maxLen by rw [HT.out.2.1]; unfold maxLen; omega) (And.intro (show (((plainV l s).take k).length + 1) * 32 ≤ 140737488355328 by rw [HT.out.2.1]; omega) (And.intro (show w.heap.size + 2 ≤ (w5.alloc (.cells #[.int .i64 x, .int .i64 y, .string z] 35)).heap.size by have := b6.size; simp only [World.size_alloc]; omega) (And.intro (K.out.2.1.later b7) (And.intro (K.out.1.later b7) (bt K.out.2.2.2 b7)))))))); clear b5 b6 b7 hh B2)))
        all_goals
          go_wp2
          go_roundw
          case rel =>
            refine ⟨k + 1, .slice A8 n8 c8, by omega, by omega, by go_num, HE.out.2.1.far (by simp) _, ?_, ?_, (HE.out.2.2.2).setCell (by simp) _, by rw [World.size_setCell]; exact h9⟩
            · have := HE.out.2.2.1.set_ 1 (.slice A8 n8 c8)
              simpa using this
            · rw [HT.out.1]
              unfold NewAt
              rw [cells3_snoc, List.length_append]
              exact ownsRow_far HE.out.1 (by simp) _
          case measure => simp [intOf]; omega
    · have hE : (plainV l s).take k = plainV l s := by
        have : (plainV l s).length = min 6 l.length := by unfold plainV; simp
        exact List.take_of_length_le (by omega)
      have z0 : wr.cell? ⟨w.heap.size, 0, none⟩ = some (.int .i64 0) := K.out.1.cell 0
      have z1 : wr.cell? ⟨w.heap.size, 1, none⟩ = some (.slice none 0 0) := K.out.1.cell 1
      have z2 := K.out.1.frozen
      have z3 : wr.cell? ⟨w.heap.size + 1, 0, none⟩ = some (.int .i64 T) := K.out.2.1.cell 0
      have z4 : wr.cell? ⟨w.heap.size + 1, 1, none⟩ = some v := K.out.2.1.cell 1
      have B2 := K.out.1.put2 (.int .i64 T) v
      have hv := (K.out.2.2.1.put2 (g := w.heap.size) (by omega) (.int .i64 T) v).weak (base' := w.heap.size) (by omega)
      rw [hE] at hv
      have hW := below_put2 K.out.2.2.2 (g := w.heap.size) (Nat.le_refl _) (.int .i64 T) v
      obtain ⟨A7, n7, c7, rfl⟩ := own_shape K.out.2.2.1
      have HR := Lib.hid (And.intro B2.two (And.intro hW hv))
      clear B2 hW hv hE
      by_cases hkl : k < l.length
      · have hk6' : k = 6 := by omega
        subst hk6'
        go_wp2
        exact bodyPost_ret (v := ev T (.slice A7 n7 c7)) (by simp [results, Try.results5, go_sem, HR.out.1.1, HR.out.1.2]) rfl ⟨_, ⟨rfl, HR.out.2.2⟩, HR.out.2.1⟩
      · go_wp2
        exact bodyPost_ret (v := ev T (.slice A7 n7 c7)) (by simp [results, Try.results5, go_sem, HR.out.1.1, HR.out.1.2]) rfl ⟨_, ⟨rfl, HR.out.2.2⟩, HR.out.2.1⟩
end Go.Proofs.Ytbmkbpehkpdcmaa
