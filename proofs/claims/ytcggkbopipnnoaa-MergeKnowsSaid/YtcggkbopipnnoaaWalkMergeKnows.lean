/- MergeKnows: the walk. -/
import Derived.Test.YtcggkbopipnnoaaEx16
import Derived.Test.YtcggkbopipnnoaaCells2
import Derived.Deep.DeepCutAuto
namespace Go.Proofs.Ytcggkbopipnnoaa
open Go.ChangeShapes Go.WideShapes Go.ChangeAt Go.RowKit
open Mrg (Hd hlt ilt Least PickIs LowIs liveB keyI holdsB IsBest NoneHas)
set_option linter.unusedVariables false
set_option linter.unusedSimpArgs false

def nearH (b : Nat) : Hd := (decide (0 < b % 3), ((b / 16 % 4 : Nat) : Int), -9, true)
theorem nearH_obj (c : Nat) (h : c < 256) : (#[.bool (nearH c).1, .int .i64 (nearH c).2.1, .int .i64 (-9), .bool true] : Array Value) = #[.bool (decide (0 < (c : Int) % 3)), .int .i64 (IntKind.i64.wrap ((c : Int) / 16 % 4)), .int .i64 (-9), .bool true] := by
  rw [IntWalk.i64_in _ (by omega)]
  unfold nearH
  have e : decide (0 < c % 3) = decide (0 < (c : Int) % 3) := by rw [Bool.eq_iff_iff]; simp; omega
  simp only [e]
  congr 4
theorem near3 (c : Nat) : (c : Int).tmod 3 = (c : Int) % 3 := Int.tmod_eq_emod_of_nonneg (by omega)
theorem near4 (c : Nat) : ((c : Int) / 16).tmod 4 = (c : Int) / 16 % 4 := Int.tmod_eq_emod_of_nonneg (by omega)
def nearL (l : List UInt8) : List Hd := (l.take 6).map fun b => nearH b.toNat
/-- best, behind the first k heads. -/
def BestK (L : List Hd) (p : Int) : Prop := (p = -1 ∧ NoneHas L) ∨ ∃ q : Nat, p = q ∧ IsBest L q
theorem BestK.start : BestK [] (-1) := Or.inl ⟨rfl, fun j hj => absurd hj (by simp)⟩
theorem get_app {L : List Hd} {h : Hd} {j : Nat} (hj : j < (L ++ [h]).length) : ((L ++ [h])[j]'hj) = if hlt : j < L.length then L[j]'hlt else h := by
  by_cases hlt : j < L.length
  · rw [dif_pos hlt, List.getElem_append_left hlt]
  · rw [dif_neg hlt, List.getElem_append_right (by omega)]
    have : j - L.length = 0 := by simp at hj; omega
    simp [this]
theorem BestK.skip {L : List Hd} {p : Int} (h : BestK L p) (x : Hd) (hx : x.1 = false) : BestK (L ++ [x]) p := by
  rcases h with ⟨h1, h2⟩ | ⟨q, h1, hq, h2, h3⟩
  · refine Or.inl ⟨h1, fun j hj => ?_⟩
    rw [get_app]; split
    · exact h2 _ _
    · exact hx
  · refine Or.inr ⟨q, h1, by rw [List.length_append]; omega, ?_, fun j hj hh => ?_⟩
    · rw [get_app, dif_pos hq]; exact h2
    · rw [get_app] at hh ⊢
      rw [get_app, dif_pos hq]
      split at hh
      · rename_i hl; rw [dif_pos hl]; exact h3 j hl hh
      · rw [hx] at hh; exact absurd hh (by simp)
theorem BestK.keep {L : List Hd} {q : Nat} (h : BestK L q) (x : Hd) (hq : q < L.length) (hx : ¬ x.2.1 < (L[q]'hq).2.1) : BestK (L ++ [x]) q := by
  rcases h with ⟨h1, _⟩ | ⟨q', h1, hq', h2, h3⟩
  · omega
  · obtain rfl : q = q' := by omega
    refine Or.inr ⟨q, rfl, by rw [List.length_append]; omega, ?_, fun j hj hh => ?_⟩
    · rw [get_app, dif_pos hq]; exact h2
    · rw [get_app] at hh ⊢
      rw [get_app, dif_pos hq]
      split at hh
      · rename_i hl; rw [dif_pos hl]; exact h3 j hl hh
      · rename_i hl; rw [dif_neg hl]; exact ⟨by omega, fun h => by omega⟩
theorem BestK.first {L : List Hd} (h : BestK L (-1)) (x : Hd) (hx : x.1 = true) : BestK (L ++ [x]) (L.length : Nat) := by
  rcases h with ⟨_, h1⟩ | ⟨q', h1, _⟩
  · refine Or.inr ⟨L.length, rfl, by simp, ?_, fun j hj hh => ?_⟩
    · rw [get_app, dif_neg (by omega)]; exact hx
    · rw [get_app] at hh ⊢
      rw [get_app, dif_neg (by omega)]
      split at hh
      · rename_i hl; rw [h1 j hl] at hh; exact absurd hh (by simp)
      · rename_i hl; rw [dif_neg hl]; exact ⟨Int.le_refl _, fun h => by omega⟩
  · omega
theorem BestK.turn {L : List Hd} {q : Nat} (h : BestK L q) (x : Hd) (h1x : x.1 = true) (hq : q < L.length) (hx : x.2.1 < (L[q]'hq).2.1) : BestK (L ++ [x]) (L.length : Nat) := by
  rcases h with ⟨h1, _⟩ | ⟨q', h1, hq', h2, h3⟩
  · omega
  · obtain rfl : q = q' := by omega
    refine Or.inr ⟨L.length, rfl, by simp, ?_, fun j hj hh => ?_⟩
    · rw [get_app, dif_neg (by omega)]; exact h1x
    · rw [get_app] at hh ⊢
      rw [get_app, dif_neg (by omega)]
      split at hh
      · rename_i hl; rw [dif_pos hl]; have := (h3 j hl hh).1; exact ⟨by omega, fun _ => by omega⟩
      · rename_i hl; rw [dif_neg hl]; exact ⟨Int.le_refl _, fun h => by omega⟩
theorem near_len (l : List UInt8) : (nearL l).length = min 6 l.length := by unfold nearL; simp
theorem near_snoc (l : List UInt8) (k : Nat) (h : k < l.length) (h6 : k < 6) : (nearL l).take (k + 1) = (nearL l).take k ++ [nearH (l[k]'h).toNat] := by
  rw [List.take_succ_eq_append_getElem (by rw [near_len]; omega)]
  unfold nearL; simp
theorem near_done (l : List UInt8) (j : Nat) (hj : j < (nearL l).length) : ((nearL l)[j]'hj).2.2.2 = true := by unfold nearL nearH; simp
theorem knows_one {L : List Hd} {p r : Int} (hd : ∀ j (hj : j < L.length), (L[j]'hj).2.2.2 = true) (hp : BestK L p) (hr : PickIs L r) : r = p := by
  have hh : ∀ j (hj : j < L.length) q t, holdsB (L[j]'hj) j q t = false := fun j hj q t => by unfold holdsB; rw [hd j hj]; simp
  rcases hp with ⟨rfl, h1⟩ | ⟨q, rfl, h1⟩
  · exact Mrg.pick_none hr h1
  · exact Mrg.pick_is hr h1 (fun j hj hq => hh j hj q _)
theorem cell_later {w w' : World} {a : Addr} {v : Value} (h : w.cell? a = some v) (hb : Below w.heap.size w w') : w'.cell? a = some v := by rw [hb.cell (World.block_lt_of_cell? w _ h)]; exact h
theorem szH (W : World) : (sizeOf (Try.prog.elem 22)).run Try.prog W = .ok 4 W := by kernel_rfl
theorem undH : Try.prog.underlying 22 = some (.slice (Try.prog.elem 22)) := by kernel_rfl
theorem head_one (x : Hd) : ∀ u ∈ rowH x, u.oneCell' = true := by simp [Value.oneCell']
theorem get_put {L : List Hd} {x : Hd} {n j : Nat} (hn : n ≤ L.length) (hj : j < (L.take n ++ [x] ++ L.drop n).length) :
    (L.take n ++ [x] ++ L.drop n)[j]'hj = if h : j < n then L[j]'(by omega) else if h2 : j = n then x else L[j - 1]'(by simp at hj; omega) := by
  have hl : (L.take n).length = n := by rw [List.length_take]; omega
  by_cases h : j < n
  · rw [dif_pos h, List.getElem_append_left (by rw [List.length_append, hl]; simp; omega), List.getElem_append_left (by omega)]
    simp
  · rw [dif_neg h]
    by_cases h2 : j = n
    · subst h2
      rw [dif_pos rfl, List.getElem_append_left (by rw [List.length_append, hl]; simp), List.getElem_append_right (by omega)]
      simp
    · rw [dif_neg h2, List.getElem_append_right (by rw [List.length_append, hl]; simp; omega)]
      simp only [List.getElem_drop, List.length_append, hl, List.length_cons, List.length_nil]
      congr 1; omega
theorem put_len (L : List Hd) (x : Hd) (n : Nat) (hn : n ≤ L.length) : (L.take n ++ [x] ++ L.drop n).length = L.length + 1 := by simp; omega
def movedI (q n : Nat) : Nat := if n ≤ q then q + 1 else q
def aheadB (t m : Int) (n q : Nat) : Bool := decide (t < m) || (decide (t = m) && decide (n < movedI q n))
theorem knows_two {L : List Hd} {q : Nat} (hd : ∀ j (hj : j < L.length), (L[j]'hj).2.2.2 = true) (hb : IsBest L q) (t : Int) (n : Nat) (hn : n ≤ L.length) (hq : q < L.length) (r : Int) (hr : PickIs (L.take n ++ [(false, 0, t, false)] ++ L.drop n) r) :
    r = if aheadB t (L[q]'hq).2.1 n q = true then -1 else (movedI q n : Int) := by
  have hlen := put_len L (false, 0, t, false) n hn
  obtain ⟨hq', h1, h2⟩ := hb
  have hmq : movedI q n < (L.take n ++ [(false, 0, t, false)] ++ L.drop n).length := by rw [hlen]; unfold movedI; split <;> omega
  have hget : (L.take n ++ [(false, 0, t, false)] ++ L.drop n)[movedI q n]'hmq = L[q]'hq := by
    rw [get_put hn]
    by_cases h : n ≤ q
    · have e : movedI q n = q + 1 := by unfold movedI; rw [if_pos h]
      simp only [e]
      rw [dif_neg (by omega), dif_neg (by omega)]
      simp
    · have e : movedI q n = q := by unfold movedI; rw [if_neg h]
      simp only [e]
      rw [dif_pos (by omega)]
  have hbest : IsBest (L.take n ++ [(false, 0, t, false)] ++ L.drop n) (movedI q n) := by
    refine ⟨hmq, by rw [hget]; exact h1, fun j hj hh => ?_⟩
    rw [hget]
    rw [get_put hn] at hh ⊢
    unfold movedI
    split at hh
    · rename_i h; rw [dif_pos h]
      have := h2 j (by omega) hh
      exact ⟨this.1, fun h3 => this.2 (by split at h3 <;> omega)⟩
    · split at hh
      · exact absurd hh (by simp)
      · rename_i h h3
        rw [dif_neg h, dif_neg h3]
        have := h2 (j - 1) (by rw [hlen] at hj; omega) hh
        exact ⟨this.1, fun h4 => this.2 (by split at h4 <;> omega)⟩
  have hhold : ∀ j (hj : j < (L.take n ++ [(false, 0, t, false)] ++ L.drop n).length), holdsB ((L.take n ++ [(false, 0, t, false)] ++ L.drop n)[j]'hj) j (movedI q n) (L[q]'hq).2.1 = if j = n then aheadB t (L[q]'hq).2.1 n q else false := by
    intro j hj
    rw [get_put hn]
    split
    · rename_i h; rw [if_neg (by omega)]; unfold holdsB; rw [hd]; simp
    · split
      · rename_i h; subst h; first | rw [if_pos rfl] | skip
        unfold holdsB aheadB; simp
      · rename_i h; first | rw [if_neg h] | skip
        unfold holdsB; rw [hd]; simp
  by_cases ha : aheadB t (L[q]'hq).2.1 n q = true
  · rw [if_pos ha]
    refine Mrg.pick_not hr hbest ⟨n, by rw [hlen]; omega, hmq, ?_⟩
    rw [hget, hhold, if_pos rfl]; exact ha
  · rw [if_neg ha]
    refine Mrg.pick_is hr hbest (fun j hj hq3 => ?_)
    rw [hget, hhold]
    split
    · simpa using ha
    · rfl
set_option maxRecDepth 20000 in
set_option maxHeartbeats 4000000 in
theorem walk_MergeKnows (v : Value) (l : List UInt8) (t : Int) (p0 : Int) (w : World) (hv : BytesAt w v l) (hl : l.length ≤ 140737488351232) (t0 : -9223372036854775808 ≤ t) (t1 : t ≤ 9223372036854775807) (pa : 0 ≤ p0) (pb : p0 ≤ 255) :
    Calls Try.prog 7 #[v, .int .i64 t, .int .u8 p0] w fun e w' => e = .returned (.bool true) ∧ Below w.heap.size w w' := by
  obtain ⟨A, n, cap, hve, hn, hc⟩ : ∃ (A : Option Addr) (n cap : Nat), v = .slice A n cap ∧ n = l.length ∧ (0 < n → ∃ a, A = some a ∧ ∀ j (hj : j < l.length), w.cell? (a.add j) = some (.int .u8 (l[j].toNat : Int))) := by
    rcases hv with ⟨rfl, rfl⟩ | ⟨a, cap, rfl, h1, h2, h3⟩
    · exact ⟨none, 0, 0, rfl, rfl, fun h => absurd h (by omega)⟩
    · exact ⟨some a, _, cap, rfl, rfl, fun _ => ⟨a, rfl, h3⟩⟩
  subst hve
  obtain rfl : n = l.length := hn
  obtain ⟨i0, hi, hz0, hz1, hz2⟩ := info_parts (P := Try.prog) (e := 28) (z := .agg #[.bool false, .int .i64 0, .int .i64 0, .bool false]) (size := 4) (bytes := 32) (by kernel_rfl)
  have H := Lib.hid hc; clear hc hv
  go_enter Try.func7, Try.ntmps7
  go_wp2_with (go_at_call 8; ((with_reducible refine (examples_any _).mono ?_); rintro e w0 ⟨rfl, b0⟩; have HB := Lib.hid b0; clear b0))
  go_loopw [8, 9, 10] (fun lv bv iv wr => ∃ (k : Nat) (p : Int), k ≤ l.length ∧ k ≤ 6 ∧ iv = .int .i64 k ∧ bv = .int .i64 p ∧ Own wr w.heap.size 28 4 rowH lv ((nearL l).take k) ∧ BestK ((nearL l).take k) p ∧ Below w.heap.size w wr) (fun _ _ i _ => 6 - (intOf i).toNat)
  case atStart => exact ⟨0, -1, Nat.zero_le _, Nat.zero_le _, rfl, rfl, Own.nil _ _ _ _ _, BestK.start, HB.out⟩
  case round =>
    clear HB
    obtain ⟨k, p, hk, hk6, rfl, rfl, hO, hB, hb⟩ := hrel
    have hln : ((nearL l).take k).length = k := by rw [List.length_take, near_len]; omega
    obtain ⟨B, d, rfl, b1, b2, b3⟩ := hO.shape
    rw [hln] at hO ⊢
    by_cases hlt : k < l.length ∧ k < 6
    · obtain ⟨hlt, hlt6⟩ := hlt
      obtain ⟨a, rfl, hc⟩ := H.out (by omega)
      have hcell := hc k hlt
      rw [← hb.cell (World.block_lt_of_cell? w _ hcell)] at hcell
      have hsn := near_snoc l k hlt hlt6
      have hx := (l[k]'hlt).toNat_lt
      generalize (l[k]'hlt).toNat = c at *
      generalize (nearL l).take k = L at *
      have K := Lib.hid (And.intro hO (And.intro hB (And.intro hb (And.intro hsn hln)))); clear hO hB hb hsn hln b1 b2 b3 hc
      have hcell2 : (wr.alloc (.cells #[.bool false, .int .i64 0, .int .i64 0, .bool false] 28)).cell? (a.add k) = _ := (cell_later hcell (ba wr _))
      go_upto_region 9 with fail
      go_cut [11] (fun pv wx => pv = .pointer (some ⟨wr.heap.size, 0, none⟩) ∧ (wr.alloc (.cells #[.bool (nearH c).1, .int .i64 (nearH c).2.1, .int .i64 (-9), .bool true] 28)).drew = wx)
      case first =>
        have q1 : IntKind.u8.wrap ((c : Int) / 16) = (c : Int) / 16 := by rw [IntKind.wrap_u8]; omega
        go_region_law (fail)
        all_goals
          go_wp2_with fail
          go_meet
          exact ⟨rfl, by rw [nearH_obj c (by omega)] <;> simp only [near3 c, near4 c]⟩
      case rest =>
        obtain ⟨rfl, hWx⟩ := hcut
        subst hWx
        have hbx : Blk ((wr.alloc (.cells #[.bool (nearH c).1, .int .i64 (nearH c).2.1, .int .i64 (-9), .bool true] 28)).drew) wr.heap.size 28 #[.bool (nearH c).1, .int .i64 (nearH c).2.1, .int .i64 (-9), .bool true] := blk_drew (Blk.new wr _ _)
        have hbW : Below wr.heap.size wr ((wr.alloc (.cells #[.bool (nearH c).1, .int .i64 (nearH c).2.1, .int .i64 (-9), .bool true] 28)).drew) := below_drew (ba wr _)
        have hns : (nearH c).2.2 = (-9, true) := rfl
        generalize (wr.alloc (.cells #[.bool (nearH c).1, .int .i64 (nearH c).2.1, .int .i64 (-9), .bool true] 28)).drew = W at *
        generalize hg : wr.heap.size = g at *
        generalize nearH c = h at *
        obtain ⟨x, s, hr⟩ := h
        obtain rfl : hr = (-9, true) := hns
        simp only at hbx
        obtain ⟨z0, z1, z2, z3⟩ : W.cell? ⟨g, 0, none⟩ = some (.bool x) ∧ W.cell? ⟨g, 1, none⟩ = some (.int .i64 s) ∧ W.cell? ⟨g, 2, none⟩ = some (.int .i64 (-9)) ∧ W.cell? ⟨g, 3, none⟩ = some (.bool true) := ⟨hbx.cell 0, hbx.cell 1, hbx.cell 2, hbx.cell 3⟩
        clear hbx hcell hcell2
        have hbW' : Below wr.heap.size wr W := by rw [hg]; exact hbW
        clear hbW hg
        cases x
        · go_wp2
          go_quiet (fail)
          have hbw9 : Below wr.heap.size wr (W.drewN nq) := below_drewN hbW' _
          go_wp2_with (at_builtin; refine wpList_append_own _ rfl (.tmp 61) (.tmp 63) 22 rfl w.heap.size 28 i0 (.agg #[.bool false, .int .i64 0, .int .i64 0, .bool false]) 4 32 Try.underlying22 hi hz0 hz1 hz2 rfl (by decide) _ k _ rfl (by have := K.out.1.later (bt hbw9 (ba _ (.cells #[.bool false, .int .i64 s, .int .i64 (-9), .bool true] 28))); unfold Own at this; rw [K.out.2.2.2.2] at this; exact this) ⟨_, 0, none⟩ 1 1 (rowH (false, s, -9, true)) rfl rfl (new_cells rfl _ #[.bool false, .int .i64 s, .int .i64 (-9), .bool true]) (by simp [Value.oneCell']) (by unfold maxLen; omega) (by omega) (by have := K.out.2.2.1.size; have := hbw9.size; simp only [World.size_alloc]; omega) ?_; intro v5 w5 hO5 hg5 _; obtain ⟨A5, n5, c5, rfl⟩ := own_shape hO5)
          go_roundw
          case rel => exact ⟨k + 1, _, by omega, by omega, by go_num, by first | rfl | go_num, by rw [K.out.2.2.2.1]; exact Own.more K.out.2.2.2.2.symm hO5, by rw [K.out.2.2.2.1]; exact K.out.2.1.skip _ rfl, own_past (bt K.out.2.2.1 (bt hbw9 (ba _ (.cells #[.bool false, .int .i64 s, .int .i64 (-9), .bool true] 28)))) hg5 K.out.1⟩
          case measure => simp [intOf]; omega
        · rcases K.out.2.1 with ⟨rfl, _⟩ | ⟨q, rfl, hq, _, _⟩
          · have hK1 := K.out.2.1.first (true, s, -9, true) rfl
            rw [K.out.2.2.2.2] at hK1
            have HK1 := Lib.hid hK1; clear hK1
            go_wp2
            go_quiet (fail)
            have hbw9 : Below wr.heap.size wr (W.drewN nq) := below_drewN hbW' _
            go_wp2_with (at_builtin; refine wpList_append_own _ rfl (.tmp 61) (.tmp 63) 22 rfl w.heap.size 28 i0 (.agg #[.bool false, .int .i64 0, .int .i64 0, .bool false]) 4 32 Try.underlying22 hi hz0 hz1 hz2 rfl (by decide) _ k _ rfl (by have := K.out.1.later (bt hbw9 (ba _ (.cells #[.bool true, .int .i64 s, .int .i64 (-9), .bool true] 28))); unfold Own at this; rw [K.out.2.2.2.2] at this; exact this) ⟨_, 0, none⟩ 1 1 (rowH (true, s, -9, true)) rfl rfl (new_cells rfl _ #[.bool true, .int .i64 s, .int .i64 (-9), .bool true]) (by simp [Value.oneCell']) (by unfold maxLen; omega) (by omega) (by have := K.out.2.2.1.size; have := hbw9.size; simp only [World.size_alloc]; omega) ?_; intro v5 w5 hO5 hg5 _; obtain ⟨A5, n5, c5, rfl⟩ := own_shape hO5)
            go_roundw
            case rel => exact ⟨k + 1, (k : Int), by omega, by omega, by go_num, by first | rfl | go_num, by rw [K.out.2.2.2.1]; exact Own.more K.out.2.2.2.2.symm hO5, by rw [K.out.2.2.2.1]; exact HK1.out, own_past (bt K.out.2.2.1 (bt hbw9 (ba _ (.cells #[.bool true, .int .i64 s, .int .i64 (-9), .bool true] 28)))) hg5 K.out.1⟩
            case measure => simp [intOf]; omega
          · have hqk : q < k := by have := K.out.2.2.2.2; omega
            obtain ⟨g2, rfl, _, _, _, hc2⟩ := (K.out.1.later hbW').cells (f := rowH) (k := 4) (fun _ => rfl) rfl (show 0 < L.length by omega)
            have y1 := hc2 q hq 1 _ rfl
            have hkeep := K.out.2.1.keep (true, s, -9, true) hq
            have hturn := K.out.2.1.turn (true, s, -9, true) rfl hq
            rw [K.out.2.2.2.2] at hturn
            clear hc2
            have g1 : decide ((q : Int) < 0) = false := decide_eq_false (by omega)
            have g3 : ¬ (q : Int) < 0 := by omega
            have g4 : q < k := hqk
            simp only at hkeep hturn
            generalize (L[q]'hq).2.1 = m at *
            by_cases hlt2 : s < m
            · have HK1 := Lib.hid (hturn hlt2); clear hturn hkeep
              go_wp2
              go_quiet (fail)
              have hbw9 : Below wr.heap.size wr (W.drewN nq) := below_drewN hbW' _
              go_wp2_with (at_builtin; refine wpList_append_own _ rfl (.tmp 61) (.tmp 63) 22 rfl w.heap.size 28 i0 (.agg #[.bool false, .int .i64 0, .int .i64 0, .bool false]) 4 32 Try.underlying22 hi hz0 hz1 hz2 rfl (by decide) _ k _ rfl (by have := K.out.1.later (bt hbw9 (ba _ (.cells #[.bool true, .int .i64 s, .int .i64 (-9), .bool true] 28))); unfold Own at this; rw [K.out.2.2.2.2] at this; exact this) ⟨_, 0, none⟩ 1 1 (rowH (true, s, -9, true)) rfl rfl (new_cells rfl _ #[.bool true, .int .i64 s, .int .i64 (-9), .bool true]) (by simp [Value.oneCell']) (by unfold maxLen; omega) (by omega) (by have := K.out.2.2.1.size; have := hbw9.size; simp only [World.size_alloc]; omega) ?_; intro v5 w5 hO5 hg5 _; obtain ⟨A5, n5, c5, rfl⟩ := own_shape hO5)
              go_roundw
              case rel => exact ⟨k + 1, (k : Int), by omega, by omega, by go_num, by first | rfl | go_num, by rw [K.out.2.2.2.1]; exact Own.more K.out.2.2.2.2.symm hO5, by rw [K.out.2.2.2.1]; exact HK1.out, own_past (bt K.out.2.2.1 (bt hbw9 (ba _ (.cells #[.bool true, .int .i64 s, .int .i64 (-9), .bool true] 28)))) hg5 K.out.1⟩
              case measure => simp [intOf]; omega
            · have HK1 := Lib.hid (hkeep hlt2); clear hturn hkeep
              go_wp2
              go_quiet (fail)
              have hbw9 : Below wr.heap.size wr (W.drewN nq) := below_drewN hbW' _
              go_wp2_with (at_builtin; refine wpList_append_own _ rfl (.tmp 61) (.tmp 63) 22 rfl w.heap.size 28 i0 (.agg #[.bool false, .int .i64 0, .int .i64 0, .bool false]) 4 32 Try.underlying22 hi hz0 hz1 hz2 rfl (by decide) _ k _ rfl (by have := K.out.1.later (bt hbw9 (ba _ (.cells #[.bool true, .int .i64 s, .int .i64 (-9), .bool true] 28))); unfold Own at this; rw [K.out.2.2.2.2] at this; exact this) ⟨_, 0, none⟩ 1 1 (rowH (true, s, -9, true)) rfl rfl (new_cells rfl _ #[.bool true, .int .i64 s, .int .i64 (-9), .bool true]) (by simp [Value.oneCell']) (by unfold maxLen; omega) (by omega) (by have := K.out.2.2.1.size; have := hbw9.size; simp only [World.size_alloc]; omega) ?_; intro v5 w5 hO5 hg5 _; obtain ⟨A5, n5, c5, rfl⟩ := own_shape hO5)
              go_roundw
              case rel => exact ⟨k + 1, (q : Int), by omega, by omega, by go_num, by first | rfl | go_num, by rw [K.out.2.2.2.1]; exact Own.more K.out.2.2.2.2.symm hO5, by rw [K.out.2.2.2.1]; exact HK1.out, own_past (bt K.out.2.2.1 (bt hbw9 (ba _ (.cells #[.bool true, .int .i64 s, .int .i64 (-9), .bool true] 28)))) hg5 K.out.1⟩
              case measure => simp [intOf]; omega
    · have hT : (nearL l).take k = nearL l := List.take_of_length_le (by rw [near_len]; omega)
      rw [hT] at hO hB hln
      have cP := Pick_any (nearL l) _ wr (heads_at hO)
      have hdn := near_done l
      have hk7 : k ≤ 6 := hk6
      generalize nearL l = L at *
      have hlt' : k = l.length ∨ k = 6 := by omega
      have K := Lib.hid (And.intro hO (And.intro hB (And.intro hb (And.intro hdn (And.intro hln cP))))); clear hO hB hb hdn hln cP b1 b2 b3 hT
      have hcond : ¬ k < l.length ∨ (k < l.length ∧ ¬ k < 6) := by omega
      clear hlt' hlt hk hk6
      obtain ⟨kk, hkk, hkk2⟩ : ∃ kk : Nat, p0 % ((k : Int) + 1) = (kk : Int) ∧ kk ≤ k := ⟨(p0 % ((k : Int) + 1)).toNat, by have := Int.emod_nonneg p0 (show (k : Int) + 1 ≠ 0 by omega); omega, by have := Int.emod_lt_of_pos p0 (show (0 : Int) < (k : Int) + 1 by omega); omega⟩
      have hq3 : IntKind.i64.wrap p0 = p0 := IntWalk.i64_in _ (by omega)
      rcases hcond with hc1 | ⟨hc1, hc2⟩
      all_goals
        go_wp2_with fail
        go_at_call 12
        ((with_reducible refine (K.out.2.2.2.2.2).mono ?_); rintro e w1 ⟨r, ⟨rfl, hPI⟩, b1⟩)
        obtain rfl := knows_one K.out.2.2.2.1 K.out.2.1 hPI
        clear hPI
        rcases K.out.2.1 with ⟨rfl, _⟩ | ⟨q, rfl, hqb⟩
        · have HE := Lib.hid (bt K.out.2.2.1 b1); clear b1
          go_wp2
          go_ret
          exact ⟨rfl, HE.out⟩
        · have hqk : q < k := by have := K.out.2.2.2.2.1; obtain ⟨hq, _⟩ := hqb; omega
          have hOw := K.out.1.later b1
          have hbW := bt K.out.2.2.1 b1
          have hln := K.out.2.2.2.2.1
          have KK := Lib.hid (And.intro hOw (And.intro hbW (And.intro hqb (And.intro hln K.out.2.2.2.1)))); clear hOw hbW hqb hln b1 K
          have hOn := KK.out.1
          obtain ⟨A1, c1, hr1, hat1⟩ := At.upto (P := Try.prog) undH szH (Own.at_ (f := rowH) (k := 4) (fun _ => rfl) KK.out.1) kk (by have := KK.out.2.2.2.1; omega)
          obtain ⟨A2, c2, hr2, hat2⟩ := At.from_ (P := Try.prog) undH szH (Own.at_ (f := rowH) (k := 4) (fun _ => rfl) KK.out.1) kk (by have := KK.out.2.2.2.1; omega)
          rw [KK.out.2.2.2.1] at hr2 hat2
          have hlt1 : (L.take kk).length = kk := by have := KK.out.2.2.2.1; rw [List.length_take]; omega
          have hlt2 : (L.drop kk).length = k - kk := by have := KK.out.2.2.2.1; rw [List.length_drop]; omega
          obtain ⟨n2, hn2⟩ : ∃ n, n = k - kk := ⟨_, rfl⟩
          rw [← hn2] at hr2 hat2 hlt2
          have KM := Lib.hid (And.intro hat1 (And.intro hat2 (And.intro hlt1 (And.intro hlt2 hn2)))); clear hat1 hat2 hlt1 hlt2 hOn hn2
          go_upto_region 18 with fail
          go_cut [12, 13] (fun kv mv wx => kv = .int .i64 (kk : Int) ∧ ∃ A n c, mv = .slice A n c ∧ Own wx w1.heap.size 28 4 rowH mv (L.take kk ++ [(false, 0, t, false)] ++ L.drop kk) ∧ Below w1.heap.size w1 wx)
          case first =>
            go_region_law (first
              | (refine step_append_at rfl (.tmp 85) (.tmp 88) 22 rfl w1.heap.size 28 i0 (.agg #[.bool false, .int .i64 0, .int .i64 0, .bool false]) 4 32 Try.underlying22 hi hz0 hz1 hz2 rfl (by decide) (f := rowH) (fun _ => rfl) head_one _ (L.take kk ++ [(false, 0, t, false)]) (by simp [Act.eval, Act.put]) hO6 A2 n2 c2 (L.drop kk) KM.out.2.2.2.1.symm (by simp [Act.eval, Act.put]) (KM.out.2.1.later b6) (by have := KM.out.2.2.1; have := KM.out.2.2.2.2; unfold maxLen; rw [List.length_append]; simp only [List.length_cons, List.length_nil]; omega) (by have := KM.out.2.2.1; have := KM.out.2.2.2.2; rw [List.length_append]; simp only [List.length_cons, List.length_nil]; omega) b6.size ?_; intro v7 w7 hO7 hg7; have b7 := own_past b6 hg7 hO6; obtain ⟨A7, n7, c7, rfl⟩ := own_shape hO7; clear hg7)
              | (refine step_append_own rfl (.tmp 81) (.tmp 84) 22 rfl w1.heap.size 28 i0 (.agg #[.bool false, .int .i64 0, .int .i64 0, .bool false]) 4 32 Try.underlying22 hi hz0 hz1 hz2 rfl (by decide) (.slice A5 n5 c5) kk _ rfl (by first | exact hO5k | exact ownsRow_later hO5k (ba _ _)) ⟨_, 0, none⟩ 1 1 (rowH (false, 0, t, false)) rfl rfl (by first | exact blk_cells hX5 | exact new_cells rfl _ _) (by simp [Value.oneCell']) (by unfold maxLen; omega) (by omega) (by first | exact b5.size | exact (bt b5 (ba _ _)).size) ?_; intro v6 w6 hO6 hg6 _; replace hO6 := Own.more KM.out.2.2.1.symm hO6; have b6 : Below w1.heap.size w1 w6 := (by first | exact own_past b5 hg6 hO5 | exact own_past (bt b5 (ba _ _)) hg6 hO5); obtain ⟨A6, n6, c6, rfl⟩ := own_shape hO6; clear hg6)
              | (refine step_append_at rfl (.const (.slice none 0 0)) (.tmp 80) 22 rfl w1.heap.size 28 i0 (.agg #[.bool false, .int .i64 0, .int .i64 0, .bool false]) 4 32 Try.underlying22 hi hz0 hz1 hz2 rfl (by decide) (f := rowH) (fun _ => rfl) head_one _ [] (by simp [Act.eval, Act.put]) (Own.nil _ _ _ _ _) A1 kk c1 (L.take kk) KM.out.2.2.1.symm (by simp [Act.eval, Act.put]) (KM.out.1.later (by (first | exact Below.refl _ _ | exact below_drew (Below.refl _ _) | exact ba _ _ | exact below_drew (ba _ _) | exact (below_drew (Below.refl _ _)).trans ((ba _ _).mono (Nat.le_refl _))))) (by unfold maxLen; simp only [List.length_nil]; omega) (by simp only [List.length_nil]; omega) (by first | exact Nat.le_refl _ | simp) ?_; intro v5 w5 hO5 hg5; rw [List.nil_append] at hO5; have b5 : Below w1.heap.size w1 w5 := own_past (by (first | exact Below.refl _ _ | exact below_drew (Below.refl _ _) | exact ba _ _ | exact below_drew (ba _ _) | exact (below_drew (Below.refl _ _)).trans ((ba _ _).mono (Nat.le_refl _)))) hg5 (Own.nil w1 w1.heap.size 28 4 rowH); obtain ⟨A5, n5, c5, rfl⟩ := own_shape hO5; have hO5k := hO5; unfold Own at hO5k; rw [KM.out.2.2.1] at hO5k; try (have hX5 : Blk w5 w1.heap.size 28 #[.bool false, .int .i64 0, .int .i64 t, .bool false] := Blk.grown (blk_drew (Blk.new w1 _ _)) hg5 (by simp [Value.ownBlock])); clear hg5))
            all_goals
              go_wp2_with fail
              refine Met.intro ?_
              go_simp
              go_step
              (repeat apply Exists.intro)
              exact ⟨⟨rfl, _, _, _, rfl, hO7, b7⟩, rfl⟩
          case rest =>
            obtain ⟨rfl, A7, n7, c7, rfl, hO7, b7⟩ := hcut
            have cP2 := Pick_any _ _ wc (heads_at hO7)
            have hL := KK.out.1.later b7
            have hqL : q < L.length := by have := KK.out.2.2.2.1; omega
            obtain ⟨g2, rfl, _, _, _, hc2⟩ := hL.cells (f := rowH) (k := 4) (fun _ => rfl) rfl (show 0 < L.length by omega)
            have y1 := hc2 q hqL 1 _ rfl
            have hpm := knows_two KK.out.2.2.2.2 KK.out.2.2.1 t kk (by have := KK.out.2.2.2.1; omega) hqL
            generalize (L[q]'hqL).2.1 = m at *
            have K := Lib.hid (And.intro cP2 (And.intro (bt KK.out.2.1 b7) hpm)); clear cP2 hpm hL hc2 hO7
            have g3 : ¬ (q : Int) < 0 := by omega
            have hkc : (kk ≤ q ∧ movedI q kk = q + 1) ∨ (q < kk ∧ movedI q kk = q) := by
              unfold movedI; by_cases h : kk ≤ q
              · exact Or.inl ⟨h, if_pos h⟩
              · exact Or.inr ⟨by omega, if_neg h⟩
            have htc : t < m ∨ t = m ∨ m < t := by omega
            rcases hkc with ⟨hk8, hmv⟩ | ⟨hk8, hmv⟩ <;> rcases htc with ht | rfl | ht
            · have hA : aheadB t m kk q = true := by
                unfold aheadB; rw [hmv, Bool.eq_iff_iff]; simp <;> omega
              have hR : ∀ r, PickIs (L.take kk ++ [(false, 0, t, false)] ++ L.drop kk) r → r = (-1) := fun r h => by
                have := K.out.2.2 r h
                rw [this, if_pos hA]
              have HV := Lib.hid (And.intro hR (And.intro K.out.1 K.out.2.1)); clear hmv hR hA
              go_wp2_with (go_at_call 12; ((with_reducible refine (HV.out.2.1).mono ?_); rintro e w9 ⟨r, ⟨rfl, hPI⟩, b9⟩; obtain rfl := HV.out.1 r hPI; clear hPI; have HB9 := Lib.hid (bt HV.out.2.2 b9); clear b9))
              go_ret
              exact ⟨retB (by simp <;> omega), HB9.out⟩
            · have hA : aheadB t t kk q = true := by
                unfold aheadB; rw [hmv, Bool.eq_iff_iff]; simp <;> omega
              have hR : ∀ r, PickIs (L.take kk ++ [(false, 0, t, false)] ++ L.drop kk) r → r = (-1) := fun r h => by
                have := K.out.2.2 r h
                rw [this, if_pos hA]
              have HV := Lib.hid (And.intro hR (And.intro K.out.1 K.out.2.1)); clear hmv hR hA
              go_wp2_with (go_at_call 12; ((with_reducible refine (HV.out.2.1).mono ?_); rintro e w9 ⟨r, ⟨rfl, hPI⟩, b9⟩; obtain rfl := HV.out.1 r hPI; clear hPI; have HB9 := Lib.hid (bt HV.out.2.2 b9); clear b9))
              go_ret
              exact ⟨retB (by simp <;> omega), HB9.out⟩
            · have hA : aheadB t m kk q = false := by
                unfold aheadB; rw [hmv, Bool.eq_iff_iff]; simp <;> omega
              have hR : ∀ r, PickIs (L.take kk ++ [(false, 0, t, false)] ++ L.drop kk) r → r = ((q : Int) + 1) := fun r h => by
                have := K.out.2.2 r h
                rw [this, if_neg (by rw [hA]; simp)]; simp [hmv]
              have HV := Lib.hid (And.intro hR (And.intro K.out.1 K.out.2.1)); clear hmv hR hA
              have z1 : ((q : Int) + 1 == -1) = false := beq_eq_false_iff_ne.2 (by omega)
              have z2 : decide (t < m) = false := decide_eq_false (by omega)
              have z3 : ¬ t = m := by omega
              have z4 : (t == m) = false := by simpa using z3
              go_wp2_with (go_at_call 12; ((with_reducible refine (HV.out.2.1).mono ?_); rintro e w9 ⟨r, ⟨rfl, hPI⟩, b9⟩; obtain rfl := HV.out.1 r hPI; clear hPI; have HB9 := Lib.hid (bt HV.out.2.2 b9); clear b9))
              go_ret
              exact ⟨retB (by simp <;> omega), HB9.out⟩
            · have hA : aheadB t m kk q = true := by
                unfold aheadB; rw [hmv, Bool.eq_iff_iff]; simp <;> omega
              have hR : ∀ r, PickIs (L.take kk ++ [(false, 0, t, false)] ++ L.drop kk) r → r = (-1) := fun r h => by
                have := K.out.2.2 r h
                rw [this, if_pos hA]
              have HV := Lib.hid (And.intro hR (And.intro K.out.1 K.out.2.1)); clear hmv hR hA
              go_wp2_with (go_at_call 12; ((with_reducible refine (HV.out.2.1).mono ?_); rintro e w9 ⟨r, ⟨rfl, hPI⟩, b9⟩; obtain rfl := HV.out.1 r hPI; clear hPI; have HB9 := Lib.hid (bt HV.out.2.2 b9); clear b9))
              go_ret
              exact ⟨retB (by simp <;> omega), HB9.out⟩
            · have hA : aheadB t t kk q = false := by
                unfold aheadB; rw [hmv, Bool.eq_iff_iff]; simp <;> omega
              have hR : ∀ r, PickIs (L.take kk ++ [(false, 0, t, false)] ++ L.drop kk) r → r = (q : Int) := fun r h => by
                have := K.out.2.2 r h
                rw [this, if_neg (by rw [hA]; simp)]; simp [hmv]
              have HV := Lib.hid (And.intro hR (And.intro K.out.1 K.out.2.1)); clear hmv hR hA
              have z1 : ((q : Int) == -1) = false := beq_eq_false_iff_ne.2 (by omega)
              have z2 : decide (kk < q) = false := decide_eq_false (by omega)
              go_wp2_with (go_at_call 12; ((with_reducible refine (HV.out.2.1).mono ?_); rintro e w9 ⟨r, ⟨rfl, hPI⟩, b9⟩; obtain rfl := HV.out.1 r hPI; clear hPI; have HB9 := Lib.hid (bt HV.out.2.2 b9); clear b9))
              go_ret
              exact ⟨retB (by simp <;> omega), HB9.out⟩
            · have hA : aheadB t m kk q = false := by
                unfold aheadB; rw [hmv, Bool.eq_iff_iff]; simp <;> omega
              have hR : ∀ r, PickIs (L.take kk ++ [(false, 0, t, false)] ++ L.drop kk) r → r = (q : Int) := fun r h => by
                have := K.out.2.2 r h
                rw [this, if_neg (by rw [hA]; simp)]; simp [hmv]
              have HV := Lib.hid (And.intro hR (And.intro K.out.1 K.out.2.1)); clear hmv hR hA
              have z1 : ((q : Int) == -1) = false := beq_eq_false_iff_ne.2 (by omega)
              have z2 : decide (t < m) = false := decide_eq_false (by omega)
              have z3 : ¬ t = m := by omega
              have z4 : (t == m) = false := by simpa using z3
              go_wp2_with (go_at_call 12; ((with_reducible refine (HV.out.2.1).mono ?_); rintro e w9 ⟨r, ⟨rfl, hPI⟩, b9⟩; obtain rfl := HV.out.1 r hPI; clear hPI; have HB9 := Lib.hid (bt HV.out.2.2 b9); clear b9))
              go_ret
              exact ⟨retB (by simp <;> omega), HB9.out⟩
end Go.Proofs.Ytcggkbopipnnoaa
