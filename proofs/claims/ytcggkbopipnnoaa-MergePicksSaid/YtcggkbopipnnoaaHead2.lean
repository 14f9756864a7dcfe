/- Contracts of package merge: Low and Pick. -/
import Derived.Test.YtcggkbopipnnoaaHead
import Derived.Test.YtcggkbopipnnoaaCells
namespace Go.Proofs.Ytcggkbopipnnoaa
open Go.ChangeShapes Go.WideShapes Go.ChangeAt Go.RowKit
open Mrg (Hd hlt ilt Least PickIs LowIs liveB keyI holdsB IsBest NoneHas)
set_option linter.unusedVariables false
set_option linter.unusedSimpArgs false

abbrev i64c (x : Int) : List Value := [.int .i64 x]
theorem int_least (l : List Int) (v : Value) (base : Nat) (w : World) (hv : Own w base 2 1 i64c v l) :
    Calls Try.prog 20 #[v, .func (.func 21) #[] #[]] w fun e w' => ∃ p : Int, (e = .returned (.int .i64 p) ∧ Least ilt l l.length p) ∧ Below w.heap.size w w' := by
  obtain ⟨A, c, rfl, h0, h1, h2⟩ := hv.shape
  have hm : l.length ≤ 9223372036854775807 := by unfold maxLen at h2; omega
  have H := Lib.hid hv; clear hv h0
  go_enter Try.func20, Try.ntmps20
  go_wp2
  go_loopw [5, 9] (fun pv iv wr => ∃ (k : Nat) (p : Int), k ≤ l.length ∧ iv = .int .i64 k ∧ pv = .int .i64 p ∧ Least ilt l k p ∧ Below w.heap.size w wr) (fun _ i _ => l.length - (intOf i).toNat)
  case atStart => exact ⟨0, -1, Nat.zero_le _, rfl, rfl, Least.start _ _, Below.refl _ _⟩
  case round =>
    obtain ⟨k, p, hk, rfl, rfl, hL, hb⟩ := hrel
    have K := Lib.hid (And.intro hL hb); clear hb
    by_cases hlt : k < l.length
    · rcases hL with ⟨rfl, rfl⟩ | ⟨q, hq, rfl, hqk, _, _⟩
      · go_wp2_with fail
        refine wp_region_quiet_below (by kernel_rfl) (by kernel_rfl) ?_
        repeat (go_big_quiet_step (fail))
        refine wpQuiet_nil ?_
        intro wq hw'
        have bq : Below wr.heap.size wr wq := by obtain ⟨p, rfl⟩ := hw'; exact below_regrown _ _ _
        clear hw'
        go_wp2
        go_roundw
        case rel => exact ⟨1, 0, by omega, rfl, rfl, Least.first Mrg.ilt_as hlt, bt K.out.2 bq⟩
        case measure => simp [intOf]; omega
      · obtain ⟨g, rfl, _, _, _, hc⟩ := (H.out.later K.out.2).cells (f := i64c) (k := 1) (fun _ => rfl) rfl (show 0 < l.length by omega)
        have c0 : wr.cell? ⟨g, k, none⟩ = some (.int .i64 (l[k]'hlt)) := by have := hc k hlt 0 _ rfl; simpa using this
        have d0 : wr.cell? ⟨g, q, none⟩ = some (.int .i64 (l[q]'hq)) := by have := hc q hq 0 _ rfl; simpa using this
        have hq0 := fun d os => cell_regrown c0 d os
        have hp0 := fun d os => cell_regrown d0 d os
        have cP := fun W => low1_any (l[k]'hlt) (l[q]'hq) W
        have hS := K.out.1.stay (by omega) hlt q hq rfl
        have hT := K.out.1.turn Mrg.ilt_co Mrg.ilt_as (by omega) hlt q hq rfl
        clear hc c0 d0
        have g1 : decide ((q : Int) < 0) = false := decide_eq_false (by omega)
        have g2 : ¬ (q : Int) < 0 := by omega
        generalize l[k]'hlt = x at *
        generalize l[q]'hq = y at *
        rcases hB : Mrg.ilt x y with _ | _
        · rw [hB] at cP
          have HS := Lib.hid (And.intro cP (hS hB)); clear hS hT cP hB
          go_wp2_with fail
          refine wp_region_quiet_below (by kernel_rfl) (by kernel_rfl) ?_
          repeat (go_big_quiet_step ((go_at_call 21; with_reducible exact Calls.regrown_of (HS.out.1 _))))
          refine wpQuiet_nil ?_
          intro wq hw'
          have bq : Below wr.heap.size wr wq := by obtain ⟨p, rfl⟩ := hw'; exact below_regrown _ _ _
          clear hw'
          go_wp2
          go_roundw
          case rel => exact ⟨k + 1, _, by omega, by go_num, rfl, HS.out.2, bt K.out.2 bq⟩
          case measure => simp [intOf]; omega
        · rw [hB] at cP
          have HS := Lib.hid (And.intro cP (hT hB)); clear hS hT cP hB
          go_wp2_with fail
          refine wp_region_quiet_below (by kernel_rfl) (by kernel_rfl) ?_
          repeat (go_big_quiet_step ((go_at_call 21; with_reducible exact Calls.regrown_of (HS.out.1 _))))
          refine wpQuiet_nil ?_
          intro wq hw'
          have bq : Below wr.heap.size wr wq := by obtain ⟨p, rfl⟩ := hw'; exact below_regrown _ _ _
          clear hw'
          go_wp2
          go_roundw
          case rel => exact ⟨k + 1, _, by omega, by go_num, rfl, HS.out.2, bt K.out.2 bq⟩
          case measure => simp [intOf]; omega
    · obtain rfl : k = l.length := by omega
      clear hL
      go_wp2
      go_ret
      exact ⟨_, ⟨rfl, K.out.1⟩, K.out.2⟩

def lowsOf (l : List Hd) : List Int := (l.filter liveB).map keyI
theorem lows_snoc (l : List Hd) (x : Hd) : lowsOf (l ++ [x]) = lowsOf l ++ (if liveB x = true then [keyI x] else []) := by
  unfold lowsOf; rw [List.filter_append]; by_cases h : liveB x = true <;> simp [h]
theorem lows_len (l : List Hd) : (lowsOf l).length ≤ l.length := by unfold lowsOf; simp [List.length_filter_le]
theorem low_some {l : List Hd} {q : Nat} (hq : q < (lowsOf l).length) (h : ∀ j (hj : j < (lowsOf l).length), j < (lowsOf l).length → ilt ((lowsOf l)[j]'hj) ((lowsOf l)[q]'hq) = false) : LowIs l ((lowsOf l)[q]'hq) true := by
  have hmem : (lowsOf l)[q]'hq ∈ lowsOf l := List.getElem_mem hq
  refine Or.inr ⟨rfl, ?_, fun j hj hl => ?_⟩
  · generalize (lowsOf l)[q]'hq = t at *
    unfold lowsOf at hmem
    obtain ⟨x, hx, rfl⟩ := List.mem_map.1 hmem
    obtain ⟨hx1, hx2⟩ := List.mem_filter.1 hx
    obtain ⟨j, hj, rfl⟩ := List.getElem_of_mem hx1
    exact ⟨j, hj, hx2, rfl⟩
  · have hm2 : keyI (l[j]'hj) ∈ lowsOf l := List.mem_map.2 ⟨_, List.mem_filter.2 ⟨List.getElem_mem hj, hl⟩, rfl⟩
    obtain ⟨i, hi, he⟩ := List.getElem_of_mem hm2
    have := h i hi hi
    rw [he] at this
    unfold ilt at this
    simpa using this
theorem low_none {l : List Hd} (h : lowsOf l = []) : LowIs l 0 false := by
  refine Or.inl ⟨rfl, rfl, fun j hj => ?_⟩
  rcases hb : liveB (l[j]'hj) with _ | _
  · rfl
  · have : keyI (l[j]'hj) ∈ lowsOf l := List.mem_map.2 ⟨_, List.mem_filter.2 ⟨List.getElem_mem hj, hb⟩, rfl⟩
    rw [h] at this
    exact absurd this (by simp)
theorem one_cell {w : World} {g : Nat} (hg : g = w.heap.size) (t : TypeId) (u : Value) : ∀ j x, [u][j]? = some x → (w.alloc (.cells #[u] t)).cell? ((⟨g, 0, none⟩ : Addr).add j) = some x := by
  subst hg
  intro j x h
  rcases j with _ | j
  · simp at h; subst h; rw [addr_pl, World.cell?_alloc_new]; rfl
  · simp at h
/-- Behind an append onto the call's own row nothing older has turned. -/
theorem own_below' {α : Type} {w wr w1 w2 : World} {e : TypeId} {k : Nat} {f : α → List Value} {v : Value} {l : List α} (h : Below w.heap.size w wr) (h1 : Below wr.heap.size wr w1) (hg : w1.grownBy w2 v.ownBlock) (hO : Own wr w.heap.size e k f v l) : Below w.heap.size w w2 := by
  refine (bt h h1).trans (grownBy_below hg (bt h h1).size ?_)
  intro b hb
  rcases hO.2 with ⟨rfl, _⟩ | ⟨g, cap, cur, rfl, h3, _⟩
  · simp [Value.ownBlock] at hb
  · simp [Value.ownBlock] at hb
    omega
theorem Low_any (l : List Hd) (v : Value) (w : World) (hv : HeadsAt w v l) (hl : l.length ≤ 4398046511200) :
    Calls Try.prog 10 #[v] w fun e w' => ∃ (t : Int) (ok : Bool), (e = .returned (.tuple #[.int .i64 t, .bool ok]) ∧ LowIs l t ok) ∧ Below w.heap.size w w' := by
  obtain ⟨A, cap, rfl, h1, h2, h3⟩ := hv
  obtain ⟨i0, hi, hz0, hz1, hz2⟩ := info_parts (P := Try.prog) (e := 2) (z := .int .i64 0) (size := 1) (bytes := 8) (by kernel_rfl)
  have hm : l.length ≤ 9223372036854775807 := by unfold maxLen at h2; omega
  have hm2 : l.length ≤ maxLen := by omega
  have H := Lib.hid (And.intro h3 hm2); clear h3 hm2
  go_enter Try.func10, Try.ntmps10
  go_wp2
  go_loopw [4, 10] (fun vv iv wr => ∃ (k : Nat), k ≤ l.length ∧ iv = .int .i64 k ∧ Own wr w.heap.size 2 1 i64c vv (lowsOf (l.take k)) ∧ Below w.heap.size w wr) (fun _ i _ => l.length - (intOf i).toNat)
  case atStart => exact ⟨0, Nat.zero_le _, rfl, Own.nil _ _ _ _ _, Below.refl _ _⟩
  case round =>
    obtain ⟨k, hk, rfl, hO, hb⟩ := hrel
    obtain ⟨B, c, rfl, hB0, hB1, hB2⟩ := hO.shape
    by_cases hlt : k < l.length
    · obtain ⟨a, rfl, hc⟩ := H.out.1 (by omega)
      obtain ⟨c0, c1, c2, c3⟩ := (hc k hlt).later hb
      have hts : l.take (k + 1) = l.take k ++ [l[k]'hlt] := List.take_succ_eq_append_getElem hlt
      have hsn := lows_snoc (l.take k) (l[k]'hlt)
      rw [← hts] at hsn
      have hll : (lowsOf (l.take k)).length ≤ k := by have := lows_len (l.take k); have h := List.length_take_le k l; omega
      have hbl : (lowsOf (l.take k)).length + 1 ≤ maxLen ∧ ((lowsOf (l.take k)).length + 1) * 8 ≤ 140737488355328 := by unfold maxLen at *; omega
      clear hc hts
      generalize l[k]'hlt = hh at *
      obtain ⟨x, t, y, d⟩ := hh
      try simp only at c0 c1 c2 c3
      have HO := Lib.hid (And.intro hO (And.intro hb (And.intro hsn hbl))); clear hO hb hsn hbl hB0 hB1 hB2 hll
      cases x
      · cases d
        · go_wp2_with ((at_builtin; refine wpList_append_own _ rfl (.tmp 26) (.tmp 29) 60 rfl w.heap.size 2 i0 (.int .i64 0) 1 8 Try.underlying60 hi hz0 hz1 hz2 rfl (by decide) _ _ _ rfl (HO.out.1.later (bt (ba _ _) (ba _ _))) ⟨_, 0, none⟩ 1 1 [.int .i64 y] rfl rfl (one_cell (by simp) _ _) (by simp [Value.oneCell']) HO.out.2.2.2.1 HO.out.2.2.2.2 (by have := HO.out.2.1.size; simp only [World.size_alloc]; omega) ?_; intro v1 w1 hO1 hg1 _))
          go_roundw
          case rel => exact ⟨k + 1, by omega, by go_num, by rw [HO.out.2.2.1]; exact Own.more rfl hO1, own_below' HO.out.2.1 (bt (ba _ _) (ba _ _)) hg1 HO.out.1⟩
          case measure => simp [intOf]; omega
        · go_wp2
          go_roundw
          case rel => exact ⟨k + 1, by omega, by go_num, by rw [HO.out.2.2.1, show (if liveB (false, t, y, true) = true then [keyI (false, t, y, true)] else []) = ([] : List Int) from rfl, List.append_nil]; exact HO.out.1.later (ba _ _), bt HO.out.2.1 (ba _ _)⟩
          case measure => simp [intOf]; omega
      · go_wp2_with ((at_builtin; refine wpList_append_own _ rfl (.tmp 17) (.tmp 20) 60 rfl w.heap.size 2 i0 (.int .i64 0) 1 8 Try.underlying60 hi hz0 hz1 hz2 rfl (by decide) _ _ _ rfl (HO.out.1.later (bt (ba _ _) (ba _ _))) ⟨_, 0, none⟩ 1 1 [.int .i64 t] rfl rfl (one_cell (by simp) _ _) (by simp [Value.oneCell']) HO.out.2.2.2.1 HO.out.2.2.2.2 (by have := HO.out.2.1.size; simp only [World.size_alloc]; omega) ?_; intro v1 w1 hO1 hg1 _))
        go_roundw
        case rel => exact ⟨k + 1, by omega, by go_num, by rw [HO.out.2.2.1]; exact Own.more rfl hO1, own_below' HO.out.2.1 (bt (ba _ _) (ba _ _)) hg1 HO.out.1⟩
        case measure => simp [intOf]; omega
    · obtain rfl : k = l.length := by omega
      rw [List.take_length] at hO
      have cL := int_least (lowsOf l) _ w.heap.size wr hO
      have hlen : (lowsOf (l.take l.length)).length = (lowsOf l).length := by rw [List.take_length]
      rw [hlen] at *
      have HO := Lib.hid (And.intro hO (And.intro hb cL)); clear hO hb cL hB0 hlen
      go_wp2_with fail
      go_at_call 20
      ((with_reducible refine (HO.out.2.2).mono ?_); rintro e w1 ⟨p, ⟨rfl, hL⟩, b1⟩)
      rcases hL with ⟨h0, rfl⟩ | ⟨q, hq, rfl, h4, h5, _⟩
      · have HE := Lib.hid (And.intro (low_none (List.eq_nil_of_length_eq_zero h0)) (bt HO.out.2.1 b1)); clear h0 b1
        go_wp2
        refine bodyPost_ret (v := .tuple #[.int .i64 0, .bool false]) (by simp [results, Try.results10, go_sem]) rfl ⟨0, false, ⟨rfl, HE.out.1⟩, HE.out.2⟩
      · obtain ⟨g, rfl, _, _, _, hc⟩ := (HO.out.1.later b1).cells (f := i64c) (k := 1) (fun _ => rfl) rfl (show 0 < (lowsOf l).length by omega)
        have d0 : w1.cell? ⟨g, q, none⟩ = some (.int .i64 ((lowsOf l)[q]'hq)) := by have := hc q hq 0 _ rfl; simpa using this
        have HE := Lib.hid (And.intro (low_some hq h5) (bt HO.out.2.1 b1)); clear h5 b1 hc
        generalize (lowsOf l)[q]'hq = t at *
        go_wp2
        refine bodyPost_ret (v := .tuple #[.int .i64 t, .bool true]) (by simp [results, Try.results10, go_sem]) rfl ⟨t, true, ⟨rfl, HE.out.1⟩, HE.out.2⟩
end Go.Proofs.Ytcggkbopipnnoaa
