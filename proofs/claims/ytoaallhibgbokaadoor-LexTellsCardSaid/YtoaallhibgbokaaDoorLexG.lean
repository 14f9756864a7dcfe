/- Words of texts: contracts of Put, Signs. -/
import Derived.Test.YtoaallhibgbokaaDoorLexE
import Derived.OwnWalk
namespace Go.Proofs.YtoaallhibgbokaaDoor
open Go.ChangeShapes Go.WideShapes Go.ChangeAt Go.RowKit
set_option linter.unusedVariables false
set_option linter.unusedSimpArgs false

abbrev rowS (x : Bs) : List Value := [.string (mk x)]
theorem string_info6 : (Tryd.prog.info? 9).map (fun i => (i.zero, i.size, i.bytes)) = some (some (.string ⟨#[]⟩), 1, 16) := by kernel_rfl
theorem putT_join : ∀ L : List Tk, putT L = Lib.join (L.map raw) [32]
  | [] => rfl
  | [x] => by rw [List.map_cons, List.map_nil, Lib.join_one]; rfl
  | x :: y :: L => by
    show raw x ++ 32 :: putT (y :: L) = _
    rw [putT_join (y :: L), List.map_cons, List.map_cons, Lib.join_cons, Lib.join_cons]
    simp [Lib.joinTail]
theorem join_own6 {w : World} {base : Nat} {v : Value} {xs : List Bs} (h : Own w base 9 1 rowS v xs) (hN : xs.length ≤ 140737488355328) (hlen : (Lib.join xs [32]).length ≤ 140737488355328) :
    Calls Tryd.prog 22 #[v, .string ⟨#[32]⟩] w fun e w' => e = .returned (.string (mk (Lib.join xs [32]))) ∧ Below w.heap.size w w' := by
  obtain ⟨hl, hd⟩ := h
  have hmm : (xs.map mk).map (·.data.toList) = xs := by
    rw [List.map_map]
    conv => rhs; rw [← List.map_id xs]
    exact List.map_congr_left (fun x _ => mk_data x)
  have h32 : (⟨#[32]⟩ : ByteArray).data.toList = [32] := rfl
  rcases hd with ⟨rfl, h0⟩ | ⟨g, cap, cur, rfl, h1, h2, h3, h4, h5, h6⟩
  · have : xs = [] := List.length_eq_zero_iff.1 (by simpa using h0)
    subst this
    refine (Tryd.strings_Join_none none 0 ⟨#[32]⟩ w).mono ?_
    rintro e w' ⟨rfl, rfl⟩
    exact ⟨rfl, Below.refl _ _⟩
  · have := Tryd.strings_Join g 0 cap (xs.map mk) ⟨#[32]⟩ w (fun j x hj => by
      rw [Nat.zero_add, cell_of_row w g j cur 9 (0, 0) h2]
      have hjl := (List.getElem?_eq_some_iff.1 hj).1
      rw [List.length_map] at hjl
      have hh : (cur.toList.take (xs.length * 1))[j]? = some (.string x) := by
        rw [h6]
        have : xs.flatMap rowS = (xs.map mk).map Value.string := by
          clear hj hjl h6 h5 h3 hN hlen hmm hl
          induction xs with
          | nil => rfl
          | cons a r ih => rw [List.flatMap_cons, ih]; rfl
        rw [this, List.getElem?_map, hj]; rfl
      rw [List.getElem?_take_of_lt (by omega)] at hh
      simpa using hh) (Array.getElem?_eq_some_iff.1 h2).1 (by rw [List.length_map]; exact hN) (by rw [List.length_map]; exact h3) (by rw [hmm, h32]; exact hlen)
    rw [hmm, h32, List.length_map] at this
    exact this
set_option maxRecDepth 20000 in
set_option maxHeartbeats 2000000 in
theorem Put_any (v : Value) (L : List Tk) (w : World) (hv : At w 4 rowT v L) (hN : L.length ≤ 1000000000) (hs : ∀ x ∈ L, x.t.length ≤ 1000000000) (hlen : (putT L).length ≤ 140737488355328) :
    Calls Tryd.prog 16 #[v] w fun e w' => e = .returned (.string (mk (putT L))) ∧ Below w.heap.size w w' := by
  obtain ⟨A, cap, hve, _, h2, _⟩ := hv.shape
  have hcells := fun h0 => hv.cells hve h0
  subst hve
  clear hv
  rw [putT_join] at hlen ⊢
  obtain ⟨i0, hi, hz0, hz1, hz2⟩ := info_parts string_info6
  obtain ⟨n, hn⟩ : ∃ n, n = L.length := ⟨_, rfl⟩
  rw [← hn] at hN ⊢
  have hnm : n ≤ 9223372036854775807 := by omega
  have H := Lib.hid (And.intro hcells (And.intro hs (And.intro hlen hn))); clear hcells hs hlen hn
  go_enter Tryd.func16, Tryd.ntmps16
  go_wp2_with (at_make; refine wpList_make_own _ rfl _ _ 33 rfl w.heap.size 9 i0 (.string ⟨#[]⟩) 1 Tryd.underlying33 hi hz0 hz1 .i64 .i64 _ n rfl rfl rfl (by rw [hz2]; omega) (by unfold maxLen; omega) (Nat.le_refl _) ?_; intro w1 ho1 hg1; have HG := Lib.hid (And.intro ho1 ((Below.refl w.heap.size w).grown hg1 (Nat.le_refl _) (by simp))); clear ho1 hg1)
  go_loopw [3, 11] (fun f iv wr => ∃ (k : Nat), k ≤ n ∧ iv = .int .i64 (k : Int) ∧ Own wr w.heap.size 9 1 rowS f ((L.take k).map raw) ∧ Below w.heap.size w wr) (fun _ i _ => n - (intOf i).toNat)
  case atStart => exact ⟨0, Nat.zero_le _, rfl, (show World.ownsRow _ _ _ _ _ _ _ from HG.out.1), HG.out.2⟩
  case round =>
    obtain ⟨k, hk, rfl, hO, hb⟩ := hrel
    clear HG
    by_cases hlt : k < n
    · have hil : k < L.length := by rw [← H.out.2.2.2]; exact hlt
      obtain ⟨a, rfl, hC⟩ := H.out.1 (by omega)
      obtain ⟨c0, c1, c2, c3⟩ := (hC.later hb).row4 k hil rfl
      have htl := H.out.2.1 _ (List.getElem_mem hil)
      have htk : (L.take (k + 1)).map raw = (L.take k).map raw ++ [raw (L[k]'hil)] := by
        rw [List.take_succ_eq_append_getElem hil, List.map_append]; rfl
      have hln : ((L.take k).map raw).length = k := by rw [List.length_map, List.length_take]; omega
      generalize L[k]'hil = x at *
      clear hC
      obtain ⟨xk, xt, xn, xa⟩ := x
      simp only at c0 c1 c2 c3 htl
      have htz := mk_size xt
      obtain ⟨tb, htb⟩ : ∃ tb, mk xt = tb := ⟨_, rfl⟩
      rw [htb] at c1 htz
      obtain ⟨A', n', c', rfl⟩ := own_shape hO
      have bA := ba wr (.cells #[.int .i64 xk, .string tb, .int .i64 xn, .int .i64 (xa : Int)] 40)
      obtain ⟨d0, d1, d2, d3⟩ := Blk.four (Blk.new wr 40 #[.int .i64 xk, .string tb, .int .i64 xn, .int .i64 (xa : Int)])
      have hOA := hO.later bA
      by_cases h3 : xk = 3
      · subst h3
        have hq : (⟨#[39]⟩ : ByteArray) ++ tb ++ ⟨#[39]⟩ = mk (raw ⟨3, xt, xn, xa⟩) := by
          rw [← htb, ← mk_list (⟨#[39]⟩ ++ mk xt ++ ⟨#[39]⟩)]
          refine congrArg mk ?_
          rw [ByteArray.data_append, ByteArray.data_append, Array.toList_append, Array.toList_append, mk_data]
          rfl
        have gg1 : ¬ 9223372036854775807 < 1 + tb.size := by omega
        have gg2 : ¬ 9223372036854775807 < 1 + tb.size + 1 := by omega
        have hnew := blk_cells (Blk.new (wr.alloc (.cells #[.int .i64 3, .string tb, .int .i64 xn, .int .i64 (xa : Int)] 40)) 9 #[.string ((⟨#[39]⟩ : ByteArray) ++ tb ++ ⟨#[39]⟩)])
        rw [World.size_alloc] at hnew
        have bB := bt bA (ba (wr.alloc (.cells #[.int .i64 3, .string tb, .int .i64 xn, .int .i64 (xa : Int)] 40)) (.cells #[.string ((⟨#[39]⟩ : ByteArray) ++ tb ++ ⟨#[39]⟩)] 9))
        have hOB := hO.later bB
        have hOB' : ((wr.alloc (.cells #[.int .i64 3, .string tb, .int .i64 xn, .int .i64 (xa : Int)] 40)).alloc (.cells #[.string ((⟨#[39]⟩ : ByteArray) ++ tb ++ ⟨#[39]⟩)] 9)).ownsRow w.heap.size 9 1 (.slice A' n' c') k (((L.take k).map raw).flatMap rowS) := by
          have := hOB
          unfold Own at this
          rw [hln] at this; exact this
        have M := Lib.hid (And.intro hOB' (And.intro hnew (And.intro (bt hb bB) (And.intro hq (And.intro htk (And.intro hln hO)))))); clear hOB hOB' hnew hb bA bB hq htk hln hO hOA htb
        go_wp2_with (at_builtin; refine wpList_append_own _ rfl (.tmp 18) (.tmp 23) 33 rfl w.heap.size 9 i0 (.string ⟨#[]⟩) 1 16 Tryd.underlying33 hi hz0 hz1 hz2 rfl (by decide) (.slice A' n' c') k _ rfl M.out.1 ⟨_, 0, none⟩ 1 1 [.string ((⟨#[39]⟩ : ByteArray) ++ tb ++ ⟨#[39]⟩)] rfl rfl M.out.2.1 (by simp [Value.oneCell']) (by unfold maxLen; omega) (by omega) M.out.2.2.1.size ?_; intro v5 w5 hO5 hg5 _; obtain ⟨A5, n5, c5, rfl⟩ := own_shape hO5; have Z5 := Lib.hid (And.intro hO5 (own_past M.out.2.2.1 hg5 M.out.2.2.2.2.2.2)); clear hO5 hg5)
        go_roundw
        case rel =>
          refine ⟨k + 1, by omega, by go_num, ?_, Z5.out.2⟩
          have h9 := Z5.out.1
          rw [M.out.2.2.2.1] at h9
          rw [M.out.2.2.2.2.1]
          exact Own.more M.out.2.2.2.2.2.1.symm h9
        case measure => simp [intOf]; omega
      · have hq : tb = mk (raw ⟨xk, xt, xn, xa⟩) := by
          rw [← htb]; unfold raw; rw [if_neg h3]
        have hnew := blk_cells (Blk.new (wr.alloc (.cells #[.int .i64 xk, .string tb, .int .i64 xn, .int .i64 (xa : Int)] 40)) 9 #[.string (tb)])
        rw [World.size_alloc] at hnew
        have bB := bt bA (ba (wr.alloc (.cells #[.int .i64 xk, .string tb, .int .i64 xn, .int .i64 (xa : Int)] 40)) (.cells #[.string (tb)] 9))
        have hOB := hO.later bB
        have hOB' : ((wr.alloc (.cells #[.int .i64 xk, .string tb, .int .i64 xn, .int .i64 (xa : Int)] 40)).alloc (.cells #[.string (tb)] 9)).ownsRow w.heap.size 9 1 (.slice A' n' c') k (((L.take k).map raw).flatMap rowS) := by
          have := hOB
          unfold Own at this
          rw [hln] at this; exact this
        have M := Lib.hid (And.intro hOB' (And.intro hnew (And.intro (bt hb bB) (And.intro hq (And.intro htk (And.intro hln hO)))))); clear hOB hOB' hnew hb bA bB hq htk hln hO hOA htb
        go_wp2_with (at_builtin; refine wpList_append_own _ rfl (.tmp 25) (.tmp 28) 33 rfl w.heap.size 9 i0 (.string ⟨#[]⟩) 1 16 Tryd.underlying33 hi hz0 hz1 hz2 rfl (by decide) (.slice A' n' c') k _ rfl M.out.1 ⟨_, 0, none⟩ 1 1 [.string (tb)] rfl rfl M.out.2.1 (by simp [Value.oneCell']) (by unfold maxLen; omega) (by omega) M.out.2.2.1.size ?_; intro v5 w5 hO5 hg5 _; obtain ⟨A5, n5, c5, rfl⟩ := own_shape hO5; have Z5 := Lib.hid (And.intro hO5 (own_past M.out.2.2.1 hg5 M.out.2.2.2.2.2.2)); clear hO5 hg5)
        go_roundw
        case rel =>
          refine ⟨k + 1, by omega, by go_num, ?_, Z5.out.2⟩
          have h9 := Z5.out.1
          rw [M.out.2.2.2.1] at h9
          rw [M.out.2.2.2.2.1]
          exact Own.more M.out.2.2.2.2.2.1.symm h9
        case measure => simp [intOf]; omega
    · obtain rfl : k = n := by omega
      rw [List.take_of_length_le (by rw [← H.out.2.2.2]; exact Nat.le_refl _)] at hO
      have cJ := join_own6 hO (by rw [List.length_map, ← H.out.2.2.2]; omega) H.out.2.2.1
      have HJ := Lib.hid (And.intro cJ hb); clear cJ hb hO
      go_wp2_with (go_at_call 22; refine HJ.out.1.mono ?_; rintro e w5 ⟨rfl, b5⟩)
      go_ret
      exact ⟨rfl, bt HJ.out.2 b5⟩
/-- Signs tells all signs. -/
def SignsP (w : World) (e : Ending) (w' : World) : Prop := ∃ v, (e = .returned v ∧ Own w' w.heap.size 9 1 rowS v signL) ∧ Below w.heap.size w w'
set_option maxRecDepth 20000 in
set_option maxHeartbeats 2000000 in
theorem Signs_any (w : World) (hT : Tab w) : Calls Tryd.prog 13 #[] w (SignsP w) := by
  obtain ⟨i0, hi, hz0, hz1, hz2⟩ := info_parts string_info6
  have H := Lib.hid hT; clear hT
  go_enter Tryd.func13, Tryd.ntmps13
  go_wp2_with (at_make; refine wpList_make_own _ rfl _ _ 33 rfl w.heap.size 9 i0 (.string ⟨#[]⟩) 1 Tryd.underlying33 hi hz0 hz1 .i64 .i64 _ 25 rfl rfl rfl (by rw [hz2]; omega) (by unfold maxLen; omega) (Nat.le_refl _) ?_; intro w1 ho1 hg1; have HG := Lib.hid (And.intro ho1 ((Below.refl w.heap.size w).grown hg1 (Nat.le_refl _) (by simp))); clear ho1 hg1)
  go_loopw [1, 4] (fun f iv wr => ∃ (k : Nat), k ≤ 25 ∧ iv = .int .i64 (k : Int) ∧ Own wr w.heap.size 9 1 rowS f (signL.take k) ∧ Below w.heap.size w wr) (fun _ i _ => 25 - (intOf i).toNat)
  case atStart => exact ⟨0, Nat.zero_le _, rfl, (show World.ownsRow _ _ _ _ _ _ _ from HG.out.1), HG.out.2⟩
  case round =>
    obtain ⟨k, hk, rfl, hO, hb⟩ := hrel
    clear HG
    by_cases hlt : k < 25
    · have hil : k < signL.length := hlt
      have hg := (H.out.later hb).signs k hil
      have htk : signL.take (k + 1) = signL.take k ++ [signL[k]'hil] := List.take_succ_eq_append_getElem hil
      have hln : (signL.take k).length = k := by rw [List.length_take]; omega
      generalize signL[k]'hil = x at *
      obtain ⟨tb, htb⟩ : ∃ tb, mk x = tb := ⟨_, rfl⟩
      rw [htb] at hg
      obtain ⟨A', n', c', rfl⟩ := own_shape hO
      have hnew := blk_cells (Blk.new wr 9 #[.string tb])
      have bB := ba wr (.cells #[.string tb] 9)
      have hOB' : (wr.alloc (.cells #[.string tb] 9)).ownsRow w.heap.size 9 1 (.slice A' n' c') k ((signL.take k).flatMap rowS) := by
        have := hO.later bB
        unfold Own at this
        rw [hln] at this; exact this
      have M := Lib.hid (And.intro hOB' (And.intro hnew (And.intro (bt hb bB) (And.intro htb (And.intro htk (And.intro hln hO)))))); clear hOB' hnew hb bB htk hln hO htb
      go_wp2_with (at_builtin; refine wpList_append_own _ rfl (.tmp 7) (.tmp 11) 33 rfl w.heap.size 9 i0 (.string ⟨#[]⟩) 1 16 Tryd.underlying33 hi hz0 hz1 hz2 rfl (by decide) (.slice A' n' c') k _ rfl M.out.1 ⟨_, 0, none⟩ 1 1 [.string tb] rfl rfl M.out.2.1 (by simp [Value.oneCell']) (by unfold maxLen; omega) (by omega) M.out.2.2.1.size ?_; intro v5 w5 hO5 hg5 _; obtain ⟨A5, n5, c5, rfl⟩ := own_shape hO5; have Z5 := Lib.hid (And.intro hO5 (own_past M.out.2.2.1 hg5 M.out.2.2.2.2.2.2)); clear hO5 hg5)
      go_roundw
      case rel =>
        refine ⟨k + 1, by omega, by go_num, ?_, Z5.out.2⟩
        have h9 := Z5.out.1
        rw [← M.out.2.2.2.1] at h9
        rw [M.out.2.2.2.2.1]
        exact Own.more M.out.2.2.2.2.2.1.symm h9
      case measure => simp [intOf]; omega
    · obtain rfl : k = 25 := by omega
      obtain ⟨A', n', c', rfl⟩ := own_shape hO
      have M := Lib.hid (And.intro (show Own wr w.heap.size 9 1 rowS (.slice A' n' c') signL from hO) hb); clear hO hb
      go_wp2
      go_ret
      exact ⟨_, ⟨rfl, M.out.1⟩, M.out.2⟩
end Go.Proofs.YtoaallhibgbokaaDoor
