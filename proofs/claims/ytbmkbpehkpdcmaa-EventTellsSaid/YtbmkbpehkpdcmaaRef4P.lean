/- Contracts of the document's own Put, PutItem (chapter 4). -/
import Derived.Test.YtbmkbpehkpdcmaaRefG4
import Derived.Test.YtbmkbpehkpdcmaaRefP
import Derived.Test.YtbmkbpehkpdcmaaRef4G
import Derived.Test.YtbmkbpehkpdcmaaKeep
import Derived.Test.YtbmkbpehkpdcmaaHeldL
import Derived.Deep.RegionHeld3
import Derived.Deep.DeepCutAuto
import Derived.Deep.CutBlock
namespace Go.Proofs.Ytbmkbpehkpdcmaa
open Go.ChangeShapes Go.WideShapes Go.ChangeAt Go.RowKit
open Ev (V3 rightV OkV)
set_option linter.unusedVariables false
set_option linter.unusedSimpArgs false

theorem right_size64 {k n : Int} {s : ByteArray} (h : Val.right k n s = true) : s.size ≤ 64 := by
  unfold Val.right at h
  split at h
  · simp only [decide_eq_true_eq] at h; omega
  split at h
  · simp only [decide_eq_true_eq, Bool.and_eq_true] at h; omega
  split at h
  · simp only [decide_eq_true_eq, Bool.and_eq_true] at h; omega
  · exact absurd h (by simp)
/-- What is known of values that came in. -/
def RawV (l : List V3) : Prop := ∀ y ∈ l, y.2.2.size ≤ maxLen ∧ -9223372036854775808 ≤ y.2.1 ∧ y.2.1 ≤ 9223372036854775807
theorem RawV.ok {t : Int} {l : List V3} (h : RawV l) (hp : Ev.plain t l = true) : ∀ x ∈ l, OkV x := fun x hx => by
  obtain ⟨_, _, _, p3⟩ := Ev.plain_parts hp
  have hr : Val.right x.1 x.2.1 x.2.2 = true := p3 x hx
  exact ⟨hr, (h x hx).2.1, (h x hx).2.2, right_size64 hr⟩
theorem cat_data (a b : ByteArray) : (a ++ b).data.toList = a.data.toList ++ b.data.toList := by simp
set_option maxRecDepth 20000 in
set_option maxHeartbeats 4000000 in
theorem rEPut_any (t : Int) (v : Value) (l : List V3) (w : World) (hv : ValsAt w v l) (hr : RawV l) :
    Calls Try.prog 25 #[ev t v] w fun e w' => e = .returned (.string ⟨(Ev.put t l).toArray⟩) ∧ Below w.heap.size w w' := by
  have cP := fun X (hX : Below w.heap.size w X) => rPlain_any t v l X (hv.later hX) (fun x hx => (hr x hx).1)
  obtain ⟨A, cap, rfl, h1, h2, h3⟩ := id hv
  obtain ⟨n, hn⟩ : ∃ n, n = l.length := ⟨_, rfl⟩
  rw [← hn] at cP h1 ⊢
  have HN := Lib.hid hn; clear hn
  have bA := ba w (.cells #[.int .i64 t, .slice A n cap] 44)
  have hB := Blk.new w 44 #[.int .i64 t, .slice A n cap]
  rcases hp : Ev.plain t l with _ | _
  · rw [hp] at cP
    have E := Lib.hid (Ev.put_no hp)
    have H := Lib.hid cP; clear cP hp h3
    go_enter Try.func25, Try.ntmps25
    go_wp2_with fail
    try go_at_call 21
    with_reducible refine (H.out _ bA).mono ?_
    rintro e w1 ⟨rfl, b1⟩
    go_wp2_with fail
    go_ret
    exact ⟨by rw [E.out]; rfl, bt bA b1⟩
  · rw [hp] at cP
    obtain ⟨p0, p1, p2, p3⟩ := Ev.plain_parts hp
    have hok := hr.ok hp
    have E := Lib.hid (And.intro (Ev.put_yes hp) (And.intro HN.out (And.intro hok h3)))
    have p2' : n ≤ 6 := by have := HN.out; omega
    have H := Lib.hid (And.intro cP (And.intro bA hB)); clear cP hp h3 hok bA hB p3
    obtain ⟨u, rfl⟩ : ∃ u : Nat, t = (u : Int) := ⟨t.toNat, by omega⟩
    go_enter Try.func25, Try.ntmps25
    go_wp2_with fail
    try go_at_call 21
    with_reducible refine (H.out.1 _ H.out.2.1).mono ?_
    rintro e w1 ⟨rfl, b1⟩
    have K := Lib.hid (And.intro (bt H.out.2.1 b1) (H.out.2.2.later b1)); clear b1
    go_upto_region 3 with fail
    go_cut [3] from 8 to 34 (fun sv wx => sv = .string ⟨(Num.put u ++ [n.toUInt8]).toArray⟩ ∧ Below w1.heap.size w1 wx)
    case first =>
      have p0 := K.out.2.cell
      have hwu : IntKind.u64.wrap (u : Int) = (u : Int) := IntWalk.u64_in _ (by omega)
      have hw8 : IntKind.u8.wrap (n : Int) = (n : Int) := IntWalk.u8_in _ (by omega)
      have hz : (n : Int) = (n.toUInt8.toNat : Int) := by rw [show n.toUInt8.toNat = n from by simp; omega]
      have n10 := Num.put_ten (u := u) (by omega)
      have hw0 := Lib.hid hz; clear hz
      have bs0 := byte_string_at (w1.alloc (.cells #[.int .u8 (n : Int)] 5)).drew w1.heap.size (n : Int) n.toUInt8 (Blk.new w1 _ _) hw0.out
      have hsz : (⟨(Num.put u).toArray⟩ : ByteArray).size = (Num.put u).length := by show (Num.put u).toArray.size = _; simp
      have nls : ¬ 9223372036854775807 < (Num.put u).length + 1 := by omega
      have hcat : (⟨(Num.put u).toArray⟩ ++ ⟨#[n.toUInt8]⟩ : ByteArray) = ⟨(Num.put u ++ [n.toUInt8]).toArray⟩ := toList_inj (by simp [Lib.toList_data])
      have keepS : ∀ X, Below w1.heap.size w1 X → ∀ j, X.cell? ⟨w.heap.size, j, none⟩ = (#[.int .i64 (u : Int), .slice A n cap] : Array Value)[j]? := fun X hX => (K.out.2.later hX).cell
      refine wp_region_noPanic ?_
      refine HeldLast.wp_region_last_drew 11 (S := (fun X => ∀ j, X.cell? ⟨w.heap.size, j, none⟩ = (#[.int .i64 (u : Int), .slice A n cap] : Array Value)[j]?)) (by kernel_rfl) ?_ (fun hHeld => ?_)
      · exact keepS _ (below_drew (Below.refl _ _))
      refine HeldLast.wpAnyL_take (i := 0) (v := ?v0) [0, 1, 2, 3, 10, 11] rfl (by kernel_rfl) (by kernel_rfl) (by kernel_rfl) (by kernel_rfl) (fun _ _ _ h => h) (Or.inl ⟨by rfl, ?hy0⟩) (by assumption) ?rest0
      case hy0 => (intro w hSw; (try dsimp only at hSw); go_simp; try with_reducible rfl)
      try simp only [Act.put, List.setIfInBounds_toArray, List.set_cons_zero, List.set_cons_succ]
      refine HeldLast.wpAnyL_take (i := 1) (v := ?v1) [1, 2, 3, 10, 11] rfl (by kernel_rfl) (by kernel_rfl) (by kernel_rfl) (by kernel_rfl) (fun _ _ _ h => h) (Or.inl ⟨by rfl, ?hy1⟩) (by assumption) ?rest1
      case hy1 => (intro w hSw; (try dsimp only at hSw); go_simp; try with_reducible rfl)
      try simp only [Act.put, List.setIfInBounds_toArray, List.set_cons_zero, List.set_cons_succ]
      refine HeldLast.wpAnyL_take (i := 2) (v := ?v2) [2, 3, 10, 11] rfl (by kernel_rfl) (by kernel_rfl) (by kernel_rfl) (by kernel_rfl) (fun _ _ _ h => h) (Or.inl ⟨by rfl, ?hy2⟩) (by assumption) ?rest2
      case hy2 => (intro w hSw; (try dsimp only at hSw); go_simp; try with_reducible rfl)
      try simp only [Act.put, List.setIfInBounds_toArray, List.set_cons_zero, List.set_cons_succ]
      refine HeldLast.wpAnyL_take (i := 4) (v := ?v4) [4, 5, 6, 7, 8, 9, 10, 11] rfl (by kernel_rfl) (by kernel_rfl) (by kernel_rfl) (by kernel_rfl) (fun _ _ _ h => h) (Or.inl ⟨by rfl, ?hy4⟩) (by assumption) ?rest4
      case hy4 => (intro w hSw; (try dsimp only at hSw); go_simp; try with_reducible rfl)
      try simp only [Act.put, List.setIfInBounds_toArray, List.set_cons_zero, List.set_cons_succ]
      refine HeldLast.wpAnyL_take (i := 5) (v := ?v5) [5, 6, 7, 8, 9, 10, 11] rfl (by kernel_rfl) (by kernel_rfl) (by kernel_rfl) (by kernel_rfl) (fun _ _ _ h => h) (Or.inl ⟨by rfl, ?hy5⟩) (by assumption) ?rest5
      case hy5 => (intro w hSw; (try dsimp only at hSw); go_simp; try with_reducible rfl)
      try simp only [Act.put, List.setIfInBounds_toArray, List.set_cons_zero, List.set_cons_succ]
      refine HeldLast.wpAnyL_take (i := 6) (v := ?v6) [6, 7, 8, 9, 10, 11] rfl (by kernel_rfl) (by kernel_rfl) (by kernel_rfl) (by kernel_rfl) (fun _ _ _ h => h) (Or.inl ⟨by rfl, ?hy6⟩) (by assumption) ?rest6
      case hy6 => (intro w hSw; (try dsimp only at hSw); go_simp; try with_reducible rfl)
      try simp only [Act.put, List.setIfInBounds_toArray, List.set_cons_zero, List.set_cons_succ]
      refine HeldLast.wpAnyL_take (i := 7) (v := ?v7) [7, 8, 9, 10, 11] rfl (by kernel_rfl) (by kernel_rfl) (by kernel_rfl) (by kernel_rfl) (fun _ _ _ h => h) (Or.inl ⟨by rfl, ?hy7⟩) (by assumption) ?rest7
      case hy7 => (intro w hSw; (try dsimp only at hSw); go_simp; try with_reducible rfl)
      try simp only [Act.put, List.setIfInBounds_toArray, List.set_cons_zero, List.set_cons_succ]
      refine HeldLast.wpAnyL_ready (rs := [3, 8]) (by kernel_rfl) (by simp) ?_
      refine HeldLast.AllReadyL.cons rfl (fun K' hK => ?_) (HeldLast.AllReadyL.cons rfl (fun K' hK => ?_) HeldLast.AllReadyL.nil)
      · go_simp
        go_at_call 37
        refine (rPut_any (u : Int) _ (by omega) (by omega)).mono ?_
        rintro e w2 ⟨rfl, hb⟩
        rw [Int.toNat_natCast]
        have bP := bt (below_drew (Below.refl w1.heap.size w1)) hb
        refine hK.out _ _ ?_ (fun hHeld => ?_)
        · exact keepS _ (bP)
        clear hK K'
        try simp only [Act.put, List.setIfInBounds_toArray, List.set_cons_zero, List.set_cons_succ]
        refine HeldLast.wpAnyL_ready (rs := [8]) (by kernel_rfl) (by simp) ?_
        refine HeldLast.AllReadyL.cons rfl (fun K' hK => ?_) HeldLast.AllReadyL.nil
        go_simp
        have bs1 := byte_string_at (w2.alloc (.cells #[.int .u8 (n : Int)] 5)) w2.heap.size (n : Int) n.toUInt8 (Blk.new w2 _ _) hw0.out
        refine hK.out _ _ ?_ (fun hHeld => ?_)
        · exact keepS _ (bt bP (ba w2 (.cells #[.int .u8 (n : Int)] 5)))
        clear hK K'
        try simp only [Act.put, List.setIfInBounds_toArray, List.set_cons_zero, List.set_cons_succ]
        refine HeldLast.wpAnyL_ready (rs := [9]) (by kernel_rfl) (by simp) ?_
        refine HeldLast.AllReadyL.cons rfl (fun K' hK => ?_) HeldLast.AllReadyL.nil
        go_simp
        refine hK.out _ _ ?_ (fun hHeld => ?_)
        · exact keepS _ (bt bP (ba w2 (.cells #[.int .u8 (n : Int)] 5)))
        clear hK K'
        try simp only [Act.put, List.setIfInBounds_toArray, List.set_cons_zero, List.set_cons_succ]
        refine HeldLast.wpAnyL_ready (rs := [10]) (by kernel_rfl) (by simp) ?_
        refine HeldLast.AllReadyL.cons rfl (fun K' hK => ?_) HeldLast.AllReadyL.nil
        go_simp
        refine hK.out _ _ ?_ (fun hHeld => ?_)
        · exact keepS _ (bt bP (ba w2 (.cells #[.int .u8 (n : Int)] 5)))
        clear hK K'
        try simp only [Act.put, List.setIfInBounds_toArray, List.set_cons_zero, List.set_cons_succ]
        refine HeldLast.wpAnyL_ready (rs := [11]) (by kernel_rfl) (by simp) ?_
        refine HeldLast.AllReadyL.last rfl (fun K' hK => ?_)
        go_simp
        refine hK.out _ _ ?_
        clear hK K'
        try simp only [Act.put, List.setIfInBounds_toArray, List.set_cons_zero, List.set_cons_succ]
        refine HeldLast.wpAnyL_done (by kernel_rfl) ?_ _
        refine NoPanic.normal ?_
        go_wp2_with fail
        go_meet
        exact ⟨by first | rfl | rw [hcat], bt bP (ba w2 (.cells #[.int .u8 (n : Int)] 5))⟩
      · go_simp
        refine hK.out _ _ ?_ (fun hHeld => ?_)
        · exact keepS _ (below_drew (ba w1 (.cells #[.int .u8 (n : Int)] 5)))
        clear hK K'
        try simp only [Act.put, List.setIfInBounds_toArray, List.set_cons_zero, List.set_cons_succ]
        refine HeldLast.wpAnyL_ready (rs := [3, 9]) (by kernel_rfl) (by simp) ?_
        refine HeldLast.AllReadyL.cons rfl (fun K' hK => ?_) (HeldLast.AllReadyL.cons rfl (fun K' hK => ?_) HeldLast.AllReadyL.nil)
        · go_simp
          go_at_call 37
          refine (rPut_any (u : Int) _ (by omega) (by omega)).mono ?_
          rintro e w2 ⟨rfl, hb⟩
          rw [Int.toNat_natCast]
          have bP := bt (below_drew (ba w1 (.cells #[.int .u8 (n : Int)] 5))) hb
          have bs1 := byte_string_at w2 w1.heap.size (n : Int) n.toUInt8 (Blk.later (blk_drew (Blk.new w1 5 #[.int .u8 (n : Int)])) hb) hw0.out
          refine hK.out _ _ ?_ (fun hHeld => ?_)
          · exact keepS _ (bP)
          clear hK K'
          try simp only [Act.put, List.setIfInBounds_toArray, List.set_cons_zero, List.set_cons_succ]
          refine HeldLast.wpAnyL_ready (rs := [9]) (by kernel_rfl) (by simp) ?_
          refine HeldLast.AllReadyL.cons rfl (fun K' hK => ?_) HeldLast.AllReadyL.nil
          go_simp
          refine hK.out _ _ ?_ (fun hHeld => ?_)
          · exact keepS _ (bP)
          clear hK K'
          try simp only [Act.put, List.setIfInBounds_toArray, List.set_cons_zero, List.set_cons_succ]
          refine HeldLast.wpAnyL_ready (rs := [10]) (by kernel_rfl) (by simp) ?_
          refine HeldLast.AllReadyL.cons rfl (fun K' hK => ?_) HeldLast.AllReadyL.nil
          go_simp
          refine hK.out _ _ ?_ (fun hHeld => ?_)
          · exact keepS _ (bP)
          clear hK K'
          try simp only [Act.put, List.setIfInBounds_toArray, List.set_cons_zero, List.set_cons_succ]
          refine HeldLast.wpAnyL_ready (rs := [11]) (by kernel_rfl) (by simp) ?_
          refine HeldLast.AllReadyL.last rfl (fun K' hK => ?_)
          go_simp
          refine hK.out _ _ ?_
          clear hK K'
          try simp only [Act.put, List.setIfInBounds_toArray, List.set_cons_zero, List.set_cons_succ]
          refine HeldLast.wpAnyL_done (by kernel_rfl) ?_ _
          refine NoPanic.normal ?_
          go_wp2_with fail
          go_meet
          exact ⟨by first | rfl | rw [hcat], bP⟩
        · go_simp
          refine hK.out _ _ ?_ (fun hHeld => ?_)
          · exact keepS _ (below_drew (ba w1 (.cells #[.int .u8 (n : Int)] 5)))
          clear hK K'
          try simp only [Act.put, List.setIfInBounds_toArray, List.set_cons_zero, List.set_cons_succ]
          refine HeldLast.wpAnyL_ready (rs := [3]) (by kernel_rfl) (by simp) ?_
          refine HeldLast.AllReadyL.cons rfl (fun K' hK => ?_) HeldLast.AllReadyL.nil
          go_simp
          go_at_call 37
          refine (rPut_any (u : Int) _ (by omega) (by omega)).mono ?_
          rintro e w2 ⟨rfl, hb⟩
          rw [Int.toNat_natCast]
          have bP := bt (below_drew (ba w1 (.cells #[.int .u8 (n : Int)] 5))) hb
          have bs1 := byte_string_at w2 w1.heap.size (n : Int) n.toUInt8 (Blk.later (blk_drew (Blk.new w1 5 #[.int .u8 (n : Int)])) hb) hw0.out
          refine hK.out _ _ ?_ (fun hHeld => ?_)
          · exact keepS _ (bP)
          clear hK K'
          try simp only [Act.put, List.setIfInBounds_toArray, List.set_cons_zero, List.set_cons_succ]
          refine HeldLast.wpAnyL_ready (rs := [10]) (by kernel_rfl) (by simp) ?_
          refine HeldLast.AllReadyL.cons rfl (fun K' hK => ?_) HeldLast.AllReadyL.nil
          go_simp
          refine hK.out _ _ ?_ (fun hHeld => ?_)
          · exact keepS _ (bP)
          clear hK K'
          try simp only [Act.put, List.setIfInBounds_toArray, List.set_cons_zero, List.set_cons_succ]
          refine HeldLast.wpAnyL_ready (rs := [11]) (by kernel_rfl) (by simp) ?_
          refine HeldLast.AllReadyL.last rfl (fun K' hK => ?_)
          go_simp
          refine hK.out _ _ ?_
          clear hK K'
          try simp only [Act.put, List.setIfInBounds_toArray, List.set_cons_zero, List.set_cons_succ]
          refine HeldLast.wpAnyL_done (by kernel_rfl) ?_ _
          refine NoPanic.normal ?_
          go_wp2_with fail
          go_meet
          exact ⟨by first | rfl | rw [hcat], bP⟩
    case rest =>
      rename World => w2
      obtain ⟨rfl, b2⟩ := hcut
      have K2 := Lib.hid (And.intro (bt K.out.1 b2) (K.out.2.later b2)); clear b2
      obtain ⟨S0, hS0⟩ : ∃ S : ByteArray, S = ⟨(Num.put u ++ [n.toUInt8]).toArray⟩ := ⟨_, rfl⟩
      rw [← hS0]
      have HS := Lib.hid hS0; clear hS0
      have hn10 := Num.put_ten (u := u) (by omega)
      go_wp2_with fail
      go_loopw [3, 4] (fun sv iv wr => ∃ (k : Nat) (S : ByteArray), k ≤ n ∧ iv = .int .i64 (k : Int) ∧ sv = .string S ∧ S.data.toList = Num.put u ++ (n.toUInt8 :: Ev.body (l.take k)) ∧ Below w2.heap.size w2 wr) (fun _ iv _ => n - (intOf iv).toNat)
      case atStart => exact ⟨0, S0, Nat.zero_le _, rfl, rfl, by rw [HS.out]; simp [Ev.body], Below.refl _ _⟩
      case round =>
        rename World => wr
        obtain ⟨k, S, hk, rfl, rfl, hS, hb⟩ := hrel
        have p0' := (K2.out.2.later hb).cell
        by_cases hlt : k < n
        · have hkl : k < l.length := by have := E.out.2.1; omega
          obtain ⟨a, rfl, hc⟩ := E.out.2.2.2 (by omega)
          obtain ⟨c0, c1, c2⟩ := (hc k hkl).later (bt K2.out.1 hb)
          have hx := E.out.2.2.1 _ (List.getElem_mem hkl)
          have hmore : Ev.body (l.take (k + 1)) = Ev.body (l.take k) ++ Val.put (l[k]'hkl).1 (l[k]'hkl).2.1 (l[k]'hkl).2.2 := by
            rw [List.take_succ_eq_append_getElem hkl, Ev.body_snoc]; rfl
          have hpl := Ev.putV_len hx
          change (Val.put (l[k]'hkl).1 (l[k]'hkl).2.1 (l[k]'hkl).2.2).length ≤ 75 at hpl
          have hbl := Ev.body_len (m := l.take k) (fun x hx' => E.out.2.2.1 x (List.take_subset _ _ hx'))
          rw [List.length_take] at hbl
          have hSs : S.size ≤ 1000 := by
            have e1 : S.size = S.data.toList.length := by simp
            rw [e1, hS, List.length_append, List.length_cons]
            omega
          generalize l[k]'hkl = x at *
          obtain ⟨x1, x2, x3⟩ := x
          simp only at c0 c1 c2 hpl hmore
          obtain ⟨R, hR⟩ : ∃ R : ByteArray, R = ⟨(Val.put x1 x2 x3).toArray⟩ := ⟨_, rfl⟩
          have hRs : R.size ≤ 75 := by rw [hR]; show (Val.put x1 x2 x3).toArray.size ≤ 75; simpa using hpl
          have cR := fun X : World => rPut_v x1 x2 x3 X (by have := hx.size; simp only at this; unfold maxLen; omega) hx.lo hx.hi
          rw [← hR] at cR
          have hnl : ¬ 9223372036854775807 < S.size + R.size := by omega
          have C := Lib.hid (And.intro cR (And.intro hR (And.intro hS (And.intro hmore hb)))); clear cR hR hS hmore hb hx hpl hbl hc
          go_wp2_with fail
          try go_at_call 38
          refine (C.out.1 _).mono ?_
          rintro e w3 ⟨rfl, b3⟩
          go_wp2_with fail
          go_roundw
          case rel => exact ⟨k + 1, S ++ R, by omega, by go_num, rfl, by rw [cat_data, C.out.2.2.2.1, C.out.2.1, C.out.2.2.1]; simp, bt C.out.2.2.2.2 b3⟩
          case measure => simp [intOf]; omega
        · obtain rfl : k = n := by omega
          have hE : S = ⟨(Ev.put (u : Int) l).toArray⟩ := by
            refine toList_inj ?_
            rw [Lib.toList_data, Lib.toList_data, hS, E.out.1, ← E.out.2.1, Int.toNat_natCast, List.take_of_length_le (by have := E.out.2.1; omega)]
            try simp
          have Y := Lib.hid (And.intro hE (bt K2.out.1 hb)); clear hE hb hS
          go_wp2_with fail
          go_ret
          exact ⟨by rw [Y.out.1]; rfl, Y.out.2⟩
theorem rPutItem_no (m : Bool) (t : Int) (v : Value) (l : List V3) (w : World) (hv : ValsAt w v l) (hs : ∀ x ∈ l, x.2.2.size ≤ maxLen) (hr : Ev.rightI m t l = false) :
    Calls Try.prog 24 #[item m t v] w fun e w' => e = .returned (.string ⟨(Ev.putI m t l).toArray⟩) ∧ Below w.heap.size w w' := by
  have bA := ba w (.cells #[.bool m, .int .i64 t, v] 46)
  have cR := fun (w0 : World) (b : Below w.heap.size w w0) => rRight_i m t v l w0 (hv.later b) hs
  rw [hr] at cR
  rw [show Ev.putI m t l = [] by unfold Ev.putI; rw [hr]; rfl]
  have H := Lib.hid cR; clear cR hv hs hr
  go_enter Try.func24, Try.ntmps24
  go_wp2_with (go_at_call 23; ((with_reducible refine (H.out _ bA).mono ?_); rintro e w1 ⟨rfl, b1⟩))
  go_ret
  exact ⟨rfl, bt bA b1⟩
theorem rPutItem_mark (t : Int) (v : Value) (l : List V3) (w : World) (hv : ValsAt w v l) (hs : ∀ x ∈ l, x.2.2.size ≤ maxLen) (hr : Ev.rightI true t l = true) :
    Calls Try.prog 24 #[item true t v] w fun e w' => e = .returned (.string ⟨(Ev.putI true t l).toArray⟩) ∧ Below w.heap.size w w' := by
  have bA := ba w (.cells #[.bool true, .int .i64 t, v] 46)
  have cR := fun (w0 : World) (b : Below w.heap.size w w0) => rRight_i true t v l w0 (hv.later b) hs
  rw [hr] at cR
  rw [Ev.putI_mark hr]
  obtain ⟨p0, p1, -, -⟩ := Ev.plain_parts (Ev.rightI_plain hr)
  have n10 := Num.put_ten (u := t.toNat) (by omega)
  have B0 := Box3.new w (.bool true) (.int .i64 t) v 46
  have H := Lib.hid (And.intro cR B0); clear cR hv hs hr B0
  go_enter Try.func24, Try.ntmps24
  go_wp2_with (first
    | (go_at_call 23; ((with_reducible refine (H.out.1 _ bA).mono ?_); rintro e w1 ⟨rfl, b1⟩; obtain ⟨c0, c1, c2⟩ := H.out.2.later b1))
    | (go_at_call 37; ((with_reducible refine (rPut_any t _ p0 (by omega)).mono ?_); rintro e w2 ⟨rfl, b2⟩)))
  go_ret
  exact ⟨ret_buf (by simp), bt (bt bA b1) b2⟩
theorem rPutItem_event (t : Int) (v : Value) (l : List V3) (w : World) (hv : ValsAt w v l) (hs : ∀ x ∈ l, OkV x) (hp : Ev.plain t l = true) :
    Calls Try.prog 24 #[item false t v] w fun e w' => e = .returned (.string ⟨(Ev.putI false t l).toArray⟩) ∧ Below w.heap.size w w' := by
  have bA := ba w (.cells #[.bool false, .int .i64 t, v] 46)
  have hs1 : ∀ x ∈ l, x.2.2.size ≤ maxLen := fun x hx => by have := (hs x hx).size; unfold maxLen; omega
  have hr : Ev.rightI false t l = true := by unfold Ev.rightI; simp [hp]
  have cR := fun (w0 : World) (b : Below w.heap.size w w0) => rRight_i false t v l w0 (hv.later b) hs1
  rw [hr] at cR
  have hl := Ev.put_len hp hs
  rw [Ev.putI_event hp]
  have B0 := Box3.new w (.bool false) (.int .i64 t) v 46
  obtain ⟨X, hX⟩ : ∃ X : ByteArray, X = ⟨(Ev.put t l).toArray⟩ := ⟨_, rfl⟩
  have cX : ∀ (w0 : World) (b : Below w.heap.size w w0), Calls Try.prog 25 #[ev t v] w0 fun e w' => e = .returned (.string X) ∧ Below w0.heap.size w0 w' := fun w0 b => (rEPut_any t v l w0 (hv.later b) (fun x hx => ⟨hs1 x hx, (hs x hx).lo, (hs x hx).hi⟩)).mono fun _ _ ⟨he, hw⟩ => ⟨by rw [he, hX], hw⟩
  have hXs : X.size ≤ 500 := by rw [hX]; exact hl
  have H := Lib.hid (And.intro cR (And.intro B0 (And.intro cX hX))); clear cR hv hs hr B0 hs1 cX hX hl hp
  go_enter Try.func24, Try.ntmps24
  go_wp2_with (first
    | (go_at_call 23; ((with_reducible refine (H.out.1 _ bA).mono ?_); rintro e w1 ⟨rfl, b1⟩; obtain ⟨c0, c1, c2⟩ := H.out.2.1.later b1; have b01 := bt bA b1))
    | (go_at_call 25; ((with_reducible refine (H.out.2.2.1 _ b01).mono ?_); rintro e w2 ⟨rfl, b2⟩)))
  go_ret
  exact ⟨ret_buf (by rw [H.out.2.2.2]; simp), bt b01 b2⟩

theorem rPutItem_any (m : Bool) (t : Int) (v : Value) (l : List V3) (w : World) (hv : ValsAt w v l) (hr : RawV l) :
    Calls Try.prog 24 #[item m t v] w fun e w' => e = .returned (.string ⟨(Ev.putI m t l).toArray⟩) ∧ Below w.heap.size w w' := by
  rcases h : Ev.rightI m t l with _ | _
  · exact rPutItem_no m t v l w hv (fun x hx => (hr x hx).1) h
  · cases m with
    | true => exact rPutItem_mark t v l w hv (fun x hx => (hr x hx).1) h
    | false => exact rPutItem_event t v l w hv (hr.ok (Ev.rightI_plain h)) (Ev.rightI_plain h)
theorem PutItem_any (m : Bool) (t : Int) (v : Value) (l : List V3) (w : World) (hv : ValsAt w v l) (hr : RawV l) :
    Calls Try.prog 6 #[item m t v] w fun e w' => e = .returned (.string ⟨(Ev.putI m t l).toArray⟩) ∧ Below w.heap.size w w' := by
  rcases h : Ev.rightI m t l with _ | _
  · exact PutItem_no m t v l w hv (fun x hx => (hr x hx).1) h
  · cases m with
    | true => exact PutItem_mark t v l w hv (fun x hx => (hr x hx).1) h
    | false => exact PutItem_event t v l w hv (hr.ok (Ev.rightI_plain h)) (Ev.rightI_plain h)
end Go.Proofs.Ytbmkbpehkpdcmaa
