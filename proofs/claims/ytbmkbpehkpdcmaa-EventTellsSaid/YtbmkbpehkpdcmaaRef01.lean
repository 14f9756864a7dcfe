/- Contracts of the document's own answer to chapter 1. -/
import Derived.Test.YtbmkbpehkpdcmaaVari
import Derived.Test.YtbmkbpehkpdcmaaNum02
namespace Go.Proofs.Ytbmkbpehkpdcmaa
open Go.ChangeShapes Go.WideShapes Go.ChangeAt Go.RowKit
open Num (zig zag)

theorem rZig_any (n : Int) (w : World) (h0 : -9223372036854775808 ≤ n) (h1 : n ≤ 9223372036854775807) :
    Calls Try.prog 49 #[.int .i64 n] w fun e w' => e = .returned (.int .u64 (zig n)) ∧ w = w' := by
  by_cases h : 0 ≤ n
  · go_enter Try.func49, Try.ntmps49
    go_wp2
    go_ret
    exact ⟨ret_int (by unfold zig; rw [if_pos h]), rfl⟩
  · have h2 : n < 0 := by omega
    clear h
    go_enter Try.func49, Try.ntmps49
    go_wp2
    go_ret
    exact ⟨ret_int (by unfold zig; rw [if_neg (by omega)]; omega), rfl⟩

theorem rZag_any (u : Int) (w : World) (h0 : 0 ≤ u) (h1 : u ≤ 18446744073709551615) :
    Calls Try.prog 48 #[.int .u64 u] w fun e w' => e = .returned (.int .i64 (zag u)) ∧ w = w' := by
  by_cases h : u % 2 = 0
  · have hb : (u % 2 == 0) = true := by simpa using h
    have H := Lib.hid h; clear h
    go_enter Try.func48, Try.ntmps48
    go_wp2
    go_ret
    exact ⟨ret_int (by unfold zag; rw [if_pos H.out]), rfl⟩
  · have hb : (u % 2 == 0) = false := by simpa using h
    have H := Lib.hid h; clear h
    go_enter Try.func48, Try.ntmps48
    go_wp2
    go_ret
    exact ⟨ret_int (by unfold zag; rw [if_neg H.out]), rfl⟩

/-- 'string([]byte{x})'. -/
theorem rone_byte (w : World) (z : Int) (x : UInt8) (hz : z = (x.toNat : Int)) :
    (convert 27 9 (.slice (some ⟨w.heap.size, 0, none⟩) 1 1)).run Try.prog (w.alloc (.cells #[.int .u8 z] 5)) = .ok (.string ⟨#[x]⟩) (w.alloc (.cells #[.int .u8 z] 5)) := by
  subst hz
  exact run_convert_bytes_back (P := Try.prog) (w.alloc (.cells #[.int .u8 (x.toNat : Int)] 5)) 27 9 5 ⟨w.heap.size, 0, none⟩ 1 [x] Try.underlying27 Try.underlying5 Try.underlying9 (fun j hj => by
    have : j = 0 := by simp at hj; exact hj
    subst this
    rw [add_plain, World.cell?_alloc_new]; rfl)

theorem app_one (D : List UInt8) (x y : UInt8) (h : x = y) : (⟨D.toArray⟩ ++ ⟨#[x]⟩ : ByteArray) = ⟨(D ++ [y]).toArray⟩ := by
  subst h
  apply ByteArray.ext
  simp

set_option maxRecDepth 20000 in
theorem rPut_any (u : Int) (w : World) (h0 : 0 ≤ u) (h1 : u ≤ 18446744073709551615) :
    Calls Try.prog 37 #[.int .u64 u] w fun e w' => e = .returned (.string ⟨(Num.put u.toNat).toArray⟩) ∧ Below w.heap.size w w' := by
  go_enter Try.func37, Try.ntmps37
  go_wp2
  go_loopw [0, 3] (fun uv sv wr => ∃ (m : Nat) (D : List UInt8), uv = .int .u64 m ∧ sv = .string ⟨D.toArray⟩ ∧ Num.PutRel u.toNat m D ∧ Below w.heap.size w wr) (fun uv _ _ => (intOf uv).toNat)
  case atStart => exact ⟨u.toNat, [], by rw [Int.toNat_of_nonneg h0], rfl, Num.PutRel.start (by omega), Below.refl _ _⟩
  case round =>
    rename_i wr _
    obtain ⟨m, D, rfl, rfl, HP, hb⟩ := hrel
    have h9 := HP.le
    have hlt := HP.lt64
    by_cases hm : 128 ≤ m
    · have hcv := rone_byte wr ((m : Int) % 128 + 128) (m % 128 + 128).toUInt8 (by simp; omega)
      go_wp2
      exact ⟨⟨m / 128, D ++ [(m % 128 + 128).toUInt8], rfl, congrArg Value.string (app_one D _ _ (by rw [← UInt8.toNat_inj]; simp)), HP.step hm, hb.alloc hb.size _⟩, by simp [intOf]; omega⟩
    · have hcv := rone_byte wr (m : Int) m.toUInt8 (by simp; omega)
      have HL := Lib.hid (HP.last (by omega))
      go_wp2
      go_ret
      exact ⟨congrArg (fun s => Ending.returned (Value.string s)) ((app_one D _ m.toUInt8 rfl).trans (congrArg (fun l : List UInt8 => (⟨l.toArray⟩ : ByteArray)) HL.out)), hb.alloc hb.size _⟩

theorem rPutInt_any (n : Int) (w : World) (h0 : -9223372036854775808 ≤ n) (h1 : n ≤ 9223372036854775807) :
    Calls Try.prog 45 #[.int .i64 n] w fun e w' => e = .returned (.string ⟨(Num.put (zig n).toNat).toArray⟩) ∧ Below w.heap.size w w' := by
  have a0 := Num.zig_lo n
  have a1 := Num.zig_hi n h0 h1
  go_enter Try.func45, Try.ntmps45
  go_wp2_with (first | (go_at_call 49; refine (rZig_any _ _ h0 h1).mono ?_; rintro e w' ⟨rfl, rfl⟩) | (go_at_call 37; refine (rPut_any _ _ a0 a1).mono ?_; rintro e w' ⟨rfl, hb⟩))
  go_ret
  exact ⟨rfl, hb⟩

set_option maxRecDepth 20000 in
theorem rGet_any (s : ByteArray) (a : Int) (w : World) (hs : s.size ≤ maxLen) :
    Calls Try.prog 30 #[.string s, .int .i64 a] w fun e w' => e = .returned (getV s.data.toList a) ∧ w = w' := by
  unfold maxLen at hs
  by_cases h0 : a < 0
  · have E := Lib.hid (getV_none (Num.getAt_neg s.data.toList a h0))
    go_enter Try.func30, Try.ntmps30
    go_wp2
    go_ret3
    exact ⟨by rw [E.out]; rfl, rfl⟩
  by_cases h1 : (s.size : Int) ≤ a
  · have E := Lib.hid (getV_none (Num.getAt_past s.data.toList a (by simpa using h1)))
    go_enter Try.func30, Try.ntmps30
    go_wp2
    go_loop [1, 9] (fun av iv => av = .int .i64 a ∧ iv = .int .i64 0) (fun _ _ => 0)
    case atStart => exact ⟨rfl, rfl⟩
    case round =>
      obtain ⟨rfl, rfl⟩ := hrel
      go_wp2
      go_ret3
      exact ⟨by rw [E.out]; rfl, rfl⟩
  obtain ⟨n, rfl⟩ := Int.eq_ofNat_of_zero_le (by omega : 0 ≤ a)
  go_enter Try.func30, Try.ntmps30
  go_wp2
  go_loop [1, 7, 8, 9] (fun av uv wv iv => ∃ (u i W : Nat), av = .int .i64 ((n + i : Nat) : Int) ∧ uv = .int .u64 u ∧ wv = .int .u64 W ∧ iv = .int .i64 i ∧ Num.GetRel s.data.toList n i u ∧ Hid (W = 128 ^ i)) (fun _ _ _ iv => (10 - intOf iv).toNat)
  case atStart => exact ⟨0, 0, 1, rfl, rfl, rfl, rfl, Num.GetRel.start (by simp; omega), rfl⟩
  case round =>
    obtain ⟨u, i, W, rfl, rfl, rfl, rfl, HG, HW⟩ := hrel
    have hi := HG.le
    have hn := HG.in_
    have hu := HG.lt64
    simp only [Array.length_toList, ByteArray.size_data] at hn
    by_cases hlt : n + i < s.size
    · have hl : n + i < s.data.toList.length := by simpa using hlt
      have hc : (s[n + i]'hlt).toNat = s.data.toList[n + i].toNat := rfl
      have hb := (s[n + i]'hlt).toNat_lt
      by_cases h9 : i = 9
      · subst h9
        have hW : W = 9223372036854775808 := HW.out
        subst hW
        by_cases h2 : 1 < (s[n + 9]'hlt).toNat
        · have E := Lib.hid (getV_none (HG.big hl rfl (by rw [← hc]; exact h2)))
          clear hc
          go_wp2
          go_ret3
          exact ⟨by rw [E.out]; rfl, rfl⟩
        by_cases h3 : (s[n + 9]'hlt).toNat = 0
        · have E := Lib.hid (getV_none (HG.zero hl (by rw [← hc]; exact h3) (by omega)))
          clear hc
          go_wp2
          go_ret3
          exact ⟨by rw [E.out]; rfl, rfl⟩
        · have h4 : (s[n + 9]'hlt).toNat = 1 := by omega
          have E0 := getV_some (HG.ends hl (by rw [← hc]; omega) (by rw [← hc]; omega) (by rw [← hc]; omega))
          rw [← hc, h4] at E0
          have E := Lib.hid E0; clear E0
          clear hc h2 h3
          go_wp2
          go_ret3
          exact ⟨by rw [E.out]; exact ret_got (by simp) (by omega), rfl⟩
      have hi8 : i ≤ 8 := by omega
      have hWb : W ≤ 72057594037927936 := by rw [HW.out]; exact Num.pow_le128' i hi8
      have hX := Num.weigh u (s[n + i]'hlt).toNat i W HW.out HG.lt hWb
      obtain ⟨X, hX1, hX2, hX3⟩ := hX
      have HX := Lib.hid hX1; clear hX1
      by_cases h7 : (s[n + i]'hlt).toNat < 128
      · by_cases h3 : (s[n + i]'hlt).toNat = 0 ∧ 0 < i
        · obtain ⟨h3, h0⟩ := h3
          have E := Lib.hid (getV_none (HG.zero hl (by rw [← hc]; exact h3) h0))
          rw [h3] at hX2
          clear hc
          go_wp2
          go_ret3
          exact ⟨by rw [E.out]; rfl, rfl⟩
        · have E0 := getV_some (HG.ends hl (by omega) (by rw [← hc]; omega) (by rw [← hc]; omega))
          rw [← hc] at E0
          have E := Lib.hid E0; clear E0 hc
          by_cases h4 : (s[n + i]'hlt).toNat = 0
          · rw [h4] at hX2
            have h00 : i ≤ 0 := by omega
            clear h3
            go_wp2
            go_ret3
            exact ⟨by rw [E.out]; exact ret_got (by rw [h4]; simp) (by omega), rfl⟩
          · clear h3
            go_wp2
            go_ret3
            exact ⟨by rw [E.out]; exact ret_got (by rw [HX.out]; push_cast; rfl) (by omega), rfl⟩
      · have E0 := HG.next hl hi8 (by rw [← hc]; omega)
        rw [← hc] at E0
        clear hc
        go_wp2
        exact ⟨⟨_, i + 1, W * 128, by go_num, by rw [HX.out]; push_cast; rfl, by go_num, by go_num, E0, (by rw [HW.out, Num.pow_succ128] : W * 128 = 128 ^ (i + 1))⟩, by simp [intOf]; omega⟩
    · have E := Lib.hid (getV_none (HG.past (by simp; omega)))
      go_wp2
      go_ret3
      exact ⟨by rw [E.out]; rfl, rfl⟩

theorem rGet_none (s : ByteArray) (a : Int) (w : World) (hs : s.size ≤ maxLen) (h : Num.getAt s.data.toList a = none) :
    Calls Try.prog 30 #[.string s, .int .i64 a] w fun e w' => e = .returned (.tuple #[.int .u64 0, .int .i64 0, .bool false]) ∧ w = w' :=
  (rGet_any s a w hs).mono fun _ _ ⟨he, hw⟩ => ⟨by rw [he, getV_none h], hw⟩
theorem rGet_some (s : ByteArray) (a : Int) (w : World) (hs : s.size ≤ maxLen) (u k : Nat) (h : Num.getAt s.data.toList a = some (u, k)) :
    Calls Try.prog 30 #[.string s, .int .i64 a] w fun e w' => e = .returned (.tuple #[.int .u64 (u : Int), .int .i64 (k : Int), .bool true]) ∧ w = w' :=
  (rGet_any s a w hs).mono fun _ _ ⟨he, hw⟩ => ⟨by rw [he, getV_some h], hw⟩

theorem rGetInt_any (s : ByteArray) (a : Int) (w : World) (hs : s.size ≤ maxLen) :
    Calls Try.prog 44 #[.string s, .int .i64 a] w fun e w' => e = .returned (getIntV s.data.toList a) ∧ w = w' := by
  rcases h : Num.getAt s.data.toList a with _ | ⟨u, k⟩
  · have E := Lib.hid (getIntV_none h)
    have H := Lib.hid h; clear h
    have z0 : zag 0 = 0 := by decide
    go_enter Try.func44, Try.ntmps44
    go_wp2_with (first | (go_at_call 30; refine (rGet_none _ _ _ hs H.out).mono ?_; rintro e w' ⟨rfl, rfl⟩) | (go_at_call 48; refine (rZag_any _ _ (by omega) (by omega)).mono ?_; rintro e w' ⟨rfl, rfl⟩))
    go_ret3
    exact ⟨by rw [E.out]; rfl, rfl⟩
  · have hu := Num.getAt_lt h
    have E := Lib.hid (getIntV_some h)
    have H := Lib.hid h; clear h
    go_enter Try.func44, Try.ntmps44
    go_wp2_with (first | (go_at_call 30; refine (rGet_some _ _ _ hs _ _ H.out).mono ?_; rintro e w' ⟨rfl, rfl⟩) | (go_at_call 48; refine (rZag_any _ _ (by omega) (by omega)).mono ?_; rintro e w' ⟨rfl, rfl⟩))
    go_ret3
    exact ⟨by rw [E.out]; rfl, rfl⟩
end Go.Proofs.Ytbmkbpehkpdcmaa
