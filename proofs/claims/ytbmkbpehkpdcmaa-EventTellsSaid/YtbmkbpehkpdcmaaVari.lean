/- Contracts of package vari. -/
import Derived.Test.YtbmkbpehkpdcmaaNum01
import Derived.WalkKit
import Derived.ProofKit
import Derived.OpenShut
import Derived.IntWalk
import Derived.Outline
import Derived.Lib.Hide
import Derived.Handy
namespace Go.Proofs.Ytbmkbpehkpdcmaa
open Go.ChangeShapes Go.WideShapes Go.ChangeAt Go.RowKit
open Num (zig zag)


theorem ret_str {a b : List UInt8} (h : a = b) : Ending.returned (.string ⟨a.toArray⟩) = .returned (.string ⟨b.toArray⟩) := by rw [h]

theorem Zig_any (n : Int) (w : World) (h0 : -9223372036854775808 ≤ n) (h1 : n ≤ 9223372036854775807) :
    Calls Try.prog 46 #[.int .i64 n] w fun e w' => e = .returned (.int .u64 (zig n)) ∧ w = w' := by
  by_cases h : 0 ≤ n
  · have e := Num.zig_pos_eq n h h1
    have E := Lib.hid e; clear e
    go_enter Try.func46, Try.ntmps46
    go_wp2
    go_ret
    exact ⟨ret_int E.out, rfl⟩
  · have e := Num.zig_neg_eq n h0 (by omega)
    have E := Lib.hid e; clear e
    have h2 : n < 0 := by omega
    clear h
    go_enter Try.func46, Try.ntmps46
    go_wp2
    go_ret
    exact ⟨ret_int E.out, rfl⟩

theorem Zag_any (u : Int) (w : World) (h0 : 0 ≤ u) (h1 : u ≤ 18446744073709551615) :
    Calls Try.prog 47 #[.int .u64 u] w fun e w' => e = .returned (.int .i64 (zag u)) ∧ w = w' := by
  have e := Num.zag_eq u h0 h1
  have E := Lib.hid e; clear e
  go_enter Try.func47, Try.ntmps47
  go_wp2
  go_ret
  exact ⟨ret_int E.out, rfl⟩

abbrev bv (c : UInt8) : Value := Value.int .u8 (c.toNat : Int)
/-- The ten cells in which the digits are laid. -/
def buf (D : List UInt8) : Array Value := (D.map bv ++ List.replicate (10 - D.length) (Value.int .u8 0)).toArray
theorem buf_size (D : List UInt8) (h : D.length ≤ 10) : (buf D).size = 10 := by simp [buf]; omega
theorem buf_at (D : List UInt8) (i : Nat) (h : i < D.length) : (buf D)[i]? = some (Value.int .u8 ((D[i]'h).toNat : Int)) := by
  simp [buf, List.getElem?_append_left, h]
theorem buf_some (D : List UInt8) (h : D.length < 10) : (buf D)[D.length]? = some (Value.int .u8 0) := by
  unfold buf
  rw [List.getElem?_toArray, List.getElem?_append_right (by simp), List.length_map, Nat.sub_self, List.getElem?_replicate, if_pos (by omega)]
theorem buf_set (D : List UInt8) (c : UInt8) (h : D.length < 10) : (buf D).setIfInBounds D.length (Value.int .u8 (c.toNat : Int)) = buf (D ++ [c]) := by
  unfold buf
  rw [List.setIfInBounds_toArray]
  congr 1
  rw [List.set_append_right _ _ (by simp), List.length_map, Nat.sub_self, show 10 - D.length = (10 - (D ++ [c]).length) + 1 by simp; omega, List.replicate_succ, List.set_cons_zero]
  simp

theorem slice10 (w : World) (a : Addr) (h : Int) (h0 : 0 ≤ h) (h1 : h ≤ 10) :
    (Instr.sliceAt 91 (.pointer (some a)) none (some (.int .i64 h)) none).run Try.prog w = .ok (.slice (some a) h.toNat 10) w := by
  have hl : Try.prog.arrayLen 91 = 10 := by kernel_rfl
  have hs : ∀ w, (sizeOf (Try.prog.elem 91)).run Try.prog w = .ok 1 w := fun w => by kernel_rfl
  have := run_sliceAt_array_h (P := Try.prog) w 91 a (by kernel_rfl) .i64 h h0 (by rw [hl]; exact h1)
  rw [hl, hs] at this
  rw [this]
  simp [Result.andThen, slicedAt, Addr.add]

theorem add_plain (b o j : Nat) : (⟨b, o, none⟩ : Addr).add j = ⟨b, o + j, none⟩ := by unfold Addr.add; split <;> simp_all

theorem PutStep (w : World) {u m : Nat} {D : List UInt8} (h : Num.PutRel u m D) (hm : 128 ≤ m) :
    (∃ (m' : Nat) (D' : List UInt8), Value.int .u64 ((m : Int) / 128) = Value.int .u64 (m' : Int) ∧ Value.int .i64 ((D.length : Int) + 1) = Value.int .i64 (D'.length : Int) ∧ Num.PutRel u m' D' ∧
      w.alloc (.cells ((buf D).setIfInBounds D.length (Value.int .u8 (bits .or .u8 ((m : Int) % 256) 128))) 91) = w.alloc (.cells (buf D') 91)) ∧
    (intOf (Value.int .u64 ((m : Int) / 128))).toNat < (intOf (Value.int .u64 (m : Int))).toNat := by
  have h8 := h.le8 hm
  have e : bits .or .u8 ((m : Int) % 256) 128 = (((m % 128 + 128).toUInt8).toNat : Int) := by
    rw [Lib.u8_or128_any _ (by omega) (by omega)]; simp; omega
  refine ⟨⟨m / 128, D ++ [(m % 128 + 128).toUInt8], rfl, by simp, h.step hm, ?_⟩, by simp [intOf]; omega⟩
  rw [e, buf_set D _ (by omega)]

set_option maxRecDepth 20000 in
theorem Put_any (u : Int) (w : World) (h0 : 0 ≤ u) (h1 : u ≤ 18446744073709551615) :
    Calls Try.prog 27 #[.int .u64 u] w fun e w' => e = .returned (.string ⟨(Num.put u.toNat).toArray⟩) ∧ Below w.heap.size w w' := by
  go_enter Try.func27, Try.ntmps27
  go_wp2
  go_loopw [0, 4] (fun uv nv wr => ∃ (m : Nat) (D : List UInt8), uv = .int .u64 m ∧ nv = .int .i64 D.length ∧ Num.PutRel u.toNat m D ∧ wr = w.alloc (.cells (buf D) 91)) (fun uv _ _ => (intOf uv).toNat)
  case atStart => exact ⟨u.toNat, [], by rw [Int.toNat_of_nonneg h0], rfl, Num.PutRel.start (by omega), rfl⟩
  case round =>
    obtain ⟨m, D, rfl, rfl, HP, rfl⟩ := hrel
    have h9 := HP.le
    have hb := buf_some D (by omega)
    have hlt := HP.lt64
    clear h0 h1
    by_cases hm : 128 ≤ m
    · have h8 := HP.le8 hm
      go_wp2
      exact PutStep w HP hm
    · have hl := HP.last (by omega)
      have hs : (buf D).setIfInBounds D.length (Value.int .u8 (m : Int)) = buf (D ++ [m.toUInt8]) := by
        rw [← buf_set D _ (by omega)]; congr 2; simp; omega
      have hsl := slice10 (w.alloc (.cells (buf (D ++ [m.toUInt8])) 91)) ⟨w.heap.size, 0, none⟩ (D.length + 1) (by omega) (by omega)
      rw [show ((D.length : Int) + 1).toNat = D.length + 1 by omega] at hsl
      have hcv := run_convert_bytes_back (P := Try.prog) (w.alloc (.cells (buf (D ++ [m.toUInt8])) 91)) 27 9 5 ⟨w.heap.size, 0, none⟩ 10 (D ++ [m.toUInt8]) Try.underlying27 Try.underlying5 Try.underlying9 (fun j hj => by
        rw [add_plain, World.cell?_alloc_new]
        simp only [Nat.zero_add]
        exact buf_at _ j hj)
      rw [List.length_append, List.length_singleton] at hcv
      have HL := Lib.hid hl; clear hl
      go_wp2
      go_ret
      exact ⟨ret_str HL.out, (Below.refl _ _).alloc (Nat.le_refl _) _⟩

theorem PutInt_any (n : Int) (w : World) (h0 : -9223372036854775808 ≤ n) (h1 : n ≤ 9223372036854775807) :
    Calls Try.prog 39 #[.int .i64 n] w fun e w' => e = .returned (.string ⟨(Num.put (zig n).toNat).toArray⟩) ∧ Below w.heap.size w w' := by
  have a0 := Num.zig_lo n
  have a1 := Num.zig_hi n h0 h1
  go_enter Try.func39, Try.ntmps39
  go_wp2_with (first | (go_at_call 46; refine (Zig_any _ _ h0 h1).mono ?_; rintro e w' ⟨rfl, rfl⟩) | (go_at_call 27; refine (Put_any _ _ a0 a1).mono ?_; rintro e w' ⟨rfl, hb⟩))
  go_ret
  exact ⟨rfl, hb⟩

/-- What Get answers. -/
def getV (l : List UInt8) (at_ : Int) : Value :=
  match Num.getAt l at_ with
  | none => .tuple #[.int .u64 0, .int .i64 0, .bool false]
  | some p => .tuple #[.int .u64 (p.1 : Int), .int .i64 (p.2 : Int), .bool true]

theorem getV_none {l : List UInt8} {a : Int} (h : Num.getAt l a = none) : getV l a = .tuple #[.int .u64 0, .int .i64 0, .bool false] := by unfold getV; rw [h]
theorem getV_some {l : List UInt8} {a : Int} {u k : Nat} (h : Num.getAt l a = some (u, k)) : getV l a = .tuple #[.int .u64 (u : Int), .int .i64 (k : Int), .bool true] := by unfold getV; rw [h]

theorem ret_got {a b a' b' : Int} (h : a = a') (k : b = b') :
    Ending.returned (.tuple #[.int .u64 a, .int .i64 b, .bool true]) = .returned (.tuple #[.int .u64 a', .int .i64 b', .bool true]) := by rw [h, k]

set_option maxRecDepth 20000 in
theorem Get_any (s : ByteArray) (a : Int) (w : World) (hs : s.size ≤ maxLen) :
    Calls Try.prog 40 #[.string s, .int .i64 a] w fun e w' => e = .returned (getV s.data.toList a) ∧ w = w' := by
  unfold maxLen at hs
  by_cases h0 : a < 0
  · have E := Lib.hid (getV_none (Num.getAt_neg s.data.toList a h0))
    go_enter Try.func40, Try.ntmps40
    go_wp2
    go_ret3
    exact ⟨by rw [E.out]; rfl, rfl⟩
  by_cases h1 : (s.size : Int) ≤ a
  · have E := Lib.hid (getV_none (Num.getAt_past s.data.toList a (by simpa using h1)))
    go_enter Try.func40, Try.ntmps40
    go_wp2
    go_ret3
    exact ⟨by rw [E.out]; rfl, rfl⟩
  obtain ⟨n, rfl⟩ := Int.eq_ofNat_of_zero_le (by omega : 0 ≤ a)
  go_enter Try.func40, Try.ntmps40
  go_wp2
  go_loop [4, 7] (fun uv iv => ∃ (u i : Nat), uv = .int .u64 u ∧ iv = .int .i64 i ∧ Num.GetRel s.data.toList n i u) (fun _ iv => (10 - intOf iv).toNat)
  case atStart => exact ⟨0, 0, rfl, rfl, Num.GetRel.start (by simp; omega)⟩
  case round =>
    obtain ⟨u, i, rfl, rfl, HG⟩ := hrel
    have hi := HG.le
    have hn := HG.in_
    have hu := HG.lt64
    simp only [Array.length_toList, ByteArray.size_data] at hn
    by_cases hlt : n + i < s.size
    · have hl : n + i < s.data.toList.length := by simpa using hlt
      have hc : (s[n + i]'hlt).toNat = s.data.toList[n + i].toNat := rfl
      have hb := (s[n + i]'hlt).toNat_lt
      by_cases h9 : i = 9
      · subst h9
        by_cases h2 : 1 < (s[n + 9]'hlt).toNat
        · have E := Lib.hid (getV_none (HG.big hl rfl (by rw [← hc]; exact h2)))
          clear hc
          go_wp2
          go_ret3
          exact ⟨by rw [E.out]; rfl, rfl⟩
        by_cases h3 : (s[n + 9]'hlt).toNat = 0
        · have E := Lib.hid (getV_none (HG.zero hl (by rw [← hc]; exact h3) (by omega)))
          clear hc
          go_wp2
          go_ret3
          exact ⟨by rw [E.out]; rfl, rfl⟩
        · have h4 : (s[n + 9]'hlt).toNat = 1 := by omega
          have E0 := getV_some (HG.ends hl (by rw [← hc]; omega) (by rw [← hc]; omega) (by rw [← hc]; omega))
          rw [← hc, h4] at E0
          have E := Lib.hid E0; clear E0
          have F := Lib.hid (Num.or_eq9 u hu)
          clear hc h2 h3
          go_wp2
          go_ret3
          exact ⟨by rw [E.out]; exact ret_got F.out (by omega), rfl⟩
      have hi8 : i ≤ 8 := by omega
      have F := Lib.hid (Num.or_eq u (s[n + i]'hlt).toNat i hi8 hb HG.lt)
      by_cases h7 : (s[n + i]'hlt).toNat < 128
      · by_cases h3 : (s[n + i]'hlt).toNat = 0
        · by_cases h0 : i = 0
          · have E0 := getV_some (HG.ends hl (by omega) (by rw [← hc]; omega) (by omega))
            rw [← hc, h3] at E0
            have F0 := F.out
            rw [h3] at F0
            have E := Lib.hid E0
            have F' := Lib.hid F0
            have h00 : i ≤ 0 := by omega
            clear hc h0 E0 F0
            go_wp2
            go_ret3
            exact ⟨by rw [E.out]; exact ret_got F'.out (by omega), rfl⟩
          · have E := Lib.hid (getV_none (HG.zero hl (by rw [← hc]; exact h3) (by omega)))
            clear hc
            have hp : 0 < i := by omega
            go_wp2
            go_ret3
            exact ⟨by rw [E.out]; rfl, rfl⟩
        · have E0 := getV_some (HG.ends hl (by omega) (by rw [← hc]; omega) (by rw [← hc]; omega))
          rw [← hc] at E0
          have E := Lib.hid E0; clear E0 hc
          go_wp2
          go_ret3
          exact ⟨by rw [E.out]; exact ret_got F.out (by omega), rfl⟩
      · have E0 := HG.next hl hi8 (by rw [← hc]; omega)
        rw [← hc] at E0
        clear hc
        go_wp2
        exact ⟨⟨_, i + 1, by rw [F.out], by simp, E0⟩, by simp [intOf]; omega⟩
    · have E := Lib.hid (getV_none (HG.past (by simp; omega)))
      go_wp2
      go_ret3
      exact ⟨by rw [E.out]; rfl, rfl⟩

/-- What GetInt answers. -/
def getIntV (l : List UInt8) (at_ : Int) : Value :=
  match Num.getAt l at_ with
  | none => .tuple #[.int .i64 0, .int .i64 0, .bool false]
  | some p => .tuple #[.int .i64 (zag (p.1 : Int)), .int .i64 (p.2 : Int), .bool true]
theorem getIntV_none {l : List UInt8} {a : Int} (h : Num.getAt l a = none) : getIntV l a = .tuple #[.int .i64 0, .int .i64 0, .bool false] := by unfold getIntV; rw [h]
theorem getIntV_some {l : List UInt8} {a : Int} {u k : Nat} (h : Num.getAt l a = some (u, k)) : getIntV l a = .tuple #[.int .i64 (zag (u : Int)), .int .i64 (k : Int), .bool true] := by unfold getIntV; rw [h]

theorem Get_none (s : ByteArray) (a : Int) (w : World) (hs : s.size ≤ maxLen) (h : Num.getAt s.data.toList a = none) :
    Calls Try.prog 40 #[.string s, .int .i64 a] w fun e w' => e = .returned (.tuple #[.int .u64 0, .int .i64 0, .bool false]) ∧ w = w' :=
  (Get_any s a w hs).mono fun _ _ ⟨he, hw⟩ => ⟨by rw [he, getV_none h], hw⟩
theorem Get_some (s : ByteArray) (a : Int) (w : World) (hs : s.size ≤ maxLen) (u k : Nat) (h : Num.getAt s.data.toList a = some (u, k)) :
    Calls Try.prog 40 #[.string s, .int .i64 a] w fun e w' => e = .returned (.tuple #[.int .u64 (u : Int), .int .i64 (k : Int), .bool true]) ∧ w = w' :=
  (Get_any s a w hs).mono fun _ _ ⟨he, hw⟩ => ⟨by rw [he, getV_some h], hw⟩

theorem GetInt_any (s : ByteArray) (a : Int) (w : World) (hs : s.size ≤ maxLen) :
    Calls Try.prog 41 #[.string s, .int .i64 a] w fun e w' => e = .returned (getIntV s.data.toList a) ∧ w = w' := by
  rcases h : Num.getAt s.data.toList a with _ | ⟨u, k⟩
  · have E := Lib.hid (getIntV_none h)
    have H := Lib.hid h; clear h
    have z0 : zag 0 = 0 := by decide
    go_enter Try.func41, Try.ntmps41
    go_wp2_with (first | (go_at_call 40; refine (Get_none _ _ _ hs H.out).mono ?_; rintro e w' ⟨rfl, rfl⟩) | (go_at_call 47; refine (Zag_any _ _ (by omega) (by omega)).mono ?_; rintro e w' ⟨rfl, rfl⟩))
    go_ret3
    exact ⟨by rw [E.out]; rfl, rfl⟩
  · have hu := Num.getAt_lt h
    have E := Lib.hid (getIntV_some h)
    have H := Lib.hid h; clear h
    go_enter Try.func41, Try.ntmps41
    go_wp2_with (first | (go_at_call 40; refine (Get_some _ _ _ hs _ _ H.out).mono ?_; rintro e w' ⟨rfl, rfl⟩) | (go_at_call 47; refine (Zag_any _ _ (by omega) (by omega)).mono ?_; rintro e w' ⟨rfl, rfl⟩))
    go_ret3
    exact ⟨by rw [E.out]; rfl, rfl⟩

end Go.Proofs.Ytbmkbpehkpdcmaa
