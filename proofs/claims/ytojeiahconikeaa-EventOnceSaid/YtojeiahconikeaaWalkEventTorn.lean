/- EventTorn: the walk. -/
import Derived.Test.YtojeiahconikeaaWalkEventItem
import Derived.Deep.RegionLaw
namespace Go.Proofs.Ytojeiahconikeaa
open Go.ChangeShapes Go.WideShapes Go.ChangeAt Go.RowKit
open Ev (V3 rightV OkV)
set_option linter.unusedVariables false
set_option linter.unusedSimpArgs false

theorem slice_upto (P : Program) (w : World) (t : TypeId) (ht : P.underlying t = some .string) (s : ByteArray) (h : Int) (h0 : 0 ≤ h) (h1 : h ≤ (s.size : Int)) :
    (Instr.slice t (.string s) none (some (.int .i64 h)) none).run P w = .ok (.string (s.extract 0 h.toNat)) w := by
  obtain ⟨n, rfl⟩ := Int.eq_ofNat_of_zero_le h0
  have a3 : (n : Int) ≤ (s.size : Int) := h1
  simp [Instr.slice, run_underlying ht, Instr.sliceBounds, run_sliceBound, a3]
theorem torn_less {X : ByteArray} {m : Bool} {T : Int} {V : List V3} (hr : Ev.rightI m T V = true) (ho : ∀ x ∈ V, OkV x) (hX : X.data.toList = Ev.putI m T V) (q : Nat) (hq : q < X.size) : Ev.getI (X.extract 0 q) = none := by
  refine Ev.getI_less hr ho (X.data.toList.drop q) ?_ ?_
  · rw [extract_list, List.drop_zero, ← hX, List.take_append_drop]
  · have hl : X.data.toList.length = X.size := by simp
    intro h
    have := congrArg List.length h
    rw [List.length_drop, hl] at this
    simp at this; omega
theorem torn_more {X : ByteArray} {m : Bool} {T : Int} {V : List V3} (hr : Ev.rightI m T V = true) (ho : ∀ x ∈ V, OkV x) (hX : X.data.toList = Ev.putI m T V) (c : UInt8) : Ev.getI (X ++ ⟨#[c]⟩) = none :=
  Ev.getI_more hr ho [c] (by rw [ByteArray.data_append, Array.toList_append, hX]) (by simp)
theorem torn_other (U : ByteArray) (c : UInt8) (hc : 2 ≤ c.toNat) : Ev.getI ((⟨#[c]⟩ : ByteArray) ++ U) = none :=
  Ev.getI_other (c := c) (l := U.data.toList) (by rw [ByteArray.data_append, Array.toList_append]; rfl) (by omega)
theorem putI_pos {m : Bool} {T : Int} {V : List V3} (hr : Ev.rightI m T V = true) : 1 ≤ (Ev.putI m T V).length := by
  cases m
  · rw [Ev.putI_event (Ev.rightI_plain hr)]; simp
  · rw [Ev.putI_mark hr]; simp
theorem putI_len {m : Bool} {T : Int} {V : List V3} (hr : Ev.rightI m T V = true) (ho : ∀ x ∈ V, OkV x) : (Ev.putI m T V).length ≤ 600 := by
  cases m
  · rw [Ev.putI_event (Ev.rightI_plain hr)]; have := Ev.put_len (Ev.rightI_plain hr) ho; simp; omega
  · have h := Ev.plain_parts (Ev.rightI_plain hr)
    rw [Ev.putI_mark hr]; have := Num.put_ten (u := T.toNat) (by omega); simp; omega
theorem PutItem_any (m : Bool) (T : Int) (u : Value) (V : List V3) (w : World) (hv : ValsAt w u V) (ho : ∀ x ∈ V, OkV x) (hr : Ev.rightI m T V = true) (X : ByteArray) (hX : X.data.toList = Ev.putI m T V) :
    Calls Try.prog 10 #[item m T u] w fun e w' => e = .returned (.string X) ∧ Below w.heap.size w w' := by
  have e : (⟨(Ev.putI m T V).toArray⟩ : ByteArray) = X := ByteArray.ext (Array.toList_inj.1 (by rw [hX]))
  cases m
  · exact (PutItem_event T u V w hv ho (Ev.rightI_plain hr)).mono fun _ _ ⟨he, hw⟩ => ⟨by rw [he, e], hw⟩
  · exact (PutItem_mark T u V w hv (ok_size ho) hr).mono fun _ _ ⟨he, hw⟩ => ⟨by rw [he, e], hw⟩

theorem below_drew {B : Nat} {a w : World} (h : Below B a w) : Below B a w.drew := ⟨h.os, h.tape, h.output, h.size, h.block⟩
theorem blk_drew {w : World} {g : Nat} {t : TypeId} {cs : Array Value} (h : Blk w g t cs) : Blk w.drew g t cs := h
theorem byte_string_at (w : World) (g : Nat) (z : Int) (x : UInt8) (h : Blk w g 5 #[.int .u8 z]) (hz : z = (x.toNat : Int)) :
    (convert 27 9 (.slice (some ⟨g, 0, none⟩) 1 1)).run Try.prog w = .ok (.string ⟨#[x]⟩) w := by
  subst hz
  exact run_convert_bytes_back (P := Try.prog) w 27 9 5 ⟨g, 0, none⟩ 1 [x] Try.underlying27 Try.underlying5 Try.underlying9 (fun j hj => by
    have : j = 0 := by simp at hj; exact hj
    subst this
    rw [addr_plain]
    exact h.cell 0)
set_option maxHeartbeats 2000000 in
set_option maxRecDepth 20000 in
theorem walk_EventTorn (a : Int) (v : Value) (l : List UInt8) (s : ByteArray) (mark : Bool) (cut by_ : Int) (w : World) (a0 : 0 ≤ a) (a1 : a ≤ 18446744073709551615) (hv : BytesAt w v l) (hl : l.length ≤ 140737488351232) (hs : s.size ≤ 140737488351232) (k0' : 0 ≤ cut) (k1' : cut ≤ 65535) (y0 : 0 ≤ by_) (y1 : by_ ≤ 255) :
    Calls Try.prog 7 #[.int .u64 a, v, .string s, .bool mark, .int .u16 cut, .int .u8 by_] w fun e w' => e = .returned (.bool true) ∧ Below w.heap.size w w' := by
  have hp := plain_plain a a0 l s
  have ho := plainV_ok l s
  have cpl := fun (w0 : World) (hb : Below w.heap.size w w0) => plain_any a v l s w0 a0 a1 (hv.later hb) hl (by unfold maxLen; omega)
  generalize plainT a = T at *
  generalize plainV l s = V at *
  have hmax : (if by_ < 2 then 2 else by_) = (((if by_ < 2 then 2 else by_).toNat.toUInt8).toNat : Int) := by simp; split <;> omega
  have hmax2 : 2 ≤ ((if by_ < 2 then 2 else by_).toNat.toUInt8).toNat := by simp; split <;> omega
  generalize (if by_ < 2 then 2 else by_).toNat.toUInt8 = xm at *
  have hby : by_ = ((by_.toNat.toUInt8).toNat : Int) := by simp; omega
  generalize by_.toNat.toUInt8 = xb at *
  cases mark
  · have hr : Ev.rightI false T V = true := by
      unfold Ev.rightI; simp [hp]
    have ho' := ho
    obtain ⟨X, hX⟩ : ∃ X : ByteArray, X.data.toList = Ev.putI false T V := ⟨⟨(Ev.putI false T V).toArray⟩, rfl⟩
    have hXs : X.size = (Ev.putI false T V).length := by rw [← hX]; simp
    have hX1 : 1 ≤ X.size := by have := putI_pos hr; omega
    have hX2 : X.size ≤ 600 := by have := putI_len hr ho'; omega
    have hq : (cut % (X.size : Int)).toNat < X.size := by have h1 := Int.emod_nonneg cut (show (X.size : Int) ≠ 0 by omega); have h2 := Int.emod_lt_of_pos cut (show (0 : Int) < (X.size : Int) by omega); omega
    have g1 := torn_less hr ho' hX _ hq
    have g2 := torn_more hr ho' hX xb
    have g3 := torn_other (X.extract 1 X.size) xm hmax2
    have hsl : ∀ w, (Instr.slice 9 (.string X) none (some (.int .i64 (cut % (X.size : Int)))) none).run Try.prog w = .ok (.string (X.extract 0 (cut % (X.size : Int)).toNat)) w := fun w => slice_upto Try.prog w 9 Try.underlying9 X _ (Int.emod_nonneg cut (by omega)) (by have := Int.emod_lt_of_pos cut (show (0 : Int) < (X.size : Int) by omega); omega)
    have htl := fun w => slice_tail Try.prog w 9 Try.underlying9 X hX1
    have hz1 : (X.extract 0 (cut % (X.size : Int)).toNat).size ≤ maxLen := by rw [ByteArray.size_extract]; unfold maxLen; omega
    have hz2 : (X ++ ⟨#[xb]⟩ : ByteArray).size ≤ maxLen := by rw [ByteArray.size_append]; show X.size + 1 ≤ _; unfold maxLen; omega
    have hUs : (X.extract 1 X.size).size ≤ 600 := by rw [ByteArray.size_extract]; omega
    have hz3 : (⟨#[xm]⟩ ++ X.extract 1 X.size : ByteArray).size ≤ maxLen := by rw [ByteArray.size_append]; show 1 + _ ≤ _; unfold maxLen; omega
    have cX : ∀ w u, ValsAt w u V → Calls Try.prog 10 #[item false T u] w fun e w' => e = .returned (.string X) ∧ Below w.heap.size w w' := fun w u hu => PutItem_any false T u V w hu ho' hr X hX
    generalize X.extract 0 (cut % (X.size : Int)).toNat = X1 at *
    generalize X.extract 1 X.size = U at *
    have c1 := fun w => GetItem_no X1 w hz1 g1
    have c2 := fun w => GetItem_no _ w hz2 g2
    have c3 := fun w => GetItem_no _ w hz3 g3
    have C := Lib.hid (And.intro cX (And.intro cpl (And.intro c1 (And.intro c2 (And.intro c3 (And.intro hby hmax))))))
    have hX3 : ¬ (X.size : Int) = 0 := by omega
    clear cX cpl c1 c2 c3 hby hmax hv hp ho ho' hr hX hXs g1 g2 g3 hz1 hz2 hz3 hq hmax2
    go_enter Try.func7, Try.ntmps7
    go_wp2_with fail
    go_at_call 8
    ((with_reducible refine (examples_any _).mono ?_); rintro e w1 ⟨rfl, b1'⟩)
    go_wp2_with fail
    go_at_call 9
    ((with_reducible refine (C.out.2.1 _ b1').mono ?_); rintro e w2 ⟨u, ⟨rfl, hu⟩, b2'⟩)
    obtain ⟨A1, c1, rfl⟩ := hu.shape
    have K := Lib.hid (And.intro (hu.vals.later (ba w2 (.cells #[.bool false, .int .i64 T, .slice A1 V.length c1] 26))) (bt (bt b1' b2') (ba w2 (.cells #[.bool false, .int .i64 T, .slice A1 V.length c1] 26))))
    clear b1' b2' hu
    go_wp2_with fail
    go_at_call 10
    ((with_reducible refine (C.out.1 _ _ K.out.1).mono ?_); rintro e w3 ⟨rfl, b9⟩)
    have k0 := K.out; replace K := Lib.hid (bt (k0.2) (b9)); clear k0
    clear b9
    go_wp2_with fail
    go_at_call 12
    ((with_reducible refine (C.out.2.2.1 _).mono ?_); rintro e w4 ⟨rfl, b9⟩)
    have b10 := bt b9 (ba w4 (.cells #[.bool false, .int .i64 0, .slice none 0 0] 26))
    have b11 := bt b10 (ba _ (.cells #[.int .u8 by_] 5))
    have hcv := byte_string (w4.alloc (.cells #[.bool false, .int .i64 0, .slice none 0 0] 26)) by_ xb C.out.2.2.2.2.2.1
    rw [World.size_alloc] at hcv
    have k0 := K.out; replace K := Lib.hid (bt (k0) (b11)); clear k0
    clear b9 b10 b11
    go_wp2_with fail
    go_at_call 12
    ((with_reducible refine (C.out.2.2.2.1 _).mono ?_); rintro e w5 ⟨rfl, b9⟩)
    have b10 := bt b9 (ba w5 (.cells #[.bool false, .int .i64 0, .slice none 0 0] 26))
    have k0 := K.out; replace K := Lib.hid (bt (k0) (b10)); clear k0
    clear b9 b10 hcv
    go_wp2_with fail
    generalize w5.alloc (.cells #[.bool false, .int .i64 0, .slice none 0 0] 26) = W at *
    have hcv : (convert 27 9 (.slice (some ⟨W.heap.size, 0, none⟩) 1 1)).run Try.prog ((W.alloc (.cells #[.int .u8 (if by_ < 2 then 2 else by_)] 5)).drew) = .ok (.string ⟨#[xm]⟩) ((W.alloc (.cells #[.int .u8 (if by_ < 2 then 2 else by_)] 5)).drew) := byte_string W.drew (if by_ < 2 then 2 else by_) xm C.out.2.2.2.2.2.2
    have hcv2 : (convert 27 9 (.slice (some ⟨W.heap.size, 0, none⟩) 1 1)).run Try.prog (((W.alloc (.cells #[.int .u8 (if by_ < 2 then 2 else by_)] 5)).alloc (.cells #[.bool false, .int .i64 0, .slice none 0 0] 26)).drew) = .ok (.string ⟨#[xm]⟩) (((W.alloc (.cells #[.int .u8 (if by_ < 2 then 2 else by_)] 5)).alloc (.cells #[.bool false, .int .i64 0, .slice none 0 0] 26)).drew) := byte_string_at _ _ _ xm (blk_drew ((Blk.new W 5 #[.int .u8 (if by_ < 2 then 2 else by_)]).alloc (.cells #[.bool false, .int .i64 0, .slice none 0 0] 26))) C.out.2.2.2.2.2.2
    have hcv3 : (convert 27 9 (.slice (some ⟨W.heap.size + 1, 0, none⟩) 1 1)).run Try.prog (((W.alloc (.cells #[.bool false, .int .i64 0, .slice none 0 0] 26)).alloc (.cells #[.int .u8 (if by_ < 2 then 2 else by_)] 5)).drew) = .ok (.string ⟨#[xm]⟩) (((W.alloc (.cells #[.bool false, .int .i64 0, .slice none 0 0] 26)).alloc (.cells #[.int .u8 (if by_ < 2 then 2 else by_)] 5)).drew) := byte_string_at _ _ _ xm (by have := blk_drew (Blk.new (W.alloc (.cells #[.bool false, .int .i64 0, .slice none 0 0] 26)) 5 #[.int .u8 (if by_ < 2 then 2 else by_)]); rwa [World.size_alloc] at this) C.out.2.2.2.2.2.2
    have hU9 : ¬ 9223372036854775807 < 1 + U.size := by omega
    go_region_law (first
      | (go_simp; go_at_call 12; ((with_reducible refine (C.out.2.2.2.2.1 _).mono ?_); rintro e w6 ⟨rfl, b9⟩; have b8 : Below ((W.alloc (.cells #[.int .u8 (if by_ < 2 then 2 else by_)] 5)).drew).heap.size (W.alloc (.cells #[.int .u8 (if by_ < 2 then 2 else by_)] 5)).drew w6 := b9; have KK := Lib.hid (bt K.out (bt (below_drew (ba W (.cells #[.int .u8 (if by_ < 2 then 2 else by_)] 5))) (bt b8 (ba w6 (.cells #[.bool false, .int .i64 0, .slice none 0 0] 26))))); clear b9 b8))
      | (go_simp; go_at_call 12; ((with_reducible refine (C.out.2.2.2.2.1 _).mono ?_); rintro e w6 ⟨rfl, b9⟩; have b8 : Below (((W.alloc (.cells #[.int .u8 (if by_ < 2 then 2 else by_)] 5)).alloc (.cells #[.bool false, .int .i64 0, .slice none 0 0] 26)).drew).heap.size ((W.alloc (.cells #[.int .u8 (if by_ < 2 then 2 else by_)] 5)).alloc (.cells #[.bool false, .int .i64 0, .slice none 0 0] 26)).drew w6 := b9; have BZ := Blk.new (W.alloc (.cells #[.int .u8 (if by_ < 2 then 2 else by_)] 5)) 26 #[.bool false, .int .i64 0, .slice none 0 0]; have BY := (blk_drew BZ).later b8; rw [World.size_alloc] at BY; have q3 := BY.three; have q4 := q3.1; have q5 := q3.2.1; have q6 := q3.2.2; have q7 := BY.frozen; have KK := Lib.hid (below_put3 (bt K.out (bt (below_drew (bt (ba W (.cells #[.int .u8 (if by_ < 2 then 2 else by_)] 5)) (ba (W.alloc (.cells #[.int .u8 (if by_ < 2 then 2 else by_)] 5)) (.cells #[.bool false, .int .i64 0, .slice none 0 0] 26)))) b8)) (g := W.heap.size + 1) (by have := K.out.size; omega) (.bool false) (.int .i64 0) (.slice none 0 0)); clear b9 b8 BZ BY q3))
      | (go_simp; go_at_call 12; ((with_reducible refine (C.out.2.2.2.2.1 _).mono ?_); rintro e w6 ⟨rfl, b9⟩; have b8 : Below (((W.alloc (.cells #[.bool false, .int .i64 0, .slice none 0 0] 26)).alloc (.cells #[.int .u8 (if by_ < 2 then 2 else by_)] 5)).drew).heap.size ((W.alloc (.cells #[.bool false, .int .i64 0, .slice none 0 0] 26)).alloc (.cells #[.int .u8 (if by_ < 2 then 2 else by_)] 5)).drew w6 := b9; have BZ := (Blk.new W 26 #[.bool false, .int .i64 0, .slice none 0 0]).alloc (.cells #[.int .u8 (if by_ < 2 then 2 else by_)] 5); have BY := (blk_drew BZ).later b8; have q3 := BY.three; have q4 := q3.1; have q5 := q3.2.1; have q6 := q3.2.2; have q7 := BY.frozen; have KK := Lib.hid (below_put3 (bt K.out (bt (below_drew (bt (ba W (.cells #[.bool false, .int .i64 0, .slice none 0 0] 26)) (ba (W.alloc (.cells #[.bool false, .int .i64 0, .slice none 0 0] 26)) (.cells #[.int .u8 (if by_ < 2 then 2 else by_)] 5)))) b8)) (g := W.heap.size) (by have := K.out.size; omega) (.bool false) (.int .i64 0) (.slice none 0 0)); clear b9 b8 BZ BY q3)))
    all_goals
      go_wp2
      all_goals
        go_ret
        exact ⟨rfl, KK.out⟩
  · have hr : Ev.rightI true T [] = true := by
      have h0 := Ev.plain_parts hp
      unfold Ev.rightI; simp [Ev.plain_mk h0.1 h0.2.1 (l := []) (by simp) (by simp)]
    have ho' : ∀ x ∈ ([] : List V3), OkV x := by simp
    obtain ⟨X, hX⟩ : ∃ X : ByteArray, X.data.toList = Ev.putI true T [] := ⟨⟨(Ev.putI true T []).toArray⟩, rfl⟩
    have hXs : X.size = (Ev.putI true T []).length := by rw [← hX]; simp
    have hX1 : 1 ≤ X.size := by have := putI_pos hr; omega
    have hX2 : X.size ≤ 600 := by have := putI_len hr ho'; omega
    have hq : (cut % (X.size : Int)).toNat < X.size := by have h1 := Int.emod_nonneg cut (show (X.size : Int) ≠ 0 by omega); have h2 := Int.emod_lt_of_pos cut (show (0 : Int) < (X.size : Int) by omega); omega
    have g1 := torn_less hr ho' hX _ hq
    have g2 := torn_more hr ho' hX xb
    have g3 := torn_other (X.extract 1 X.size) xm hmax2
    have hsl : ∀ w, (Instr.slice 9 (.string X) none (some (.int .i64 (cut % (X.size : Int)))) none).run Try.prog w = .ok (.string (X.extract 0 (cut % (X.size : Int)).toNat)) w := fun w => slice_upto Try.prog w 9 Try.underlying9 X _ (Int.emod_nonneg cut (by omega)) (by have := Int.emod_lt_of_pos cut (show (0 : Int) < (X.size : Int) by omega); omega)
    have htl := fun w => slice_tail Try.prog w 9 Try.underlying9 X hX1
    have hz1 : (X.extract 0 (cut % (X.size : Int)).toNat).size ≤ maxLen := by rw [ByteArray.size_extract]; unfold maxLen; omega
    have hz2 : (X ++ ⟨#[xb]⟩ : ByteArray).size ≤ maxLen := by rw [ByteArray.size_append]; show X.size + 1 ≤ _; unfold maxLen; omega
    have hUs : (X.extract 1 X.size).size ≤ 600 := by rw [ByteArray.size_extract]; omega
    have hz3 : (⟨#[xm]⟩ ++ X.extract 1 X.size : ByteArray).size ≤ maxLen := by rw [ByteArray.size_append]; show 1 + _ ≤ _; unfold maxLen; omega
    have cX : ∀ w u, ValsAt w u [] → Calls Try.prog 10 #[item true T u] w fun e w' => e = .returned (.string X) ∧ Below w.heap.size w w' := fun w u hu => PutItem_any true T u [] w hu ho' hr X hX
    generalize X.extract 0 (cut % (X.size : Int)).toNat = X1 at *
    generalize X.extract 1 X.size = U at *
    have c1 := fun w => GetItem_no X1 w hz1 g1
    have c2 := fun w => GetItem_no _ w hz2 g2
    have c3 := fun w => GetItem_no _ w hz3 g3
    have C := Lib.hid (And.intro cX (And.intro cpl (And.intro c1 (And.intro c2 (And.intro c3 (And.intro hby hmax))))))
    have hX3 : ¬ (X.size : Int) = 0 := by omega
    clear cX cpl c1 c2 c3 hby hmax hv hp ho ho' hr hX hXs g1 g2 g3 hz1 hz2 hz3 hq hmax2
    go_enter Try.func7, Try.ntmps7
    go_wp2_with fail
    go_at_call 8
    ((with_reducible refine (examples_any _).mono ?_); rintro e w1 ⟨rfl, b1'⟩)
    go_wp2_with fail
    go_at_call 9
    ((with_reducible refine (C.out.2.1 _ b1').mono ?_); rintro e w2 ⟨u, ⟨rfl, hu⟩, b2'⟩)
    obtain ⟨A1, c1, rfl⟩ := hu.shape
    have K := Lib.hid (bt (bt b1' b2') (ba w2 (.cells #[.bool true, .int .i64 T, .slice none 0 0] 26)))
    have b2 := Box3.new w2 (.bool true) (.int .i64 T) (.slice none 0 0) 26
    obtain ⟨x0, x1, x2⟩ := b2
    clear b1' b2' hu
    go_wp2_with fail
    go_at_call 10
    ((with_reducible refine (C.out.1 _ _ (ValsAt.nil _)).mono ?_); rintro e w3 ⟨rfl, b9⟩)
    have k0 := K.out; replace K := Lib.hid (bt (k0) (b9)); clear k0
    clear b9
    go_wp2_with fail
    go_at_call 12
    ((with_reducible refine (C.out.2.2.1 _).mono ?_); rintro e w4 ⟨rfl, b9⟩)
    have b10 := bt b9 (ba w4 (.cells #[.bool false, .int .i64 0, .slice none 0 0] 26))
    have b11 := bt b10 (ba _ (.cells #[.int .u8 by_] 5))
    have hcv := byte_string (w4.alloc (.cells #[.bool false, .int .i64 0, .slice none 0 0] 26)) by_ xb C.out.2.2.2.2.2.1
    rw [World.size_alloc] at hcv
    have k0 := K.out; replace K := Lib.hid (bt (k0) (b11)); clear k0
    clear b9 b10 b11
    go_wp2_with fail
    go_at_call 12
    ((with_reducible refine (C.out.2.2.2.1 _).mono ?_); rintro e w5 ⟨rfl, b9⟩)
    have b10 := bt b9 (ba w5 (.cells #[.bool false, .int .i64 0, .slice none 0 0] 26))
    have k0 := K.out; replace K := Lib.hid (bt (k0) (b10)); clear k0
    clear b9 b10 hcv
    go_wp2_with fail
    generalize w5.alloc (.cells #[.bool false, .int .i64 0, .slice none 0 0] 26) = W at *
    have hcv : (convert 27 9 (.slice (some ⟨W.heap.size, 0, none⟩) 1 1)).run Try.prog ((W.alloc (.cells #[.int .u8 (if by_ < 2 then 2 else by_)] 5)).drew) = .ok (.string ⟨#[xm]⟩) ((W.alloc (.cells #[.int .u8 (if by_ < 2 then 2 else by_)] 5)).drew) := byte_string W.drew (if by_ < 2 then 2 else by_) xm C.out.2.2.2.2.2.2
    have hcv2 : (convert 27 9 (.slice (some ⟨W.heap.size, 0, none⟩) 1 1)).run Try.prog (((W.alloc (.cells #[.int .u8 (if by_ < 2 then 2 else by_)] 5)).alloc (.cells #[.bool false, .int .i64 0, .slice none 0 0] 26)).drew) = .ok (.string ⟨#[xm]⟩) (((W.alloc (.cells #[.int .u8 (if by_ < 2 then 2 else by_)] 5)).alloc (.cells #[.bool false, .int .i64 0, .slice none 0 0] 26)).drew) := byte_string_at _ _ _ xm (blk_drew ((Blk.new W 5 #[.int .u8 (if by_ < 2 then 2 else by_)]).alloc (.cells #[.bool false, .int .i64 0, .slice none 0 0] 26))) C.out.2.2.2.2.2.2
    have hcv3 : (convert 27 9 (.slice (some ⟨W.heap.size + 1, 0, none⟩) 1 1)).run Try.prog (((W.alloc (.cells #[.bool false, .int .i64 0, .slice none 0 0] 26)).alloc (.cells #[.int .u8 (if by_ < 2 then 2 else by_)] 5)).drew) = .ok (.string ⟨#[xm]⟩) (((W.alloc (.cells #[.bool false, .int .i64 0, .slice none 0 0] 26)).alloc (.cells #[.int .u8 (if by_ < 2 then 2 else by_)] 5)).drew) := byte_string_at _ _ _ xm (by have := blk_drew (Blk.new (W.alloc (.cells #[.bool false, .int .i64 0, .slice none 0 0] 26)) 5 #[.int .u8 (if by_ < 2 then 2 else by_)]); rwa [World.size_alloc] at this) C.out.2.2.2.2.2.2
    have hU9 : ¬ 9223372036854775807 < 1 + U.size := by omega
    go_region_law (first
      | (go_simp; go_at_call 12; ((with_reducible refine (C.out.2.2.2.2.1 _).mono ?_); rintro e w6 ⟨rfl, b9⟩; have b8 : Below ((W.alloc (.cells #[.int .u8 (if by_ < 2 then 2 else by_)] 5)).drew).heap.size (W.alloc (.cells #[.int .u8 (if by_ < 2 then 2 else by_)] 5)).drew w6 := b9; have KK := Lib.hid (bt K.out (bt (below_drew (ba W (.cells #[.int .u8 (if by_ < 2 then 2 else by_)] 5))) (bt b8 (ba w6 (.cells #[.bool false, .int .i64 0, .slice none 0 0] 26))))); clear b9 b8))
      | (go_simp; go_at_call 12; ((with_reducible refine (C.out.2.2.2.2.1 _).mono ?_); rintro e w6 ⟨rfl, b9⟩; have b8 : Below (((W.alloc (.cells #[.int .u8 (if by_ < 2 then 2 else by_)] 5)).alloc (.cells #[.bool false, .int .i64 0, .slice none 0 0] 26)).drew).heap.size ((W.alloc (.cells #[.int .u8 (if by_ < 2 then 2 else by_)] 5)).alloc (.cells #[.bool false, .int .i64 0, .slice none 0 0] 26)).drew w6 := b9; have BZ := Blk.new (W.alloc (.cells #[.int .u8 (if by_ < 2 then 2 else by_)] 5)) 26 #[.bool false, .int .i64 0, .slice none 0 0]; have BY := (blk_drew BZ).later b8; rw [World.size_alloc] at BY; have q3 := BY.three; have q4 := q3.1; have q5 := q3.2.1; have q6 := q3.2.2; have q7 := BY.frozen; have KK := Lib.hid (below_put3 (bt K.out (bt (below_drew (bt (ba W (.cells #[.int .u8 (if by_ < 2 then 2 else by_)] 5)) (ba (W.alloc (.cells #[.int .u8 (if by_ < 2 then 2 else by_)] 5)) (.cells #[.bool false, .int .i64 0, .slice none 0 0] 26)))) b8)) (g := W.heap.size + 1) (by have := K.out.size; omega) (.bool false) (.int .i64 0) (.slice none 0 0)); clear b9 b8 BZ BY q3))
      | (go_simp; go_at_call 12; ((with_reducible refine (C.out.2.2.2.2.1 _).mono ?_); rintro e w6 ⟨rfl, b9⟩; have b8 : Below (((W.alloc (.cells #[.bool false, .int .i64 0, .slice none 0 0] 26)).alloc (.cells #[.int .u8 (if by_ < 2 then 2 else by_)] 5)).drew).heap.size ((W.alloc (.cells #[.bool false, .int .i64 0, .slice none 0 0] 26)).alloc (.cells #[.int .u8 (if by_ < 2 then 2 else by_)] 5)).drew w6 := b9; have BZ := (Blk.new W 26 #[.bool false, .int .i64 0, .slice none 0 0]).alloc (.cells #[.int .u8 (if by_ < 2 then 2 else by_)] 5); have BY := (blk_drew BZ).later b8; have q3 := BY.three; have q4 := q3.1; have q5 := q3.2.1; have q6 := q3.2.2; have q7 := BY.frozen; have KK := Lib.hid (below_put3 (bt K.out (bt (below_drew (bt (ba W (.cells #[.bool false, .int .i64 0, .slice none 0 0] 26)) (ba (W.alloc (.cells #[.bool false, .int .i64 0, .slice none 0 0] 26)) (.cells #[.int .u8 (if by_ < 2 then 2 else by_)] 5)))) b8)) (g := W.heap.size) (by have := K.out.size; omega) (.bool false) (.int .i64 0) (.slice none 0 0)); clear b9 b8 BZ BY q3)))
    all_goals
      go_wp2
      all_goals
        go_ret
        exact ⟨rfl, KK.out⟩
end Go.Proofs.Ytojeiahconikeaa
