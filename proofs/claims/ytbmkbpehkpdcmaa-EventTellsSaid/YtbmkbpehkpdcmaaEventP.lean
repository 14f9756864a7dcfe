/- Contracts of package event: Put, PutItem. -/
import Derived.Test.YtbmkbpehkpdcmaaEventE
import Derived.Test.YtbmkbpehkpdcmaaBuf
import Derived.Test.YtbmkbpehkpdcmaaValueP
namespace Go.Proofs.Ytbmkbpehkpdcmaa
open Go.ChangeShapes Go.WideShapes Go.ChangeAt Go.RowKit
open Ev (V3 rightV OkV)
set_option linter.unusedVariables false
set_option linter.unusedSimpArgs false

theorem Same_any (t : Int) (v : Value) (l : List V3) (t' : Int) (v' : Value) (l' : List V3) (w : World) (hv : ValsAt w v l) (hv' : ValsAt w v' l') :
    Calls Try.prog 15 #[ev t v, ev t' v'] w fun e w' => e = .returned (.bool (decide (t = t') && decide (l = l'))) ∧ Below w.heap.size w w' := by
  have bA : Below w.heap.size w ((w.alloc (.cells #[.int .i64 t, v] 24)).alloc (.cells #[.int .i64 t', v'] 24)) := bt (ba _ _) (ba _ _)
  have cE := fun (w0 : World) (b : Below w.heap.size w w0) => Equal_any v l v' l' w0 (hv.later b) (hv'.later b)
  have HE := Lib.hid cE; clear cE hv hv'
  generalize decide (l = l') = q at *
  by_cases h : t = t'
  · subst h
    rw [decide_eq_true rfl]
    go_enter Try.func15, Try.ntmps15
    go_wp2_with (go_at_call 33; ((with_reducible refine (HE.out _ bA).mono ?_); rintro e w1 ⟨rfl, b1⟩))
    go_ret
    exact ⟨by simp, bt bA b1⟩
  · rw [decide_eq_false h]
    go_enter Try.func15, Try.ntmps15
    go_wp2
    go_ret
    exact ⟨by simp, bA⟩

theorem u8_info : (Try.prog.info? 5).map (fun i => (i.zero, i.size, i.bytes)) = some (some (.int .u8 0), 1, 1) := by kernel_rfl
theorem ret_buf {a : ByteArray} {b : List UInt8} (h : a.data.toList = b) : Ending.returned (.string a) = .returned (.string ⟨b.toArray⟩) := by rw [← h]

theorem one_byte (w : World) (z : Int) (c : UInt8) (ty : TypeId) (hz : z = (c.toNat : Int)) : ∀ j y, ([c].map byteV)[j]? = some y → (w.alloc (.cells #[.int .u8 z] ty)).cell? ((⟨w.heap.size, 0, none⟩ : Addr).add j) = some y := by
  intro j y h
  match j, h with
  | 0, h =>
    simp only [List.map_cons, List.map_nil, List.getElem?_cons_zero, Option.some.injEq] at h
    subst h
    rw [addr_plain, World.cell?_alloc_new, hz]; rfl
  | j + 1, h => simp at h
theorem BufAt.base {w : World} {base : Nat} {e : TypeId} {v : Value} {bs : List UInt8} (h : BufAt w base e v bs) : ∀ k, v.ownBlock = some k → base ≤ k := by
  obtain ⟨g, cap, cur, fz, rfl, h1, _⟩ := h
  intro k hk
  have : g = k := by simpa [Value.ownBlock] using hk
  omega
/-- What an append to a slice of the call's own leaves of old memory. -/
theorem below_own {B : Nat} {w w1 w2 : World} {e : TypeId} {v : Value} {bs : List UInt8} (h : Below B w w1) (hB : B ≤ w1.heap.size) (hg : w1.grownBy w2 v.ownBlock) (hv : ∀ k, v.ownBlock = some k → B ≤ k) : Below B w w2 := h.grown hg hB hv
theorem Put_no (t : Int) (v : Value) (l : List V3) (w : World) (hv : ValsAt w v l) (hs : ∀ x ∈ l, x.2.2.size ≤ maxLen) (hp : Ev.plain t l = false) :
    Calls Try.prog 7 #[ev t v] w fun e w' => e = .returned (.string ⟨(Ev.put t l).toArray⟩) ∧ Below w.heap.size w w' := by
  have hv1 := hv.later (ba w (.cells #[.int .i64 t, v] 24))
  have cP := fun w' (h : ValsAt w' v l) => Plain_any t v l w' h hs
  rw [hp] at cP
  have H := Lib.hid (And.intro cP hv1)
  rw [Ev.put_no hp]
  clear hv cP hp hv1
  go_enter Try.func7, Try.ntmps7
  go_wp2_with (go_at_call 20; ((with_reducible refine (H.out.1 _ H.out.2).mono ?_); rintro e w1 ⟨rfl, b1⟩))
  go_ret
  exact ⟨rfl, bt (ba _ _) b1⟩
theorem body_take {l : List V3} {k : Nat} (h : k < l.length) (p : List UInt8) : p ++ Ev.body (l.take (k + 1)) = p ++ Ev.body (l.take k) ++ Val.put (l[k]'h).1 (l[k]'h).2.1 (l[k]'h).2.2 := by
  rw [List.take_succ_eq_append_getElem h, Ev.body_snoc, List.append_assoc]; rfl
set_option maxRecDepth 20000 in
set_option maxHeartbeats 1000000 in
theorem Put_yes (t : Int) (v : Value) (l : List V3) (w : World) (hv : ValsAt w v l) (hs : ∀ x ∈ l, OkV x) (hp : Ev.plain t l = true) :
    Calls Try.prog 7 #[ev t v] w fun e w' => e = .returned (.string ⟨(Ev.put t l).toArray⟩) ∧ Below w.heap.size w w' := by
  have bA := ba w (.cells #[.int .i64 t, v] 24)
  have B0 := Box2.new w (.int .i64 t) v 24
  have hv1 := hv.later bA
  have bR := Below.refl (w.alloc (.cells #[.int .i64 t, v] 24)).heap.size (w.alloc (.cells #[.int .i64 t, v] 24))
  have cP := fun w' (h : ValsAt w' v l) => Plain_any t v l w' h (fun x hx => by have := (hs x hx).size; unfold maxLen; omega)
  rw [hp] at cP
  obtain ⟨p0, p1, p2, p3⟩ := Ev.plain_parts hp
  have n10 := Num.put_ten (u := t.toNat) (by omega)
  rw [Ev.put_yes hp]
  have hv0 := hv
  obtain ⟨A, cap, rfl, h1, h2, h3⟩ := hv
  obtain ⟨W0, hW0⟩ : ∃ W0, W0 = w.alloc (.cells #[.int .i64 t, .slice A l.length cap] 24) := ⟨_, rfl⟩
  rw [← hW0] at bR B0 bA hv1
  have H := Lib.hid (And.intro cP (And.intro hv1 (And.intro B0 (And.intro bA hW0))))
  have HS := Lib.hid hs
  have hm : l.length ≤ 9223372036854775807 := by unfold maxLen at h2; omega
  obtain ⟨i0, hi, hz0, hz1, hz2⟩ := info_parts u8_info
  clear cP hv1 hs hp h3 p3 bR B0 bA hv0
  go_enter Try.func7, Try.ntmps7
  go_wp2_with fail
  rw [← H.out.2.2.2.2]
  clear hW0
  go_at_call 20
  ((with_reducible refine (H.out.1 _ H.out.2.1).mono ?_); rintro e w1 ⟨rfl, b1⟩)
  obtain ⟨c0, c1⟩ := H.out.2.2.1.later b1
  go_wp2_with fail
  go_at_call 27
  ((with_reducible refine (Put_any t _ p0 (by omega)).mono ?_); rintro e w2 ⟨rfl, b2⟩)
  have hcv := Lib.run_convert_string_bytes (P := Try.prog) w2 9 27 5 ⟨(Num.put t.toNat).toArray⟩ Try.underlying9 Try.underlying27 Try.underlying5
  have b12 := bt b1 b2
  have hbuf := buf_made w2 W0.heap.size 5 ⟨(Num.put t.toNat).toArray⟩ b12.size (by show (Num.put t.toNat).length ≤ _; unfold maxLen; omega)
  have bM := bt b12 (below_made (B := w2.heap.size) w2 5 ⟨(Num.put t.toNat).toArray⟩ (Nat.le_refl _))
  clear c0 c1
  obtain ⟨c0, c1⟩ := H.out.2.2.1.later bM
  have K := Lib.hid (And.intro hbuf bM)
  clear hbuf bM b2 b1 b12
  generalize Lib.bytesWorld w2 5 ⟨(Num.put t.toNat).toArray⟩ = w3 at *
  have HLB := Lib.hid (show ((l.length : Nat) : Int) = ((l.length.toUInt8).toNat : Int) by simp; omega)
  have hbl : ((⟨(Num.put t.toNat).toArray⟩ : ByteArray).data.toList).length ≤ 10 := by simpa using n10
  go_wp2_with (at_builtin; refine wpList_append_buf_slice rfl (.tmp 14) (.tmp 19) 27 rfl W0.heap.size 5 i0 Try.underlying27 hi hz0 hz1 hz2 _ _ rfl (K.out.1.later (ba _ _)) [l.length.toUInt8] ⟨w3.heap.size, 0, none⟩ 1 rfl (one_byte _ _ _ _ HLB.out) (by simp only [List.length_cons, List.length_nil]; omega) (by have := K.out.2.size; simp only [World.size_alloc]; omega) ?_; intro v4 w4 hb4 hg4; have bG := (bt K.out.2 (ba w3 (.cells #[.int .u8 (l.length : Int)] 5))).grown hg4 (by have := K.out.2.size; simp only [World.size_alloc]; omega) K.out.1.base; have c2 := H.out.2.2.1.later bG; have c3 := c2.1; have c4 := c2.2; clear c2)
  replace K := Lib.hid (And.intro hb4 bG)
  clear hb4 bG hg4 c0 c1 c3 c4 hcv hbl
  go_loopw [3, 24] (fun b i wr => ∃ k : Nat, k ≤ l.length ∧ i = .int .i64 k ∧ BufAt wr W0.heap.size 5 b ((Num.put t.toNat ++ [l.length.toUInt8]) ++ Ev.body (l.take k)) ∧ Below W0.heap.size W0 wr) (fun _ i _ => l.length - (intOf i).toNat)
  case atStart => exact ⟨0, Nat.zero_le _, rfl, by simpa [Ev.body] using K.out.1, K.out.2⟩
  case round =>
    obtain ⟨k, hk, rfl, hb, hW⟩ := hrel
    clear K
    have K := Lib.hid (And.intro hb hW); clear hb hW
    by_cases hlt : k < l.length
    · have hc := H.out.2.1
      obtain ⟨A', cap', he, -, -, h3⟩ := hc
      injection he with he1 he2 he3
      subst he1
      obtain ⟨a, rfl, hc⟩ := h3 (by omega)
      have hk3 := (hc k hlt).later K.out.2
      obtain ⟨c0, c1, c2⟩ := hk3
      have hok := HS.out _ (List.getElem_mem hlt)
      have o1 := hok.lo
      have o2 := hok.hi
      have o3 := hok.size
      have o4 := Ev.putV_len hok
      unfold Ev.putV at o4
      have hbk := body_take hlt (Num.put t.toNat ++ [l.length.toUInt8])
      have hbl : ((Num.put t.toNat ++ [l.length.toUInt8]) ++ Ev.body (l.take k)).length ≤ 500 := by
        have h5 := Ev.body_len (m := l.take k) (fun x hx => HS.out x (List.mem_of_mem_take hx))
        have h6 : (l.take k).length ≤ 6 := by rw [List.length_take]; omega
        simp only [List.length_append, List.length_cons, List.length_nil]; omega
      clear hc h3 he2 he3 hok
      generalize (l[k]'hlt).1 = x at *
      generalize (l[k]'hlt).2.1 = y at *
      generalize (l[k]'hlt).2.2 = z at *
      obtain ⟨X, hX⟩ : ∃ X : ByteArray, X = ⟨(Val.put x y z).toArray⟩ := ⟨_, rfl⟩
      have cX : ∀ w, Calls Try.prog 28 #[vv x y z] w fun e w' => e = .returned (.string X) ∧ Below w.heap.size w w' := fun w => (Put_v x y z w (by unfold maxLen; omega) o1 o2).mono fun _ _ ⟨he, hw⟩ => ⟨by rw [he, hX], hw⟩
      have hXl : X.data.toList = Val.put x y z := by rw [hX]
      have hXs : X.size ≤ 75 := by rw [hX]; exact o4
      rw [← hXl] at hbk
      have C := Lib.hid (And.intro cX hbk)
      have HBL := Lib.hid hbl
      clear cX hbk hX hXl o4 hbl
      generalize (Num.put t.toNat ++ [l.length.toUInt8]) ++ Ev.body (l.take k) = bs at *
      go_wp2_with (first
        | (go_at_call 28; ((with_reducible refine (C.out.1 _).mono ?_); rintro e w5 ⟨rfl, b5⟩; have b6 := bt K.out.2 (bt (ba _ _) b5); have hb6 := K.out.1.later (bt (ba _ _) b5)))
        | (at_builtin; refine wpList_append_buf_string rfl (.tmp 28) (.tmp 30) 27 9 rfl W0.heap.size 5 i0 Try.underlying27 Try.underlying9 hi hz0 hz1 hz2 _ _ rfl hb6 X rfl (by have := HBL.out; omega) b6.size ?_; intro v7 w7 hb7 hg7))
      go_roundw
      case rel => exact ⟨k + 1, by omega, by go_num, by rw [C.out.2]; exact hb7, b6.grown hg7 b6.size hb6.base⟩
      case measure => simp [intOf]; omega
    · have hE : l.take k = l := List.take_of_length_le (by omega)
      have hcv := buf_string Try.prog wr 27 9 5 Try.underlying27 Try.underlying5 Try.underlying9 K.out.1
      have HE := Lib.hid hE; clear hE
      go_wp2
      go_ret
      exact ⟨by rw [HE.out]; rfl, bt H.out.2.2.2.1 K.out.2⟩
end Go.Proofs.Ytbmkbpehkpdcmaa
