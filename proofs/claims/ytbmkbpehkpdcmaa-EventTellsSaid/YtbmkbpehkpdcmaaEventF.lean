/- Contracts of package event: Fits, at what the chapter's examples ask. -/
import Derived.Test.YtbmkbpehkpdcmaaEventI
import Derived.Deep.Slices
namespace Go.Proofs.Ytbmkbpehkpdcmaa
open Go.ChangeShapes Go.WideShapes Go.ChangeAt Go.RowKit
open Ev (V3 rightV OkV)
set_option linter.unusedVariables false
set_option linter.unusedSimpArgs false

/-- A slice of fields that reads as l: names, Kinds. -/
def FieldsAt (w : World) (v : Value) (l : List (ByteArray × Int)) : Prop :=
  ∃ (A : Option Addr) (cap : Nat), v = .slice A l.length cap ∧ l.length ≤ cap ∧ cap ≤ maxLen ∧
    (0 < l.length → ∃ a, A = some a ∧ ∀ j (hj : j < l.length), w.cell? (a.add (j * 2)) = some (.string (l[j]'hj).1) ∧ w.cell? ⟨(a.add (j * 2)).block, (a.add (j * 2)).off + 1, none⟩ = some (.int .i64 (l[j]'hj).2))
theorem FieldsAt.later {w w' : World} {v : Value} {l : List (ByteArray × Int)} (h : FieldsAt w v l) (hb : Below w.heap.size w w') : FieldsAt w' v l := by
  obtain ⟨A, cap, rfl, h1, h2, h3⟩ := h
  refine ⟨A, cap, rfl, h1, h2, fun h0 => ?_⟩
  obtain ⟨a, rfl, h4⟩ := h3 h0
  refine ⟨a, rfl, fun j hj => ?_⟩
  obtain ⟨c0, c1⟩ := h4 j hj
  exact ⟨by rw [hb.cell (World.block_lt_of_cell? w _ c0)]; exact c0, by rw [hb.cell (World.block_lt_of_cell? w _ c1)]; exact c1⟩
/-- A stream, as the program has it. -/
abbrev strm (n : ByteArray) (v : Value) : Value := .agg #[.string n, v]
/-- What keeps an event from being one of a stream of such Kinds. -/
def fitsE (fs : List (ByteArray × Int)) (t : Int) (l : List V3) : Int :=
  if Ev.plain t l = true ∧ l.length = fs.length then (if l.map (fun x => x.1) = fs.map (fun f => f.2) then 0 else 6) else 7
theorem Fits_no (n : ByteArray) (fv : Value) (fs : List (ByteArray × Int)) (t : Int) (v : Value) (l : List V3) (w : World) (hf : FieldsAt w fv fs) (hv : ValsAt w v l) (hs : ∀ x ∈ l, x.2.2.size ≤ maxLen) (h : ¬ (Ev.plain t l = true ∧ l.length = fs.length)) :
    Calls Try.prog 13 #[strm n fv, ev t v] w fun e w' => e = .returned (.int .i64 7) ∧ Below w.heap.size w w' := by
  have bA : Below w.heap.size w ((w.alloc (.cells #[.string n, fv] 30)).alloc (.cells #[.int .i64 t, v] 24)) := bt (ba _ _) (ba _ _)
  have cP := fun (w0 : World) (b : Below w.heap.size w w0) => Plain_any t v l w0 (hv.later b) hs
  have BF := (Box2.new w (.string n) fv 30).later (ba _ (.cells #[.int .i64 t, v] 24))
  have BE := Box2.new (w.alloc (.cells #[.string n, fv] 30)) (.int .i64 t) v 24
  rw [World.size_alloc] at BE
  obtain ⟨A, cap, rfl, h1, h2, -⟩ := hv
  obtain ⟨B, dap, rfl, k1, k2, -⟩ := hf
  have hm : l.length ≤ 9223372036854775807 := by unfold maxLen at h2; omega
  have hm' : fs.length ≤ 9223372036854775807 := by unfold maxLen at k2; omega
  have H := Lib.hid (And.intro cP (And.intro BF BE)); clear cP BF BE hs
  generalize Ev.plain t l = p at *
  cases p
  · clear h
    go_enter Try.func13, Try.ntmps13
    go_wp2_with (go_at_call 20; ((with_reducible refine (H.out.1 _ bA).mono ?_); rintro e w1 ⟨rfl, b1⟩; obtain ⟨c0, c1⟩ := H.out.2.1.later b1; obtain ⟨d0, d1⟩ := H.out.2.2.later b1))
    go_ret
    exact ⟨rfl, bt bA b1⟩
  · have h' : ¬ (l.length : Int) = (fs.length : Int) := fun h3 => h ⟨rfl, by omega⟩
    clear h
    go_enter Try.func13, Try.ntmps13
    go_wp2_with (go_at_call 20; ((with_reducible refine (H.out.1 _ bA).mono ?_); rintro e w1 ⟨rfl, b1⟩; obtain ⟨c0, c1⟩ := H.out.2.1.later b1; obtain ⟨d0, d1⟩ := H.out.2.2.later b1))
    go_ret
    exact ⟨rfl, bt bA b1⟩
theorem kinds_take {fs : List (ByteArray × Int)} {l : List V3} (hn : l.length = fs.length) {k : Nat} (h : k < l.length) (h1 : (l.take k).map (fun x => x.1) = (fs.take k).map (fun f => f.2)) (h2 : (l[k]'h).1 = (fs[k]'(by omega)).2) : (l.take (k + 1)).map (fun x => x.1) = (fs.take (k + 1)).map (fun f => f.2) := by
  rw [List.take_succ_eq_append_getElem h, List.take_succ_eq_append_getElem (by omega), List.map_append, List.map_append, h1]
  simp [h2]
theorem kinds_not {fs : List (ByteArray × Int)} {l : List V3} (hn : l.length = fs.length) {k : Nat} (h : k < l.length) (h2 : ¬ (l[k]'h).1 = (fs[k]'(by omega)).2) : ¬ l.map (fun x => x.1) = fs.map (fun f => f.2) := by
  intro e
  apply h2
  have e1 : (l.map (fun x => x.1))[k]? = (fs.map (fun f => f.2))[k]? := by rw [e]
  rw [List.getElem?_map, List.getElem?_map, List.getElem?_eq_getElem h, List.getElem?_eq_getElem (by omega)] at e1
  simpa using e1
set_option maxRecDepth 20000 in
set_option maxHeartbeats 1000000 in
theorem Fits_yes (n : ByteArray) (fv : Value) (fs : List (ByteArray × Int)) (t : Int) (v : Value) (l : List V3) (w : World) (hf : FieldsAt w fv fs) (hv : ValsAt w v l) (hs : ∀ x ∈ l, x.2.2.size ≤ maxLen) (hp : Ev.plain t l = true) (hn : l.length = fs.length) :
    Calls Try.prog 13 #[strm n fv, ev t v] w fun e w' => e = .returned (.int .i64 (if l.map (fun x => x.1) = fs.map (fun f => f.2) then 0 else 6)) ∧ Below w.heap.size w w' := by
  have bA : Below w.heap.size w ((w.alloc (.cells #[.string n, fv] 30)).alloc (.cells #[.int .i64 t, v] 24)) := bt (ba _ _) (ba _ _)
  have cP := fun (w0 : World) (b : Below w.heap.size w w0) => Plain_any t v l w0 (hv.later b) hs
  rw [hp] at cP
  have BF := (Box2.new w (.string n) fv 30).later (ba _ (.cells #[.int .i64 t, v] 24))
  have BE := Box2.new (w.alloc (.cells #[.string n, fv] 30)) (.int .i64 t) v 24
  rw [World.size_alloc] at BE
  obtain ⟨A, cap, rfl, h1, h2, h3⟩ := hv
  obtain ⟨B, dap, rfl, k1, k2, k3⟩ := hf
  have hm : l.length ≤ 9223372036854775807 := by unfold maxLen at h2; omega
  rw [← hn]
  obtain ⟨R, hR⟩ : ∃ R : Int, R = if l.map (fun x => x.1) = fs.map (fun f => f.2) then 0 else 6 := ⟨_, rfl⟩
  rw [← hR]
  have HR := Lib.hid hR; clear hR
  try rw [← hn] at bA
  try rw [← hn] at BF
  try rw [← hn] at BE
  try rw [← hn] at cP
  have H := Lib.hid (And.intro cP (And.intro BF (And.intro BE (And.intro h3 (And.intro k3 hn))))); clear cP BF BE hs h3 k3 hn hp k1
  go_enter Try.func13, Try.ntmps13
  go_wp2_with (go_at_call 20; ((with_reducible refine (H.out.1 _ bA).mono ?_); rintro e w1 ⟨rfl, b1⟩; obtain ⟨c0, c1⟩ := H.out.2.1.later b1; obtain ⟨d0, d1⟩ := H.out.2.2.1.later b1))
  clear c0 c1 d0 d1
  have b01 := bt bA b1
  have HB := Lib.hid (And.intro (H.out.2.1.later b1) b01)
  clear b1 b01 bA
  go_loopw [22] (fun i wr => ∃ k : Nat, k ≤ l.length ∧ i = .int .i64 k ∧ (l.take k).map (fun x => x.1) = (fs.take k).map (fun f => f.2) ∧ Below w1.heap.size w1 wr) (fun i _ => l.length - (intOf i).toNat)
  case atStart => exact ⟨0, Nat.zero_le _, rfl, rfl, Below.refl _ _⟩
  case round =>
    obtain ⟨k, hk, rfl, hall, hb⟩ := hrel
    have HK := Lib.hid (And.intro hall hb); clear hall hb
    by_cases hlt : k < l.length
    · have hlt' : k < fs.length := by have := H.out.2.2.2.2.2; omega
      obtain ⟨a, rfl, hc⟩ := H.out.2.2.2.1 (by omega)
      obtain ⟨b, rfl, hd⟩ := H.out.2.2.2.2.1 (by omega)
      have bW := bt HB.out.2 HK.out.2
      obtain ⟨q0, q1, q2⟩ := (hc k hlt).later bW
      obtain ⟨-, r1⟩ := hd k hlt'
      rw [← bW.cell (World.block_lt_of_cell? w _ r1)] at r1
      have e1 : (l[k]'hlt).1 = (fs[k]'hlt').2 → (l.take (k + 1)).map (fun x => x.1) = (fs.take (k + 1)).map (fun f => f.2) := fun h => kinds_take H.out.2.2.2.2.2 hlt HK.out.1 h
      have e2 : ¬ (l[k]'hlt).1 = (fs[k]'hlt').2 → ¬ l.map (fun x => x.1) = fs.map (fun f => f.2) := fun h => kinds_not H.out.2.2.2.2.2 hlt h
      obtain ⟨f0, f1⟩ := HB.out.1.later HK.out.2
      have f2 := World.block_lt_of_cell? wr _ f1
      clear hc hd bW
      have x0 := World.block_lt_of_cell? wr _ r1
      generalize (l[k]'hlt).1 = x1 at *
      generalize (l[k]'hlt).2.1 = y1 at *
      generalize (l[k]'hlt).2.2 = z1 at *
      generalize (fs[k]'hlt').2 = x2 at *
      by_cases hx : x1 = x2
      · subst hx
        have HE := Lib.hid (e1 rfl); clear e1 e2
        go_wp2
        go_quiet (fail)
        go_wp2
        go_roundw
        case rel => exact ⟨k + 1, by omega, by go_num, HE.out, below_drewN (bt HK.out.2 (ba _ _)) _⟩
        case measure => simp [intOf]; omega
      · have HE := Lib.hid (e2 hx); clear e1 e2
        go_wp2
        go_quiet (fail)
        go_wp2
        go_ret
        exact ⟨by rw [HR.out, if_neg HE.out]; rfl, bt HB.out.2 (below_drewN (bt HK.out.2 (ba _ _)) _)⟩
    · have hE : l.map (fun x => x.1) = fs.map (fun f => f.2) := by
        have h1 := HK.out.1; have h2 := H.out.2.2.2.2.2
        rwa [List.take_of_length_le (by omega), List.take_of_length_le (by omega)] at h1
      have HE := Lib.hid hE; clear hE
      go_wp2
      go_ret
      exact ⟨by rw [HR.out, if_pos HE.out]; rfl, bt HB.out.2 HK.out.2⟩
theorem Fits_any (n : ByteArray) (fv : Value) (fs : List (ByteArray × Int)) (t : Int) (v : Value) (l : List V3) (w : World) (hf : FieldsAt w fv fs) (hv : ValsAt w v l) (hs : ∀ x ∈ l, x.2.2.size ≤ maxLen) :
    Calls Try.prog 13 #[strm n fv, ev t v] w fun e w' => e = .returned (.int .i64 (fitsE fs t l)) ∧ Below w.heap.size w w' := by
  unfold fitsE
  by_cases h : Ev.plain t l = true ∧ l.length = fs.length
  · rw [if_pos h]; exact Fits_yes n fv fs t v l w hf hv hs h.1 h.2
  · rw [if_neg h]; exact Fits_no n fv fs t v l w hf hv hs h
end Go.Proofs.Ytbmkbpehkpdcmaa
