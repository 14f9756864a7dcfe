/- Contracts of package reckon: a field of the last event. -/
import Derived.Test.YtjddfjapopdciaaRkF
namespace Go.Proofs.Ytjddfjapopdciaa
open Go.ChangeShapes Go.WideShapes Go.ChangeAt Go.RowKit
open Rk (inR)
set_option linter.unusedVariables false
set_option linter.unusedSimpArgs false

theorem IndexS_any (v : Value) (l : List ByteArray) (x : ByteArray) (w : World) (hv : At w 1 sc v l) :
    Calls Try.prog 66 #[v, .string x] w fun e w' => e = .returned (.int .i64 (idxB (fun y => isN y x) l)) ∧ w = w' := by
  have hv0 := hv
  obtain ⟨A, cap, rfl, h1, h2, h3, h4⟩ := hv
  clear h4
  have hm : l.length ≤ 9223372036854775807 := by unfold maxLen at h2; omega
  have H := Lib.hid hv0; clear hv0 h3
  go_enter Try.func66, Try.ntmps66
  go_wp2
  go_loop [8] (fun i => ∃ k : Nat, k ≤ l.length ∧ i = .int .i64 k ∧ (∀ j (hj : j < l.length), j < k → isN (l[j]'hj) x = false)) (fun i => l.length - (intOf i).toNat)
  case atStart => exact ⟨0, Nat.zero_le _, rfl, fun j hj h => by omega⟩
  case round =>
    obtain ⟨k, hk, rfl, hall⟩ := hrel
    have HK := Lib.hid hall; clear hall
    by_cases hlt : k < l.length
    · obtain ⟨a, rfl, hc⟩ := H.out.cells rfl (by omega)
      have c0 := hc.row1 k hlt rfl
      rw [Nat.mul_one] at c0
      have h1' : isN (l[k]'hlt) x = true → idxB (fun y => isN y x) l = k := fun h => idxB_found (p := fun y => isN y x) hlt h HK.out
      have h0' : isN (l[k]'hlt) x = false → ∀ j (hj : j < l.length), j < k + 1 → isN (l[j]'hj) x = false := fun h j hj hlt' => by
        rcases Nat.lt_succ_iff_lt_or_eq.1 hlt' with h2 | rfl
        · exact HK.out j hj h2
        · exact h
      generalize (l[k]'hlt) = s at *
      clear hc
      rcases hr : isN s x with _ | _
      · have hb : (x.toList == s.toList) = false := hr
        have HC := Lib.hid (h0' hr); clear hr h0' h1'
        go_wp2
        go_round
        case rel => exact ⟨k + 1, by omega, by go_num, HC.out⟩
        case measure => simp [intOf]; omega
      · have hb : (x.toList == s.toList) = true := hr
        have HC := Lib.hid (h1' hr); clear hr h0' h1'
        go_wp2
        go_ret
        exact ⟨by rw [HC.out]; rfl, rfl⟩
    · have hE : idxB (fun y => isN y x) l = -1 := idxB_none (p := fun y => isN y x) (fun j hj => HK.out j hj (by omega))
      have HE := Lib.hid hE; clear hE
      go_wp2
      go_ret
      exact ⟨by rw [HE.out]; rfl, rfl⟩

/-- The place of a name among names. -/
def pos (F : List ByteArray) (f : ByteArray) : Nat := F.findIdx (fun y => isN y f)
theorem idx_pos (F : List ByteArray) (f : ByteArray) : idxB (fun y => isN y f) F = if pos F f < F.length then (pos F f : Int) else -1 := rfl
/-- A field of the last event. -/
def lastM (F : List ByteArray) (E : List Ev) (f : ByteArray) : Option V3 :=
  if pos F f < F.length then (match E.getLast? with | some x => (match x.2[pos F f]? with | some v => if right3 v = true then some v else none | none => none) | none => none) else none

theorem last_nofield (s f : ByteArray) (Fs Es : SV) (F : List ByteArray) (w : World) (hF : At w 1 sc (sl Fs) F) (h : ¬ pos F f < F.length) :
    Calls Try.prog 49 #[.agg #[.string s, sl Fs, sl Es], .string f] w fun e w' => e = .panicked pMissing ∧ Below w.heap.size w w' := by
  obtain ⟨F1, F2, F3⟩ := Fs
  obtain ⟨E1, E2, E3⟩ := Es
  have K := KT.two 23 59 w #[.string s, .slice F1 F2 F3, .slice E1 E2 E3] zv
  have cI := IndexS_any _ F f _ (hF.later K.1)
  rw [idx_pos, if_neg h] at cI
  have H := Lib.hid (And.intro cI K); clear cI K h hF
  go_enter Try.func49, Try.ntmps49
  go_wp2_with (first | (go_at_call 67; ((with_reducible refine (need_no _).mono ?_); rintro e w1 ⟨rfl, rfl⟩)) | (go_at_call 66; ((with_reducible refine (H.out.1).mono ?_); rintro e w1 ⟨rfl, rfl⟩)))
  exact ⟨rfl, rfl, H.out.2.1⟩
theorem last_noevent (s f : ByteArray) (Fs : SV) (A : Option Addr) (c : Nat) (F : List ByteArray) (w : World) (hF : At w 1 sc (sl Fs) F) (h : pos F f < F.length) :
    Calls Try.prog 49 #[.agg #[.string s, sl Fs, .slice A 0 c], .string f] w fun e w' => e = .panicked pMissing ∧ Below w.heap.size w w' := by
  obtain ⟨F1, F2, F3⟩ := Fs
  have K := KT.two 23 59 w #[.string s, .slice F1 F2 F3, .slice A 0 c] zv
  have cI := IndexS_any _ F f _ (hF.later K.1)
  rw [idx_pos, if_pos h] at cI
  generalize pos F f = i at *
  have H := Lib.hid (And.intro cI K); clear cI K h hF
  go_enter Try.func49, Try.ntmps49
  go_wp2_with (first | (go_at_call 67; ((with_reducible refine (need_no _).mono ?_); rintro e w1 ⟨rfl, rfl⟩)) | (go_at_call 66; ((with_reducible refine (H.out.1).mono ?_); rintro e w1 ⟨rfl, rfl⟩)))
  exact ⟨rfl, rfl, H.out.2.1⟩
theorem last_short (s f : ByteArray) (Fs : SV) (a : Addr) (m c : Nat) (t : Int) (Vs : SV) (F : List ByteArray) (w : World) (hm : m + 1 ≤ 9223372036854775807) (hF : At w 1 sc (sl Fs) F) (h : pos F f < F.length) (hr : w.cell? ⟨(a.add (m * 2)).block, (a.add (m * 2)).off + 1, none⟩ = some (sl Vs)) (hs : ¬ pos F f < Vs.2.1) :
    Calls Try.prog 49 #[.agg #[.string s, sl Fs, .slice (some a) (m + 1) c], .string f] w fun e w' => e = .panicked pMissing ∧ Below w.heap.size w w' := by
  obtain ⟨F1, F2, F3⟩ := Fs
  obtain ⟨V1, V2, V3⟩ := Vs
  have hs : ¬ pos F f < V2 := hs
  have K := KT.two 23 59 w #[.string s, .slice F1 F2 F3, .slice (some a) (m + 1) c] zv
  have cI := IndexS_any _ F f _ (hF.later K.1)
  have q : ((w.alloc (.cells #[.string s, .slice F1 F2 F3, .slice (some a) (m + 1) c] 59)).alloc (.cells zv 23)).cell? ⟨(a.add (m * 2)).block, (a.add (m * 2)).off + 1, none⟩ = some (.slice V1 V2 V3) := by
    rw [K.1.cell (World.block_lt_of_cell? w _ hr)]; exact hr
  rw [idx_pos, if_pos h] at cI
  generalize pos F f = i at *
  have H := Lib.hid (And.intro cI K); clear cI K h hF hr
  go_enter Try.func49, Try.ntmps49
  go_wp2_with (first | (go_at_call 67; ((with_reducible refine (need_yes _).mono ?_); rintro e w1 ⟨rfl, rfl⟩)) | (go_at_call 67; ((with_reducible refine (need_no _).mono ?_); rintro e w1 ⟨rfl, rfl⟩)) | (go_at_call 66; ((with_reducible refine (H.out.1).mono ?_); rintro e w1 ⟨rfl, rfl⟩)))
  exact ⟨rfl, rfl, H.out.2.1⟩
theorem last_val (s f : ByteArray) (Fs : SV) (a b : Addr) (m c : Nat) (n' c' : Nat) (v : V3) (F : List ByteArray) (w : World) (hm : m + 1 ≤ 9223372036854775807) (hF : At w 1 sc (sl Fs) F) (h : pos F f < F.length) (hr : w.cell? ⟨(a.add (m * 2)).block, (a.add (m * 2)).off + 1, none⟩ = some (.slice (some b) n' c')) (hs : pos F f < n')
    (hv : Row3 w (b.add (pos F f * 3)) (.int .i64 v.1) (.int .i64 v.2.1) (.string v.2.2)) (hz : v.2.2.size ≤ maxLen) :
    Calls Try.prog 49 #[.agg #[.string s, sl Fs, .slice (some a) (m + 1) c], .string f] w fun e w' => Res (if right3 v = true then some v else none) e ∧ Below w.heap.size w w' := by
  obtain ⟨F1, F2, F3⟩ := Fs
  obtain ⟨x, y, z⟩ := v
  have K := Lib.hid (KT.two 23 59 w #[.string s, .slice F1 F2 F3, .slice (some a) (m + 1) c] zv)
  have cI := IndexS_any _ F f _ (hF.later K.out.1)
  have q : ((w.alloc (.cells #[.string s, .slice F1 F2 F3, .slice (some a) (m + 1) c] 59)).alloc (.cells zv 23)).cell? ⟨(a.add (m * 2)).block, (a.add (m * 2)).off + 1, none⟩ = some (.slice (some b) n' c') := by
    rw [K.out.1.cell (World.block_lt_of_cell? w _ hr)]; exact hr
  rw [idx_pos, if_pos h] at cI
  obtain ⟨c0, c1, c2⟩ := hv.later K.out.1
  have cR := fun W => Right_any x y z W hz
  generalize pos F f = i at *
  rw [show right3 (x, y, z) = Val.right x y z from rfl]
  cases hR : Val.right x y z with
  | false =>
    rw [hR] at cR
    rw [if_neg (by simp)]
    have H := Lib.hid (And.intro cI (And.intro cR hv)); clear cI cR hv h hF hr hR
    go_enter Try.func49, Try.ntmps49
    go_wp2_with (first | (go_at_call 67; ((with_reducible refine (need_yes _).mono ?_); rintro e w1 ⟨rfl, rfl⟩)) | (go_at_call 67; ((with_reducible refine (need_no _).mono ?_); rintro e w1 ⟨rfl, rfl⟩)) | (go_at_call 66; ((with_reducible refine (H.out.1).mono ?_); rintro e w1 ⟨rfl, rfl⟩)) | (go_at_call 68; ((with_reducible refine (H.out.2.1 _).mono ?_); rintro e w1 ⟨rfl, hb⟩; replace K := Lib.hid (K.out.go hb); clear hb)))
    exact ⟨rfl, Res.no, K.out.1⟩
  | true =>
    rw [hR] at cR
    rw [if_pos rfl]
    have H := Lib.hid (And.intro cI (And.intro cR hv)); clear cI cR hv h hF hr hR
    go_enter Try.func49, Try.ntmps49
    go_wp2_with (first | (go_at_call 67; ((with_reducible refine (need_yes _).mono ?_); rintro e w1 ⟨rfl, rfl⟩)) | (go_at_call 67; ((with_reducible refine (need_no _).mono ?_); rintro e w1 ⟨rfl, rfl⟩)) | (go_at_call 66; ((with_reducible refine (H.out.1).mono ?_); rintro e w1 ⟨rfl, rfl⟩)) | (go_at_call 68; ((with_reducible refine (H.out.2.1 _).mono ?_); rintro e w1 ⟨rfl, hb⟩; replace K := Lib.hid (K.out.go hb); clear hb; obtain ⟨p0, p1⟩ := K.out.facts; obtain ⟨d0, d1, d2⟩ := H.out.2.2.later K.out.1)))
    exact bodyPost_ret (v := v3 (x, y, z)) (by simp [results, Try.results49, go_sem, p0]) rfl ⟨rfl, K.out.put _ _ _⟩
end Go.Proofs.Ytjddfjapopdciaa
