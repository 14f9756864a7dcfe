/- The laws' own streams (chapter 3). -/
import Derived.Test.YtdpgdpfalfiijaaDoorStrmX
import Derived.Deep.RegionLaw
namespace Go.Proofs.YtdpgdpfalfiijaaDoor
open Go.ChangeShapes Go.WideShapes Go.ChangeAt Go.RowKit
set_option linter.unusedVariables false
set_option linter.unusedSimpArgs false

/-- The names of the laws' own streams. -/
def ownTab : List ByteArray := [⟨#[97]⟩, ⟨#[98]⟩, ⟨#[95, 99]⟩, ⟨#[68, 100]⟩, ⟨#[101, 53]⟩, ⟨#[115, 116, 114, 105, 99, 116]⟩, ⟨#[97, 98, 99, 100, 101, 102, 103, 104, 105, 106, 107, 108, 109, 110, 111, 112, 113, 114, 115, 116]⟩, ⟨#[69, 77, 73, 84, 115]⟩]
def fldTab : List ByteArray := [⟨#[120]⟩, ⟨#[121]⟩, ⟨#[122]⟩, ⟨#[107]⟩, ⟨#[95]⟩, ⟨#[98, 121]⟩]
def ownN (c : Nat) : ByteArray := ownTab.getD (c % 8) ⟨#[]⟩
def ownX (i : Nat) (c : UInt8) : Fld := (fldTab.getD i ⟨#[]⟩, 1 + ((c.toNat % 3 : Nat) : Int))
/-- The first six bytes, from place i on. -/
def ownF : Nat → List UInt8 → List Fld
  | _, [] => []
  | i, c :: r => if i < 6 then ownX i c :: ownF (i + 1) r else []
theorem ownF_length : ∀ (l : List UInt8) (i : Nat), i ≤ 6 → (ownF i l).length = min (6 - i) l.length
  | [], i, _ => by simp [ownF]
  | c :: r, i, h => by
    unfold ownF
    by_cases h6 : i < 6
    · rw [if_pos h6, List.length_cons, ownF_length r (i + 1) (by omega), List.length_cons]; omega
    · rw [if_neg h6]; simp; omega
theorem ownF_get : ∀ (l : List UInt8) (i k : Nat) (h : k < (ownF i l).length) (hk : k < l.length), (ownF i l)[k]'h = ownX (i + k) (l[k]'hk)
  | c :: r, i, k, h, hk => by
    by_cases h6 : i < 6
    · have e : ownF i (c :: r) = ownX i c :: ownF (i + 1) r := by rw [ownF, if_pos h6]
      cases k with
      | zero => simp [e]
      | succ k =>
        have h' : k < (ownF (i + 1) r).length := by rw [e] at h; simpa using h
        have := ownF_get r (i + 1) k h' (by simpa using hk)
        simp only [e, List.getElem_cons_succ]
        rw [this]; congr 1; omega
    · have e : ownF i (c :: r) = [] := by rw [ownF, if_neg h6]
      rw [e] at h; simp at h
theorem ownF_take (l : List UInt8) (k : Nat) (h : k < l.length) (h6 : k < 6) : (ownF 0 l).take (k + 1) = (ownF 0 l).take k ++ [ownX k (l[k]'h)] := by
  have hl : k < (ownF 0 l).length := by rw [ownF_length l 0 (by omega)]; omega
  rw [List.take_succ_eq_append_getElem hl, ownF_get l 0 k hl h, Nat.zero_add]
theorem ownF_tlen (l : List UInt8) (k : Nat) (h : k ≤ l.length) (h6 : k ≤ 6) : ((ownF 0 l).take k).length = k := by
  rw [List.length_take, ownF_length l 0 (by omega)]; omega
abbrev Tab6 : Obj := .cells #[.string ⟨#[120]⟩, .string ⟨#[121]⟩, .string ⟨#[122]⟩, .string ⟨#[107]⟩, .string ⟨#[95]⟩, .string ⟨#[98, 121]⟩] 9
abbrev Tab8 : Obj := .cells #[.string ⟨#[97]⟩, .string ⟨#[98]⟩, .string ⟨#[95, 99]⟩, .string ⟨#[68, 100]⟩, .string ⟨#[101, 53]⟩, .string ⟨#[115, 116, 114, 105, 99, 116]⟩, .string ⟨#[97, 98, 99, 100, 101, 102, 103, 104, 105, 106, 107, 108, 109, 110, 111, 112, 113, 114, 115, 116]⟩, .string ⟨#[69, 77, 73, 84, 115]⟩] 9
theorem tab6_at (w : World) (k : Nat) (h : k < 6) : (w.alloc Tab6).cell? ⟨w.heap.size, k, none⟩ = some (.string (fldTab.getD k ⟨#[]⟩)) := by
  rw [World.cell?_alloc_new]
  rcases (by omega : k = 0 ∨ k = 1 ∨ k = 2 ∨ k = 3 ∨ k = 4 ∨ k = 5) with rfl | rfl | rfl | rfl | rfl | rfl <;> rfl
theorem tab8_at (w : World) (k : Nat) (h : k < 8) : (w.alloc Tab8).cell? ⟨w.heap.size, k, none⟩ = some (.string (ownTab.getD k ⟨#[]⟩)) := by
  rw [World.cell?_alloc_new]
  rcases (by omega : k = 0 ∨ k = 1 ∨ k = 2 ∨ k = 3 ∨ k = 4 ∨ k = 5 ∨ k = 6 ∨ k = 7) with rfl | rfl | rfl | rfl | rfl | rfl | rfl | rfl <;> rfl
set_option maxRecDepth 20000 in
set_option maxHeartbeats 1000000 in
theorem own_any (c : Nat) (v : Value) (l : List UInt8) (w : World) (hc255 : c ≤ 255) (hv : BytesAt w v l) (hl : l.length ≤ 140737488351232) :
    Calls Tryd.prog 10 #[.int .u8 (c : Int), v] w fun e w' => ∃ u, (e = .returned (st (ownN c) u) ∧ NewF w.heap.size w' u (ownF 0 l)) ∧ Below w.heap.size w w' := by
  obtain ⟨A, n, cap, hve, hn, hc⟩ : ∃ (A : Option Addr) (n cap : Nat), v = .slice A n cap ∧ n = l.length ∧ (0 < n → ∃ a, A = some a ∧ ∀ j (hj : j < l.length), w.cell? (a.add j) = some (.int .u8 (l[j].toNat : Int))) := by
    rcases hv with ⟨rfl, rfl⟩ | ⟨a, cap, rfl, h1, h2, h3⟩
    · exact ⟨none, 0, 0, rfl, rfl, fun h => absurd h (by omega)⟩
    · exact ⟨some a, _, cap, rfl, rfl, fun _ => ⟨a, rfl, h3⟩⟩
  subst hve
  obtain rfl : n = l.length := hn
  obtain ⟨q, hq⟩ : ∃ q : Nat, q = c % 8 := ⟨_, rfl⟩
  have hq8 : q < 8 := by omega
  have htm : (c : Int) % 8 = (q : Int) := by omega
  have hnm : ownN c = ownTab.getD q ⟨#[]⟩ := by unfold ownN; rw [hq]
  have hcell := tab8_at (w.alloc (.cells #[.string ⟨#[]⟩, .slice none 0 0] 28)) q hq8
  rw [World.size_alloc, ← hnm] at hcell
  generalize ownN c = N at *
  have H := Lib.hid hc; clear hv hc hnm hq
  go_enter Tryd.func10, Tryd.ntmps10
  go_wp2
  clear hcell htm
  have hz1 : (w.alloc (.cells #[.string ⟨#[]⟩, .slice none 0 0] 28)).heap.size = w.heap.size + 1 := by simp
  have hz2 : ((w.alloc (.cells #[.string ⟨#[]⟩, .slice none 0 0] 28)).alloc Tab8).heap.size = w.heap.size + 2 := by simp
  have hz3 : (((w.alloc (.cells #[.string ⟨#[]⟩, .slice none 0 0] 28)).alloc Tab8).alloc (.cells #[.string N, .slice none 0 0] 28)).heap.size = w.heap.size + 3 := by simp
  have hB0 := ((Blk.new w 28 #[.string ⟨#[]⟩, .slice none 0 0]).alloc Tab8).alloc (.cells #[.string N, .slice none 0 0] 28)
  have hB1 := Blk.new ((w.alloc (.cells #[.string ⟨#[]⟩, .slice none 0 0] 28)).alloc Tab8) 28 #[.string N, .slice none 0 0]
  rw [hz2] at hB1
  have hW := bt (bt (ba w (.cells #[.string ⟨#[]⟩, .slice none 0 0] 28)) (ba _ Tab8)) (ba _ (.cells #[.string N, .slice none 0 0] 28))
  have HG := Lib.hid (And.intro hB0 (And.intro hB1 (And.intro hW (Nat.le_of_eq hz3.symm)))); clear hB0 hB1 hW hz1 hz2 hz3
  go_loopw [6] (fun iv wr => ∃ (k : Nat) (v : Value), k ≤ l.length ∧ k ≤ 6 ∧ iv = .int .i64 (k : Int) ∧ NewF (w.heap.size + 3) wr v ((ownF 0 l).take k) ∧
      Blk wr w.heap.size 28 #[.string ⟨#[]⟩, .slice none 0 0] ∧ Blk wr (w.heap.size + 2) 28 #[.string N, v] ∧ Below w.heap.size w wr ∧ w.heap.size + 3 ≤ wr.heap.size)
    (fun iv _ => 6 - (intOf iv).toNat)
  case atStart => exact ⟨0, .slice none 0 0, Nat.zero_le _, Nat.zero_le _, rfl, NewF.nil _ _, HG.out⟩
  case round =>
    clear HG
    obtain ⟨k, v, hk, hk6, rfl, hown, hB0, hB1, hW, hz⟩ := hrel
    have K := Lib.hid (And.intro hB0 (And.intro hB1 (And.intro hown hW))); clear hB0 hB1 hown hW
    by_cases hlt : k < l.length ∧ k < 6
    · obtain ⟨hlt, hlt6⟩ := hlt
      obtain ⟨a, rfl, hc⟩ := H.out (by omega)
      have hb := hc k hlt
      rw [← K.out.2.2.2.cell (World.block_lt_of_cell? w _ hb)] at hb
      have htk := ownF_take l k hlt hlt6
      have htl := ownF_tlen l k (by omega) hk6
      have hx : ownX k (l[k]'hlt) = (fldTab.getD k ⟨#[]⟩, 1 + (((l[k]'hlt).toNat % 3 : Nat) : Int)) := rfl
      rw [hx] at htk
      have htab := tab6_at wr k hlt6
      have hx2 := (l[k]'hlt).toNat_lt
      generalize fldTab.getD k ⟨#[]⟩ = fk at *
      generalize (l[k]'hlt).toNat = c3 at *
      obtain ⟨q3, hq3⟩ : ∃ q3 : Nat, q3 = c3 % 3 := ⟨_, rfl⟩
      have htm3 : (c3 : Int) % 3 = (q3 : Int) := by omega
      rw [← hq3] at htk
      have hq3b : q3 < 3 := by omega
      clear hc hx hq3
      obtain ⟨A7, n7, c7, rfl⟩ := own_shape K.out.2.2.1
      have z0 : wr.cell? ⟨w.heap.size + 2, 1, none⟩ = some (.slice A7 n7 c7) := K.out.2.1.cell 1
      have zl := K.out.2.1.lt
      have b6 := ba wr Tab6
      have zT : (wr.alloc Tab6).cell? ⟨w.heap.size + 2, 1, none⟩ = some (.slice A7 n7 c7) := by rw [b6.cell (World.block_lt_of_cell? wr _ z0)]; exact z0
      have hbT : (wr.alloc Tab6).cell? (a.add k) = some (.int .u8 (c3 : Int)) := by rw [b6.cell (World.block_lt_of_cell? wr _ hb)]; exact hb
      have bX := bt b6 (ba (wr.alloc Tab6) (.cells #[.string fk, .int .i64 (1 + (q3 : Int))] 60))
      have zX : ((wr.alloc Tab6).alloc (.cells #[.string fk, .int .i64 (1 + (q3 : Int))] 60)).cell? ⟨w.heap.size + 2, 1, none⟩ = some (.slice A7 n7 c7) := by rw [bX.cell (World.block_lt_of_cell? wr _ z0)]; exact z0
      have hn2 := two_new (wr.alloc Tab6) (.string fk) (.int .i64 (1 + (q3 : Int))) 60
      rw [World.size_alloc] at hn2
      have HD := Lib.hid (And.intro (show ((wr.alloc Tab6).alloc (.cells #[.string fk, .int .i64 (1 + (q3 : Int))] 60)).drew.ownsRow _ _ _ _ _ _ from K.out.2.2.1.later (below_drew bX)) (And.intro (show ∀ j u, _ → ((wr.alloc Tab6).alloc (.cells #[.string fk, .int .i64 (1 + (q3 : Int))] 60)).drew.cell? _ = some u from hn2) (And.intro (show ((ownF 0 l).take k).length + 1 ≤ maxLen by rw [htl]; unfold maxLen; omega) (And.intro (show (((ownF 0 l).take k).length + 1) * 24 ≤ 140737488355328 by rw [htl]; omega) (And.intro (show w.heap.size + 3 ≤ ((wr.alloc Tab6).alloc (.cells #[.string fk, .int .i64 (1 + (q3 : Int))] 60)).drew.heap.size by show _ ≤ ((wr.alloc Tab6).alloc (.cells #[.string fk, .int .i64 (1 + (q3 : Int))] 60)).heap.size; simp; omega) (And.intro (show Blk ((wr.alloc Tab6).alloc (.cells #[.string fk, .int .i64 (1 + (q3 : Int))] 60)).drew _ _ _ from K.out.1.later (below_drew bX)) (And.intro (show Blk ((wr.alloc Tab6).alloc (.cells #[.string fk, .int .i64 (1 + (q3 : Int))] 60)).drew _ _ _ from K.out.2.1.later (below_drew bX)) (below_drew (bt K.out.2.2.2 bX)))))))))
      have HT := Lib.hid htk
      clear bX b6 htk htl hn2 K
      go_wp2_with fail
      have htm4 : (c3 : Int).tmod 3 = (q3 : Int) := by rw [Int.tmod_eq_emod_of_nonneg (by omega)]; exact htm3
      have hw1 : IntKind.i64.wrap (q3 : Int) = (q3 : Int) := IntWalk.i64_in _ (by omega)
      have hw2 : IntKind.i64.wrap (1 + (q3 : Int)) = 1 + (q3 : Int) := IntWalk.i64_in _ (by omega)
      obtain ⟨i0, hi, hz0, hz1, hz2⟩ := info_parts field_info
      go_region_law (first
        | (refine step_append_own rfl (.tmp 24) (.tmp 37) 26 rfl (w.heap.size + 3) 60 i0 (.agg #[.string ⟨#[]⟩, .int .i64 0]) 2 24 Tryd.underlying26 hi hz0 hz1 hz2 rfl (by decide) _ _ _ (by simp [Act.eval, Act.put]) HD.out.1 ⟨_, 0, none⟩ 1 1 [.string fk, .int .i64 (1 + (q3 : Int))] (by simp [Act.eval, Act.put]) rfl HD.out.2.1 (two_one fk (1 + (q3 : Int))) HD.out.2.2.1 HD.out.2.2.2.1 HD.out.2.2.2.2.1 ?_; intro v7 w7 ho7 hg7 _; obtain ⟨A8, n8, c8, rfl⟩ := own_shape ho7; have C2 := HD.out.2.2.2.2.2.2.1.grown hg7 (own_ne HD.out.1 (by omega)); have q0 := C2.cell 1; have q1 := C2.frozen; have q2 := C2.lt; have HE := Lib.hid (And.intro ho7 (And.intro (HD.out.2.2.2.2.2.1.grown hg7 (own_ne HD.out.1 (by omega))) (And.intro C2 (And.intro (HD.out.2.2.2.2.2.2.2.grown hg7 (by have := HD.out.2.2.2.2.1; omega) (fun k hk => by have := (HD.out.1.lt k hk).1; omega)) (show w.heap.size + 3 ≤ w7.heap.size from Nat.le_trans HD.out.2.2.2.2.1 hg7.size))))); clear C2 ho7 hg7))
      all_goals
        go_wp2
        go_roundw
        case rel =>
          refine ⟨k + 1, .slice A8 n8 c8, by omega, by omega, by go_num, ?_, HE.out.2.1.far (by simp <;> omega) _, ?_, (HE.out.2.2.2.1).setCell (by simp <;> omega) _, by rw [World.size_setCell]; exact HE.out.2.2.2.2⟩
          · rw [HT.out]
            unfold NewF
            rw [cells2_snoc, List.length_append]
            exact ownsRow_far HE.out.1 (by simp <;> omega) _
          · have := HE.out.2.2.1.set_ 1 (.slice A8 n8 c8)
            simpa using this
        case measure => simp [intOf]; omega
    · have hE : (ownF 0 l).take k = ownF 0 l := List.take_of_length_le (by rw [ownF_length l 0 (by omega)]; omega)
      have z0 := K.out.1.cell 0
      have z1 := K.out.1.cell 1
      have z2 := K.out.1.frozen
      have z3 := K.out.2.1.cell 0
      have z4 := K.out.2.1.cell 1
      have z5 := K.out.1.lt
      have B2 := K.out.1.put2 (.string N) v
      have hv := (NewF.put2 K.out.2.2.1 (g := w.heap.size) (by omega) (.string N) v).weak (base' := w.heap.size) (by omega)
      rw [hE] at hv
      have hW := below_put2 K.out.2.2.2 (g := w.heap.size) (Nat.le_refl _) (.string N) v
      obtain ⟨A7, n7, c7, rfl⟩ := own_shape K.out.2.2.1
      have HR := Lib.hid (And.intro B2.two (And.intro hW hv))
      clear B2 hW hv hE
      by_cases hkl : k < l.length
      · have hk6' : k = 6 := by omega
        subst hk6'
        go_wp2
        exact bodyPost_ret (v := st N (.slice A7 n7 c7)) (by simp [results, Tryd.results10, go_sem, HR.out.1.1, HR.out.1.2]) rfl ⟨_, ⟨rfl, HR.out.2.2⟩, HR.out.2.1⟩
      · go_wp2
        exact bodyPost_ret (v := st N (.slice A7 n7 c7)) (by simp [results, Tryd.results10, go_sem, HR.out.1.1, HR.out.1.2]) rfl ⟨_, ⟨rfl, HR.out.2.2⟩, HR.out.2.1⟩
end Go.Proofs.YtdpgdpfalfiijaaDoor
