/- Words of texts: the reference's small parts. -/
import Derived.Test.YtoaallhibgbokaaDoorLexZ
import Derived.Test.YtoaallhibgbokaaDoorLexE
namespace Go.Proofs.YtoaallhibgbokaaDoor
open Go.ChangeShapes Go.WideShapes Go.ChangeAt Go.RowKit
set_option linter.unusedVariables false
set_option linter.unusedSimpArgs false

theorem Rspace_any (c : UInt8) (w : World) :
    Calls Tryd.prog 20 #[.int .u8 (c.toNat : Int)] w fun e w' => e = .returned (.bool (isSp c)) ∧ w = w' := by
  have hc := c.toNat_lt
  rw [isSp_nat]
  generalize c.toNat = n at *
  go_enter Tryd.func20, Tryd.ntmps20
  go_wp2
  all_goals
    go_ret
    refine ⟨retB ?_, rfl⟩
    rw [Bool.eq_iff_iff]
    simp
    omega
theorem Rletter_any (c : UInt8) (w : World) :
    Calls Tryd.prog 29 #[.int .u8 (c.toNat : Int)] w fun e w' => e = .returned (.bool (isLt c)) ∧ w = w' := by
  have hc := c.toNat_lt
  unfold isLt
  generalize c.toNat = n at *
  go_enter Tryd.func29, Tryd.ntmps29
  go_wp2
  all_goals
    go_ret
    refine ⟨retB ?_, rfl⟩
    unfold letB
    rw [Bool.eq_iff_iff]
    simp
    omega
theorem Rdigit_any (c : UInt8) (w : World) :
    Calls Tryd.prog 31 #[.int .u8 (c.toNat : Int)] w fun e w' => e = .returned (.bool (isDg c)) ∧ w = w' := by
  have hc := c.toNat_lt
  unfold isDg
  generalize c.toNat = n at *
  go_enter Tryd.func31, Tryd.ntmps31
  go_wp2
  all_goals
    go_ret
    refine ⟨retB ?_, rfl⟩
    unfold digB
    rw [Bool.eq_iff_iff]
    simp
    omega
def keyL : List Bs := [[83, 84, 82, 73, 67, 84], [87, 73, 84, 72, 73, 78], [66, 89], [69, 77, 73, 84], [116, 114, 117, 101], [102, 97, 108, 115, 101]]
def rowSs (l : List Bs) : Array Value := (l.map fun x => Value.string (mk x)).toArray
theorem Keys_any (w : World) : Calls Tryd.prog 54 #[] w fun e w' => e = .returned (.slice (some ⟨w.heap.size, 0, none⟩) 6 6) ∧ w' = w.alloc (.cells (rowSs keyL) 9) := by
  go_enter Tryd.func54, Tryd.ntmps54
  go_wp2
  go_ret
  exact ⟨rfl, rfl⟩
theorem RSigns_any (w : World) : Calls Tryd.prog 14 #[] w fun e w' => e = .returned (.slice (some ⟨w.heap.size, 0, none⟩) 25 25) ∧ w' = w.alloc (.cells (rowSs signL) 9) := by
  go_enter Tryd.func14, Tryd.ntmps14
  go_wp2
  go_ret
  exact ⟨rfl, rfl⟩
theorem rowSs_get (l : List Bs) (j : Nat) (hj : j < l.length) : (rowSs l)[j]? = some (.string (mk (l[j]'hj))) := by
  unfold rowSs
  simp [hj]
theorem str_or (a b : ByteArray) : (a = b ∧ a.toList = b.toList ∧ (a.toList == b.toList) = true) ∨ (¬ a = b ∧ ¬ a.toList = b.toList ∧ (a.toList == b.toList) = false) := by
  by_cases h : a = b
  · subst h; exact Or.inl ⟨rfl, rfl, by simp⟩
  · have h2 : ¬ a.toList = b.toList := fun e => h (toList_inj e)
    exact Or.inr ⟨h, h2, by simpa using h2⟩
theorem mk_inj {a b : Bs} (h : mk a = mk b) : a = b := by
  rw [← mk_data a, h, mk_data]
theorem key_mem (t : Bs) : keyT t = true ↔ t ∈ keyL := by
  unfold keyT keyL
  simp [or_assoc]
set_option maxHeartbeats 1000000 in
theorem key_any (t : Bs) (w : World) : Calls Tryd.prog 44 #[.string (mk t)] w fun e w' => e = .returned (.bool (keyT t)) ∧ Below w.heap.size w w' := by
  have cK := Keys_any w
  have hbw := ba w (.cells (rowSs keyL) 9)
  have hB := Blk.new w 9 (rowSs keyL)
  obtain ⟨b, hb⟩ : ∃ b, mk t = b := ⟨_, rfl⟩
  obtain ⟨W, hW⟩ : ∃ W, w.alloc (.cells (rowSs keyL) 9) = W := ⟨_, rfl⟩
  rw [hW] at cK hbw hB
  clear hW
  have H := Lib.hid (And.intro cK hbw); clear cK hbw
  have HB := Lib.hid (And.intro hB hb)
  rw [hb]
  clear hb hB
  go_enter Tryd.func44, Tryd.ntmps44
  go_wp2_with (go_at_call 54; ((with_reducible refine H.out.1.mono ?_); rintro e w1 ⟨rfl, rfl⟩))
  go_loop [4] (fun i => ∃ k : Nat, k ≤ 6 ∧ i = .int .i64 k ∧ ∀ x ∈ keyL.take k, x ≠ t) (fun i => 6 - (intOf i).toNat)
  case atStart => exact ⟨0, Nat.zero_le _, rfl, fun x h => by cases h⟩
  case round =>
    obtain ⟨k, hk, rfl, hno⟩ := hrel
    have N := Lib.hid hno; clear hno
    by_cases hlt : k < 6
    · have hkl : k < keyL.length := hlt
      have hg := (HB.out.1.cell k).trans (rowSs_get keyL k hkl)
      have htk := List.take_succ_eq_append_getElem hkl
      have hmem := List.getElem_mem hkl
      generalize keyL[k]'hkl = x at *
      rcases str_or (mk x) b with ⟨h1, h2, h3⟩ | ⟨h1, h2, h3⟩
      · have hxt : x = t := mk_inj (h1.trans HB.out.2.symm)
        have hT : keyT t = true := (key_mem t).2 (hxt ▸ hmem)
        have E := Lib.hid hT
        obtain ⟨xb, hxb⟩ : ∃ xb, mk x = xb := ⟨_, rfl⟩
        rw [hxb] at hg h1 h2 h3
        subst h1
        clear hxb hT hxt htk hmem
        go_wp2
        go_ret
        exact ⟨by rw [E.out]; rfl, H.out.2⟩
      · obtain ⟨xb, hxb⟩ : ∃ xb, mk x = xb := ⟨_, rfl⟩
        rw [hxb] at hg h1 h2 h3
        have E := Lib.hid (And.intro hxb (And.intro h1 htk)); clear hxb h1 htk hmem
        go_wp2
        go_round
        case rel =>
          refine ⟨k + 1, by omega, by go_num, fun y hy => ?_⟩
          rw [E.out.2.2] at hy
          rcases List.mem_append.1 hy with hy | hy
          · exact N.out y hy
          · rw [List.mem_singleton.1 hy]
            rintro rfl
            exact E.out.2.1 (E.out.1.symm.trans HB.out.2)
        case measure => simp [intOf]; omega
    · obtain rfl : k = 6 := by omega
      have hT : keyT t = false := by
        rw [Bool.eq_false_iff]
        intro h
        exact N.out t ((key_mem t).1 h) rfl
      have E := Lib.hid hT
      clear hT
      go_wp2
      go_ret
      exact ⟨by rw [E.out]; rfl, H.out.2⟩
end Go.Proofs.YtoaallhibgbokaaDoor
