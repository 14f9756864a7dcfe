/- Turns by deficits: price. -/
import Derived.Test.YtckpecddglfjkaaDrC
namespace Go.Proofs.Ytckpecddglfjkaa
open Go.ChangeShapes Go.WideShapes Go.ChangeAt Go.RowKit Go.Maps
open Dr
set_option linter.unusedVariables false
set_option linter.unusedSimpArgs false

abbrev rowC (c : Int × Int) : List Value := [.int .i64 c.1, .int .i64 c.2]
/-- Costs of the types' numbers. -/
def OkC (cs : List (Int × Int)) : Prop := (∀ c ∈ cs, wfI c.1 ∧ wfI c.2) ∧ cs.length < maxLen
theorem priced_snoc (cs : List (Int × Int)) (l : List Fl) (k : Nat) (hk : k < l.length) :
    (priced cs (l.take k) ++ l.drop k).set k ((l[k]'hk).1, (l[k]'hk).2.1, (l[k]'hk).2.2.1, costOf cs (l[k]'hk).1) = priced cs (l.take (k + 1)) ++ l.drop (k + 1) := by
  have e : (priced cs (l.take k)).length = k := by unfold priced; rw [List.length_map, List.length_take]; omega
  rw [List.set_append_right _ _ (by omega), e, Nat.sub_self, List.drop_eq_getElem_cons hk, List.set_cons_zero, List.take_succ_eq_append_getElem hk]
  unfold priced
  rw [List.map_append, List.append_assoc]; rfl
theorem priced_at (cs : List (Int × Int)) (l : List Fl) (k : Nat) (hk : k < l.length) : ∃ h : k < (priced cs (l.take k) ++ l.drop k).length, (priced cs (l.take k) ++ l.drop k)[k]'h = l[k]'hk := by
  have e : (priced cs (l.take k)).length = k := by unfold priced; rw [List.length_map, List.length_take]; omega
  refine ⟨by rw [List.length_append, e, List.length_drop]; omega, ?_⟩
  rw [List.getElem_append_right (by omega)]
  simp [e]
theorem ready_snoc (cs : List (Int × Int)) (l : List Fl) (k : Nat) (hk : k < l.length) : ready (priced cs (l.take (k + 1))) = (ready (priced cs (l.take k)) || decide (0 < costOf cs (l[k]'hk).1)) := by
  rw [List.take_succ_eq_append_getElem hk]
  unfold priced ready
  rw [List.map_append, List.any_append]; simp
theorem below_some {B g : Nat} {a w w' : World} (h : Below B a w) (hg : w.grownBy w' (some g)) (hB : B ≤ w.heap.size) (hr : B ≤ g) : Below B a w' :=
  h.grown hg hB (fun k hk => by obtain rfl : g = k := by simpa using hk
                                exact hr)
def PriceP (B d : Nat) (v : Value) (l : List Fl) (c : Nat) (fr : Bool) (cs : List (Int × Int)) (w : World) (e : Ending) (w' : World) : Prop :=
  e = .returned (.bool (ready (priced cs l))) ∧ DrAt w' B d v (priced cs l) c fr ∧ Chg B w w'
set_option maxHeartbeats 1000000 in
theorem price_any (B d : Nat) (v : Value) (l : List Fl) (c : Nat) (fr : Bool) (lv : Value) (cs : List (Int × Int)) (w : World) (h : DrAt w B d v l c fr) (hl : At w 2 rowC lv cs) (hok : OkC cs) (hid : ∀ f ∈ l, wfI f.1) :
    Calls Try.prog 27 #[.pointer (some ⟨d, 0, none⟩), lv] w (PriceP B d v l c fr cs w) := by
  obtain ⟨A, cap, rfl, a1, a2, _⟩ := hl.shape
  obtain ⟨dv, _, _, dl, _⟩ := h.cells
  obtain ⟨a, n, rfl, _, n1, n2⟩ := h.row.shape
  have hm : cs.length ≤ 9223372036854775807 := by unfold maxLen at a2; omega
  have hml : l.length ≤ 9223372036854775807 := by unfold maxLen at n2; omega
  have hB := h.low'
  have H := Lib.hid (And.intro h (And.intro hl (And.intro hok hid))); clear h hl hok hid dv
  have hmm := @run_makeMap Try.prog
  go_enter Try.func27, Try.ntmps27
  go_wp2
  go_loopw [15] (fun iv wr => ∃ k : Nat, k ≤ cs.length ∧ iv = .int .i64 k ∧ CostAt wr w.heap.size k (cs.take k) ∧ Below w.heap.size w wr) (fun i _ => cs.length - (intOf i).toNat)
  case atStart => exact ⟨0, Nat.zero_le _, rfl, CostAt.made w, ba _ _⟩
  case round =>
    obtain ⟨k, hk, rfl, hC, hb⟩ := hrel
    by_cases hlt : k < cs.length
    · obtain ⟨a, rfl, hc⟩ := H.out.2.1.cells rfl (by omega)
      obtain ⟨c0, c1⟩ := (hc.later hb).row2 k hlt rfl
      have hwf := H.out.2.2.1.1 _ (List.getElem_mem hlt)
      have hT : cs.take (k + 1) = cs.take k ++ [cs[k]'hlt] := List.take_succ_eq_append_getElem hlt
      have hkm : k < maxLen := Nat.lt_of_lt_of_le hlt (Nat.le_of_lt H.out.2.2.1.2)
      generalize cs[k]'hlt = x at *
      obtain ⟨id, nn⟩ := x
      simp only at c0 c1 hwf
      have bA := ba wr (.cells #[.int .i64 id, .int .i64 nn] 55)
      have r1 := (hC.later bA).ok (id := id) hwf.1
      have hnb := (hC.later bA).lt
      rcases hh : (cs.take k).any (fun x => x.1 == id) with _ | _
      · rw [hh] at r1
        have K := Lib.hid (And.intro hC (And.intro hb (And.intro bA (And.intro hT (And.intro hh (And.intro hkm hwf)))))); clear hC hb bA hT hh hkm hc
        go_wp2_with (at_mapUpdate; refine wpList_mapUpdate_cost _ rfl _ _ _ rfl w.heap.size k (cs.take k) rfl (K.out.1.later K.out.2.2.1) K.out.2.2.2.2.2.1 id nn rfl (by simp [Act.eval, Act.put]; repeat' split; all_goals omega) K.out.2.2.2.2.2.2.1 K.out.2.2.2.2.1 ?_; intro w1 hC1 hg1; have Z := Lib.hid (And.intro hC1 hg1); clear hC1 hg1)
        go_roundw
        case rel => exact ⟨k + 1, by omega, by go_num, by rw [K.out.2.2.2.1]; exact Z.out.1, below_some (bt K.out.2.1 K.out.2.2.1) Z.out.2 (by have := K.out.2.1.size; simp only [World.size_alloc]; omega) (Nat.le_refl _)⟩
        case measure => simp [intOf]; omega
      · rw [hh] at r1
        have K := Lib.hid (And.intro hC (And.intro hb (And.intro bA (And.intro hT (And.intro hh (And.intro hkm hwf)))))); clear hC hb bA hT hh hkm hc
        go_wp2
        go_roundw
        case rel => exact ⟨k + 1, by omega, by go_num, by rw [K.out.2.2.2.1]; exact ((cost_again _ (id, nn) K.out.2.2.2.2.1 _ _ _ K.out.1).more).later K.out.2.2.1, bt K.out.2.1 K.out.2.2.1⟩
        case measure => simp [intOf]; omega
    · obtain rfl : k = cs.length := by omega
      rw [List.take_length] at hC
      have K := Lib.hid (And.intro hC hb); clear hC hb
      have hDr := H.out.1.later K.out.2
      obtain ⟨dv, _, _, dl', df⟩ := hDr.cells
      clear hDr
      go_wp2
      clear dv df dl'
      go_loopw [10, 41] (fun rv iv w2 => ∃ k : Nat, k ≤ l.length ∧ iv = .int .i64 k ∧ rv = .bool (ready (priced cs (l.take k))) ∧ DrAt w2 B d (.slice a l.length n) (priced cs (l.take k) ++ l.drop k) c fr ∧ CostAt w2 w.heap.size cs.length cs ∧ Chg B w w2) (fun _ i _ => l.length - (intOf i).toNat)
      case atStart => exact ⟨0, Nat.zero_le _, rfl, rfl, H.out.1.later K.out.2, K.out.1, Chg.later hB K.out.2⟩
      case round =>
        clear K
        obtain ⟨k, hk, rfl, rfl, hD, hC, hX⟩ := hrel
        by_cases hlt : k < l.length
        · obtain ⟨hk', hkx⟩ := priced_at cs l k hlt
          have hwf := H.out.2.2.2 _ (List.getElem_mem hlt)
          have hR := ready_snoc cs l k hlt
          have hS := priced_snoc cs l k hlt
          have hcp := cost_pos cs (l[k]'hlt).1
          have hln : (priced cs (l.take k) ++ l.drop k).length = l.length := by unfold priced; rw [List.length_append, List.length_map, List.length_take, List.length_drop]; omega
          obtain ⟨g, rfl, _, _, _, _⟩ := hD.row.cells (f := rowF) (k := 4) (fun _ => rfl) rfl (by omega)
          obtain ⟨x0, x1, x2, x3, xf, xl⟩ := hD.fl k hk' rfl
          obtain ⟨d0, d1, d2, dl, df⟩ := hD.cells
          have hne := hD.apart (g := g) rfl
          have p0 := fun u x (hx : rowF x = (rowF (l[k]'hlt)).set 3 u) => hD.put k hk' (i := 3) (by decide) (x := x) (u := u) (by rw [hkx]; exact hx) (o := k * 4 + 3) rfl
          rw [hkx] at x0 x1 x2 x3
          have r1 := hC.look hwf
          have r2 := CostAt.look (w := wr.drew) (b := w.heap.size) (n := cs.length) (cs := cs) hC hwf
          generalize hy : l[k]'hlt = y at *
          obtain ⟨i, q, t, c0⟩ := y
          simp only at x0 x1 x2 x3 hwf hR hS hcp r1 r2
          have K := Lib.hid (And.intro hD (And.intro hC (And.intro hX (And.intro hS (And.intro p0 hR))))); clear hD hC hX hS p0 hR hkx hk' hln hy
          generalize hco : costOf cs i = co at *
          obtain ⟨rb, hrb⟩ : ∃ rb, rb = ready (priced cs (l.take k)) := ⟨_, rfl⟩
          rw [← hrb]
          have K2 := Lib.hid (And.intro hrb hco); clear hrb hco
          have hgt : decide (co > 0) = decide (0 < co) := rfl
          cases rb <;> by_cases hpos : 0 < co
          all_goals
            go_wp2_with fail
            go_region_law (fail)
            all_goals go_wp2
            all_goals
              go_roundw
              case rel =>
                obtain ⟨a, b⟩ := K.out.2.2.2.2.1 (.int .i64 co) (i, q, t, co) rfl
                have hS := K.out.2.2.2.1
                exact ⟨k + 1, by omega, by go_num, by rw [K.out.2.2.2.2.2, ← K2.out.1]; simp [hpos], by rw [← hS]; exact a.heap rfl, (K.out.2.1.frm b.frm).same rfl, (K.out.2.2.1.trans b).heap rfl rfl rfl rfl⟩
              case measure => simp [intOf]; omega
        · obtain rfl : k = l.length := by omega
          rw [List.take_length, List.drop_length, List.append_nil] at hD
          rw [List.take_length]
          have K := Lib.hid (And.intro hD hX); clear hD hX hC
          go_wp2
          go_ret
          exact ⟨rfl, K.out⟩
end Go.Proofs.Ytckpecddglfjkaa
