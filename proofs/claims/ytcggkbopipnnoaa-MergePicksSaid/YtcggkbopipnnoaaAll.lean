/- Contracts of package merge: All. -/
import Derived.Test.YtcggkbopipnnoaaHalf
namespace Go.Proofs.Ytcggkbopipnnoaa
open Go.ChangeShapes Go.WideShapes Go.ChangeAt Go.RowKit
set_option linter.unusedVariables false
set_option linter.unusedSimpArgs false

/-- Slices, each of which reads as a list. -/
def Ats {α : Type} (w : World) (k : Nat) (f : α → List Value) (vs : List SV) (ll : List (List α)) : Prop :=
  vs.length = ll.length ∧ ∀ j (hj : j < vs.length) (hj' : j < ll.length), At w k f (sl (vs[j]'hj)) (ll[j]'hj')
theorem Ats.later {α : Type} {w w' : World} {k : Nat} {f : α → List Value} {vs : List SV} {ll : List (List α)} (h : Ats w k f vs ll) (hb : Below w.heap.size w w') : Ats w' k f vs ll := ⟨h.1, fun j hj hj' => (h.2 j hj hj').later hb⟩
theorem Each.ats {α : Type} {w : World} {e : TypeId} {k : Nat} {f : α → List Value} (hf : ∀ x, (f x).length = k) {vs : List SV} {ll : List (List α)} (h : Each w e k f vs ll) : Ats w k f vs ll := ⟨h.1, fun j hj hj' => (h.2 j hj hj').at_ hf⟩
theorem tag_take {E : Type} (i : Int) (l : List E) (k : Nat) (h : k < l.length) : (Mrg.tag i l).take (k + 1) = (Mrg.tag i l).take k ++ [(i, l[k]'h)] := by
  unfold Mrg.tag
  rw [List.take_succ_eq_append_getElem (by simpa using h)]
  simp
theorem tag_len {E : Type} (i : Int) (l : List E) : (Mrg.tag i l).length = l.length := by unfold Mrg.tag; simp
theorem tags_flat {E : Type} : ∀ (n : Nat) (l : List (List E)), (Mrg.tags n l).flatten.length = l.flatten.length
  | _, [] => rfl
  | n, a :: r => by simp only [Mrg.tags, List.flatten_cons, List.length_append, tag_len, tags_flat (n + 1) r]
theorem flat_halved {E : Type} (tm : E → Int) (l : List (List (Int × E))) : (Mrg.halved tm l).flatten.length = l.flatten.length := by
  fun_induction Mrg.halved tm l with
  | case1 => rfl
  | case2 a => rfl
  | case3 a b r ih => simp only [List.flatten_cons, List.length_append, Mrg.both_len, ih]; omega
theorem whole_step {E : Type} (tm : E → Int) : ∀ (l : List (List (Int × E))), 1 < l.length → Mrg.whole tm (Mrg.halved tm l) = Mrg.whole tm l
  | a :: b :: r, _ => by conv => rhs; unfold Mrg.whole
  | [], h => absurd h (by simp)
  | [a], h => absurd h (by simp)
def AllPost (w : World) (ins : List (List Ev2)) (e : Ending) (w' : World) : Prop := ∃ v, (e = .returned v ∧ Own w' 0 52 3 rowP v (Mrg.all tmE ins)) ∧ Below w.heap.size w w'
set_option maxRecDepth 20000 in
set_option maxHeartbeats 2000000 in
theorem All_any (v : Value) (vs : List SV) (ins : List (List Ev2)) (w : World) (hv : At w 1 slc v vs) (hE : Ats w 2 rowE vs ins) (hn : ins.flatten.length ≤ 2199023255552) (hn2 : ins.length ≤ 2199023255552) :
    Calls Try.prog 16 #[v] w (AllPost w ins) := by
  obtain ⟨A, c, rfl, a1, a2, a3⟩ := hv.shape
  obtain ⟨i0, hi, hz0, hz1, hz2⟩ := info_parts (P := Try.prog) (e := 47) (z := .slice none 0 0) (size := 1) (bytes := 24) (by kernel_rfl)
  obtain ⟨j0, hj, hy0, hy1, hy2⟩ := info_parts (P := Try.prog) (e := 52) (z := .agg #[.int .i64 0, .int .i64 0, .slice none 0 0]) (size := 3) (bytes := 40) (by kernel_rfl)
  have hvl := hE.1
  have hm : vs.length ≤ 2199023255552 := by omega
  have H := Lib.hid (And.intro hv (And.intro hE (And.intro hvl hn))); clear hv hE hvl hn a3
  go_enter Try.func16, Try.ntmps16
  go_wp2
  go_loopw [3, 11] (fun lv iv wr => ∃ (k : Nat) (us : List SV), k ≤ vs.length ∧ iv = .int .i64 k ∧ us.length = k ∧ Own wr w.heap.size 47 1 slc lv us ∧ Each wr 52 3 rowP us ((Mrg.tags 0 ins).take k) ∧ Below w.heap.size w wr) (fun _ i _ => vs.length - (intOf i).toNat)
  case atStart => exact ⟨0, [], Nat.zero_le _, rfl, rfl, Own.nil _ _ _ _ _, Each.nil _ _ _ _, Below.refl _ _⟩
  case round =>
    rename World => wr0
    obtain ⟨k, us, hk, rfl, hul, hO, hE, hb⟩ := hrel
    obtain ⟨B, d, rfl, b1, b2, b3⟩ := hO.shape
    by_cases hlt : k < vs.length
    · obtain ⟨a, rfl, hc⟩ := H.out.1.cells rfl (by omega)
      have hll := H.out.2.2.1
      have hk' : k < ins.length := by omega
      have c0 := (hc.later hb).row1 k hlt rfl
      rw [Nat.mul_one] at c0
      have A0 := (H.out.2.1).2 k hlt hk'
      have hL : (ins[k]'hk').length ≤ 2199023255552 := Nat.le_trans (flat_mem_len (List.getElem_mem hk')) H.out.2.2.2
      have hT : (Mrg.tags 0 ins).take (k + 1) = (Mrg.tags 0 ins).take k ++ [Mrg.tag (k : Int) (ins[k]'hk')] := by
        rw [List.take_succ_eq_append_getElem (by rw [Mrg.tags_len]; exact hk'), Mrg.tags_get 0 ins k _ hk', Nat.zero_add]
      have hbl : us.length + 1 ≤ maxLen ∧ (us.length + 1) * 24 ≤ 140737488355328 := by unfold maxLen; omega
      generalize ins[k]'hk' = L at *
      generalize vs[k]'hlt = s at *
      obtain ⟨C, n, f⟩ := s
      obtain ⟨_, f', he, x1, x2, x3⟩ := A0.shape
      obtain ⟨rfl, rfl, rfl⟩ : C = _ ∧ n = L.length ∧ f = f' := by simpa [sl] using he
      replace c0 : wr0.cell? (a.add k) = some (.slice C L.length f) := c0
      replace A0 : At w 2 rowE (.slice C L.length f) L := A0
      have K := Lib.hid (And.intro hO (And.intro hE (And.intro hb (And.intro A0 (And.intro hT (And.intro hbl hul))))))
      clear hO hE hb A0 hT hbl hul hc b1 b2 b3 he hll x3
      go_wp2_with (refine wpList_make_own _ rfl _ _ 47 rfl wr0.heap.size 52 j0 (.agg #[.int .i64 0, .int .i64 0, .slice none 0 0]) 3 Try.underlying47 hj hy0 hy1 .i64 .i64 _ L.length rfl rfl rfl (by rw [hy2]; omega) (by unfold maxLen; omega) (Nat.le_refl _) ?_; intro w1 hO1 hg1)
      have bm := grownBy_below hg1 (B := wr0.heap.size) (Nat.le_refl _) (fun k hk => by simp at hk)
      have hO2 : Own w1 wr0.heap.size 52 3 rowP (.slice (some ⟨wr0.heap.size, 0, none⟩) 0 L.length) ([] : List Pr) := hO1
      have K1 := Lib.hid (And.intro hO2 bm); clear hO1 hg1 hO2 bm
      go_loopw [6, 21] (fun lv iv w2 => ∃ (m : Nat), m ≤ L.length ∧ iv = .int .i64 m ∧ Own w2 wr0.heap.size 52 3 rowP lv ((Mrg.tag (k : Int) L).take m) ∧ Below wr0.heap.size wr0 w2) (fun _ i _ => L.length - (intOf i).toNat)
      case atStart => exact ⟨0, Nat.zero_le _, rfl, K1.out.1, K1.out.2⟩
      case round =>
        clear K1
        obtain ⟨m, hm2, rfl, hO, hb⟩ := hrel
        obtain ⟨D, g, rfl, b1, b2, b3⟩ := hO.shape
        by_cases hlt2 : m < L.length
        · obtain ⟨aL, rfl, hcL⟩ := K.out.2.2.2.1.cells rfl (by omega)
          obtain ⟨y0, y1⟩ := ((hcL.later K.out.2.2.1).later hb).row2 m hlt2 rfl
          have hT2 := tag_take (k : Int) L m hlt2
          have hln : ((Mrg.tag (k : Int) L).take m).length = m := by rw [List.length_take, tag_len]; omega
          rw [hln] at hO ⊢
          have hbl : m + 1 ≤ maxLen ∧ (m + 1) * 40 ≤ 140737488355328 := by unfold maxLen; omega
          generalize L[m]'hlt2 = ev at *
          obtain ⟨et, eA, en, ec⟩ := ev
          replace y0 : wr.cell? _ = some (.int .i64 et) := y0
          replace y1 : wr.cell? _ = some (.slice eA en ec) := y1
          have K2 := Lib.hid (And.intro hO (And.intro hb (And.intro hT2 (And.intro hln hbl))))
          clear hO hb hT2 hln hbl hcL b1 b2 b3
          have hOw : ((wr.alloc (.cells #[.int .i64 et, .slice eA en ec] 46)).alloc (.cells #[.int .i64 (k : Int), .int .i64 et, .slice eA en ec] 52)).ownsRow wr0.heap.size 52 3 (.slice D m g) m (((Mrg.tag (k : Int) L).take m).flatMap rowP) := by
            have := (K2.out.1.later (bt (ba wr (.cells #[.int .i64 et, .slice eA en ec] 46)) (ba _ (.cells #[.int .i64 (k : Int), .int .i64 et, .slice eA en ec] 52))))
            unfold Own at this; rw [K2.out.2.2.2.1] at this; exact this
          go_wp2_with (at_builtin; go_loud (refine wpList_append_own _ rfl (.tmp 25) (.tmp 29) 47 rfl wr0.heap.size 52 j0 (.agg #[.int .i64 0, .int .i64 0, .slice none 0 0]) 3 40 Try.underlying47 hj hy0 hy1 hy2 rfl (by decide) _ m _ rfl hOw ⟨_, 0, none⟩ 1 1 (rowP (k, et, eA, en, ec)) rfl rfl (new_cells (by simp) _ #[.int .i64 (k : Int), .int .i64 et, .slice eA en ec]) (by simp [Value.oneCell']) K2.out.2.2.2.2.1 K2.out.2.2.2.2.2 (by have := K2.out.2.1.size; simp only [World.size_alloc]; omega) ?_; intro v3 w3 hO3 hg3 _; obtain ⟨A3, n3, c3, rfl⟩ := own_shape hO3))
          go_roundw
          case rel => exact ⟨m + 1, by omega, by go_num, by rw [K2.out.2.2.1]; exact Own.more K2.out.2.2.2.1.symm hO3, own_past (bt K2.out.2.1 (bt (ba _ _) (ba _ _))) hg3 K2.out.1⟩
          case measure => simp [intOf]; omega
        · have hT2 : (Mrg.tag (k : Int) L).take m = Mrg.tag (k : Int) L := List.take_of_length_le (by rw [tag_len]; omega)
          rw [hT2] at hO ⊢
          obtain ⟨ln, hln⟩ : ∃ n, n = (Mrg.tag (k : Int) L).length := ⟨_, rfl⟩
          rw [← hln] at hO ⊢
          have K2 := Lib.hid (And.intro hO (And.intro hb hln))
          clear hO hb hT2 hln b1 b2 b3
          go_wp2_with (at_builtin; refine wpList_append_own _ rfl (.tmp 32) (.tmp 34) 73 rfl w.heap.size 47 i0 (.slice none 0 0) 1 24 Try.underlying73 hi hz0 hz1 hz2 rfl (by decide) _ us.length _ rfl (K.out.1.later (bt K2.out.2.1 (ba _ _))) ⟨_, 0, none⟩ 1 1 (slc (D, ln, g)) rfl rfl (new_cells rfl _ #[sl (D, ln, g)]) (one_oneCell _) K.out.2.2.2.2.2.1.1 K.out.2.2.2.2.2.1.2 (by have := K.out.2.2.1.size; have := K2.out.2.1.size; simp only [World.size_alloc]; omega) ?_; intro v1 w1 hO1 hg1 _; obtain ⟨A1, n1, c1, rfl⟩ := own_shape hO1)
          go_roundw
          case rel => exact ⟨k + 1, us ++ [(D, ln, g)], by omega, by go_num, by have := K.out.2.2.2.2.2.2; rw [List.length_append, this]; rfl, Own.more rfl hO1, by rw [K.out.2.2.2.2.1]; exact (((K.out.2.1.later K2.out.2.1).later (ba _ _)).more ((K2.out.1.lift (Nat.zero_le _)).later (ba _ _))).grown (K.out.1.later (bt K2.out.2.1 (ba _ _))) (by decide) hg1, own_past (bt K.out.2.2.1 (bt K2.out.2.1 (ba _ _))) hg1 K.out.1⟩
          case measure => simp [intOf]; omega
    · obtain rfl : k = vs.length := by omega
      have hTT : (Mrg.tags 0 ins).take vs.length = Mrg.tags 0 ins := List.take_of_length_le (by rw [Mrg.tags_len, H.out.2.2.1]; exact Nat.le_refl _)
      rw [hTT] at hE
      have hfl := Nat.le_trans (Nat.le_of_eq (tags_flat 0 ins)) H.out.2.2.2
      have hll : (Mrg.tags 0 ins).length ≤ 2199023255552 := by rw [Mrg.tags_len]; exact hn2
      have K := Lib.hid (And.intro hO (And.intro hE (And.intro hb (And.intro hfl hll)))); clear hO hE hb hTT hfl hll b1 b2 b3 hul
      go_wp2_with fail
      go_loopw [3] (fun lv wr => ∃ (us : List SV) (ll : List (List Pr)), Own wr w.heap.size 47 1 slc lv us ∧ Each wr 52 3 rowP us ll ∧ Mrg.whole tmE ll = Mrg.all tmE ins ∧ ll.flatten.length ≤ 2199023255552 ∧ ll.length ≤ 2199023255552 ∧ Below w.heap.size w wr) (fun lv _ => lenOf lv)
      case atStart => exact ⟨us, _, K.out.1, K.out.2.1, rfl, K.out.2.2.2.1, K.out.2.2.2.2, K.out.2.2.1⟩
      case round =>
        clear K
        obtain ⟨us, ll, hO, hE, hw, hf, hl, hb⟩ := hrel
        obtain ⟨B, d, rfl, b1, b2, b3⟩ := hO.shape
        have hul := hE.1
        by_cases h1 : 1 < us.length
        · have cH := halved_any _ us ll wr (Own.at_ (f := slc) (k := 1) (fun _ => rfl) hO) hE hf hl
          have hws := whole_step tmE ll (by omega)
          have hfl := flat_halved tmE ll
          have hle := Mrg.halved_len tmE ll
          have K := Lib.hid (And.intro cH (And.intro hb (And.intro (hws.trans hw) (And.intro (Nat.le_trans (Nat.le_of_eq hfl) hf) (And.intro hle (And.intro hul hl))))))
          have K3 := Lib.hid hO
          clear hO hE hw hf hl hb cH hws hfl hle hul b1 b2 b3
          have h1i : (1 : Int) < (us.length : Int) := by omega
          go_wp2_with (go_at_call 24; ((with_reducible refine (K.out.1).mono ?_); rintro e w5 ⟨v5, us5, ⟨rfl, hO5, hE5⟩, b5⟩; have hle5 : us5.length = (us.length + 1) / 2 := (by rw [hE5.1, K.out.2.2.2.2.1, K.out.2.2.2.2.2.1]); obtain ⟨A5, c5, rfl, _, _, _⟩ := hO5.shape; have K5 := Lib.hid (And.intro hO5 (And.intro hE5 hle5)); clear hO5 hE5 hle5))
          go_roundw
          case rel => exact ⟨us5, _, K5.out.1.lift K.out.2.1.size, K5.out.2.1, K.out.2.2.1, K.out.2.2.2.1, by have := K.out.2.2.2.2.1; have := K.out.2.2.2.2.2.2; omega, bt K.out.2.1 b5⟩
          case measure => simp only [lenOf]; have := K5.out.2.2; omega
        · by_cases h0 : us.length = 0
          · have e : ll = [] := List.eq_nil_of_length_eq_zero (by omega)
            subst e
            have hA : Mrg.all tmE ins = [] := by rw [← hw]; unfold Mrg.whole; rfl
            have K := Lib.hid (And.intro hA hb); clear hO hE hw hf hl hb hA hul b1 b2 b3
            rw [h0]
            clear h1
            have HF := Lib.hid h0; clear h0
            go_wp2
            go_ret
            unfold AllPost
            exact ⟨_, ⟨rfl, by rw [K.out.1]; exact Own.nil _ _ _ _ _⟩, K.out.2⟩
          · obtain ⟨s, hs⟩ : ∃ s, us = [s] := List.length_eq_one_iff.1 (by omega)
            obtain ⟨L, hL⟩ : ∃ L, ll = [L] := List.length_eq_one_iff.1 (by omega)
            subst hs; subst hL
            have hA : Mrg.all tmE ins = L := by rw [← hw]; unfold Mrg.whole; rfl
            have hO0 := hE.2 0 (by simp) (by simp)
            replace hO0 : Own wr 0 52 3 rowP (sl s) L := hO0
            obtain ⟨g, rfl, _, _, _, hc⟩ := hO.cells (f := slc) (k := 1) (fun _ => rfl) rfl (show 0 < [s].length by simp)
            have c0 : wr.cell? ⟨g, 0, none⟩ = some (sl s) := by have := hc 0 (by simp) 0 _ rfl; simpa using this
            obtain ⟨sA, sn, sc⟩ := s
            replace c0 : wr.cell? ⟨g, 0, none⟩ = some (.slice sA sn sc) := c0
            have K := Lib.hid (And.intro hA (And.intro hb hO0)); clear hO hE hw hf hl hb hA hul hO0 hc b1 b2 b3 h1 h0
            have e1 : [((sA, sn, sc) : SV)].length = 1 := rfl
            rw [e1]
            clear e1
            go_wp2
            go_ret
            unfold AllPost
            exact ⟨_, ⟨rfl, by rw [K.out.1]; exact K.out.2.2⟩, K.out.2.1⟩
end Go.Proofs.Ytcggkbopipnnoaa
