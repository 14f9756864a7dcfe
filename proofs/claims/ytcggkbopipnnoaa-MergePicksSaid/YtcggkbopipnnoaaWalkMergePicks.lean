/- MergePicks: the walk. -/
import Derived.Test.YtcggkbopipnnoaaPickO
import Derived.Deep.DeepCutAuto
import Derived.Deep.CutBlock
import Derived.BigQuiet
namespace Go.Proofs.Ytcggkbopipnnoaa
open Go.ChangeShapes Go.WideShapes Go.ChangeAt Go.RowKit
open Mrg (Hd hlt ilt Least PickIs LowIs liveB keyI holdsB IsBest NoneHas)
set_option linter.unusedVariables false
set_option linter.unusedSimpArgs false

set_option maxRecDepth 20000 in
set_option maxHeartbeats 4000000 in
theorem walk_MergePicks (v : Value) (ll : List (List UInt8)) (tv : Value) (tl : List UInt8) (w : World) (hv : ∃ vs, At w 1 slc v vs ∧ Ats w 1 rowB vs ll) (hn : ∀ L ∈ ll, L.length ≤ 140737488355328) (ht : BytesAt w tv tl) (htl : tl.length ≤ 140737488351232) :
    Calls Try.prog 5 #[v, tv] w fun e w' => e = .returned (.bool true) ∧ Below w.heap.size w w' := by
  obtain ⟨vs, hv, hE⟩ := hv
  obtain ⟨T, tn, tcap, hve, htn, hc⟩ : ∃ (A : Option Addr) (n cap : Nat), tv = .slice A n cap ∧ n = tl.length ∧ (0 < n → ∃ a, A = some a ∧ ∀ j (hj : j < tl.length), w.cell? (a.add j) = some (.int .u8 (tl[j].toNat : Int))) := by
    rcases ht with ⟨rfl, rfl⟩ | ⟨a, cap, rfl, h1, h2, h3⟩
    · exact ⟨none, 0, 0, rfl, rfl, fun h => absurd h (by omega)⟩
    · exact ⟨some a, _, cap, rfl, rfl, fun _ => ⟨a, rfl, h3⟩⟩
  subst hve
  obtain rfl : tn = tl.length := htn
  obtain ⟨i0, hi, hz0, hz1, hz2⟩ := info_parts (P := Try.prog) (e := 3) (z := .int .i64 0) (size := 1) (bytes := 8) (by kernel_rfl)
  obtain ⟨j0, hj, hy0, hy1, hy2⟩ := info_parts (P := Try.prog) (e := 2) (z := .int .i64 0) (size := 1) (bytes := 8) (by kernel_rfl)
  obtain ⟨k0, hk, hx0, hx1, hx2⟩ := info_parts (P := Try.prog) (e := 4) (z := .bool false) (size := 1) (bytes := 1) (by kernel_rfl)
  obtain ⟨l0, hl, hu0, hu1, hu2⟩ := info_parts (P := Try.prog) (e := 28) (z := .agg #[.bool false, .int .i64 0, .int .i64 0, .bool false]) (size := 4) (bytes := 32) (by kernel_rfl)
  have cI := fun W (h : Below w.heap.size w W) => inputs_any v vs ll true W (hv.later h) (hE.later h) hn
  obtain ⟨A, c, rfl, _, _, _⟩ := hv.shape
  have H := Lib.hid (And.intro cI hc); clear cI hv hE hc ht
  go_enter Try.func5, Try.ntmps5
  go_wp2_with (go_at_call 8; ((with_reducible refine (examples_any _).mono ?_); rintro e w0 ⟨rfl, b0⟩; have HB := Lib.hid b0; clear b0))
  go_at_call 14
  ((with_reducible refine (H.out.1 _ HB.out).mono ?_); rintro e w1 ⟨u1, us, ins, ⟨rfl, hO1, hE1, hl4, hI1⟩, b1⟩)
  have hfl : ins.flatten.length ≤ 24 := by have := ins_total (ins := ins) (fun L hL => (hI1 L hL).1); omega
  have hR1 : ∀ L ∈ ins, Rises 100 L := fun L hL => (hI1 L hL).2.1 rfl
  have h6 : ∀ L ∈ ins, L.length ≤ 6 := fun L hL => (hI1 L hL).1
  have hul := hE1.1
  have cA := All_any u1 us ins w1 (Own.at_ (f := slc) (k := 1) (fun _ => rfl) hO1) (Each.ats (f := rowE) (k := 2) (fun _ => rfl) hE1) (by omega) (by omega)
  obtain ⟨A1, n1, c1, rfl⟩ := own_shape hO1
  have hsh := hO1.shape
  obtain ⟨_, _, he1, _, _, _⟩ := hsh
  obtain rfl : n1 = us.length := by simpa using (by simpa using he1 : _ ∧ n1 = us.length ∧ _).2.1
  have K := Lib.hid (And.intro hO1 (And.intro hE1 (And.intro (And.intro hR1 h6) (And.intro (bt HB.out b1) cA)))); clear hO1 hE1 hI1 hR1 h6 b1 cA he1
  have hul4 : us.length ≤ 4 := by omega
  have HU := Lib.hid hul; clear hul
  go_wp2_with fail
  go_at_call 16
  ((with_reducible refine (K.out.2.2.2.2).mono ?_); rintro e w2 ⟨v2, ⟨rfl, hO2⟩, b2⟩)
  obtain ⟨A2, n2, c2, rfl⟩ := own_shape hO2
  obtain ⟨_, _, he2, _, _, _⟩ := hO2.shape
  have hAO := allOf K.out.2.2.1.1
  have hlt : (Mrg.all tmE ins).length ≤ 24 := by rw [all_total]; exact hfl
  obtain ⟨l, hle⟩ : ∃ l, l = Mrg.all tmE ins := ⟨_, rfl⟩
  rw [← hle] at hO2 he2 hAO hlt
  clear hle
  obtain rfl : n2 = l.length := (by simpa using he2 : _ ∧ n2 = _ ∧ _).2.1
  have hl63 : l.length ≤ 9223372036854775807 := by omega
  have k9 := K.out
  replace K := Lib.hid (And.intro hO2 (And.intro (k9.1.later b2) (And.intro (k9.2.1.later b2) (And.intro (bt k9.2.2.2.1 b2) (And.intro hAO (And.intro k9.2.2.1.2 HU.out)))))); clear k9 b2 hO2 he2 hAO hfl HU
  go_upto_region 7 with (refine wpList_make_full _ rfl _ _ 57 rfl 0 3 i0 (.int .i64 0) 1 Try.underlying57 hi hz0 hz1 .i64 .i64 _ _ us.length rfl rfl rfl rfl (by rw [hz2]; omega) (by unfold maxLen; omega) (Nat.zero_le _) ?_; intro w3 hO3 hg3)
  have b3 := grownBy_below hg3 (B := w2.heap.size) (Nat.le_refl _) (fun k hk => by simp at hk)
  have M3 := own_made (f := i64c) (x := 0) rfl rfl hO3
  have e3 := own_lt M3
  generalize hg2 : w2.heap.size = gc at *
  go_upto_region 8 with (refine wpList_make_full _ rfl _ _ 57 rfl 0 3 i0 (.int .i64 0) 1 Try.underlying57 hi hz0 hz1 .i64 .i64 _ _ us.length rfl rfl rfl rfl (by rw [hz2]; omega) (by unfold maxLen; omega) (Nat.zero_le _) ?_; intro w4 hO4 hg4)
  have b4 := grownBy_below hg4 (B := w3.heap.size) (Nat.le_refl _) (fun k hk => by simp at hk)
  have M4 := own_made (f := i64c) (x := 0) rfl rfl hO4
  have e4 := own_lt M4
  have n34 : gc ≠ w3.heap.size := by omega
  generalize hg3' : w3.heap.size = gr at *
  go_upto_region 9 with (refine wpList_make_full _ rfl _ _ 60 rfl 0 2 j0 (.int .i64 0) 1 Try.underlying60 hj hy0 hy1 .i64 .i64 _ _ us.length rfl rfl rfl rfl (by rw [hy2]; omega) (by unfold maxLen; omega) (Nat.zero_le _) ?_; intro w5 hO5 hg5)
  have b5 := grownBy_below hg5 (B := w4.heap.size) (Nat.le_refl _) (fun k hk => by simp at hk)
  have M5 := own_made (f := i64c) (x := 0) rfl rfl hO5
  generalize hg4' : w4.heap.size = gl at *
  go_upto_region 10 with (refine wpList_make_full _ rfl _ _ 61 rfl 0 4 k0 (.bool false) 1 Try.underlying61 hk hx0 hx1 .i64 .i64 _ _ us.length rfl rfl rfl rfl (by rw [hx2]; omega) (by unfold maxLen; omega) (Nat.zero_le _) ?_; intro w6 hO6 hg6)
  have b6 := grownBy_below hg6 (B := w5.heap.size) (Nat.le_refl _) (fun k hk => by simp at hk)
  have M6 := own_made (f := bolc) (x := false) rfl rfl hO6
  generalize hg5' : w5.heap.size = gd at *
  have b36 : Below w.heap.size w w6 := bt K.out.2.2.2.1 (bt (show Below w2.heap.size w2 w3 by rw [hg2]; exact b3) (bt (show Below w3.heap.size w3 w4 by rw [hg3']; exact b4) (bt (show Below w4.heap.size w4 w5 by rw [hg4']; exact b5) (show Below w5.heap.size w5 w6 by rw [hg5']; exact b6))))
  have x3 : Below w2.heap.size w2 w6 := bt (show Below w2.heap.size w2 w3 by rw [hg2]; exact b3) (bt (show Below w3.heap.size w3 w4 by rw [hg3']; exact b4) (bt (show Below w4.heap.size w4 w5 by rw [hg4']; exact b5) (show Below w5.heap.size w5 w6 by rw [hg5']; exact b6)))
  have x4 : Below w3.heap.size w3 w6 := bt (show Below w3.heap.size w3 w4 by rw [hg3']; exact b4) (bt (show Below w4.heap.size w4 w5 by rw [hg4']; exact b5) (show Below w5.heap.size w5 w6 by rw [hg5']; exact b6))
  have x5 : Below w4.heap.size w4 w6 := bt (show Below w4.heap.size w4 w5 by rw [hg4']; exact b5) (show Below w5.heap.size w5 w6 by rw [hg5']; exact b6)
  have hS : Ps w6 gc gr gl gd us.length (.slice A2 l.length c2) (.slice A1 us.length c1) l us ins (fun _ => 0) (rd l 0) (fun _ => 0) (fun _ => false) :=
    ⟨n34, M3.later x4, by
      have e : (fun k => ((rd l 0 k : Nat) : Int)) = fun _ => 0 := by funext k; simp [rd, Mrg.one]
      rw [e]; exact M4.later x5, M5.later (show Below w5.heap.size w5 w6 by rw [hg5']; exact b6), M6, K.out.1.later x3, (K.out.2.1.later x3).lift (Nat.zero_le _), K.out.2.2.1.later x3⟩
  have hC := Core.start ins K.out.2.2.2.2.1
  have hgc : w.heap.size ≤ gc := by rw [← hg2]; exact K.out.2.2.2.1.size
  have hgr : w.heap.size ≤ gr := by have := (bt K.out.2.2.2.1 (show Below w2.heap.size w2 w3 by rw [hg2]; exact b3)).size; omega
  have hgl : w.heap.size ≤ gl := by have := (bt K.out.2.2.2.1 (bt (show Below w2.heap.size w2 w3 by rw [hg2]; exact b3) (show Below w3.heap.size w3 w4 by rw [hg3']; exact b4))).size; omega
  have hgd : w.heap.size ≤ gd := by have := (bt K.out.2.2.2.1 (bt (show Below w2.heap.size w2 w3 by rw [hg2]; exact b3) (bt (show Below w3.heap.size w3 w4 by rw [hg3']; exact b4) (show Below w4.heap.size w4 w5 by rw [hg4']; exact b5)))).size; omega
  have hA0 := K.out.2.2.2.2.1
  have hui := K.out.2.2.2.2.2.2
  have h60 := K.out.2.2.2.2.2.1
  have K0 := Lib.hid (And.intro hS (And.intro hC b36)); clear hS hC b36 x3 x4 x5 M3 M4 M5 M6 b3 b4 b5 b6 hO3 hO4 hO5 hO6 hg3 hg4 hg5 hg6 e3 e4 n34 hg2 hg3' hg4' hg5' hi hz0 hz1 hz2 hj hy0 hy1 hy2 hk hx0 hx1 hx2
  have KA := Lib.hid (And.intro hA0 (And.intro hui h60)); clear hA0 hui h60 K
  have hm : ∃ m, m = min tl.length 200 := ⟨_, rfl⟩
  obtain ⟨m, hm⟩ := hm
  go_wp2_with fail
  go_loopw [12, 13] (fun gv iv wr => ∃ (i got : Nat) (c : Nat → Nat) (lo : Nat → Int) (dn : Nat → Bool), i ≤ tl.length + 100 ∧ gv = .int .i64 got ∧ iv = .int .i64 i ∧ Core ins l c lo dn got ∧ Ps wr gc gr gl gd us.length (.slice A2 l.length c2) (.slice A1 us.length c1) l us ins c (rd l got) lo dn ∧ Past us.length m i dn ∧ (i ≤ got + m + us.length ∨ got = l.length) ∧ Below w.heap.size w wr) (fun _ i _ => tl.length + 100 - (intOf i).toNat)
  case atStart => exact ⟨0, 0, _, _, _, Nat.zero_le _, rfl, rfl, K0.out.2.1, K0.out.1, fun j h1 h2 => absurd h2 (by omega), Or.inl (by omega), K0.out.2.2⟩
  case round =>
    clear K0
    obtain ⟨i, got, c, lo, dn, hi1, rfl, rfl, hC, hS, hP, hL, hb⟩ := hrel
    by_cases hlt : i < tl.length + 100 ∧ 0 < us.length
    · obtain ⟨hlt, hun⟩ := hlt
      obtain ⟨gi, rfl, _⟩ := hS.rows.cells (f := slc) (k := 1) (fun _ => rfl) rfl hun
      have hcell : ∀ (h : 0 < tl.length), ∃ a, T = some a ∧ ∀ j (hj : j < tl.length), wr.cell? (a.add j) = some (.int .u8 (tl[j].toNat : Int)) := fun h => by
        obtain ⟨a, h1, h2⟩ := H.out.2 h
        exact ⟨a, h1, fun j hj => cell_at (h2 j hj) hb⟩
      have KR := Lib.hid (And.intro hC (And.intro hS (And.intro hP (And.intro hL hb)))); clear hC hS hP hL hb
      refine wp_of_eq (c' := ((Try.f5.body.bind (loopN 12)).getD .skip)) ?_ (by kernel_rfl)
      refine pick_round _ _ _ _ _ _ _ _ _ _ _ _ _ _ _ _ _ _ _ _ _ _ _ _ _ _ _ _ _ _ _ _ _ _ _ _ _ _ _ _ _ _ _ _ _ _ _ _ _ _ _ _ _ _ _ _ _ _ _ _ _ _ _ _ _ _ _ _ _ _ _ _ _ _ _ _ _ _ _ _ _ _ _ _ _ _ _ _ _ _ _ _ _ _ _ _ _ _ _ _ _ _ _ _ _ _ _ _ _ _ _ _ _ _ _ _ _ _ _ _ _ _ _ _ _ _ _ _ _ _ _ _ _ _ _ _ _ _ _ _ _ _ _ _ _ _ _ _ _ _ _ _ _ _ _ _ _ _ _ _ _ _ _ _ _ _ _ _ _ _ _ _ _ _ _ _ _ _ _ _ _ _ _ _ _ _ _ _ _ _ _ _ _ _ _ _ _ _ _ _ _ _ _ _ _ _ _ _ _ _ _ _ _ _ _ _ _ _ _ _ _ _ _ _ _ _ _ _ _ _ _ _ _ _ _ _ _ _ _ _ _ _ _ _ _ _ _ _ _ _ _ _ _ _ _ _ _ _ _ _ _ _ _ _ _ _ _ _ _ _ (wo := w) KR.out.1 KR.out.2.1 KR.out.2.2.1 KR.out.2.2.2.1 KR.out.2.2.2.2 hlt hun (by omega) rfl KA.out.2.1 KA.out.1 KA.out.2.2 (by omega) hm htl hcell hgc hgr hgl hgd (fun _ _ _ _ _ _ _ _ _ _ _ _ _ _ _ _ _ _ _ _ _ _ _ _ _ _ _ _ _ _ _ _ _ _ _ _ _ _ _ _ _ _ _ _ _ _ _ _ _ _ _ _ _ _ _ _ _ _ _ _ _ _ _ _ _ _ _ _ _ _ _ _ _ _ _ _ _ _ _ _ _ _ _ _ _ _ _ _ _ _ _ _ _ _ _ _ _ _ _ _ _ _ _ _ _ _ _ _ _ _ _ _ _ _ _ _ _ _ _ _ _ _ _ _ _ _ _ _ _ _ _ _ _ _ _ _ _ _ _ _ _ _ _ _ _ _ _ _ _ _ _ _ _ _ _ _ _ _ _ _ _ _ _ _ _ _ _ _ _ _ _ _ _ _ _ _ _ _ _ _ _ _ _ _ _ _ _ _ _ _ _ _ _ _ _ _ _ _ _ _ _ _ _ _ _ _ _ _ _ _ _ _ _ _ _ _ _ _ _ _ _ _ _ _ _ _ _ _ _ _ _ _ _ _ _ _ _ _ _ gv iv got' c' lo' dn' wx hR => ?_)
      obtain ⟨rfl, rfl, hC, hS, hP, hL, hb⟩ := hR
      have KO := Lib.hid (And.intro hC (And.intro hS (And.intro hP (And.intro hL hb)))); clear hC hS hP hL hb hcell
      go_wp2_with fail
      go_roundw
      case rel => exact ⟨_, _, _, _, _, _, _, _, _, _, _, _, _, _, _, _, _, _, _, _, _, _, _, _, _, _, _, _, _, _, _, _, _, _, _, _, _, _, _, _, _, _, _, _, _, _, _, _, _, _, _, _, _, _, _, _, _, _, _, _, _, _, _, _, _, _, _, _, _, _, _, _, _, _, _, _, _, _, _, _, _, _, _, _, _, _, _, _, _, _, _, _, _, _, _, _, _, _, _, _, _, _, _, _, _, _, _, _, _, _, _, _, _, _, _, _, _, _, _, _, _, _, _, _, _, _, _, _, _, _, _, _, _, _, _, _, _, _, _, _, _, _, _, _, _, _, _, _, _, _, _, _, _, _, _, _, _, _, _, _, _, _, _, _, _, _, _, _, _, _, _, _, _, _, _, _, _, _, _, _, _, _, _, _, _, _, _, _, _, _, _, _, _, _, _, _, _, _, _, _, _, _, _, _, _, _, _, _, _, _, _, _, _, _, _, _, _, _, _, _, _, _, _, _, _, _, _, _, _, _, _, _, _, _, _, _, _, _, _, _, _, _, ⟨i + 1, got', c', lo', dn', by omega, rfl, by go_num, KO.out.1, KO.out.2.1, KO.out.2.2.1, KO.out.2.2.2.1, KO.out.2.2.2.2⟩, rfl⟩
      case measure => simp [intOf]; omega
    · have hgot : got = l.length := by
        by_cases hu0 : us.length = 0
        · have h0 : l.length = 0 := by
            by_cases h : 0 < l.length
            · obtain ⟨k, hk, _⟩ := KA.out.1.next 0 h
              have := KA.out.2.1; omega
            · omega
          have := hC.le; omega
        · rcases hL with h | h
          · have := hC.le; omega
          · exact h
      subst hgot
      have KE := Lib.hid hb; clear hb hC hS hP hL
      rcases (by omega : ¬ i < tl.length + 100 ∨ (i < tl.length + 100 ∧ ¬ 0 < us.length)) with h1 | ⟨h1, h2⟩
      all_goals
        clear hlt
        go_wp2_with fail
        go_ret
        exact ⟨rfl, KE.out⟩
end Go.Proofs.Ytcggkbopipnnoaa
