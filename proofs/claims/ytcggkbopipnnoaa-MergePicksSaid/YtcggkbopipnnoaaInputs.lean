/- The laws' own inputs (chapter 16). -/
import Derived.Test.YtcggkbopipnnoaaEx16
namespace Go.Proofs.Ytcggkbopipnnoaa
open Go.ChangeShapes Go.WideShapes Go.ChangeAt Go.RowKit
set_option linter.unusedVariables false
set_option linter.unusedSimpArgs false

abbrev rowB (b : UInt8) : List Value := [.int .u8 (b.toNat : Int)]
abbrev V1 := Int × Int × ByteArray
abbrev rowV (x : V1) : List Value := [.int .i64 x.1, .int .i64 x.2.1, .string x.2.2]
/-- The event's values lie in a block of their own. -/
def ValOwn (w : World) (x : Ev2) : Prop := ∃ n : Int, Own w 0 71 3 rowV (sl x.2) [(1, n, ⟨#[]⟩)]
theorem ValOwn.later {w w' : World} {x : Ev2} (h : ValOwn w x) (hb : Below w.heap.size w w') : ValOwn w' x := by
  obtain ⟨n, h⟩ := h; exact ⟨n, h.later hb⟩
theorem ValOwn.grown {w w' : World} {x : Ev2} (h : ValOwn w x) {β : Type} {c : Nat} {e' : TypeId} {k' : Nat} {g : β → List Value} {u : Value} {m : List β} (h' : Own w c e' k' g u m) (hne : 71 ≠ e') (hg : w.grownBy w' u.ownBlock) : ValOwn w' x := by
  obtain ⟨n, h⟩ := h
  exact ⟨n, h.grown hg (fun b hb => h.apart h' hne b hb)⟩
/-- Times that rise, none below 0, none above t. -/
def Rises (t : Int) (xs : List Ev2) : Prop := xs.Pairwise (fun x y => x.1 < y.1) ∧ ∀ x ∈ xs, 0 ≤ x.1 ∧ x.1 ≤ t
theorem Rises.nil (t : Int) : Rises t [] := ⟨List.Pairwise.nil, fun x h => absurd h (by simp)⟩
theorem Rises.more {t u : Int} {xs : List Ev2} (h : Rises t xs) (s : SV) (h0 : 0 ≤ u) (h1 : xs = [] ∨ t < u) (h2 : t ≤ u) : Rises u (xs ++ [(u, s)]) := by
  refine ⟨?_, fun x hx => ?_⟩
  · rw [List.pairwise_append]
    refine ⟨h.1, by simp, fun x hx y hy => ?_⟩
    obtain rfl : y = (u, s) := by simpa using hy
    rcases h1 with rfl | h1
    · exact absurd hx (by simp)
    · have := (h.2 x hx).2; show x.1 < u; omega
  · rcases List.mem_append.1 hx with hx | hx
    · have := h.2 x hx; exact ⟨this.1, by omega⟩
    · obtain rfl : x = (u, s) := by simpa using hx
      exact ⟨h0, Int.le_refl _⟩
/-- What is known of the inputs. -/
def InsOk (w : World) (rise : Bool) (ins : List (List Ev2)) : Prop :=
  ∀ L ∈ ins, L.length ≤ 6 ∧ (rise = true → Rises 100 L) ∧ ∀ x ∈ L, ValOwn w x
theorem InsOk.later {w w' : World} {rise : Bool} {ins : List (List Ev2)} (h : InsOk w rise ins) (hb : Below w.heap.size w w') : InsOk w' rise ins :=
  fun L hL => ⟨(h L hL).1, (h L hL).2.1, fun x hx => ((h L hL).2.2 x hx).later hb⟩
theorem InsOk.grown {w w' : World} {rise : Bool} {ins : List (List Ev2)} (h : InsOk w rise ins) {β : Type} {c : Nat} {e' : TypeId} {k' : Nat} {g : β → List Value} {u : Value} {m : List β} (h' : Own w c e' k' g u m) (hne : 71 ≠ e') (hg : w.grownBy w' u.ownBlock) : InsOk w' rise ins :=
  fun L hL => ⟨(h L hL).1, (h L hL).2.1, fun x hx => ((h L hL).2.2 x hx).grown h' hne hg⟩
theorem Rises.up {t u : Int} {xs : List Ev2} (h : Rises t xs) (hu : t ≤ u) : Rises u xs := ⟨h.1, fun x hx => ⟨(h.2 x hx).1, by have := (h.2 x hx).2; omega⟩⟩
theorem cell_at {w w' : World} {a : Addr} {v : Value} (h : w.cell? a = some v) (hb : Below w.heap.size w w') : w'.cell? a = some v := by rw [hb.cell (World.block_lt_of_cell? w _ h)]; exact h
theorem ev_one (x : Ev2) : ∀ u ∈ rowE x, u.oneCell' = true := by simp [Value.oneCell']
set_option maxRecDepth 20000 in
set_option maxHeartbeats 4000000 in
theorem inputs_any (v : Value) (vs : List SV) (ll : List (List UInt8)) (rise : Bool) (w : World) (hv : At w 1 slc v vs) (hE : Ats w 1 rowB vs ll) (hn : ∀ L ∈ ll, L.length ≤ 140737488355328) :
    Calls Try.prog 14 #[v, .bool rise] w fun e w' => ∃ (u : Value) (us : List SV) (ins : List (List Ev2)), (e = .returned u ∧ Own w' w.heap.size 25 1 slc u us ∧ Each w' 46 2 rowE us ins ∧ ins.length ≤ 4 ∧ InsOk w' rise ins) ∧ Below w.heap.size w w' := by
  obtain ⟨A, c, rfl, a1, a2, a3⟩ := hv.shape
  obtain ⟨i0, hi, hz0, hz1, hz2⟩ := info_parts (P := Try.prog) (e := 25) (z := .slice none 0 0) (size := 1) (bytes := 24) (by kernel_rfl)
  obtain ⟨j0, hj, hy0, hy1, hy2⟩ := info_parts (P := Try.prog) (e := 46) (z := .agg #[.int .i64 0, .slice none 0 0]) (size := 2) (bytes := 32) (by kernel_rfl)
  have hvl := hE.1
  have hm : vs.length ≤ 9223372036854775807 := by unfold maxLen at a2; omega
  have H := Lib.hid (And.intro hv (And.intro hE (And.intro hvl hn))); clear hv hE hvl hn a3
  go_enter Try.func14, Try.ntmps14
  go_wp2
  go_loopw [5, 6] (fun lv iv wr => ∃ (i : Nat) (us : List SV) (ins : List (List Ev2)), i ≤ vs.length ∧ i ≤ 4 ∧ iv = .int .i64 i ∧ us.length = i ∧ ins.length = i ∧ Own wr w.heap.size 25 1 slc lv us ∧ Each wr 46 2 rowE us ins ∧ InsOk wr rise ins ∧ Below w.heap.size w wr) (fun _ i _ => 4 - (intOf i).toNat)
  case atStart => exact ⟨0, [], [], Nat.zero_le _, Nat.zero_le _, rfl, rfl, rfl, Own.nil _ _ _ _ _, Each.nil _ _ _ _, fun L h => absurd h (by simp), Below.refl _ _⟩
  case round =>
    rename World => wr0
    obtain ⟨i, us, ins, hi1, hi4, rfl, hul, hil, hO, hE, hI, hb⟩ := hrel
    obtain ⟨B, d, rfl, b1, b2, b3⟩ := hO.shape
    by_cases hlt : i < vs.length ∧ i < 4
    · obtain ⟨hlt, hlt4⟩ := hlt
      obtain ⟨a, rfl, hc⟩ := H.out.1.cells rfl (by omega)
      have hll := H.out.2.2.1
      have c0 := (hc.later hb).row1 i hlt rfl
      rw [Nat.mul_one] at c0
      have A0 := (H.out.2.1).2 i hlt (by omega)
      have hLn := H.out.2.2.2 _ (List.getElem_mem (show i < ll.length by omega))
      generalize ll[i]'_ = L at *
      generalize vs[i]'hlt = s at *
      obtain ⟨C, n, f⟩ := s
      obtain ⟨_, f', he, x1, x2, x3⟩ := A0.shape
      obtain ⟨rfl, rfl, rfl⟩ : C = _ ∧ n = L.length ∧ f = f' := by simpa [sl] using he
      replace c0 : wr0.cell? (a.add i) = some (.slice C L.length f) := c0
      replace A0 : At w 1 rowB (.slice C L.length f) L := A0
      have K := Lib.hid (And.intro hO (And.intro hE (And.intro hI (And.intro hb (And.intro A0 (And.intro hul hil))))))
      have hc0 := Lib.hid c0
      have hd4 : decide ((i : Int) < 4) = true := decide_eq_true (by omega)
      clear hO hE hI hb A0 hul hil hc b1 b2 b3 he hll x3
      go_wp2_with fail
      clear c0
      go_loopw [7, 8, 9] (fun ov tv kv w2 => ∃ (k : Nat) (t : Int) (xs : List Ev2), k ≤ L.length ∧ k ≤ 6 ∧ kv = .int .i64 k ∧ tv = .int .i64 t ∧ 0 ≤ t ∧ t ≤ 10 * k ∧ xs.length = k ∧ Own w2 wr0.heap.size 46 2 rowE ov xs ∧ (rise = true → Rises t xs) ∧ (∀ x ∈ xs, ValOwn w2 x) ∧ Below wr0.heap.size wr0 w2) (fun _ _ k _ => 6 - (intOf k).toNat)
      case atStart => exact ⟨0, 0, [], Nat.zero_le _, Nat.zero_le _, rfl, rfl, by omega, by omega, rfl, Own.nil _ _ _ _ _, fun _ => Rises.nil _, fun x h => absurd h (by simp), Below.refl _ _⟩
      case round =>
        obtain ⟨k, t, xs, hk, hk6, rfl, rfl, ht0, ht1, hxl, hO, hR, hV, hb⟩ := hrel
        obtain ⟨D, g, rfl, b1, b2, b3⟩ := hO.shape
        have c0 : wr.cell? (a.add i) = some (.slice C L.length f) := by rw [hb.cell (World.block_lt_of_cell? wr0 _ hc0.out)]; exact hc0.out
        by_cases hlt2 : k < L.length ∧ k < 6
        · obtain ⟨hlt2, hk66⟩ := hlt2
          obtain ⟨aL, rfl, hcL⟩ := K.out.2.2.2.2.1.cells rfl (by omega)
          have y0 := ((hcL.later K.out.2.2.2.1).later hb).row1 k hlt2 rfl
          rw [Nat.mul_one] at y0
          have hx := (L[k]'hlt2).toNat_lt
          generalize (L[k]'hlt2).toNat = q at *
          have KI := Lib.hid (And.intro hO (And.intro hR (And.intro hV (And.intro hb hxl)))); clear hO hR hV hb hxl hcL b1 b2 b3
          have c1 := cell_at (cell_at c0 (ba wr (.cells #[.int .i64 1, .int .i64 (10 * (i : Int) + (k : Int)), .string ⟨#[]⟩] 71))) (ba _ (.cells #[.int .i64 (t + (q : Int) % 4), .slice (some ⟨wr.heap.size, 0, none⟩) 1 1] 46))
          have y1 := cell_at (cell_at y0 (ba wr (.cells #[.int .i64 1, .int .i64 (10 * (i : Int) + (k : Int)), .string ⟨#[]⟩] 71))) (ba _ (.cells #[.int .i64 (t + (q : Int) % 4), .slice (some ⟨wr.heap.size, 0, none⟩) 1 1] 46))
          have hd6 : decide ((k : Int) < 6) = true := decide_eq_true (by omega)
          cases rise
          · go_wp2_with (at_builtin; refine wpList_append_own _ rfl (.tmp 73) (.tmp 75) 25 rfl wr0.heap.size 46 j0 (.agg #[.int .i64 0, .slice none 0 0]) 2 32 Try.underlying25 hj hy0 hy1 hy2 rfl (by decide) _ xs.length _ rfl (KI.out.1.later (bt (ba _ _) (bt (ba _ _) (ba _ _)))) ⟨_, 0, none⟩ 1 1 (rowE ((q : Int) % 8 - 2, some ⟨wr.heap.size, 0, none⟩, 1, 1)) rfl rfl (new_cells (by simp) _ #[.int .i64 ((q : Int) % 8 - 2), .slice (some ⟨wr.heap.size, 0, none⟩) 1 1]) (by simp [Value.oneCell']) (by have := KI.out.2.2.2.2; unfold maxLen; omega) (by have := KI.out.2.2.2.2; omega) (by have := KI.out.2.2.2.1.size; simp only [World.size_alloc]; omega) ?_; intro v5 w5 hO5 hg5 _; obtain ⟨A5, n5, c5, rfl⟩ := own_shape hO5)
            have hB5 := bt (ba wr (.cells #[.int .i64 1, .int .i64 (10 * (i : Int) + (k : Int)), .string ⟨#[]⟩] 71)) (bt (ba _ (.cells #[.int .i64 ((q : Int) % 8 - 2), .slice (some ⟨wr.heap.size, 0, none⟩) 1 1] 46)) (ba _ (.cells #[.int .i64 ((q : Int) % 8 - 2), .slice (some ⟨wr.heap.size, 0, none⟩) 1 1] 46)))
            have hOb := KI.out.1.later hB5
            have hval : ∀ x ∈ xs ++ [(((q : Int) % 8 - 2), some ⟨wr.heap.size, 0, none⟩, 1, 1)], ValOwn w5 x := fun x hx => by
              rcases List.mem_append.1 hx with hx | hx
              · exact ((KI.out.2.2.1 x hx).later hB5).grown hOb (by decide) hg5
              · obtain rfl : x = (((q : Int) % 8 - 2), some ⟨wr.heap.size, 0, none⟩, 1, 1) := by simpa using hx
                have hn : Own (wr.alloc (.cells #[.int .i64 1, .int .i64 (10 * (i : Int) + (k : Int)), .string ⟨#[]⟩] 71)) 0 71 3 rowV (.slice (some ⟨wr.heap.size, 0, none⟩) 1 1) [((1 : Int), 10 * (i : Int) + (k : Int), (⟨#[]⟩ : ByteArray))] := own_lit (f := rowV) _ rfl rfl (by decide) rfl rfl
                exact ValOwn.grown ⟨_, hn.later (bt (ba _ (.cells #[.int .i64 ((q : Int) % 8 - 2), .slice (some ⟨wr.heap.size, 0, none⟩) 1 1] 46)) (ba _ (.cells #[.int .i64 ((q : Int) % 8 - 2), .slice (some ⟨wr.heap.size, 0, none⟩) 1 1] 46)))⟩ hOb (by decide) hg5
            go_roundw
            case rel => exact ⟨k + 1, t + (q : Int) % 4, _, by omega, by omega, by go_num, rfl, by omega, by omega, by have := KI.out.2.2.2.2; rw [List.length_append, this]; rfl, Own.more rfl hO5, fun h => by simp at h, hval, own_past (bt KI.out.2.2.2.1 hB5) hg5 KI.out.1⟩
            case measure => simp [intOf]; omega
          · by_cases hk0 : k = 0
            · have hxn : xs = [] := List.eq_nil_of_length_eq_zero (by rw [KI.out.2.2.2.2]; exact hk0)
              have HXN := Lib.hid hxn; clear hxn
              have h00 : ¬ (0 : Int) < (k : Int) := by omega
              have h01 : ¬ 0 < k := by omega
              clear hk0
              go_wp2_with (at_builtin; refine wpList_append_own _ rfl (.tmp 73) (.tmp 75) 25 rfl wr0.heap.size 46 j0 (.agg #[.int .i64 0, .slice none 0 0]) 2 32 Try.underlying25 hj hy0 hy1 hy2 rfl (by decide) _ xs.length _ rfl (KI.out.1.later (bt (ba _ _) (bt (ba _ _) (ba _ _)))) ⟨_, 0, none⟩ 1 1 (rowE (t + (q : Int) % 4, some ⟨wr.heap.size, 0, none⟩, 1, 1)) rfl rfl (new_cells (by simp) _ #[.int .i64 (t + (q : Int) % 4), .slice (some ⟨wr.heap.size, 0, none⟩) 1 1]) (by simp [Value.oneCell']) (by have := KI.out.2.2.2.2; unfold maxLen; omega) (by have := KI.out.2.2.2.2; omega) (by have := KI.out.2.2.2.1.size; simp only [World.size_alloc]; omega) ?_; intro v5 w5 hO5 hg5 _; obtain ⟨A5, n5, c5, rfl⟩ := own_shape hO5)
              have hB5 := bt (ba wr (.cells #[.int .i64 1, .int .i64 (10 * (i : Int) + (k : Int)), .string ⟨#[]⟩] 71)) (bt (ba _ (.cells #[.int .i64 (t + (q : Int) % 4), .slice (some ⟨wr.heap.size, 0, none⟩) 1 1] 46)) (ba _ (.cells #[.int .i64 (t + (q : Int) % 4), .slice (some ⟨wr.heap.size, 0, none⟩) 1 1] 46)))
              have hOb := KI.out.1.later hB5
              have hval : ∀ x ∈ xs ++ [((t + (q : Int) % 4), some ⟨wr.heap.size, 0, none⟩, 1, 1)], ValOwn w5 x := fun x hx => by
                rcases List.mem_append.1 hx with hx | hx
                · exact ((KI.out.2.2.1 x hx).later hB5).grown hOb (by decide) hg5
                · obtain rfl : x = ((t + (q : Int) % 4), some ⟨wr.heap.size, 0, none⟩, 1, 1) := by simpa using hx
                  have hn : Own (wr.alloc (.cells #[.int .i64 1, .int .i64 (10 * (i : Int) + (k : Int)), .string ⟨#[]⟩] 71)) 0 71 3 rowV (.slice (some ⟨wr.heap.size, 0, none⟩) 1 1) [((1 : Int), 10 * (i : Int) + (k : Int), (⟨#[]⟩ : ByteArray))] := own_lit (f := rowV) _ rfl rfl (by decide) rfl rfl
                  exact ValOwn.grown ⟨_, hn.later (bt (ba _ (.cells #[.int .i64 (t + (q : Int) % 4), .slice (some ⟨wr.heap.size, 0, none⟩) 1 1] 46)) (ba _ (.cells #[.int .i64 (t + (q : Int) % 4), .slice (some ⟨wr.heap.size, 0, none⟩) 1 1] 46)))⟩ hOb (by decide) hg5
              go_roundw
              case rel => exact ⟨k + 1, t + (q : Int) % 4, _, by omega, by omega, by go_num, rfl, by omega, by omega, by have := KI.out.2.2.2.2; rw [List.length_append, this]; rfl, Own.more rfl hO5, fun h => (KI.out.2.1 rfl).more _ (by omega) (Or.inl HXN.out) (by omega), hval, own_past (bt KI.out.2.2.2.1 hB5) hg5 KI.out.1⟩
              case measure => simp [intOf]; omega
            · have hkp : (0 : Int) < (k : Int) := by omega
              have hkn : 0 < k := by omega
              go_wp2_with (at_builtin; refine wpList_append_own _ rfl (.tmp 73) (.tmp 75) 25 rfl wr0.heap.size 46 j0 (.agg #[.int .i64 0, .slice none 0 0]) 2 32 Try.underlying25 hj hy0 hy1 hy2 rfl (by decide) _ xs.length _ rfl (KI.out.1.later (bt (ba _ _) (bt (ba _ _) (ba _ _)))) ⟨_, 0, none⟩ 1 1 (rowE (t + (q : Int) % 4 + 1, some ⟨wr.heap.size, 0, none⟩, 1, 1)) rfl rfl (new_cells (by simp) _ #[.int .i64 (t + (q : Int) % 4 + 1), .slice (some ⟨wr.heap.size, 0, none⟩) 1 1]) (by simp [Value.oneCell']) (by have := KI.out.2.2.2.2; unfold maxLen; omega) (by have := KI.out.2.2.2.2; omega) (by have := KI.out.2.2.2.1.size; simp only [World.size_alloc]; omega) ?_; intro v5 w5 hO5 hg5 _; obtain ⟨A5, n5, c5, rfl⟩ := own_shape hO5)
              have hB5 := bt (ba wr (.cells #[.int .i64 1, .int .i64 (10 * (i : Int) + (k : Int)), .string ⟨#[]⟩] 71)) (bt (ba _ (.cells #[.int .i64 (t + (q : Int) % 4 + 1), .slice (some ⟨wr.heap.size, 0, none⟩) 1 1] 46)) (ba _ (.cells #[.int .i64 (t + (q : Int) % 4 + 1), .slice (some ⟨wr.heap.size, 0, none⟩) 1 1] 46)))
              have hOb := KI.out.1.later hB5
              have hval : ∀ x ∈ xs ++ [((t + (q : Int) % 4 + 1), some ⟨wr.heap.size, 0, none⟩, 1, 1)], ValOwn w5 x := fun x hx => by
                rcases List.mem_append.1 hx with hx | hx
                · exact ((KI.out.2.2.1 x hx).later hB5).grown hOb (by decide) hg5
                · obtain rfl : x = ((t + (q : Int) % 4 + 1), some ⟨wr.heap.size, 0, none⟩, 1, 1) := by simpa using hx
                  have hn : Own (wr.alloc (.cells #[.int .i64 1, .int .i64 (10 * (i : Int) + (k : Int)), .string ⟨#[]⟩] 71)) 0 71 3 rowV (.slice (some ⟨wr.heap.size, 0, none⟩) 1 1) [((1 : Int), 10 * (i : Int) + (k : Int), (⟨#[]⟩ : ByteArray))] := own_lit (f := rowV) _ rfl rfl (by decide) rfl rfl
                  exact ValOwn.grown ⟨_, hn.later (bt (ba _ (.cells #[.int .i64 (t + (q : Int) % 4 + 1), .slice (some ⟨wr.heap.size, 0, none⟩) 1 1] 46)) (ba _ (.cells #[.int .i64 (t + (q : Int) % 4 + 1), .slice (some ⟨wr.heap.size, 0, none⟩) 1 1] 46)))⟩ hOb (by decide) hg5
              go_roundw
              case rel => exact ⟨k + 1, t + (q : Int) % 4 + 1, _, by omega, by omega, by go_num, rfl, by omega, by omega, by have := KI.out.2.2.2.2; rw [List.length_append, this]; rfl, Own.more rfl hO5, fun h => (KI.out.2.1 rfl).more _ (by omega) (Or.inr (by omega)) (by omega), hval, own_past (bt KI.out.2.2.2.1 hB5) hg5 KI.out.1⟩
              case measure => simp [intOf]; omega
        · have hcond : ¬ k < L.length ∨ (k < L.length ∧ ¬ k < 6) := by omega
          obtain ⟨nx, hnx⟩ : ∃ n, n = xs.length := ⟨_, rfl⟩
          rw [← hnx] at hO ⊢
          have hx6 : xs.length ≤ 6 := by omega
          have KI := Lib.hid (And.intro hO (And.intro hR (And.intro hV (And.intro hb (And.intro hx6 (And.intro ht1 hk6)))))); clear hO hR hV hb hxl hx6 hnx b1 b2 b3 hlt2
          have hbl : us.length + 1 ≤ maxLen ∧ (us.length + 1) * 24 ≤ 140737488355328 := by have := K.out.2.2.2.2.2.1; unfold maxLen; omega
          have HBL := Lib.hid hbl; clear hbl
          rcases hcond with hc1 | ⟨hc1, hc2⟩
          all_goals
            go_wp2_with (at_builtin; refine wpList_append_own _ rfl (.tmp 77) (.tmp 79) 36 rfl w.heap.size 25 i0 (.slice none 0 0) 1 24 Try.underlying36 hi hz0 hz1 hz2 rfl (by decide) _ us.length _ rfl (K.out.1.later (bt KI.out.2.2.2.1 (ba _ _))) ⟨_, 0, none⟩ 1 1 (slc (D, nx, g)) rfl rfl (new_cells rfl _ #[sl (D, nx, g)]) (one_oneCell _) HBL.out.1 HBL.out.2 (by have := K.out.2.2.2.1.size; have := KI.out.2.2.2.1.size; simp only [World.size_alloc]; omega) ?_; intro v1 w1 hO1 hg1 _; obtain ⟨A1, n1, c1, rfl⟩ := own_shape hO1)
            have hBB := bt KI.out.2.2.2.1 (ba wr (.cells #[.slice D nx g] 25))
            have hOb := K.out.1.later hBB
            have hI2 : InsOk w1 rise (ins ++ [xs]) := fun M hM => by
              rcases List.mem_append.1 hM with hM | hM
              · exact ((K.out.2.2.1.later hBB).grown hOb (by decide) hg1) M hM
              · obtain rfl : M = xs := by simpa using hM
                exact ⟨KI.out.2.2.2.2.1, fun h => (KI.out.2.1 h).up (by have := KI.out.2.2.2.2.2.1; have := KI.out.2.2.2.2.2.2; omega), fun x hx => ((KI.out.2.2.1 x hx).later (ba _ _)).grown hOb (by decide) hg1⟩
            go_roundw
            case rel => exact ⟨i + 1, us ++ [(D, nx, g)], ins ++ [xs], by omega, by omega, by go_num, by rw [List.length_append, K.out.2.2.2.2.2.1]; rfl, by rw [List.length_append, K.out.2.2.2.2.2.2]; rfl, Own.more rfl hO1, ((K.out.2.1.later hBB).more ((KI.out.1.lift (Nat.zero_le _)).later (ba _ _))).grown hOb (by decide) hg1, hI2, own_past (bt K.out.2.2.2.1 hBB) hg1 K.out.1⟩
            case measure => simp [intOf]; omega
    · have hcond : ¬ i < vs.length ∨ (i < vs.length ∧ ¬ i < 4) := by omega
      obtain ⟨nu, hnu⟩ : ∃ n, n = us.length := ⟨_, rfl⟩
      rw [← hnu] at hO ⊢
      have K := Lib.hid (And.intro hO (And.intro hE (And.intro (show ins.length ≤ 4 by omega) (And.intro hI hb)))); clear hO hE hI hb hnu hul hil b1 b2 b3 hlt
      rcases hcond with hc1 | ⟨hc1, hc2⟩
      all_goals
        go_wp2
        go_ret
        exact ⟨_, us, ins, ⟨rfl, K.out.1, K.out.2.1, K.out.2.2.1, K.out.2.2.2.1⟩, K.out.2.2.2.2⟩
end Go.Proofs.Ytcggkbopipnnoaa
