/- Words of texts: the reference's one. -/
import Derived.Test.YtoaallhibgbokaaDoorLtC
import Derived.Test.YtoaallhibgbokaaDoorLtD
import Derived.Test.YtoaallhibgbokaaDoorLtE
namespace Go.Proofs.YtoaallhibgbokaaDoor
open Go.ChangeShapes Go.WideShapes Go.ChangeAt Go.RowKit
set_option linter.unusedVariables false
set_option linter.unusedSimpArgs false

theorem Blk.put4 {w : World} {g : Nat} {t : TypeId} {a b c d : Value} (h : Blk w g t #[a, b, c, d]) (x y z u : Value) : Blk ((((w.setCell ⟨g, 0, none⟩ x).setCell ⟨g, 1, none⟩ y).setCell ⟨g, 2, none⟩ z).setCell ⟨g, 3, none⟩ u) g t #[x, y, z, u] :=
  (((h.set_ 0 x).set_ 1 y).set_ 2 z).set_ 3 u
set_option maxRecDepth 20000 in
set_option maxHeartbeats 4000000 in
theorem Rone_any (s : ByteArray) (w : World) (hs : s.size ≤ 4000000000) (h0 : 0 < s.size) :
    Calls Tryd.prog 21 #[.string s] w (RqP (firstT s.data.toList) w) := by
  obtain ⟨c, r, hcr⟩ : ∃ c r, s.data.toList = c :: r := by
    cases hd : s.data.toList with
    | nil => have : s.data.toList.length = s.size := by simp
             rw [hd] at this; simp at this; omega
    | cons c r => exact ⟨c, r, rfl⟩
  have hc0 : s[0]'h0 = c := by
    have : s.data.toList[0]? = some c := by rw [hcr]; rfl
    rw [List.getElem?_eq_getElem (by simpa using h0)] at this
    exact Option.some.inj this
  have cL := fun w => Rletter_any c w
  have cD := fun w => Rdigit_any c w
  have hm : s.size ≤ 9223372036854775807 := by omega
  have hB := Blk.new w 49 (tokC 0 ⟨#[]⟩ 0 0)
  have hF : firstT s.data.toList = if isLt c then wordT s.data.toList else if isDg c then numberT s.data.toList else if c = 39 then quoteT s.data.toList else signTk s.data.toList := by rw [hcr, firstT_cons]
  have hpos : ∀ k t n z, firstT s.data.toList = some (k, t, n, z) → 0 < z := fun k t n z h => (firstT_raw h 0).2.1
  have fin : ∀ (k : Int) (t : Bs) (n : Int) (ok : Bool) (W : World), (ok = false ∧ firstT s.data.toList = none) ∨ (ok = true ∧ firstT s.data.toList = some (k, t, n, t.length)) → Below w.heap.size w W → RqP (firstT s.data.toList) w (.returned (.tuple #[tokV k (mk t) n 0, .int .i64 (t.length : Int), .bool ok])) W := fun k t n ok W h hW => by
    refine ⟨k, t, n, t.length, ok, ⟨rfl, ?_⟩, hW⟩
    rcases h with h | ⟨h, h1⟩
    · exact Or.inl h
    · exact Or.inr ⟨h, h1, hpos _ _ _ _ h1⟩
  by_cases h1 : isLt c = true
  · rw [if_pos h1] at hF
    have cW := fun w => Rname_any s w c r hs hcr h1
    rw [h1] at cL
    rw [← hF] at cW
    have H := Lib.hid (And.intro cL (And.intro cW (And.intro hB (And.intro fin cD)))); clear cL cW hB cD hF h1 hcr hpos fin
    go_enter Tryd.func21, Tryd.ntmps21
    go_wp2_with (first
      | (go_at_call 29; ((with_reducible refine (H.out.1 _).mono ?_); rintro e w1 ⟨rfl, rfl⟩))
      | (go_at_call 31; ((with_reducible refine (H.out.2.2.2.2 _).mono ?_); rintro e w1 ⟨rfl, rfl⟩)))
    go_at_call 30
    refine (H.out.2.1 _).mono ?_
    rintro e w1 ⟨k, t, n, ok, ⟨rfl, htl, hz⟩, b1⟩
    have htz := mk_size t
    have fin := fun W h => H.out.2.2.2.1 k t n ok W hz h
    clear hz
    obtain ⟨tl, htl'⟩ : ∃ tl, t.length = tl := ⟨_, rfl⟩
    obtain ⟨tb, htb⟩ : ∃ tb, mk t = tb := ⟨_, rfl⟩
    rw [htl'] at htl htz fin
    rw [htb] at htz fin ⊢
    have htm : tl ≤ 9223372036854775807 := by omega
    have B1 := H.out.2.2.1.later b1
    have hlt0 := B1.lt
    have hne : ¬ w.heap.size = w1.heap.size := by omega
    have hne' : ¬ w1.heap.size = w.heap.size := by omega
    have hf1 := B1.frozen
    obtain ⟨y0, y1, y2, y3⟩ := Blk.four B1
    obtain ⟨z0, z1, z2, z3⟩ := Blk.four (Blk.new w1 49 (tokC k tb n 0))
    have bB := bt (ba w (.cells (tokC 0 ⟨#[]⟩ 0 0) 49)) b1
    obtain ⟨v0, v1, v2, v3⟩ := Blk.four ((Blk.put4 B1 (.int .i64 k) (.string tb) (.int .i64 n) (.int .i64 0)).alloc (.cells (tokC k tb n 0) 49))
    have V := Lib.hid (And.intro v0 (And.intro v1 (And.intro v2 v3))); clear v0 v1 v2 v3
    have F := Lib.hid (And.intro fin bB); clear fin bB B1 b1 htb htl'
    go_wp2
    go_region
    all_goals
      go_wp2
      exact bodyPost_ret (v := .tuple #[tokV k tb n 0, .int .i64 (tl : Int), .bool ok]) (by simp only [results, Tryd.results21]; simp [go_sem, Act.put, V.out.1, V.out.2.1, V.out.2.2.1, V.out.2.2.2]) rfl (F.out.1 _ (below_drew (bt (below_put4 F.out.2 (Nat.le_refl _) _ _ _ _) (ba _ _))))
  · have h1' : isLt c = false := by simpa using h1
    rw [if_neg h1] at hF
    rw [h1'] at cL
    by_cases h2 : isDg c = true
    · rw [if_pos h2] at hF
      have cW := fun w => Rnumber_any s w c r hs hcr h2
      rw [h2] at cD
      rw [← hF] at cW
      have H := Lib.hid (And.intro cL (And.intro cW (And.intro hB (And.intro fin cD)))); clear cL cW hB cD hF h1 h1' h2 hcr hpos fin
      go_enter Tryd.func21, Tryd.ntmps21
      go_wp2_with (first
        | (go_at_call 29; ((with_reducible refine (H.out.1 _).mono ?_); rintro e w1 ⟨rfl, rfl⟩))
        | (go_at_call 31; ((with_reducible refine (H.out.2.2.2.2 _).mono ?_); rintro e w1 ⟨rfl, rfl⟩)))
      go_at_call 32
      refine (H.out.2.1 _).mono ?_
      rintro e w1 ⟨k, t, n, ok, ⟨rfl, htl, hz⟩, b1⟩
      have htz := mk_size t
      have fin := fun W h => H.out.2.2.2.1 k t n ok W hz h
      clear hz
      obtain ⟨tl, htl'⟩ : ∃ tl, t.length = tl := ⟨_, rfl⟩
      obtain ⟨tb, htb⟩ : ∃ tb, mk t = tb := ⟨_, rfl⟩
      rw [htl'] at htl htz fin
      rw [htb] at htz fin ⊢
      have htm : tl ≤ 9223372036854775807 := by omega
      have B1 := H.out.2.2.1.later b1
      have hlt0 := B1.lt
      have hne : ¬ w.heap.size = w1.heap.size := by omega
      have hne' : ¬ w1.heap.size = w.heap.size := by omega
      have hf1 := B1.frozen
      obtain ⟨y0, y1, y2, y3⟩ := Blk.four B1
      obtain ⟨z0, z1, z2, z3⟩ := Blk.four (Blk.new w1 49 (tokC k tb n 0))
      have bB := bt (ba w (.cells (tokC 0 ⟨#[]⟩ 0 0) 49)) b1
      obtain ⟨v0, v1, v2, v3⟩ := Blk.four ((Blk.put4 B1 (.int .i64 k) (.string tb) (.int .i64 n) (.int .i64 0)).alloc (.cells (tokC k tb n 0) 49))
      have V := Lib.hid (And.intro v0 (And.intro v1 (And.intro v2 v3))); clear v0 v1 v2 v3
      have F := Lib.hid (And.intro fin bB); clear fin bB B1 b1 htb htl'
      go_wp2
      go_region
      all_goals
        go_wp2
        exact bodyPost_ret (v := .tuple #[tokV k tb n 0, .int .i64 (tl : Int), .bool ok]) (by simp only [results, Tryd.results21]; simp [go_sem, Act.put, V.out.1, V.out.2.1, V.out.2.2.1, V.out.2.2.2]) rfl (F.out.1 _ (below_drew (bt (below_put4 F.out.2 (Nat.le_refl _) _ _ _ _) (ba _ _))))
    · have h2' : isDg c = false := by simpa using h2
      rw [if_neg h2] at hF
      rw [h2'] at cD
      have hc39 : (c = 39) ↔ ((c.toNat : Int) = 39) := by
        rw [show (39 : UInt8) = UInt8.ofNat 39 from rfl, byte_eq _ _ (by decide)]; omega
      by_cases h3 : c = 39
      · have h3' := hc39.1 h3
        rw [if_pos h3] at hF
        have cW := fun w => Rquote_any s w r hs (by rw [hcr, h3])
        rw [← hF] at cW
        rw [h3'] at cL cD
        have H := Lib.hid (And.intro cL (And.intro cW (And.intro hB (And.intro fin cD)))); clear cL cW hB cD hF h1 h1' h2 h2' hcr h3 hc39 fin hpos
        go_enter Tryd.func21, Tryd.ntmps21
        go_wp2_with (first
          | (go_at_call 29; ((with_reducible refine (H.out.1 _).mono ?_); rintro e w1 ⟨rfl, rfl⟩))
          | (go_at_call 31; ((with_reducible refine (H.out.2.2.2.2 _).mono ?_); rintro e w1 ⟨rfl, rfl⟩))
          | (go_at_call 33; ((with_reducible refine (H.out.2.1 _).mono ?_); rintro e w1 ⟨k, t, n, z, ok, ⟨rfl, hz⟩, b1⟩; have B1 := H.out.2.2.1.later b1; have hlt1 := B1.lt; have hf1 := B1.frozen; obtain ⟨y0, y1, y2, y3⟩ := Blk.four B1)))
        exact bodyPost_ret (v := .tuple #[tokV k (mk t) n 0, .int .i64 (z : Int), .bool ok]) (by simp only [results, Tryd.results21]; simp [go_sem, Act.put, y0, y1, y2, y3]) rfl ⟨k, t, n, z, ok, ⟨rfl, hz⟩, below_put4 (bt (ba w _) b1) (Nat.le_refl _) _ _ _ _⟩
      · have h3' : ¬ (c.toNat : Int) = 39 := fun e => h3 (hc39.2 e)
        have h3'' : ¬ c.toNat = 39 := by omega
        have h3d : ((c.toNat : Int) == 39) = false := beq_eq_false_iff_ne.2 h3'
        rw [if_neg h3] at hF
        have cW := fun w => Rsign_any s w hs
        rw [← hF] at cW
        have H := Lib.hid (And.intro cL (And.intro cW (And.intro hB (And.intro fin cD)))); clear cL cW hB cD hF h1 h1' h2 h2' hcr h3 hc39 fin hpos
        go_enter Tryd.func21, Tryd.ntmps21
        go_wp2_with (first
          | (go_at_call 29; ((with_reducible refine (H.out.1 _).mono ?_); rintro e w1 ⟨rfl, rfl⟩))
          | (go_at_call 31; ((with_reducible refine (H.out.2.2.2.2 _).mono ?_); rintro e w1 ⟨rfl, rfl⟩)))
        go_at_call 34
        refine (H.out.2.1 _).mono ?_
        rintro e w1 ⟨k, t, n, ok, ⟨rfl, htl, hz⟩, b1⟩
        have htz := mk_size t
        have fin := fun W h => H.out.2.2.2.1 k t n ok W hz h
        clear hz
        obtain ⟨tl, htl'⟩ : ∃ tl, t.length = tl := ⟨_, rfl⟩
        obtain ⟨tb, htb⟩ : ∃ tb, mk t = tb := ⟨_, rfl⟩
        rw [htl'] at htl htz fin
        rw [htb] at htz fin ⊢
        have htm : tl ≤ 9223372036854775807 := by omega
        have B1 := H.out.2.2.1.later b1
        have hlt0 := B1.lt
        have hne : ¬ w.heap.size = w1.heap.size := by omega
        have hne' : ¬ w1.heap.size = w.heap.size := by omega
        have hf1 := B1.frozen
        obtain ⟨y0, y1, y2, y3⟩ := Blk.four B1
        obtain ⟨z0, z1, z2, z3⟩ := Blk.four (Blk.new w1 49 (tokC k tb n 0))
        have bB := bt (ba w (.cells (tokC 0 ⟨#[]⟩ 0 0) 49)) b1
        obtain ⟨v0, v1, v2, v3⟩ := Blk.four ((Blk.put4 B1 (.int .i64 k) (.string tb) (.int .i64 n) (.int .i64 0)).alloc (.cells (tokC k tb n 0) 49))
        have V := Lib.hid (And.intro v0 (And.intro v1 (And.intro v2 v3))); clear v0 v1 v2 v3
        have F := Lib.hid (And.intro fin bB); clear fin bB B1 b1 htb htl'
        go_wp2
        go_region
        all_goals
          go_wp2
          exact bodyPost_ret (v := .tuple #[tokV k tb n 0, .int .i64 (tl : Int), .bool ok]) (by simp only [results, Tryd.results21]; simp [go_sem, Act.put, V.out.1, V.out.2.1, V.out.2.2.1, V.out.2.2.2]) rfl (F.out.1 _ (below_drew (bt (below_put4 F.out.2 (Nat.le_refl _) _ _ _ _) (ba _ _))))
end Go.Proofs.YtoaallhibgbokaaDoor
