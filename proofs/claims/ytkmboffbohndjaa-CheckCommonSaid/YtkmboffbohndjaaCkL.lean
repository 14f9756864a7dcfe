/- Layer 11: derive. -/
import Derived.Test.YtkmboffbohndjaaCkJ
namespace Go.Proofs.Ytkmboffbohndjaa
open Go.ChangeShapes Go.WideShapes Go.ChangeAt Go.RowKit Go.Maps
set_option linter.unusedVariables false
set_option linter.unusedSimpArgs false

/-- A stream that is told, and what is wrong. -/
def StmE (S : SF) (E : Int) (w : World) (e : Ending) (w' : World) : Prop :=
  ∃ (A : Option Addr) (n c : Nat), e = .returned (.tuple #[.agg #[.string S.1, .slice A n c], .int .i64 E]) ∧ Own w' w.heap.size 26 2 fldF (.slice A n c) S.2 ∧ Below w.heap.size w w'
def derS (nm : ByteArray) (o : List Fld × Int) : SF := if o.2 = 0 then (nm, o.1) else (⟨#[]⟩, [])
set_option maxRecDepth 20000 in
set_option maxHeartbeats 8000000 in
theorem derive_any (q : Qy) (pv ov sv : Value) (steps : List SF) (w : World) (hq : OtsAt w ov q.os) (hpv : ∃ A n c, pv = .slice A n c) (hs : SAt w sv steps) (hsn : steps.length ≤ 100) (hso : SlotsOk steps) (hon : q.os.length ≤ 100) (hok : ∀ o ∈ q.os, o.e.ok = true) :
    Calls Try.prog 30 #[qv q pv ov, sv] w fun e w' => StmE (derS q.nm (outsE steps q.os [])) (outsE steps q.os []).2 w e w' := by
  obtain ⟨js, sj, sy0, sy1, sy2⟩ := info_parts (P := Try.prog) (e := 26) (z := .agg #[.string ⟨#[]⟩, .int .i64 0]) (size := 2) (bytes := 24) (by kernel_rfl)
  obtain ⟨PA, pn, pc, rfl⟩ := hpv
  obtain ⟨SA, Sc, rfl, _, _⟩ := hs.shape
  obtain ⟨rx, x1, x2, x3⟩ := hq
  obtain ⟨OA, oc, rfl, _, _, _⟩ := x1.shape
  obtain ⟨n, hn⟩ : ∃ n, n = rx.length := ⟨_, rfl⟩
  obtain ⟨sn, hsnl⟩ : ∃ n, n = steps.length := ⟨_, rfl⟩
  have hnq : n = q.os.length := by rw [hn, ← x2, List.length_map]
  rw [← hn] at x1 ⊢
  rw [← hsnl] at hs ⊢
  obtain ⟨O, hO⟩ : ∃ O, O = outsE steps q.os [] := ⟨_, rfl⟩
  rw [← hO]
  obtain ⟨W1, hW1⟩ : ∃ W1, W1 = ((w.alloc (.cells #[.string q.nm, .bool q.st, .slice PA pn pc, .int .i64 q.wi, .string q.by_, .slice OA n oc] 65)).alloc (.cells #[.string ⟨#[]⟩, .slice none 0 0] 46)).alloc (.cells #[.string q.nm, .slice none 0 0] 46) := ⟨_, rfl⟩
  have b1 : Below w.heap.size w W1 := by rw [hW1]; exact bt (ba _ _) (bt (ba _ _) (ba _ _))
  have hBq : Blk W1 w.heap.size 65 #[.string q.nm, .bool q.st, .slice PA pn pc, .int .i64 q.wi, .string q.by_, .slice OA n oc] := by rw [hW1]; exact ((Blk.new w _ _).later (ba _ _)).later (ba _ _)
  have hBr : Blk W1 (w.heap.size + 1) 46 #[.string ⟨#[]⟩, .slice none 0 0] := by
    rw [hW1]
    have := (Blk.new (w.alloc (.cells #[.string q.nm, .bool q.st, .slice PA pn pc, .int .i64 q.wi, .string q.by_, .slice OA n oc] 65)) 46 #[.string ⟨#[]⟩, .slice none 0 0]).later (ba _ (.cells #[.string q.nm, .slice none 0 0] 46))
    simpa using this
  have hBg : Blk W1 (w.heap.size + 1 + 1) 46 #[.string q.nm, .slice none 0 0] := by
    rw [hW1]
    have := Blk.new ((w.alloc (.cells #[.string q.nm, .bool q.st, .slice PA pn pc, .int .i64 q.wi, .string q.by_, .slice OA n oc] 65)).alloc (.cells #[.string ⟨#[]⟩, .slice none 0 0] 46)) 46 #[.string q.nm, .slice none 0 0]
    simpa using this
  have hs1 : W1.heap.size = w.heap.size + 1 + 1 + 1 := by rw [hW1]; simp
  have H := Lib.hid (And.intro hn (And.intro hnq (And.intro x1 (And.intro x2 (And.intro x3 (And.intro hs (And.intro hsnl (And.intro hso (And.intro hok (And.intro hO (And.intro hsn hon))))))))))); clear hn hnq x1 x2 x3 hs hsnl hso hok hO hsn
  go_enter Try.func30, Try.ntmps30
  go_upto_region 2 with fail
  rw [← hW1]
  clear hW1
  obtain ⟨R, hR⟩ : ∃ R, R = w.heap.size + 1 := ⟨_, rfl⟩
  rw [← hR] at hBr hBg hs1 ⊢
  obtain ⟨G, hG⟩ : ∃ G, G = R + 1 := ⟨_, rfl⟩
  rw [← hG] at hBg hs1 ⊢
  obtain ⟨b0, hb0⟩ : ∃ b0, b0 = w.heap.size := ⟨_, rfl⟩
  rw [← hb0] at hBq ⊢
  have HG := Lib.hid (And.intro hR (And.intro hG (And.intro hs1 hb0))); clear hR hG hs1 hb0
  have K := Lib.hid (And.intro b1 (And.intro hBr hBg)); clear b1 hBr hBg
  have p0 := hBq.cell
  clear hBq
  go_wp2_with fail
  clear p0
  go_loopw [17] (fun jv wr => ∃ (j : Nat) (F : List Fld) (fv : Value), j ≤ n ∧ jv = .int .i64 (j : Int) ∧ outsE steps (q.os.drop j) F = O ∧ F.length ≤ j ∧ Below w.heap.size w wr ∧ Blk wr R 46 #[.string ⟨#[]⟩, .slice none 0 0] ∧ Blk wr G 46 #[.string q.nm, fv] ∧ Own wr (G + 1) 26 2 fldF fv F) (fun jv _ => n - (intOf jv).toNat)
  case atStart => exact ⟨0, [], _, Nat.zero_le _, rfl, H.out.2.2.2.2.2.2.2.2.2.1.symm, Nat.le_refl _, K.out.1, K.out.2.1, K.out.2.2, Own.nil _ _ _ _ _⟩
  case round =>
    rename World => wr
    clear K
    obtain ⟨j, F, fv, hj, rfl, hOE, hFl, hb, hBr, hBg, hOw⟩ := hrel
    by_cases hlt : j < n
    · have hjr : j < rx.length := by have := H.out.1; omega
      have hjq : j < q.os.length := by have := H.out.2.1; omega
      obtain ⟨a3, rfl, hcx⟩ := (H.out.2.2.1.later hb).cells rfl (by omega)
      have hT := (H.out.2.2.2.2.1 _ (List.getElem_mem hjr)).1.later hb
      have hxe : (rx[j]'hjr).1 = q.os[j]'hjq := by simp only [← H.out.2.2.2.1, List.getElem_map]
      have hokj := H.out.2.2.2.2.2.2.2.2.1 _ (List.getElem_mem hjq)
      have hfs := (H.out.2.2.2.2.1 _ (List.getElem_mem hjr)).2
      rw [List.drop_eq_getElem_cons hjq] at hOE
      rw [← hxe] at hokj hOE
      clear hxe
      obtain ⟨⟨⟨of, t⟩, tv⟩, hz⟩ : ∃ z, rx[j]'hjr = z := ⟨_, rfl⟩
      rw [hz] at hT hokj hOE hfs
      simp only at hT hokj hOE hfs
      obtain ⟨k1, o1, vk1, vn1, vs1, va1, f1, B1, m1, d1, hnode⟩ := node_ev hT
      have hval : t.val tv = ev k1 o1 vk1 vn1 vs1 va1 f1 (.slice B1 m1 d1) := by unfold Tr.val; rw [hnode]
      have y0' : wr.cell? (a3.add (j * 9)) = some (.string of) := hcx j hjr 0 _ (by rw [hz]; simp only [otF, exF, hnode]; rfl)
      have y1' : wr.cell? ⟨(a3.add (j * 9)).block, (a3.add (j * 9)).off + 1, none⟩ = some (.int .i64 k1) := by rw [addr_in _ _ _ (by omega)]; exact hcx j hjr 1 _ (by rw [hz]; simp only [otF, exF, hnode]; rfl)
      have y2' : wr.cell? ⟨(a3.add (j * 9)).block, (a3.add (j * 9)).off + 2, none⟩ = some (.string o1) := by rw [addr_in _ _ _ (by omega)]; exact hcx j hjr 2 _ (by rw [hz]; simp only [otF, exF, hnode]; rfl)
      have y3' : wr.cell? ⟨(a3.add (j * 9)).block, (a3.add (j * 9)).off + 3, none⟩ = some (.int .i64 vk1) := by rw [addr_in _ _ _ (by omega)]; exact hcx j hjr 3 _ (by rw [hz]; simp only [otF, exF, hnode]; rfl)
      have y4' : wr.cell? ⟨(a3.add (j * 9)).block, (a3.add (j * 9)).off + 4, none⟩ = some (.int .i64 vn1) := by rw [addr_in _ _ _ (by omega)]; exact hcx j hjr 4 _ (by rw [hz]; simp only [otF, exF, hnode]; rfl)
      have y5' : wr.cell? ⟨(a3.add (j * 9)).block, (a3.add (j * 9)).off + 5, none⟩ = some (.string vs1) := by rw [addr_in _ _ _ (by omega)]; exact hcx j hjr 5 _ (by rw [hz]; simp only [otF, exF, hnode]; rfl)
      have y6' : wr.cell? ⟨(a3.add (j * 9)).block, (a3.add (j * 9)).off + 6, none⟩ = some (.string va1) := by rw [addr_in _ _ _ (by omega)]; exact hcx j hjr 6 _ (by rw [hz]; simp only [otF, exF, hnode]; rfl)
      have y7' : wr.cell? ⟨(a3.add (j * 9)).block, (a3.add (j * 9)).off + 7, none⟩ = some (.string f1) := by rw [addr_in _ _ _ (by omega)]; exact hcx j hjr 7 _ (by rw [hz]; simp only [otF, exF, hnode]; rfl)
      have y8' : wr.cell? ⟨(a3.add (j * 9)).block, (a3.add (j * 9)).off + 8, none⟩ = some (.slice B1 m1 d1) := by rw [addr_in _ _ _ (by omega)]; exact hcx j hjr 8 _ (by rw [hz]; simp only [otF, exF, hnode]; rfl)
      have bB := ba wr (.cells #[.string of, .int .i64 k1, .string o1, .int .i64 vk1, .int .i64 vn1, .string vs1, .string va1, .string f1, .slice B1 m1 d1] 62)
      have cK := Kind_any t tv _ steps _ (hT.later bB) hokj (H.out.2.2.2.2.2.1.later (bt hb bB)) H.out.2.2.2.2.2.2.2.2.2.2.1 H.out.2.2.2.2.2.2.2.1
      rw [hval] at cK
      obtain ⟨⟨K1, E1⟩, hKE⟩ : ∃ u, u = kindT steps t := ⟨_, rfl⟩
      rw [← hKE] at cK
      simp only [outsE, ← hKE] at hOE
      have hBo := Blk.new wr 62 #[.string of, .int .i64 k1, .string o1, .int .i64 vk1, .int .i64 vn1, .string vs1, .string va1, .string f1, .slice B1 m1 d1]
      obtain ⟨fA, fn, fc, rfl⟩ := own_shape hOw
      have hGl := hBg.lt
      have V := Lib.hid (And.intro cK (And.intro bB (And.intro hOE (And.intro hFl (And.intro hb (And.intro hBr (And.intro hBg (And.intro hOw hBo)))))))); clear cK bB hOE hFl hb hBr hBg hOw hBo hT hokj hKE hval hnode hz hcx hfs
      by_cases hE0 : E1 = 0
      · subst hE0
        go_wp2_with (first
          | (go_at_call 8; ((with_reducible refine (V.out.1).mono ?_); rintro e w6 ⟨rfl, hb⟩; have B6 := Lib.hid (bt V.out.2.1 hb); have p1 := (V.out.2.2.2.2.2.2.1.later (bt V.out.2.1 hb)).cell; have p2 := (V.out.2.2.2.2.2.2.2.2.later hb).cell; have hGs : G < w6.heap.size := (V.out.2.2.2.2.2.2.1.later (bt V.out.2.1 hb)).lt; clear hb))
          | (at_builtin; go_loud (refine wpList_append_loc _ rfl (.tmp 33) (.tmp 38) 27 rfl (G + 1) 26 js (.agg #[.string ⟨#[]⟩, .int .i64 0]) 2 24 Try.underlying27 sj sy0 sy1 sy2 rfl (by decide) (f := fldF) (fun _ => rfl) fldF_one (.slice fA fn fc) F rfl (V.out.2.2.2.2.2.2.2.1.later (bt B6.out (ba _ _))) (some ⟨w6.heap.size, 0, none⟩) 1 1 [(of, K1)] rfl rfl (at_newF w6 (of, K1)) (by unfold maxLen; have := V.out.2.2.2.1; omega) (by have := V.out.2.2.2.1; omega) (by simp only [World.size_alloc]; omega) ?_; intro v7 w7 hO7 hg7 hl7; obtain ⟨nA, nn, nc, rfl⟩ := own_shape hO7; have x1' := (V.out.2.2.2.2.2.2.1.later (bt B6.out (ba w6 (.cells (fldF (of, K1)).toArray 26)))).grown hg7 (fun e => by have := (ownBI V.out.2.2.2.2.2.2.2.1 e.symm).1; omega); have z1 := x1'.cell; have z2 := x1'.frozen; have z3 := x1'.lt; have Y := Lib.hid (And.intro hO7 (And.intro hg7 x1')); clear hO7 hg7 hl7 x1')))
        have b7 : Below wr.heap.size wr (w6.alloc (.cells (fldF (of, K1)).toArray 26)) := bt B6.out (ba _ _)
        have hRG : R < G := by have := HG.out.2.1; omega
        have c7 : Below w.heap.size w w7 := (bt V.out.2.2.2.2.1 b7).trans (grownBy_below Y.out.2.1 (Nat.le_trans V.out.2.2.2.2.1.size b7.size) (fun x hx => by have := (ownBI V.out.2.2.2.2.2.2.2.1 hx).1; have := HG.out.1; omega))
        have hR7 := (V.out.2.2.2.2.2.1.later b7).grown Y.out.2.1 (fun e => by have := (ownBI V.out.2.2.2.2.2.2.2.1 e.symm).1; omega)
        go_roundw
        case rel =>
          refine ⟨j + 1, F ++ [(of, K1)], .slice nA nn nc, by omega, by go_num, ?_, by rw [List.length_append]; have := V.out.2.2.2.1; simp; omega, c7.setCell (p := ⟨G, 1, none⟩) (by have := HG.out; show w.heap.size ≤ G; omega) _, hR7.grown (gb_setC (g := G) w7 1 _) (fun e => by have := Option.some.inj e; omega), ?_, Y.out.1.far (p := ⟨G, 1, none⟩) (Nat.lt_succ_self _) _⟩
          · rw [← V.out.2.2.1]; simp
          · have := Y.out.2.2.set_ 1 (.slice nA nn nc)
            simpa using this
        case measure => simp [intOf]; omega
      · have hkf : (E1 == 0) = false := by simpa using hE0
        have hO2 : O = ([], E1) := by rw [← V.out.2.2.1]; simp [hE0]
        have HO2 := Lib.hid hO2; clear hO2
        go_wp2_with (go_at_call 8; ((with_reducible refine (V.out.1).mono ?_); rintro e w6 ⟨rfl, hb⟩; have hR6 := V.out.2.2.2.2.2.1.later (bt V.out.2.1 hb); have r1 := hR6.cell; have r2 := hR6.frozen; have r3 := hR6.lt; have B6 := Lib.hid (bt V.out.2.1 hb); clear hb hR6))
        exact bodyPost_ret (v := .tuple #[.agg #[.string ⟨#[]⟩, .slice none 0 0], .int .i64 E1]) (by simp [results, Try.results30, go_sem, r1, r2, r3]) rfl ⟨none, 0, 0, by rw [HO2.out]; simp [derS, hE0], by rw [HO2.out]; simp only [derS, if_neg hE0]; exact Own.nil _ _ _ _ _, ((bt V.out.2.2.2.2.1 B6.out).setCell (p := ⟨R, 0, none⟩) (by have := HG.out.1; show w.heap.size ≤ R; omega) _).setCell (p := ⟨R, 1, none⟩) (by have := HG.out.1; show w.heap.size ≤ R; omega) _⟩
    · have hjn : n = j := by omega
      subst hjn
      have hO2 : O = (F, 0) := by
        rw [← hOE, List.drop_eq_nil_of_le (by have := H.out.2.1; omega)]; rfl
      obtain ⟨fA, fn, fc, rfl⟩ := own_shape hOw
      have HO2 := Lib.hid hO2; clear hO2 hOE
      have p0 := hBg.cell
      have r1 := hBr.cell
      have r2 := hBr.frozen
      have r3 := hBr.lt
      have hAF := own_down' ((hOw.far (p := ⟨R, 0, none⟩) (by have := HG.out.2.1; show R < G + 1; omega) (.string q.nm)).far (p := ⟨R, 1, none⟩) (by have := HG.out.2.1; show R < G + 1; omega) (.slice fA fn fc)) (show w.heap.size ≤ G + 1 by have := HG.out; omega)
      have HA := Lib.hid (And.intro hAF hb); clear hAF hb hOw hBr hBg
      go_wp2_with fail
      exact bodyPost_ret (v := .tuple #[.agg #[.string q.nm, .slice fA fn fc], .int .i64 0]) (by simp [results, Try.results30, go_sem, r1, r2, r3]) rfl ⟨fA, fn, fc, by rw [HO2.out]; simp [derS], by rw [HO2.out]; simp only [derS]; exact HA.out.1, (HA.out.2.setCell (p := ⟨R, 0, none⟩) (by have := HG.out.1; show w.heap.size ≤ R; omega) _).setCell (p := ⟨R, 1, none⟩) (by have := HG.out.1; show w.heap.size ≤ R; omega) _⟩
end Go.Proofs.Ytkmboffbohndjaa
