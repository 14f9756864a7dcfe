/- Layer 11: an event by bytes. -/
import Derived.Test.YtkmboffbohndjaaCkO
namespace Go.Proofs.Ytkmboffbohndjaa
open Go.ChangeShapes Go.WideShapes Go.ChangeAt Go.RowKit Go.Maps
set_option linter.unusedVariables false
set_option linter.unusedSimpArgs false

/-- A value as a field of that kind has it, made by a byte. -/
def fitV (k : Int) (x : VL) : Prop :=
  (k = 1 ∧ x.1 = 1 ∧ -100 ≤ x.2.1 ∧ x.2.1 ≤ 155 ∧ x.2.2 = ⟨#[]⟩) ∨ (k = 2 ∧ x.1 = 2 ∧ 0 ≤ x.2.1 ∧ x.2.1 ≤ 1 ∧ x.2.2 = ⟨#[]⟩) ∨ (¬ k = 1 ∧ ¬ k = 2 ∧ x.1 = 3 ∧ x.2.1 = 0 ∧ x.2.2.size ≤ 2)
def fitsV (F : List Fld) (V : List VL) : Prop := V.length ≤ F.length ∧ ∀ i (h : i < F.length) (h' : i < V.length), fitV (F[i]'h).2 (V[i]'h')
theorem fitsV_snoc {F : List Fld} {V : List VL} {x : VL} (h : fitsV F V) (hj : V.length < F.length) (hx : fitV (F[V.length]'hj).2 x) : fitsV F (V ++ [x]) := by
  refine ⟨by rw [List.length_append]; exact hj, fun i hi hi' => ?_⟩
  rw [List.length_append] at hi'
  rcases (by simp at hi'; omega : i < V.length ∨ i = V.length) with h1 | rfl
  · rw [List.getElem_append_left h1]; exact h.2 i hi h1
  · rw [List.getElem_append_right (Nat.le_refl _)]; simpa using hx
set_option maxRecDepth 20000 in
set_option maxHeartbeats 8000000 in
theorem one_any (nm : ByteArray) (fv lv : Value) (F : List Fld) (l : List UInt8) (a : Nat) (w : World) (hF : At w 2 fldF fv F) (hl : BytesAt w lv l) (hl' : l.length ≤ 140737488351232) (hn : F.length ≤ 100) (ha : a ≤ 1000) :
    Calls Try.prog 15 #[.agg #[.string nm, fv], lv, .int .i64 (a : Int)] w fun e w' => ∃ (V : List VL) (rv : Value), (e = .returned (.agg #[.int .i64 (a : Int), rv]) ∧ V.length = F.length ∧ fitsV F V ∧ Own w' w.heap.size 35 3 vlF rv V) ∧ Below w.heap.size w w' := by
  obtain ⟨js, sj, sy0, sy1, sy2⟩ := info_parts (P := Try.prog) (e := 35) (z := .agg #[.int .i64 0, .int .i64 0, .string ⟨#[]⟩]) (size := 3) (bytes := 32) (by kernel_rfl)
  obtain ⟨fA, fc, rfl, f1, f2, _⟩ := hF.shape
  obtain ⟨lA, lc, rfl⟩ := bytes_slice hl
  have hb := bytes_at hl
  obtain ⟨m, hml⟩ : ∃ m, m = l.length := ⟨_, rfl⟩
  obtain ⟨k, hkl⟩ : ∃ k, k = F.length := ⟨_, rfl⟩
  rw [← hkl] at hF ⊢
  rw [← hml] at hb ⊢
  obtain ⟨W1, hW1⟩ : ∃ W1, W1 = ((w.alloc (.cells #[.string nm, .slice fA k fc] 46)).alloc (.cells #[.int .i64 0, .slice none 0 0] 53)).alloc (.cells #[.int .i64 (a : Int), .slice none 0 0] 53) := ⟨_, rfl⟩
  have b1 : Below w.heap.size w W1 := by rw [hW1]; exact bt (ba _ _) (bt (ba _ _) (ba _ _))
  have hB0 : Blk W1 w.heap.size 46 #[.string nm, .slice fA k fc] := by rw [hW1]; exact ((Blk.new w _ _).later (ba _ _)).later (ba _ _)
  have hB1 : Blk W1 (w.heap.size + 1) 53 #[.int .i64 0, .slice none 0 0] := by
    rw [hW1]
    have := (Blk.new (w.alloc (.cells #[.string nm, .slice fA k fc] 46)) 53 #[.int .i64 0, .slice none 0 0]).later (ba _ (.cells #[.int .i64 (a : Int), .slice none 0 0] 53))
    simpa using this
  have hB2 : Blk W1 (w.heap.size + 1 + 1) 53 #[.int .i64 (a : Int), .slice none 0 0] := by
    rw [hW1]
    have := Blk.new ((w.alloc (.cells #[.string nm, .slice fA k fc] 46)).alloc (.cells #[.int .i64 0, .slice none 0 0] 53)) 53 #[.int .i64 (a : Int), .slice none 0 0]
    simpa using this
  have hs1 : W1.heap.size = w.heap.size + 1 + 1 + 1 := by rw [hW1]; simp
  have H := Lib.hid (And.intro hml (And.intro hkl (And.intro hF (And.intro hb (And.intro b1 (And.intro hB0 (And.intro hB1 (And.intro hs1 hn)))))))); clear hml hkl hF hb b1 hB0 hB1 hs1 f1 f2 hl
  go_enter Try.func15, Try.ntmps15
  go_upto_region 2 with fail
  rw [← hW1]
  clear hW1
  obtain ⟨R, hR⟩ : ∃ R, R = w.heap.size + 1 := ⟨_, rfl⟩
  rw [← hR] at hB2 ⊢
  obtain ⟨G, hG⟩ : ∃ G, G = R + 1 := ⟨_, rfl⟩
  rw [← hG] at hB2 ⊢
  have HG := Lib.hid (And.intro hR hG); clear hR hG
  have K := Lib.hid hB2; clear hB2
  go_wp2_with fail
  go_loopw [8] (fun jv wr => ∃ (j : Nat) (V : List VL) (vv : Value), j ≤ k ∧ jv = .int .i64 (j : Int) ∧ V.length = j ∧ fitsV F V ∧ Below G W1 wr ∧ Blk wr G 53 #[.int .i64 (a : Int), vv] ∧ Own wr (G + 1) 35 3 vlF vv V) (fun jv _ => k - (intOf jv).toNat)
  case atStart => exact ⟨0, [], _, Nat.zero_le _, rfl, rfl, ⟨Nat.zero_le _, fun i h h' => by simp at h'⟩, Below.refl _ _, K.out, Own.nil _ _ _ _ _⟩
  case round =>
    rename World => wr
    clear K
    obtain ⟨j, V, vv, hj, rfl, hVl, hfit, hb, hG, hO⟩ := hrel
    obtain ⟨vA, vn, vc, rfl⟩ := own_shape hO
    have hbw : Below w.heap.size w wr := H.out.2.2.2.2.1.trans (hb.mono (by have := HG.out; omega))
    have hS : Blk wr w.heap.size 46 #[.string nm, .slice fA k fc] := (hb.block w.heap.size (by have := HG.out; omega)).trans H.out.2.2.2.2.2.1
    have p0 := hS.cell
    by_cases hlt : j < k
    · have hjF : j < F.length := by have := H.out.2.1; omega
      obtain ⟨a1, rfl, hcf⟩ := (H.out.2.2.1.later hbw).cells rfl (by omega)
      obtain ⟨y0, y1⟩ := hcf.row2 j hjF rfl
      have hsn : ∀ x : VL, fitV (F[j]'hjF).2 x → fitsV F (V ++ [x]) := fun x hx => fitsV_snoc hfit (by omega) (by simp only [hVl]; exact hx)
      change wr.cell? ⟨(a1.add (j * 2)).block, (a1.add (j * 2)).off + 1, none⟩ = some (.int .i64 (F[j]'hjF).2) at y1
      generalize (F[j]'hjF).2 = kd at *
      have C := Lib.hid (And.intro hVl (And.intro hsn (And.intro hb (And.intro hG (And.intro hO (And.intro hbw hS)))))); clear hVl hsn hb hO hbw hS hcf y0 hfit
      have q0 := hG.cell
      go_upto_if 24 with fail
      go_cut [9] from 12 to 68 (fun bv wx => ∃ b : Nat, b ≤ 255 ∧ bv = .int .i64 (b : Int) ∧ wr = wx)
      case first =>
        by_cases hal : a + j < m
        · have hal' : a + j < l.length := by have := H.out.1; omega
          obtain ⟨a2, rfl, hcl⟩ := (H.out.2.2.2.1.later C.out.2.2.2.2.2.1).cells rfl (by omega)
          have x0 := hcl.row1 (a + j) hal' rfl
          rw [Nat.mul_one] at x0
          have hub := (l[a + j]'hal').toNat_lt
          generalize (l[a + j]'hal').toNat = b at *
          have d1 : (a : Int) + (j : Int) < (m : Int) := by omega
          clear hcl
          go_wp2_with fail
          go_meet
          exact ⟨b, by omega, rfl, rfl⟩
        · have d1 : ¬ (a : Int) + (j : Int) < (m : Int) := by omega
          go_wp2_with fail
          go_meet
          exact ⟨0, by omega, rfl, rfl⟩
      case rest =>
        rename World => wx
        obtain ⟨b, hb255, rfl, rfl⟩ := hcut
        by_cases hk1 : kd = 1
        · subst hk1
          go_wp2_with (at_builtin; go_loud (refine wpList_append_loc _ rfl (.tmp 52) (.tmp 56) 51 rfl (G + 1) 35 js (.agg #[.int .i64 0, .int .i64 0, .string ⟨#[]⟩]) 3 32 Try.underlying51 sj sy0 sy1 sy2 rfl (by decide) (f := vlF) (fun _ => rfl) vlF_one (.slice vA vn vc) V rfl (C.out.2.2.2.2.1.later (ba _ _)) (some ⟨wr.heap.size, 0, none⟩) 1 1 [(1, (b : Int) - 100, ⟨#[]⟩)] rfl rfl (at_newV wr (1, (b : Int) - 100, ⟨#[]⟩)) (by have := C.out.1; have := H.out.2.2.2.2.2.2.2.2; have := H.out.2.1; unfold maxLen; omega) (by have := C.out.1; have := H.out.2.2.2.2.2.2.2.2; have := H.out.2.1; omega) (Nat.le_trans C.out.2.2.2.1.lt (ba _ _).size) ?_; intro v7 w7 hO7 hg7 hl7; obtain ⟨nA, nn, nc, rfl⟩ := own_shape hO7; have x1 : Blk w7 G 53 #[.int .i64 (a : Int), .slice vA vn vc] := Blk.grown (C.out.2.2.2.1.later (ba wr (.cells (vlF (1, (b : Int) - 100, ⟨#[]⟩)).toArray 35))) hg7 (fun e => by have := (ownBI C.out.2.2.2.2.1 e.symm).1; omega); have z1 := x1.cell; have z2 := x1.frozen; have z3 := x1.lt; have b7 : Below G wr w7 := ((ba wr (.cells (vlF (1, (b : Int) - 100, ⟨#[]⟩)).toArray 35)).mono (Nat.le_of_lt C.out.2.2.2.1.lt)).trans (grownBy_below hg7 (Nat.le_trans (Nat.le_of_lt C.out.2.2.2.1.lt) (ba wr (.cells (vlF (1, (b : Int) - 100, ⟨#[]⟩)).toArray 35)).size) (fun x hx => by have := (ownBI C.out.2.2.2.2.1 hx).1; omega)); have Y := Lib.hid (And.intro hO7 (And.intro x1 b7)); clear hO7 hg7 hl7 x1 b7))
          go_roundw
          case rel =>
            refine ⟨j + 1, V ++ [(1, (b : Int) - 100, ⟨#[]⟩)], .slice nA nn nc, by omega, by go_num, by rw [List.length_append]; have := C.out.1; simp; omega, C.out.2.1 _ (Or.inl ⟨rfl, rfl, by simp only; omega, by simp only; omega, rfl⟩), (C.out.2.2.1.trans Y.out.2.2).setCell (p := ⟨G, 1, none⟩) (Nat.le_refl G) _, ?_, Y.out.1.far (p := ⟨G, 1, none⟩) (Nat.lt_succ_self _) _⟩
            have := Y.out.2.1.set_ 1 (.slice nA nn nc)
            simpa using this
          case measure => simp [intOf]; omega
        have e1 : (kd == 1) = false := by simpa using hk1
        by_cases hk2 : kd = 2
        · subst hk2
          go_wp2_with (at_builtin; go_loud (refine wpList_append_loc _ rfl (.tmp 62) (.tmp 66) 51 rfl (G + 1) 35 js (.agg #[.int .i64 0, .int .i64 0, .string ⟨#[]⟩]) 3 32 Try.underlying51 sj sy0 sy1 sy2 rfl (by decide) (f := vlF) (fun _ => rfl) vlF_one (.slice vA vn vc) V rfl (C.out.2.2.2.2.1.later (ba _ _)) (some ⟨wr.heap.size, 0, none⟩) 1 1 [(2, (b : Int) % 2, ⟨#[]⟩)] rfl rfl (at_newV wr (2, (b : Int) % 2, ⟨#[]⟩)) (by have := C.out.1; have := H.out.2.2.2.2.2.2.2.2; have := H.out.2.1; unfold maxLen; omega) (by have := C.out.1; have := H.out.2.2.2.2.2.2.2.2; have := H.out.2.1; omega) (Nat.le_trans C.out.2.2.2.1.lt (ba _ _).size) ?_; intro v7 w7 hO7 hg7 hl7; obtain ⟨nA, nn, nc, rfl⟩ := own_shape hO7; have x1 : Blk w7 G 53 #[.int .i64 (a : Int), .slice vA vn vc] := Blk.grown (C.out.2.2.2.1.later (ba wr (.cells (vlF (2, (b : Int) % 2, ⟨#[]⟩)).toArray 35))) hg7 (fun e => by have := (ownBI C.out.2.2.2.2.1 e.symm).1; omega); have z1 := x1.cell; have z2 := x1.frozen; have z3 := x1.lt; have b7 : Below G wr w7 := ((ba wr (.cells (vlF (2, (b : Int) % 2, ⟨#[]⟩)).toArray 35)).mono (Nat.le_of_lt C.out.2.2.2.1.lt)).trans (grownBy_below hg7 (Nat.le_trans (Nat.le_of_lt C.out.2.2.2.1.lt) (ba wr (.cells (vlF (2, (b : Int) % 2, ⟨#[]⟩)).toArray 35)).size) (fun x hx => by have := (ownBI C.out.2.2.2.2.1 hx).1; omega)); have Y := Lib.hid (And.intro hO7 (And.intro x1 b7)); clear hO7 hg7 hl7 x1 b7))
          go_roundw
          case rel =>
            refine ⟨j + 1, V ++ [(2, (b : Int) % 2, ⟨#[]⟩)], .slice nA nn nc, by omega, by go_num, by rw [List.length_append]; have := C.out.1; simp; omega, C.out.2.1 _ (Or.inr (Or.inl ⟨rfl, rfl, by simp only; omega, by simp only; omega, rfl⟩)), (C.out.2.2.1.trans Y.out.2.2).setCell (p := ⟨G, 1, none⟩) (Nat.le_refl G) _, ?_, Y.out.1.far (p := ⟨G, 1, none⟩) (Nat.lt_succ_self _) _⟩
            have := Y.out.2.1.set_ 1 (.slice nA nn nc)
            simpa using this
          case measure => simp [intOf]; omega
        have e2 : (kd == 2) = false := by simpa using hk2
        have hq : b % 4 = b % 4 := rfl
        go_upto_region 9 with fail
        refine wp_of_eq (c' := (Try.f15.body.bind (regionN 9)).getD .skip) ?_ (by kernel_rfl)
        refine one9 _ _ _ _ _ _ _ _ _ _ _ _ _ _ _ _ _ _ _ _ _ _ _ _ _ _ _ _ _ _ _ _ _ _ _ _ _ _ _ _ _ _ _ _ _ _ _ _ _ _ _ _ _ _ _ _ _ _ _ _ _ _ _ _ _ _ _ _ (b := b) (q := b % 4) C.out.2.2.2.1 C.out.2.2.2.2.1 (by have := C.out.1; have := H.out.2.2.2.2.2.2.2.2; have := H.out.2.1; omega) rfl (fun _ _ _ _ _ _ _ _ _ _ _ v wx hR => ?_)
        obtain ⟨r1, r2, r3⟩ := hR
        obtain ⟨nA, nn, nc, rfl⟩ := own_shape r2
        have z1 := r1.cell
        have Y := Lib.hid (And.intro r1 (And.intro r2 r3)); clear r1 r2 r3
        go_wp2_with fail
        go_roundw
        case rel => exact ⟨j + 1, V ++ [(3, 0, four (b % 4))], .slice nA nn nc, by omega, by go_num, by rw [List.length_append]; have := C.out.1; simp; omega, C.out.2.1 _ (Or.inr (Or.inr ⟨hk1, hk2, rfl, rfl, four_size _⟩)), C.out.2.2.1.trans Y.out.2.2, Y.out.1, Y.out.2.1⟩
        case measure => simp [intOf]; omega
    · obtain rfl : k = j := by omega
      have q0 := hG.cell
      have hR : Blk wr R 53 #[.int .i64 0, .slice none 0 0] := by
        have h1 : Blk W1 R 53 #[.int .i64 0, .slice none 0 0] := by rw [HG.out.1]; exact H.out.2.2.2.2.2.2.1
        exact (hb.block R (by have := HG.out; omega)).trans h1
      have r1 := hR.cell
      have r2 := hR.frozen
      have r3 := hR.lt
      have hRG : R < G + 1 := by have := HG.out; omega
      have Y := Lib.hid (And.intro (own_down' ((hO.far (p := ⟨R, 0, none⟩) hRG (.int .i64 (a : Int))).far (p := ⟨R, 1, none⟩) hRG (.slice vA vn vc)) (show w.heap.size ≤ G + 1 by have := HG.out; omega)) (And.intro hbw (And.intro hVl hfit))); clear hO hG hbw hR hb hVl hfit
      go_wp2_with fail
      exact bodyPost_ret (v := .agg #[.int .i64 (a : Int), .slice vA vn vc]) (by simp [results, Try.results15, go_sem, r1, r2, r3]) rfl ⟨V, _, ⟨rfl, Y.out.2.2.1, Y.out.2.2.2, Y.out.1⟩, (Y.out.2.1.setCell (p := ⟨R, 0, none⟩) (by have := HG.out; show w.heap.size ≤ R; omega) _).setCell (p := ⟨R, 1, none⟩) (by have := HG.out; show w.heap.size ≤ R; omega) _⟩
end Go.Proofs.Ytkmboffbohndjaa
