/- Layer 12: the document's own words: Above. -/
import Derived.Test.YtinonfgehbjneaaGphS
import Derived.Test.YtinonfgehbjneaaGphN
import Derived.Deep.LoopGhost
namespace Go.Proofs.Ytinonfgehbjneaa
open Go.ChangeShapes Go.WideShapes Go.ChangeAt Go.RowKit Go.Maps
open Gr (Nd nmAt frAt)
set_option linter.unusedVariables false
set_option linter.unusedSimpArgs false

theorem flags_same {n : Nat} {F G : List Nat} (h : ∀ k, k ∈ F ↔ k ∈ G) : flags n F = flags n G := by
  unfold flags
  apply List.map_congr_left
  intro k _
  rw [decide_eq_decide]; exact h k
theorem flags_hit {n i : Nat} {J : List Nat} (b : Bool) (hi : i < n) : (flags n (if b then J ++ [i] else J)).set i true = flags n (J ++ [i]) := by
  rw [flags_put hi]
  cases b with
  | false => rfl
  | true => exact flags_same (fun k => by simp)
set_option maxRecDepth 20000 in
set_option maxHeartbeats 8000000 in
theorem rAbove_any (v : Value) (N : List Nd) (s : ByteArray) (w : World) (h : NdsAt w v N) (hn : N.length ≤ 1000) :
    Calls Try.prog 22 #[v, .string s] w (AboveP N s w) := by
  obtain ⟨j0, hj, hy0, hy1, hy2⟩ := info_parts (P := Try.prog) (e := 4) (z := .bool false) (size := 1) (bytes := 1) (by kernel_rfl)
  obtain ⟨js, sj, sy0, sy1, sy2⟩ := info_parts (P := Try.prog) (e := 9) (z := .string ⟨#[]⟩) (size := 1) (bytes := 16) (by kernel_rfl)
  obtain ⟨ji, ij, iy0, iy1, iy2⟩ := info_parts (P := Try.prog) (e := 3) (z := .int .i64 0) (size := 1) (bytes := 8) (by kernel_rfl)
  obtain ⟨l, h1, h2, h3⟩ := h
  obtain ⟨A, c, rfl, a1, a2, _⟩ := h1.shape
  obtain ⟨n, hnl⟩ : ∃ n, n = l.length := ⟨_, rfl⟩
  have hN : N.length = n := by rw [hnl, ← h2, List.length_map]
  rw [← hnl] at h1 a1 ⊢
  rw [hN] at hn
  obtain ⟨w2, hw2⟩ : ∃ w2, w2 = (w.alloc (.cells #[.string s] 9)).alloc (.cells (madeCells #[.bool false] n) 4) := ⟨_, rfl⟩
  have hb2 : Below w.heap.size w w2 := by rw [hw2]; exact bt (ba _ _) (ba _ _)
  have hO1 : Own w2 w.heap.size 9 1 scV (.slice (some ⟨w.heap.size, 0, none⟩) 1 1) (nmsOf N s []) := by
    rw [hw2]
    exact (own_lit (W := w) (e := 9) (k := 1) (f := scV) (B := w.heap.size) [s] rfl (Nat.le_refl _) rfl (by show 1 ≤ maxLen; unfold maxLen; omega) rfl rfl).later (ba _ _)
  have hO2 : Own w2 w.heap.size 4 1 rowZ (.slice (some ⟨w.heap.size + 1, 0, none⟩) n n) (flags n []) := by
    have := own_madeB (w.alloc (.cells #[.string s] 9)) n (by unfold maxLen; omega)
    rw [← hw2, World.size_alloc] at this
    exact this.lift (by omega)
  have H := Lib.hid (And.intro h1 (And.intro h2 (And.intro h3 (And.intro hnl hN)))); clear h1 h2 h3 hnl hN a1
  have K := Lib.hid (And.intro hO1 (And.intro hO2 hb2)); clear hO1 hO2 hb2
  go_enter Try.func22, Try.ntmps22
  go_wp2_with (refine wpList_make_row _ rfl _ _ 62 rfl 4 j0 (.bool false) Try.underlying62 hj hy0 hy1 rfl .i64 .i64 n rfl rfl (by rw [hy2]; omega) (by omega) ?_)
  rw [← hw2]
  clear hw2
  generalize w.heap.size + 1 = gi at *
  go_loopg [5, 7] (2 * n + 1) (fun g nv mv wr => ∃ (I : List Nat) (more : Bool), g = 2 * (n - I.length) + (if more then 1 else 0) ∧ mv = .bool more ∧ UpTo N s I ∧ Own wr w.heap.size 9 1 scV nv (nmsOf N s I) ∧ Own wr w.heap.size 4 1 rowZ (.slice (some ⟨gi, 0, none⟩) n n) (flags n I) ∧ (more = false → ∀ i, i < n → i ∉ I → ¬ Speaks N s I i (frAt N i).length) ∧ Below w.heap.size w wr)
  case atStart => exact ⟨[], true, by simp, rfl, ⟨List.nodup_nil, fun k hk => (by cases hk), fun k hk => (by cases hk)⟩, K.out.1, K.out.2.1, fun h => (by cases h), K.out.2.2⟩
  case round =>
    rename World => wr0
    obtain ⟨I, more, hg, rfl, hI, hO, hF, hC, hb⟩ := hrel
    cases more with
    | false =>
      have M := Lib.hid (And.intro hF (And.intro hb (fun k => (hI.all (by rw [H.out.2.2.2.2]; exact hC rfl) k)))); clear hI hO hF hb hg hC
      go_wp2_with fail
      go_loopw [10, 11] (fun ov iv wr => ∃ (i : Nat) (L : List Nat), i ≤ n ∧ iv = .int .i64 (i : Int) ∧ Own wr wr0.heap.size 3 1 rowP ov L ∧ Rise (fun k => k < i ∧ Gr.Comes N s k) L ∧ Below wr0.heap.size wr0 wr) (fun _ iv _ => n - (intOf iv).toNat)
      case atStart => exact ⟨0, [], Nat.zero_le _, rfl, Own.nil _ _ _ _ _, ⟨List.Pairwise.nil, fun k => by simp⟩, Below.refl _ _⟩
      case round =>
        rename World => wr1
        obtain ⟨i, L, hi, rfl, hO, hR, hb⟩ := hrel
        by_cases hlt : i < n
        · obtain ⟨gi', hgi', _, _, _, oc⟩ := (M.out.1.later hb).cells (f := rowZ) (k := 1) (fun _ => rfl) rfl (by rw [flags_len]; omega)
          obtain rfl : gi = gi' := by simpa using hgi'
          clear hgi'
          have x0 := oc i (by rw [flags_len]; exact hlt) 0 _ rfl
          simp only [flags_at, Nat.mul_one, Nat.add_zero] at x0
          by_cases hin : i ∈ I
          · rw [decide_eq_true hin] at x0
            have hL6 := hR.len (n := i) (fun k hk => hk.1)
            obtain ⟨lA, lc, rfl, _, _, _⟩ := hO.shape
            obtain ⟨ln, hln⟩ : ∃ ln, ln = L.length := ⟨_, rfl⟩
            rw [← hln] at hO hL6 ⊢
            have U := Lib.hid (And.intro hO (And.intro (hR.more ((M.out.2.2 i).1 hin)) (And.intro hb hln))); clear hO hR hb hln oc hin
            have hB1 := at_newP wr1 i
            go_wp2_with (at_builtin; refine wpList_append_loc _ rfl (.tmp 73) (.tmp 75) 31 rfl wr0.heap.size 3 ji (.int .i64 0) 1 8 Try.underlying31 ij iy0 iy1 iy2 rfl (by decide) (f := rowP) (fun _ => rfl) one_rowP _ L rfl (U.out.1.later (ba _ _)) (some ⟨wr1.heap.size, 0, none⟩) 1 1 [i] rfl rfl hB1 (by have := U.out.2.2.2; unfold maxLen; omega) (by have := U.out.2.2.2; omega) (by have := U.out.2.2.1.size; simp only [World.size_alloc]; omega) ?_; intro v6 w6 hO6 hg6 hq6; have Z := Lib.hid (And.intro hO6 hg6); clear hO6 hg6 hq6)
            have bA := bt U.out.2.2.1 (ba wr1 (.cells #[.int .i64 (i : Int)] 3))
            have b6 := bA.trans (grownBy_below Z.out.2 bA.size (fun k hk => (Own.block U.out.1 hk).1))
            go_roundw
            case rel => exact ⟨i + 1, _, by omega, by go_num, Z.out.1, U.out.2.1, b6⟩
            case measure => simp [intOf]; omega
          · rw [decide_eq_false hin] at x0
            have U := Lib.hid (And.intro hO (And.intro (hR.skip (fun h => hin ((M.out.2.2 i).2 h))) hb)); clear hO hR hb oc hin
            go_wp2_with fail
            go_roundw
            case rel => exact ⟨i + 1, L, by omega, by go_num, U.out.1, U.out.2.1, U.out.2.2⟩
            case measure => simp [intOf]; omega
        · obtain rfl : i = n := by omega
          have U := Lib.hid (And.intro (hO.lift M.out.2.1.size) (And.intro (hR.of (fun k => ⟨fun h => h.2, fun h => ⟨by have := h.lt; rw [H.out.2.2.2.2] at this; exact this, h⟩⟩)) (bt M.out.2.1 hb))); clear hO hR hb
          go_wp2_with fail
          go_ret
          exact ⟨_, L, ⟨rfl, U.out.1, U.out.2.1⟩, U.out.2.2⟩
    | true =>
      have M := Lib.hid (And.intro hI (And.intro hO (And.intro hF (And.intro hb hg)))); clear hI hO hF hb hg hC
      go_wp2_with fail
      go_loopw [5, 7, 8] (fun nv mv iv wr => ∃ (i : Nat) (J : List Nat) (more : Bool), i ≤ n ∧ iv = .int .i64 (i : Int) ∧ mv = .bool more ∧ UpTo N s J ∧ Own wr w.heap.size 9 1 scV nv (nmsOf N s J) ∧ Own wr w.heap.size 4 1 rowZ (.slice (some ⟨gi, 0, none⟩) n n) (flags n J) ∧ I.length ≤ J.length ∧ (more = true → I.length < J.length) ∧ (more = false → ∀ k, k < i → k ∉ J → ¬ Speaks N s J k (frAt N k).length) ∧ Below w.heap.size w wr) (fun _ _ iv _ => n - (intOf iv).toNat)
      case atStart => exact ⟨0, I, false, Nat.zero_le _, rfl, rfl, M.out.1, M.out.2.1, M.out.2.2.1, Nat.le_refl _, fun h => (by cases h), fun _ k hk => (by omega), M.out.2.2.2.1⟩
      case round =>
        rename World => wr1
        obtain ⟨i, J, more, hi, rfl, rfl, hJ, hO, hF, hIJ, hM, hC, hb⟩ := hrel
        have hJn := Gr.nodup_len hJ.nod hJ.lt
        rw [H.out.2.2.2.2] at hJn
        by_cases hlt : i < n
        · obtain ⟨gi', hgi', gB, gl, gf, oc⟩ := hF.cells (f := rowZ) (k := 1) (fun _ => rfl) rfl (by rw [flags_len]; omega)
          obtain rfl : gi = gi' := by simpa using hgi'
          clear hgi'
          have x0 := oc i (by rw [flags_len]; exact hlt) 0 _ rfl
          simp only [flags_at, Nat.mul_one, Nat.add_zero] at x0
          by_cases hin : i ∈ J
          · rw [decide_eq_true hin] at x0
            have hC2 : more = false → ∀ k, k < i + 1 → k ∉ J → ¬ Speaks N s J k (frAt N k).length := fun h k hk hno => by
              rcases (by omega : k < i ∨ k = i) with h1 | rfl
              · exact hC h k h1 hno
              · exact absurd hin hno
            have U := Lib.hid (And.intro hJ (And.intro hO (And.intro hF (And.intro hC2 (And.intro hb hM))))); clear hJ hO hF hC hC2 hb hM oc hin
            go_wp2_with fail
            go_roundw
            case rel => exact ⟨i + 1, J, more, by omega, by go_num, rfl, U.out.1, U.out.2.1, U.out.2.2.1, hIJ, U.out.2.2.2.2.2, U.out.2.2.2.1, U.out.2.2.2.2.1⟩
            case measure => simp [intOf]; omega
          · rw [decide_eq_false hin] at x0
            have hil : i < l.length := by have := H.out.2.2.2.1; omega
            obtain ⟨nA, nc, rfl, _, _, _⟩ := hO.shape
            obtain ⟨nn, hnn⟩ : ∃ nn, nn = (nmsOf N s J).length := ⟨_, rfl⟩
            have HN := Lib.hid (show nn = J.length + 1 by rw [hnn]; simp [nmsOf])
            rw [← hnn] at hO ⊢
            have V := Lib.hid (And.intro hJ (And.intro hO (And.intro hF (And.intro hC (And.intro hb (And.intro hM (And.intro hin hnn))))))); clear hJ hO hF hC hb hM oc hnn gl gf gB
            go_wp2_with fail
            go_loopw [9] (fun kv wr => ∃ (k : Nat) (b : Bool), k ≤ (frAt N i).length ∧ kv = .int .i64 (k : Int) ∧ (b = true ↔ Speaks N s J i k) ∧ Own wr w.heap.size 9 1 scV (.slice nA nn nc) (nmsOf N s J) ∧ Own wr w.heap.size 4 1 rowZ (.slice (some ⟨gi, 0, none⟩) n n) (flags n (if b then J ++ [i] else J)) ∧ Below w.heap.size w wr) (fun kv _ => (frAt N i).length - (intOf kv).toNat)
            case atStart =>
              refine ⟨0, false, Nat.zero_le _, rfl, ?_, V.out.2.1, V.out.2.2.1, V.out.2.2.2.2.1⟩
              constructor
              · intro h
                cases h
              · rintro ⟨q, hq, h1, _⟩
                omega
            case round =>
              clear x0
              rename World => wr2
              obtain ⟨k, b, hk, rfl, hS, hO, hF, hb⟩ := hrel
              obtain ⟨a, rfl, hca⟩ := (H.out.1.later hb).cells rfl (by omega)
              obtain ⟨e0, e1⟩ := hca.row2 i hil rfl
              obtain ⟨f1, f2⟩ := at_node H.out.2.1 hil
              have g1 := (H.out.2.2.1 _ (List.getElem_mem hil)).1.later hb
              rw [← f1] at e0
              rw [← f2] at g1
              generalize (l[i]'hil).2 = sv at *
              obtain ⟨fA, fn, fc⟩ := sv
              obtain ⟨B1, cc, hv, _, q5, _⟩ := g1.shape
              simp only [Value.slice.injEq] at hv
              obtain ⟨q1, q2, q3⟩ := hv
              subst q2
              subst q3
              subst q1
              change wr2.cell? ⟨(a.add (i * 2)).block, (a.add (i * 2)).off + 1, none⟩ = some (.slice fA (frAt N i).length fc) at e1
              obtain ⟨nf, hnf⟩ : ∃ nf, nf = (frAt N i).length := ⟨_, rfl⟩
              have hnfb : nf ≤ 9223372036854775807 := by unfold maxLen at q5; omega
              obtain ⟨gi', hgi', gB, gl, gf, oc⟩ := hF.cells (f := rowZ) (k := 1) (fun _ => rfl) rfl (by rw [flags_len]; omega)
              obtain rfl : gi = gi' := by simpa using hgi'
              clear hgi'
              have x1 := oc i (by rw [flags_len]; exact hlt) 0 _ rfl
              simp only [flags_at, Nat.mul_one, Nat.add_zero] at x1
              have hdec : decide (i ∈ (if b then J ++ [i] else J)) = b := by
                cases b with
                | false => exact decide_eq_false V.out.2.2.2.2.2.2.1
                | true => simp
              rw [hdec] at x1
              by_cases hlt2 : k < nf
              · have hkl : k < (frAt N i).length := by omega
                obtain ⟨a2, rfl, hca2⟩ := g1.cells rfl (by omega)
                have z0 := hca2.row1 k hkl rfl
                rw [Nat.mul_one] at z0
                have hSm := speaks_more (N := N) (s := s) (I := J) hkl
                rw [← hnf] at e1
                generalize (frAt N i)[k]'hkl = x at *
                have cH := rhas_any _ _ x wr2 (hO.at_ (f := scV) (k := 1) (fun _ => rfl))
                have hp2 := Own.put (f := rowZ) (k := 1) (fun _ => rfl) hF i (by rw [flags_len]; exact hlt) (i := 0) (by omega) (x := true) (u := .bool true) rfl
                have Y := Lib.hid (And.intro cH (And.intro hS (And.intro hSm (And.intro hO (And.intro hF (And.intro hb hnf)))))); clear cH hS hSm hO hF hb hca hca2 g1 f1 f2 oc hp2 hnf
                go_wp2_with fail
                try go_at_call 32
                refine Y.out.1.mono ?_
                rintro e w5 ⟨⟨hv, rfl, hh⟩, b5⟩
                have hF5 := Y.out.2.2.2.2.1.later b5
                obtain ⟨gi', hgi', gB5, gl5, gf5, oc5⟩ := hF5.cells (f := rowZ) (k := 1) (fun _ => rfl) rfl (by rw [flags_len]; omega)
                obtain rfl : gi = gi' := by simpa using hgi'
                clear hgi'
                have x5 := oc5 i (by rw [flags_len]; exact hlt) 0 _ rfl
                simp only [Nat.mul_one, Nat.add_zero] at x5
                have hp5 := Own.put (f := rowZ) (k := 1) (fun _ => rfl) hF5 i (by rw [flags_len]; exact hlt) (i := 0) (by omega) (x := true) (u := .bool true) rfl
                rw [Nat.mul_one, Nat.add_zero, flags_hit b hlt] at hp5
                obtain ⟨_, csg, hcg⟩ := Own.block hF5 rfl
                have hO5 := (Y.out.2.2.2.1.later b5).put1 (t := 4) hcg (by decide) i (.bool true)
                have hb5 := bt Y.out.2.2.2.2.2.1 b5
                have Y5 := Lib.hid (And.intro hp5 (And.intro hO5 (And.intro hb5 (And.intro hF5 (And.intro (Y.out.2.2.2.1.later b5) (hb5.setCell (p := ⟨gi, i, none⟩) gB5 (.bool true))))))); clear hp5 hO5 hb5 hF5 hcg oc5 b5
                cases hv with
                | true =>
                  have hin2 := hh.1 rfl
                  have hs2 : Speaks N s J i (k + 1) := Y.out.2.2.1.2 (Or.inr hin2)
                  have YS := Lib.hid hs2; clear hs2 hin2 hh
                  go_wp2_with fail
                  go_roundw
                  case rel => exact ⟨k + 1, true, by have := Y.out.2.2.2.2.2.2; omega, by go_num, ⟨fun _ => YS.out, fun _ => rfl⟩, Y5.out.2.1, Y5.out.1, Y5.out.2.2.2.2.2⟩
                  case measure => (have := Y.out.2.2.2.2.2.2; simp [intOf]; omega)
                | false =>
                  have hs2 : (b = true ↔ Speaks N s J i (k + 1)) := by
                    rw [Y.out.2.2.1, Y.out.2.1]
                    exact ⟨Or.inl, fun h => h.elim id (fun h => by have := hh.2 h; cases this)⟩
                  have YS := Lib.hid hs2; clear hs2 hh
                  go_wp2_with fail
                  go_roundw
                  case rel => exact ⟨k + 1, b, by have := Y.out.2.2.2.2.2.2; omega, by go_num, YS.out, Y5.out.2.2.2.2.1, Y5.out.2.2.2.1, Y5.out.2.2.1⟩
                  case measure => (have := Y.out.2.2.2.2.2.2; simp [intOf]; omega)
              · obtain rfl : k = nf := by omega
                have hnn2 := HN.out
                rw [← hnf] at e1
                rw [hnf] at hS
                cases b with
                | false =>
                  have hno : ¬ Speaks N s J i (frAt N i).length := fun h => by have := hS.2 h; cases this
                  have hC2 : more = false → ∀ k, k < i + 1 → k ∉ J → ¬ Speaks N s J k (frAt N k).length := fun h k hk hk2 => by
                    rcases (by omega : k < i ∨ k = i) with h1 | rfl
                    · exact V.out.2.2.2.1 h k h1 hk2
                    · exact hno
                  have Y := Lib.hid (And.intro hO (And.intro hF (And.intro hb hC2))); clear hO hF hb hC2 hS hno g1 hca oc f1 f2 hnf
                  go_wp2_with fail
                  go_roundw
                  case rel => exact ⟨i + 1, J, more, by omega, by go_num, rfl, V.out.1, Y.out.1, Y.out.2.1, hIJ, V.out.2.2.2.2.2.1, Y.out.2.2.2, Y.out.2.2.1⟩
                  case measure => simp [intOf]; omega
                | true =>
                  have hJ2 := V.out.1.more (by rw [H.out.2.2.2.2]; exact hlt) V.out.2.2.2.2.2.2.1 (hS.1 rfl)
                  have hnm : nmsOf N s (J ++ [i]) = nmsOf N s J ++ [nmAt N i] := by simp [nmsOf]
                  obtain ⟨y, hy⟩ : ∃ y, y = nmAt N i := ⟨_, rfl⟩
                  rw [← hy] at e0 hnm
                  have Y := Lib.hid (And.intro hO (And.intro hF (And.intro hb (And.intro hJ2 hnm)))); clear hO hF hb hJ2 hnm hS g1 hca oc f1 f2 hnf hy
                  have hB1 := at_newS wr2 y
                  have hbA := ba wr2 (.cells #[.string y] 9)
                  go_wp2_with (at_builtin; refine wpList_append_loc _ rfl (.tmp 55) (.tmp 61) 27 rfl w.heap.size 9 js (.string ⟨#[]⟩) 1 16 Try.underlying27 sj sy0 sy1 sy2 rfl (by decide) (f := scV) (fun _ => rfl) one_scV _ (nmsOf N s J) rfl (Y.out.1.later hbA) (some ⟨wr2.heap.size, 0, none⟩) 1 1 [y] rfl rfl hB1 (by have := V.out.2.2.2.2.2.2.2; unfold maxLen; omega) (by have := V.out.2.2.2.2.2.2.2; omega) (by have := Y.out.2.2.1.size; simp only [World.size_alloc]; omega) ?_; intro v6 w6 hO6 hg6 hq6; have Z := Lib.hid (And.intro hO6 hg6); clear hO6 hg6 hq6)
                  have bA := bt Y.out.2.2.1 hbA
                  have b6 := bA.trans (grownBy_below Z.out.2 bA.size (fun k hk => (Own.block Y.out.1 hk).1))
                  have hF6 := (Y.out.2.1.later hbA).grown Z.out.2 (fun b hb => own_two (Y.out.1.later hbA) (Y.out.2.1.later hbA) (by decide) b hb)
                  go_roundw
                  case rel => exact ⟨i + 1, J ++ [i], true, by omega, by go_num, rfl, Y.out.2.2.2.1, Y.out.2.2.2.2 ▸ Z.out.1, by simpa using hF6, by simp; omega, fun _ => by simp; omega, fun h => (by cases h), b6⟩
                  case measure => simp [intOf]; omega
        · obtain rfl : i = n := by omega
          have hgl : 2 * (i - J.length) + (if more then 1 else 0) < gk := by
            have h1 := M.out.2.2.2.2
            simp only [if_true] at h1
            cases more with
            | false => simp; omega
            | true => have := hM rfl; simp; omega
          have U := Lib.hid (And.intro hJ (And.intro hO (And.intro hF (And.intro hC hb)))); clear hJ hO hF hC hb
          go_wp2_with fail
          go_roundg (2 * (i - J.length) + (if more then 1 else 0))
          case rel => exact ⟨J, more, rfl, rfl, U.out.1, U.out.2.1, U.out.2.2.1, U.out.2.2.2.1, U.out.2.2.2.2⟩
          case measure => exact hgl
end Go.Proofs.Ytinonfgehbjneaa
