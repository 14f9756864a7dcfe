/- Layer 12: climbing: what is found. -/
import Derived.Test.YtinonfgehbjneaaGphB
namespace Go.Proofs.Ytinonfgehbjneaa
open Go.ChangeShapes Go.WideShapes Go.ChangeAt Go.RowKit Go.Maps
open Gr (Nd nmAt frAt Comes cn leadsU leadsL puts put)
set_option linter.unusedVariables false
set_option linter.unusedSimpArgs false

/-- Which of n places are among F. -/
def flags (n : Nat) (F : List Nat) : List Bool := (List.range n).map (fun k => decide (k ∈ F))
theorem flags_len (n : Nat) (F : List Nat) : (flags n F).length = n := by simp [flags]
theorem flags_at {n : Nat} {F : List Nat} {k : Nat} (h : k < (flags n F).length) : (flags n F)[k]'h = decide (k ∈ F) := by simp [flags]
theorem flags_put {n : Nat} {F : List Nat} {k : Nat} (h : k < n) : (flags n F).set k true = flags n (F ++ [k]) := by
  apply List.ext_getElem
  · simp [flags]
  · intro j h1 h2
    rw [List.getElem_set]
    simp only [flags, List.getElem_map, List.getElem_range]
    by_cases e : k = j
    · subst e; simp
    · rw [if_neg e]; simp [Ne.symm e]
/-- What climb holds: which places are met (a row behind p), what is found (a row behind q). -/
structure ClAt (w : World) (B p q n : Nat) (F : List Nat) : Prop where
  pl : B ≤ p
  ql : B ≤ q
  met : ∃ gm, Blk w p 62 #[.slice (some ⟨gm, 0, none⟩) n n] ∧ Own w B 4 1 rowZ (.slice (some ⟨gm, 0, none⟩) n n) (flags n F)
  fnd : ∃ fv, Blk w q 31 #[fv] ∧ Own w B 3 1 rowP fv F
  nod : F.Nodup
  lt : ∀ k ∈ F, k < n
theorem ClAt.later {w w' : World} {B p q n : Nat} {F : List Nat} (h : ClAt w B p q n F) (hb : Below w.heap.size w w') : ClAt w' B p q n F := by
  obtain ⟨gm, h1, h2⟩ := h.met
  obtain ⟨fv, h3, h4⟩ := h.fnd
  exact ⟨h.pl, h.ql, ⟨gm, h1.later hb, h2.later hb⟩, ⟨fv, h3.later hb, h4.later hb⟩, h.nod, h.lt⟩
theorem puts_snoc (F P : List Nat) (k : Nat) : puts F (P ++ [k]) = put (puts F P) k := by
  unfold puts; rw [List.foldl_append]; rfl
theorem put_in {F : List Nat} {k : Nat} (h : k ∈ F) : put F k = F := by unfold put; rw [if_pos h]
theorem put_no {F : List Nat} {k : Nat} (h : k ∉ F) : put F k = F ++ [k] := by unfold put; rw [if_neg h]
set_option maxHeartbeats 4000000 in
theorem add_any (B p q n : Nat) (F P : List Nat) (v : Value) (w : World) (h : ClAt w B p q n F) (hP : ∀ X, Below B w X → At X 1 rowP v P) (hk : ∀ k ∈ P, k < n) (hn : n ≤ 1000) (hB : B ≤ w.heap.size) :
    Calls Try.prog 35 #[v, .pointer (some ⟨p, 0, none⟩), .pointer (some ⟨q, 0, none⟩)] w fun e w' => e = .returned (.tuple #[]) ∧ ClAt w' B p q n (puts F P) ∧ Below B w w' := by
  obtain ⟨j0, hj, hy0, hy1, hy2⟩ := info_parts (P := Try.prog) (e := 3) (z := .int .i64 0) (size := 1) (bytes := 8) (by kernel_rfl)
  obtain ⟨A, c, rfl, a1, a2, _⟩ := (hP w (Below.refl _ _)).shape
  obtain ⟨m, hm⟩ : ∃ m, m = P.length := ⟨_, rfl⟩
  have hmm : m ≤ 9223372036854775807 := by unfold maxLen at a2; omega
  rw [← hm] at hP ⊢
  have H := Lib.hid (And.intro hP (And.intro hk hm)); clear hP hk hm a1
  have h0 := Lib.hid h; clear h
  go_enter Try.func35, Try.ntmps35
  go_wp2_with fail
  go_loopw [8] (fun tv wr => ∃ t : Nat, t ≤ m ∧ tv = .int .i64 (t : Int) ∧ ClAt wr B p q n (puts F (P.take t)) ∧ Below B w wr) (fun tv _ => m - (intOf tv).toNat)
  case atStart => exact ⟨0, Nat.zero_le _, rfl, by simpa [puts] using h0.out, Below.refl _ _⟩
  case round =>
    rename World => wr0
    clear h0
    obtain ⟨t, ht, rfl, hC, hb⟩ := hrel
    by_cases hlt : t < m
    · have htl : t < P.length := by have := H.out.2.2; omega
      obtain ⟨a, rfl, hca⟩ := (H.out.1 wr0 hb).cells rfl (by omega)
      have z0 := hca.row1 t htl rfl
      rw [Nat.mul_one] at z0
      have hkn := H.out.2.1 _ (List.getElem_mem htl)
      have hst : puts F (P.take (t + 1)) = put (puts F (P.take t)) (P[t]'htl) := by rw [Gr.take_more htl, puts_snoc]
      generalize P[t]'htl = k at *
      generalize puts F (P.take t) = G at *
      obtain ⟨gm, b1, o1⟩ := hC.met
      obtain ⟨fv, b2, o2⟩ := hC.fnd
      have hGn := Gr.nodup_len hC.nod hC.lt
      have c1 := b1.cell 0
      have c2 := b2.cell 0
      simp only [List.getElem?_toArray, List.getElem?_cons_zero] at c1 c2
      have fl := flags_len n G
      obtain ⟨g', hg', ow, olt, ofz, oc⟩ := o1.cells (f := rowZ) (k := 1) (fun _ => rfl) rfl (by rw [fl]; omega)
      obtain rfl : gm = g' := by simpa using hg'
      clear hg'
      have m0 := oc k (by omega) 0 _ rfl
      simp only [flags_at, Nat.mul_one, Nat.add_zero] at m0
      by_cases hin : k ∈ G
      · rw [decide_eq_true hin] at m0
        rw [put_in hin] at hst
        have M := Lib.hid (And.intro hC (And.intro hb hst)); clear hC hb hst b1 o1 b2 o2 oc
        go_wp2_with fail
        go_roundw
        case rel => exact ⟨t + 1, by omega, by go_num, M.out.2.2 ▸ M.out.1, M.out.2.1⟩
        case measure => simp [intOf]; omega
      · rw [decide_eq_false hin] at m0
        rw [put_no hin] at hst
        have d1 : p ≠ gm := fun e => b1.off o1 (by decide) (by rw [e]; rfl)
        have d2 : q ≠ gm := fun e => b2.off o1 (by decide) (by rw [e]; rfl)
        have d3 : fv.ownBlock ≠ some q := b2.off o2 (by decide)
        have d4 : fv.ownBlock ≠ some p := b1.off o2 (by decide)
        have d6 : p ≠ q := fun e => by subst e; have := b1.symm.trans b2; simp at this
        have oS := Own.put (f := rowZ) (k := 1) (fun _ => rfl) o1 k (by omega) (i := 0) (by omega) (x := true) (u := .bool true) rfl
        rw [Nat.mul_one, Nat.add_zero, flags_put hkn] at oS
        obtain ⟨_, csg, hcg⟩ := Own.block o1 rfl
        have d5 : fv.ownBlock ≠ some gm := Blk.off (t := 4) hcg o2 (by decide)
        have o2S := o2.put1 (t := 4) hcg (by decide) k (.bool true)
        have b1S := b1.far (p := ⟨gm, k, none⟩) d1 (.bool true)
        have b2S := b2.far (p := ⟨gm, k, none⟩) d2 (.bool true)
        have hbS : Below B w (wr0.setCell ⟨gm, k, none⟩ (.bool true)) := hb.setCell (p := ⟨gm, k, none⟩) ow _
        obtain ⟨w4, hw4⟩ : ∃ w4, w4 = wr0.setCell ⟨gm, k, none⟩ (.bool true) := ⟨_, rfl⟩
        rw [← hw4] at oS o2S b1S b2S hbS
        have q1 := b1S.cell 0
        have q2 := b2S.cell 0
        simp only [List.getElem?_toArray, List.getElem?_cons_zero] at q1 q2
        obtain ⟨fA, fc, rfl, _, _, _⟩ := o2.shape
        obtain ⟨fn, hfn⟩ : ∃ fn, fn = G.length := ⟨_, rfl⟩
        rw [← hfn] at o2 o2S b2 b2S q2 c2 d3 d4 d5
        have hs4 : w4.heap.size = wr0.heap.size := by rw [hw4]; simp [World.setCell]
        have hB1 := at_newP w4 k
        rw [hs4] at hB1
        have M := Lib.hid (And.intro oS (And.intro o2S (And.intro b1S (And.intro b2S (And.intro hbS (And.intro hst (And.intro hC (And.intro d3 (And.intro d4 (And.intro d5 (And.intro hin (And.intro d6 hfn))))))))))))
        clear hC hb hst b1 o1 b2 o2 oc oS o2S b1S b2S hbS hcg hfn hs4
        go_wp2_with (at_builtin; rw [← hw4]; refine wpList_append_loc _ rfl (.tmp 20) (.tmp 22) 31 rfl B 3 j0 (.int .i64 0) 1 8 Try.underlying31 hj hy0 hy1 hy2 rfl (by decide) (f := rowP) (fun _ => rfl) one_rowP _ G rfl (M.out.2.1.later (ba _ _)) (some ⟨wr0.heap.size, 0, none⟩) 1 1 [k] rfl rfl hB1 (by unfold maxLen; omega) (by omega) (by have := M.out.2.2.2.2.1.size; have := hB; simp only [World.size_alloc]; omega) ?_; intro v5 w5 hO5 hg5 hq5; obtain ⟨vA, vn, vc, rfl⟩ := own_shape hO5; have x1 := (M.out.2.2.2.1.later (ba w4 (.cells #[.int .i64 (k : Int)] 3))).grown hg5 (fun e => M.out.2.2.2.2.2.2.2.1 e.symm); have y0 := x1.cell 0; have y1 := x1.lt; have y2 := x1.frozen; simp only [List.getElem?_toArray, List.getElem?_cons_zero] at y0; have Z := Lib.hid (And.intro hO5 (And.intro hg5 x1)); clear hO5 hg5 hq5 x1)
        have bA := ba w4 (.cells #[.int .i64 (k : Int)] 3)
        have x2 := (M.out.2.2.1.later bA).grown Z.out.2.1 (fun e => M.out.2.2.2.2.2.2.2.2.1 e.symm)
        have x3 := (M.out.1.later bA).grown Z.out.2.1 (fun b hb e => M.out.2.2.2.2.2.2.2.2.2.1 (by cases e; exact hb))
        have hB4 : B ≤ w4.heap.size := Nat.le_trans hB M.out.2.2.2.2.1.size
        have hb4 := M.out.2.2.2.2.1.trans (bA.mono hB4)
        have hb5 := hb4.trans (grownBy_below Z.out.2.1 (Nat.le_trans hB4 bA.size) (fun x hx => (Own.block M.out.2.1 hx).1))
        have hCn : ClAt (w5.setCell ⟨q, 0, none⟩ (.slice vA vn vc)) B p q n (G ++ [k]) := by
          have hC := M.out.2.2.2.2.2.2.1
          refine ⟨hC.pl, hC.ql, ⟨gm, x2.far (p := ⟨q, 0, none⟩) d6 _, x3.put1 Z.out.2.2 (by decide) 0 _⟩, ⟨.slice vA vn vc, ?_, Z.out.1.put1 Z.out.2.2 (by decide) 0 _⟩, ?_, fun j hj => ?_⟩
          · have := Z.out.2.2.set_ 0 (.slice vA vn vc)
            simpa using this
          · rw [List.nodup_append]
            exact ⟨hC.nod, by simp, fun a ha b hb e => hin (by simp at hb; rw [← hb, ← e]; exact ha)⟩
          · rcases List.mem_append.1 hj with hj | hj
            · exact hC.lt j hj
            · simp at hj; rw [hj]; exact hkn
        go_roundw
        case rel => exact ⟨t + 1, by omega, by go_num, M.out.2.2.2.2.2.1 ▸ hCn, hb5.setCell (p := ⟨q, 0, none⟩) M.out.2.2.2.2.2.2.1.ql _⟩
        case measure => simp [intOf]; omega
    · obtain rfl : t = m := by omega
      have e : P.take t = P := by rw [H.out.2.2]; exact List.take_of_length_le (Nat.le_refl _)
      rw [e] at hC
      have M := Lib.hid (And.intro hC hb); clear hC hb
      go_wp2_with fail
      refine bodyPost_end (v := .tuple #[]) (by simp only [results, Try.results35]; simp [go_sem]) rfl ?_
      exact ⟨rfl, M.out.1, M.out.2⟩
end Go.Proofs.Ytinonfgehbjneaa
