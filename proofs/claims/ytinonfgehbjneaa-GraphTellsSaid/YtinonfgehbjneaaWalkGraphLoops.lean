/- The walk of GraphLoops. -/
import Derived.Test.YtinonfgehbjneaaGphO
import Derived.Test.YtinonfgehbjneaaGphP
import Derived.Deep.RegionHeld3
namespace Go.Proofs.Ytinonfgehbjneaa
open Go.ChangeShapes Go.WideShapes Go.ChangeAt Go.RowKit Go.Maps
open Gr (Nd nmAt frAt Dist Loopy RankFull IsOrder)
set_option linter.unusedVariables false
set_option linter.unusedSimpArgs false

theorem nodes_mem {Ls : List Lk} {un : Bool} {d : Nd} : ∀ i, d ∈ nodesU Ls un i → ∃ j, j < i ∧ d = nd Ls un j
  | 0, h => by cases h
  | i + 1, h => by
    rcases List.mem_append.1 h with h | h
    · obtain ⟨j, hj, e⟩ := nodes_mem i h
      exact ⟨j, by omega, e⟩
    · exact ⟨i, by omega, by simpa using h⟩
theorem nodes_names {Ls : List Lk} : ∀ i, i ≤ 6 → ((nodesU Ls true i).map (·.1)).Nodup
  | 0, _ => List.nodup_nil
  | i + 1, h => by
    have ih := nodes_names (Ls := Ls) i (by omega)
    unfold nodesU
    rw [List.map_append, List.nodup_append]
    refine ⟨ih, by simp, fun a ha b hb e => ?_⟩
    obtain ⟨d, hd, e1⟩ := List.mem_map.1 ha
    obtain ⟨j, hj, rfl⟩ := nodes_mem i hd
    have e2 : b = nmO i := by simpa [nd] using hb
    have e3 : nmO j = a := by simpa [nd] using e1
    have := nmO_inj (a := j) (b := i) (by omega) (by omega) (e3.trans (e.trans e2))
    omega
theorem nodes_fr {Ls : List Lk} {un : Bool} {i k : Nat} : (frAt (nodesU Ls un i) k).length ≤ 4 := by
  rcases Nat.lt_or_ge k (nodesU Ls un i).length with hk | hk
  · obtain ⟨j, hj, e⟩ := nodes_mem i (List.getElem_mem hk)
    rw [(nm_get hk).2, e]
    unfold nd
    rw [List.length_map, List.length_take]; omega
  · rw [Gr.frAt_out hk]; simp
theorem nodes_tot {Ls : List Lk} {un : Bool} {i : Nat} : ∀ j, tot (nodesU Ls un i) j ≤ 4 * j
  | 0 => Nat.le_refl _
  | j + 1 => by
    have := nodes_tot (Ls := Ls) (un := un) (i := i) j
    have := nodes_fr (Ls := Ls) (un := un) (i := i) (k := j)
    simp only [tot]; omega
set_option maxRecDepth 20000 in
set_option maxHeartbeats 8000000 in
theorem walk_GraphLoops (v0 : Value) (Ls : List Lk) (w : World) (h0 : LksR w v0 Ls) (b0 : True) :
    Calls Try.prog 6 #[v0] w fun e w' => e = .returned (.bool true) ∧ Below w.heap.size w w' := by
  obtain ⟨A, c, rfl, a1, a2, _⟩ := h0.1.shape
  have H := Lib.hid h0; clear h0 a1
  go_enter Try.func6, Try.ntmps6
  go_wp2_with fail
  try go_at_call 9
  refine (examples_any w).mono ?_
  rintro e w1 ⟨rfl, b1⟩
  have K1 := Lib.hid b1; clear b1
  go_wp2_with fail
  try go_at_call 10
  refine (nodes_any _ Ls true w1 (H.out.later K1.out)).mono ?_
  rintro e w2 ⟨r, ⟨rfl, hN⟩, b2⟩
  have hi6 : min Ls.length 6 ≤ 6 := by omega
  have hlen := nodesU_len Ls true (min Ls.length 6)
  have hD := dist_of (nodes_names (Ls := Ls) _ hi6)
  have htt := nodes_tot (Ls := Ls) (un := true) (i := min Ls.length 6) (min Ls.length 6)
  generalize nodesU Ls true (min Ls.length 6) = N at *
  obtain ⟨n, hn⟩ : ∃ n, n = min Ls.length 6 := ⟨_, rfl⟩
  rw [← hn] at hlen htt hi6
  clear hn
  have hat := hN.at_
  obtain ⟨l, h1, h2, h3⟩ := hat
  have hln : l.length = n := by rw [← hlen, ← h2, List.length_map]
  obtain ⟨A1, c1, rfl, _, _, _⟩ := h1.shape
  rw [hln] at hN h1 ⊢
  have K2 := Lib.hid (And.intro hN.at_ (And.intro (bt K1.out b2) (And.intro h1 (And.intro h2 (And.intro h3 (And.intro hlen (And.intro hD (And.intro (show tot N N.length ≤ 26388279066700 by rw [hlen]; omega) (And.intro (show N.length ≤ 1000 by omega) hln))))))))); clear hN b2 h1 h2 h3 hlen hD htt hln
  go_wp2_with fail
  try go_at_call 19
  refine (Loops_any _ N w2 K2.out.1 K2.out.2.2.2.2.2.2.2.2.1 K2.out.2.2.2.2.2.2.2.1).mono ?_
  rintro e w3 ⟨r3, L, ⟨rfl, oL, hL⟩, b3⟩
  obtain ⟨lA, lc, rfl, _, _, _⟩ := oL.shape
  obtain ⟨ln, hln⟩ : ∃ ln, ln = L.length := ⟨_, rfl⟩
  rw [← hln] at oL ⊢
  have K3 := Lib.hid (And.intro (K2.out.1.later b3) (And.intro (bt K2.out.2.1 b3) (And.intro oL (And.intro hL (And.intro hln b3))))); clear b3 oL hL hln
  go_wp2_with fail
  try go_at_call 14
  refine (Ranks_any _ N w3 K3.out.1 K2.out.2.2.2.2.2.2.2.2.1 K2.out.2.2.2.2.2.2.2.1).mono ?_
  rintro e w4 ⟨r4, k, ⟨rfl, hA⟩, b4⟩
  have hk : (k = 12 ∧ 0 < ln) ∨ (k = 0 ∧ ln = 0) := by
    have hN := K2.out.2.2.2.2.2.1
    rcases hA with ⟨h, _⟩ | ⟨_, ⟨p, hp, hc⟩, _, hk⟩ | ⟨_, hk, R, _, _, h3⟩
    · exact absurd K2.out.2.2.2.2.2.2.1 h
    · refine Or.inl ⟨hk, ?_⟩
      have := (K3.out.2.2.2.1.2 p).2 ⟨hp, hc⟩
      have := List.length_pos_of_mem this
      have := K3.out.2.2.2.2.1; omega
    · refine Or.inr ⟨hk, ?_⟩
      rw [K3.out.2.2.2.2.1]
      rcases hx : L with _ | ⟨p, L'⟩
      · rfl
      · have := (K3.out.2.2.2.1.2 p).1 (by rw [hx]; simp)
        exact absurd ⟨p, this.1, this.2⟩ h3.noLoop
  have K4 := Lib.hid (And.intro (K3.out.1.later b4) (And.intro (bt K3.out.2.1 b4) (And.intro (K3.out.2.2.1.later b4) (And.intro K3.out.2.2.2.1 (bt K3.out.2.2.2.2.2 b4))))); clear b4 hA
  rcases hk with ⟨rfl, hl0⟩ | ⟨rfl, rfl⟩
  · have hl1 : ¬ (ln : Int) = 0 := by omega
    have hl2 : ((ln : Int) == 0) = false := by simp; omega
    go_wp2_with fail
    go_loopw [8] (fun iv wr => ∃ i : Nat, i ≤ n ∧ iv = .int .i64 (i : Int) ∧ Below w4.heap.size w4 wr) (fun iv _ => n - (intOf iv).toNat)
    case atStart => exact ⟨0, Nat.zero_le _, rfl, Below.refl _ _⟩
    case round =>
      rename World => wr0
      obtain ⟨i, hi, rfl, hb⟩ := hrel
      by_cases hlt : i < n
      · have hb2 : Below w2.heap.size w2 wr0 := bt K4.out.2.2.2.2 hb
        have hil : i < l.length := by have := K2.out.2.2.2.2.2.2.2.2.2; omega
        obtain ⟨a, rfl, hca⟩ := (K2.out.2.2.1.later hb2).cells rfl (by rw [K2.out.2.2.2.2.2.2.2.2.2]; omega)
        obtain ⟨e0, _⟩ := hca.row2 i hil rfl
        obtain ⟨f1, _⟩ := at_node K2.out.2.2.2.1 hil
        have hsz := (K2.out.2.2.2.2.1 _ (List.getElem_mem hil)).2.1
        rw [← f1] at e0 hsz
        obtain ⟨s, hs⟩ : ∃ s, s = nmAt N i := ⟨_, rfl⟩
        rw [← hs] at e0 hsz
        obtain ⟨ob, hob⟩ : ∃ ob, ob = decide (i ∈ L) := ⟨_, rfl⟩
        have hbb : (ob != ob) = false := by simp
        have U := Lib.hid (And.intro hs (And.intro hob (And.intro hb (Below.refl wr0.heap.size wr0)))); clear hs hob hb hb2 hca f1
        have KC := Lib.hid (show ∀ X, Below wr0.heap.size wr0 X → X.cell? (a.add (i * 2)) = some (.string s) from fun X hX => by rw [hX.cell (World.block_lt_of_cell? wr0 _ e0)]; exact e0)
        have cH := Lib.hid (show ∀ X, Below wr0.heap.size wr0 X → Calls Try.prog 23 #[.slice lA ln lc, .int .i64 (i : Int)] X (fun e w' => e = .returned (.bool ob) ∧ Below X.heap.size X w') from fun X hX => by rw [U.out.2.1]; exact has_any _ L i X (((K4.out.2.2.1.later U.out.2.2.1).later hX).at_ (f := rowP) (k := 1) (fun _ => rfl)))
        have cA := Lib.hid (show ∀ X, Below wr0.heap.size wr0 X → Calls Try.prog 21 #[.slice (some a) n c1, .string s] X (AboveP N s X) from fun X hX => Above_any _ N s X ((K4.out.1.later U.out.2.2.1).later hX) hsz K2.out.2.2.2.2.2.2.2.2.1 K2.out.2.2.2.2.2.2.2.1)
        go_wp2_with fail
        have KB := Lib.hid (Below.refl wr0.heap.size wr0)
        go_region_held3 (fun X => X.cell? (a.add (i * 2)) = some (.string s)) (exact KC.out _ (by first | exact KB.out | exact below_drew KB.out)) (first
          | (go_at_call 23; (with_reducible refine (cH.out _ (by first | exact KB.out | exact below_drew KB.out)).mono ?_); rintro e x1 ⟨rfl, hb⟩; (first | replace KB := Lib.hid (KB.out.trans (hb.mono KB.out.size)) | replace KB := Lib.hid ((below_drew KB.out).trans (hb.mono KB.out.size))); clear hb)
          | (go_at_call 21; (with_reducible refine (cA.out _ (by first | exact KB.out | exact below_drew KB.out)).mono ?_); rintro e x2 ⟨r5, LA, ⟨rfl, oA, hA⟩, hb⟩; obtain ⟨rA, rn, rc, rfl⟩ := own_shape oA; have KA := Lib.hid (show ∀ X, Below x2.heap.size x2 X → Calls Try.prog 23 #[.slice rA rn rc, .int .i64 (i : Int)] X (fun e w' => e = .returned (.bool ob) ∧ Below X.heap.size X w') from fun X hX => by
              have hee : decide (i ∈ LA) = ob := by rw [U.out.2.1, decide_eq_decide, hA.2 i, K4.out.2.2.2.1.2 i, K2.out.2.2.2.2.2.1]; show Gr.Comes N s i ↔ (i < n ∧ Gr.Comes N (nmAt N i) i); rw [← U.out.1]; exact ⟨fun h => ⟨hlt, h⟩, fun h => h.2⟩
              rw [← hee]; exact has_any _ LA i X ((oA.later hX).at_ (f := rowP) (k := 1) (fun _ => rfl))); (first | replace KB := Lib.hid (KB.out.trans (hb.mono KB.out.size)) | replace KB := Lib.hid ((below_drew KB.out).trans (hb.mono KB.out.size))); clear hb oA hA)
          | (go_at_call 23; (with_reducible refine (KA.out _ (by first | exact Below.refl _ _ | exact below_drew (Below.refl _ _))).mono ?_); rintro e x3 ⟨rfl, hb⟩; (first | replace KB := Lib.hid (KB.out.trans (hb.mono KB.out.size)) | replace KB := Lib.hid ((below_drew KB.out).trans (hb.mono KB.out.size))); clear hb))
        all_goals go_wp2
        all_goals go_roundw
        all_goals first
          | exact ⟨i + 1, by omega, by go_num, bt U.out.2.2.1 KB.out⟩
          | (simp [intOf]; omega)
      · obtain rfl : i = n := by omega
        have U := Lib.hid (bt K4.out.2.1 hb); clear hb
        go_wp2_with fail
        go_ret
        exact ⟨rfl, U.out⟩
  · go_wp2_with fail
    go_loopw [8] (fun iv wr => ∃ i : Nat, i ≤ n ∧ iv = .int .i64 (i : Int) ∧ Below w4.heap.size w4 wr) (fun iv _ => n - (intOf iv).toNat)
    case atStart => exact ⟨0, Nat.zero_le _, rfl, Below.refl _ _⟩
    case round =>
      rename World => wr0
      obtain ⟨i, hi, rfl, hb⟩ := hrel
      by_cases hlt : i < n
      · have hb2 : Below w2.heap.size w2 wr0 := bt K4.out.2.2.2.2 hb
        have hil : i < l.length := by have := K2.out.2.2.2.2.2.2.2.2.2; omega
        obtain ⟨a, rfl, hca⟩ := (K2.out.2.2.1.later hb2).cells rfl (by rw [K2.out.2.2.2.2.2.2.2.2.2]; omega)
        obtain ⟨e0, _⟩ := hca.row2 i hil rfl
        obtain ⟨f1, _⟩ := at_node K2.out.2.2.2.1 hil
        have hsz := (K2.out.2.2.2.2.1 _ (List.getElem_mem hil)).2.1
        rw [← f1] at e0 hsz
        obtain ⟨s, hs⟩ : ∃ s, s = nmAt N i := ⟨_, rfl⟩
        rw [← hs] at e0 hsz
        obtain ⟨ob, hob⟩ : ∃ ob, ob = decide (i ∈ L) := ⟨_, rfl⟩
        have hbb : (ob != ob) = false := by simp
        have U := Lib.hid (And.intro hs (And.intro hob (And.intro hb (Below.refl wr0.heap.size wr0)))); clear hs hob hb hb2 hca f1
        have KC := Lib.hid (show ∀ X, Below wr0.heap.size wr0 X → X.cell? (a.add (i * 2)) = some (.string s) from fun X hX => by rw [hX.cell (World.block_lt_of_cell? wr0 _ e0)]; exact e0)
        have cH := Lib.hid (show ∀ X, Below wr0.heap.size wr0 X → Calls Try.prog 23 #[.slice lA 0 lc, .int .i64 (i : Int)] X (fun e w' => e = .returned (.bool ob) ∧ Below X.heap.size X w') from fun X hX => by rw [U.out.2.1]; exact has_any _ L i X (((K4.out.2.2.1.later U.out.2.2.1).later hX).at_ (f := rowP) (k := 1) (fun _ => rfl)))
        have cA := Lib.hid (show ∀ X, Below wr0.heap.size wr0 X → Calls Try.prog 21 #[.slice (some a) n c1, .string s] X (AboveP N s X) from fun X hX => Above_any _ N s X ((K4.out.1.later U.out.2.2.1).later hX) hsz K2.out.2.2.2.2.2.2.2.2.1 K2.out.2.2.2.2.2.2.2.1)
        go_wp2_with fail
        have KB := Lib.hid (Below.refl wr0.heap.size wr0)
        go_region_held3 (fun X => X.cell? (a.add (i * 2)) = some (.string s)) (exact KC.out _ (by first | exact KB.out | exact below_drew KB.out)) (first
          | (go_at_call 23; (with_reducible refine (cH.out _ (by first | exact KB.out | exact below_drew KB.out)).mono ?_); rintro e x1 ⟨rfl, hb⟩; (first | replace KB := Lib.hid (KB.out.trans (hb.mono KB.out.size)) | replace KB := Lib.hid ((below_drew KB.out).trans (hb.mono KB.out.size))); clear hb)
          | (go_at_call 21; (with_reducible refine (cA.out _ (by first | exact KB.out | exact below_drew KB.out)).mono ?_); rintro e x2 ⟨r5, LA, ⟨rfl, oA, hA⟩, hb⟩; obtain ⟨rA, rn, rc, rfl⟩ := own_shape oA; have KA := Lib.hid (show ∀ X, Below x2.heap.size x2 X → Calls Try.prog 23 #[.slice rA rn rc, .int .i64 (i : Int)] X (fun e w' => e = .returned (.bool ob) ∧ Below X.heap.size X w') from fun X hX => by
              have hee : decide (i ∈ LA) = ob := by rw [U.out.2.1, decide_eq_decide, hA.2 i, K4.out.2.2.2.1.2 i, K2.out.2.2.2.2.2.1]; show Gr.Comes N s i ↔ (i < n ∧ Gr.Comes N (nmAt N i) i); rw [← U.out.1]; exact ⟨fun h => ⟨hlt, h⟩, fun h => h.2⟩
              rw [← hee]; exact has_any _ LA i X ((oA.later hX).at_ (f := rowP) (k := 1) (fun _ => rfl))); (first | replace KB := Lib.hid (KB.out.trans (hb.mono KB.out.size)) | replace KB := Lib.hid ((below_drew KB.out).trans (hb.mono KB.out.size))); clear hb oA hA)
          | (go_at_call 23; (with_reducible refine (KA.out _ (by first | exact Below.refl _ _ | exact below_drew (Below.refl _ _))).mono ?_); rintro e x3 ⟨rfl, hb⟩; (first | replace KB := Lib.hid (KB.out.trans (hb.mono KB.out.size)) | replace KB := Lib.hid ((below_drew KB.out).trans (hb.mono KB.out.size))); clear hb))
        all_goals go_wp2
        all_goals go_roundw
        all_goals first
          | exact ⟨i + 1, by omega, by go_num, bt U.out.2.2.1 KB.out⟩
          | (simp [intOf]; omega)
      · obtain rfl : i = n := by omega
        have U := Lib.hid (bt K4.out.2.1 hb); clear hb
        go_wp2_with fail
        go_ret
        exact ⟨rfl, U.out⟩
end Go.Proofs.Ytinonfgehbjneaa
