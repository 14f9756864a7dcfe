/- Layer 12: nodes by links, in no loop. -/
import Derived.Test.YtinonfgehbjneaaGphL
import Derived.Deep.RegionLaw
namespace Go.Proofs.Ytinonfgehbjneaa
open Go.ChangeShapes Go.WideShapes Go.ChangeAt Go.RowKit Go.Maps
open Gr (Nd nmAt frAt)
set_option linter.unusedVariables false
set_option linter.unusedSimpArgs false

theorem own_two {α β : Type} {w : World} {B B' : Nat} {e e' : TypeId} {k k' : Nat} {f : α → List Value} {f' : β → List Value} {v v' : Value} {l : List α} {l' : List β} (h : Own w B e k f v l) (h' : Own w B' e' k' f' v' l') (hne : e ≠ e') : ∀ b, v.ownBlock = some b → v'.ownBlock ≠ some b := fun b hb hb' => by
  obtain ⟨_, cs, hc⟩ := h.block hb
  obtain ⟨_, cs', hc'⟩ := h'.block hb'
  rw [hc] at hc'
  simp at hc'
  exact hne hc'.2
/-- Nodes of the call's own. -/
def NdsO (w : World) (B : Nat) (v : Value) (N : List Nd) : Prop :=
  ∃ l : List Ny, Own w B 45 2 rowN v l ∧ l.map (·.1) = N ∧ ∀ y ∈ l, Own w B 9 1 scV (sl y.2) y.1.2 ∧ y.1.1.size ≤ maxLen ∧ ∀ f ∈ y.1.2, f.size ≤ maxLen
theorem NdsO.later {w w' : World} {B : Nat} {v : Value} {N : List Nd} (h : NdsO w B v N) (hb : Below w.heap.size w w') : NdsO w' B v N := by
  obtain ⟨l, h1, h2, h3⟩ := h
  exact ⟨l, h1.later hb, h2, fun y hy => ⟨(h3 y hy).1.later hb, (h3 y hy).2⟩⟩
theorem NdsO.at_ {w : World} {B : Nat} {v : Value} {N : List Nd} (h : NdsO w B v N) : NdsAt w v N := by
  obtain ⟨l, h1, h2, h3⟩ := h
  exact ⟨l, h1.at_ (f := rowN) (k := 2) (fun _ => rfl), h2, fun y hy => ⟨(h3 y hy).1.at_ (f := scV) (k := 1) (fun _ => rfl), (h3 y hy).2⟩⟩
theorem NdsO.nil (w : World) (B : Nat) : NdsO w B (.slice none 0 0) [] := ⟨[], Own.nil _ _ _ _ _, rfl, fun y hy => by cases hy⟩
theorem NdsO.lift {w : World} {B B' : Nat} {v : Value} {N : List Nd} (h : NdsO w B v N) (hB : B' ≤ B) : NdsO w B' v N := by
  obtain ⟨l, h1, h2, h3⟩ := h
  exact ⟨l, h1.lift hB, h2, fun y hy => ⟨(h3 y hy).1.lift hB, (h3 y hy).2⟩⟩
theorem one_rowN (y : Ny) : ∀ u ∈ rowN y, u.oneCell' = true := fun u hu => by
  simp at hu
  rcases hu with rfl | rfl <;> rfl
theorem at_newN (w : World) (y : Ny) : At (w.alloc (.cells #[.string y.1.1, sl y.2] 45)) 2 rowN (.slice (some ⟨w.heap.size, 0, none⟩) 1 1) [y] := by
  refine ⟨some ⟨w.heap.size, 0, none⟩, 1, rfl, by simp, by unfold maxLen; omega, fun h => by simp at h, fun b hb j hj i v hv => ?_⟩
  obtain rfl : (⟨w.heap.size, 0, none⟩ : Addr) = b := by simpa using hb
  have hj0 : j = 0 := by simpa using hj
  subst hj0
  simp only [List.getElem_cons_zero] at hv
  rw [Nat.zero_mul, Nat.zero_add]
  exact new_cells rfl 45 _ i v hv
theorem at_newS (w : World) (s : ByteArray) : At (w.alloc (.cells #[.string s] 9)) 1 scV (.slice (some ⟨w.heap.size, 0, none⟩) 1 1) [s] := by
  refine ⟨some ⟨w.heap.size, 0, none⟩, 1, rfl, by simp, by unfold maxLen; omega, fun h => by simp at h, fun b hb j hj i v hv => ?_⟩
  obtain rfl : (⟨w.heap.size, 0, none⟩ : Addr) = b := by simpa using hb
  have hj0 : j = 0 := by simpa using hj
  subst hj0
  simp only [List.getElem_cons_zero] at hv
  rw [Nat.zero_mul, Nat.zero_add]
  exact new_cells rfl 9 _ i v hv
theorem one_scV (s : ByteArray) : ∀ u ∈ scV s, u.oneCell' = true := fun u hu => by simp at hu; subst hu; rfl
def nmO (k : Nat) : ByteArray := nms.getD k ⟨#[]⟩
theorem nmO_size (k : Nat) : (nmO k).size ≤ maxLen := by
  unfold nmO maxLen
  rcases Nat.lt_or_ge k 8 with h | h
  · rcases (by omega : k = 0 ∨ k = 1 ∨ k = 2 ∨ k = 3 ∨ k = 4 ∨ k = 5 ∨ k = 6 ∨ k = 7) with rfl | rfl | rfl | rfl | rfl | rfl | rfl | rfl <;> decide
  · have : nms.getD k ⟨#[]⟩ = ⟨#[]⟩ := by simp [List.getD, List.getElem?_eq_none (show nms.length ≤ k from h)]
    rw [this]; decide
/-- A cell of a row of names. -/
theorem nms_cell {w : World} {B g : Nat} (h : Own w B 9 1 scV (.slice (some ⟨g, 0, none⟩) 8 8) nms) (k : Nat) (hk : k < 8) : w.cell? ⟨g, k, none⟩ = some (.string (nmO k)) := by
  obtain ⟨g', e, _, _, _, hc⟩ := h.cells (f := scV) (k := 1) (fun _ => rfl) rfl (by decide)
  obtain rfl : g = g' := by simpa using e
  have := hc k hk 0 _ rfl
  rw [Nat.mul_one, Nat.add_zero] at this
  rw [this]
  unfold nmO
  rw [List.getD_eq_getElem?_getD, List.getElem?_eq_getElem hk]; rfl
/-- What a node comes of, by a byte. -/
def dnF (i : Nat) (b : UInt8) : ByteArray := if i = 0 ∨ b.toNat % 4 = 0 then nmO (6 + b.toNat % 2) else nmO (b.toNat % i)
def dn (Ls : List Lk) (i : Nat) : Nd := (nmO i, ((Ls.getD i ((0, []), (none, 0, 0))).1.2.take 4).map (dnF i))
/-- Nodes in no loop. -/
def downU (Ls : List Lk) (turn : Nat) : Nat → List Nd
  | 0 => []
  | i + 1 => if turn / 2 ^ i % 2 = 1 then dn Ls i :: downU Ls turn i else downU Ls turn i ++ [dn Ls i]
theorem downU_len (Ls : List Lk) (turn : Nat) : ∀ i, (downU Ls turn i).length = i
  | 0 => rfl
  | i + 1 => by
    unfold downU
    split <;> simp [downU_len Ls turn i]
theorem below_app {w1 wr1 W w6 : World} {g : Nat} {row : Option Nat} (h1 : Below g w1 wr1) (hle : g ≤ wr1.heap.size) (h2 : Below wr1.heap.size wr1 W) (hg : W.grownBy w6 row) (hr : ∀ k, row = some k → g ≤ k) : Below g w1 w6 :=
  (h1.trans (h2.mono hle)).trans (grownBy_below hg (Nat.le_trans hle h2.size) hr)
/-- Nodes behind an append to a row of nodes. -/
theorem NdsO.of {w5 w6 : World} {B : Nat} {v6 : Value} {l : List Ny} {row : Option Nat} (h : Own w6 B 45 2 rowN v6 l) (hy : ∀ y ∈ l, Own w5 B 9 1 scV (sl y.2) y.1.2 ∧ y.1.1.size ≤ maxLen ∧ ∀ f ∈ y.1.2, f.size ≤ maxLen)
    (hg : w5.grownBy w6 row) (hr : ∀ b, row = some b → ∃ cs, w5.heap[b]? = some (.cells cs 45 (0, 0))) : NdsO w6 B v6 (l.map (·.1)) := by
  refine ⟨l, h, rfl, fun y hm => ⟨(hy y hm).1.grown hg (fun b hb e => ?_), (hy y hm).2⟩⟩
  obtain ⟨cs, hc⟩ := hr b hb
  obtain ⟨_, cs', hc'⟩ := Own.block (hy y hm).1 e
  rw [hc] at hc'
  simp at hc'
theorem map_size {F : List ByteArray} {fr : List UInt8} {i : Nat} (h : F = fr.map (dnF i)) : ∀ f ∈ F, f.size ≤ maxLen := fun f hf => by
  rw [h] at hf
  obtain ⟨b, _, rfl⟩ := List.mem_map.1 hf
  unfold dnF
  split <;> exact nmO_size _
def DownP (Ls : List Lk) (turn : Nat) (w : World) (e : Ending) (w' : World) : Prop :=
  ∃ r, (e = .returned r ∧ NdsO w' w.heap.size r (downU Ls turn (min Ls.length 6))) ∧ Below w.heap.size w w'
set_option maxRecDepth 20000 in
set_option maxHeartbeats 8000000 in
theorem down_any (v : Value) (Ls : List Lk) (turn : Nat) (w : World) (h : LksR w v Ls) (ht : turn ≤ 255) :
    Calls Try.prog 11 #[v, .int .u8 (turn : Int)] w (DownP Ls turn w) := by
  obtain ⟨j0, hj, hy0, hy1, hy2⟩ := info_parts (P := Try.prog) (e := 45) (z := .agg #[.string ⟨#[]⟩, .slice none 0 0]) (size := 2) (bytes := 40) (by kernel_rfl)
  obtain ⟨js, sj, sy0, sy1, sy2⟩ := info_parts (P := Try.prog) (e := 9) (z := .string ⟨#[]⟩) (size := 1) (bytes := 16) (by kernel_rfl)
  obtain ⟨A, c, rfl, a1, a2, _⟩ := h.1.shape
  obtain ⟨n, hnl⟩ : ∃ n, n = Ls.length := ⟨_, rfl⟩
  have hnb : n ≤ 9223372036854775807 := by unfold maxLen at a2; omega
  rw [← hnl] at h a1 ⊢
  have H := Lib.hid (And.intro h hnl); clear h hnl a1
  go_enter Try.func11, Try.ntmps11
  go_wp2_with fail
  go_loopw [5, 6] (fun ov iv wr => ∃ i : Nat, i ≤ n ∧ i ≤ 6 ∧ iv = .int .i64 (i : Int) ∧ NdsO wr w.heap.size ov (downU Ls turn i) ∧ Below w.heap.size w wr) (fun _ iv _ => n - (intOf iv).toNat)
  case atStart => exact ⟨0, Nat.zero_le _, by omega, rfl, NdsO.nil _ _, Below.refl _ _⟩
  case round =>
    rename World => wr0
    obtain ⟨i, hi, hi6, rfl, hO, hb⟩ := hrel
    by_cases hlt : i < n
    · by_cases h6 : i < 6
      · have hil : i < Ls.length := by have := H.out.2; omega
        obtain ⟨a, rfl, hca⟩ := (H.out.1.1.later hb).cells rfl (by omega)
        obtain ⟨e0, e1⟩ := hca.row2 i hil rfl
        obtain ⟨_, g1⟩ := H.out.1.2 _ (List.getElem_mem hil)
        have hdn : dn Ls i = (nmO i, ((Ls[i]'hil).1.2.take 4).map (dnF i)) := by unfold dn; rw [List.getD_eq_getElem?_getD, List.getElem?_eq_getElem hil]; rfl
        generalize Ls[i]'hil = y at *
        obtain ⟨⟨xb, fr⟩, fA, fn, fc⟩ := y
        simp only at e0 e1 g1 hdn
        obtain ⟨B1, cc, hv, k1, k2, k3⟩ := g1.shape
        simp only [Value.slice.injEq] at hv
        obtain ⟨q1, q2, q3⟩ := hv
        subst q2
        subst q3
        subst q1
        change wr0.cell? ⟨(a.add (i * 2)).block, (a.add (i * 2)).off + 1, none⟩ = some (.slice fA fr.length fc) at e1
        obtain ⟨nf, hnf⟩ : ∃ nf, nf = fr.length := ⟨_, rfl⟩
        have hnfb : nf ≤ 9223372036854775807 := by unfold maxLen at k2; omega
        rw [← hnf] at e1
        have M := Lib.hid (And.intro hO (And.intro hb (And.intro g1 (And.intro hdn (And.intro hnf hca))))); clear hO hb g1 hdn hnf hca k1 k3
        go_wp2_with (go_at_call 12; refine (names_any _).mono ?_; rintro e w1 ⟨rfl, oN, bN⟩; have n0 := nms_cell oN i (by omega); have K := Lib.hid bN; clear oN bN)
        obtain ⟨g, hg⟩ : ∃ g, g = w1.heap.size := ⟨_, rfl⟩
        have hB0 := Blk.new w1 45 #[.string (nmO i), .slice none 0 0]
        have hb0 := ba w1 (.cells #[.string (nmO i), .slice none 0 0] 45)
        rw [← hg] at hB0 hb0 ⊢
        have hs2 : (w1.alloc (.cells #[.string (nmO i), .slice none 0 0] 45)).heap.size = g + 1 := by simp [hg]
        generalize w1.alloc (.cells #[.string (nmO i), .slice none 0 0] 45) = w2 at *
        have K2 := Lib.hid (And.intro hB0 (And.intro hb0 (And.intro hg hs2))); clear hB0 hb0 hg hs2
        clear n0
        have hgw : w.heap.size ≤ g := by have := M.out.2.1.size; have := K.out.size; have := K2.out.2.2.1; omega
        go_loopw [8] (fun kv wr => ∃ (k : Nat) (fv : Value), k ≤ nf ∧ k ≤ 4 ∧ kv = .int .i64 (k : Int) ∧ Blk wr g 45 #[.string (nmO i), fv] ∧ Own wr (g + 1) 9 1 scV fv ((fr.take k).map (dnF i)) ∧ Below g w1 wr) (fun kv _ => nf - (intOf kv).toNat)
        case atStart => exact ⟨0, _, Nat.zero_le _, by omega, rfl, K2.out.1, Own.nil _ _ _ _ _, K2.out.2.1⟩
        case round =>
          rename World => wr1
          obtain ⟨k, fv, hk, hk4, rfl, hB, hF, hb1⟩ := hrel
          have hgl := hB.lt
          have hbw : Below w.heap.size w wr1 := (bt M.out.2.1 K.out).trans (hb1.mono hgw)
          have hb0 : Below wr0.heap.size wr0 wr1 := K.out.trans (hb1.mono (by have := K.out.size; have := K2.out.2.2.1; omega))
          have e1' : wr1.cell? ⟨(a.add (i * 2)).block, (a.add (i * 2)).off + 1, none⟩ = some (.slice fA nf fc) := by rw [hb0.cell (World.block_lt_of_cell? wr0 _ e1)]; exact e1
          by_cases hlt2 : k < nf
          · by_cases h4 : k < 4
            · have hkl : k < fr.length := by have := M.out.2.2.2.2.1; omega
              obtain ⟨a2, rfl, hca2⟩ := (M.out.2.2.1.later hbw).cells rfl (by omega)
              have z0 := hca2.row1 k hkl rfl
              rw [Nat.mul_one] at z0
              have htk : (fr.take (k + 1)).map (dnF i) = (fr.take k).map (dnF i) ++ [dnF i (fr[k]'hkl)] := by rw [Gr.take_more hkl, List.map_append]; rfl
              have hbl := UInt8.toNat_lt (fr[k]'hkl)
              obtain ⟨s, hs⟩ : ∃ s, s = dnF i (fr[k]'hkl) := ⟨_, rfl⟩
              rw [← hs] at htk
              unfold dnF at hs
              generalize (fr[k]'hkl).toNat = b at *
              have hfl : ((fr.take k).map (dnF i)).length ≤ 4 := by rw [List.length_map, List.length_take]; omega
              generalize (fr.take k).map (dnF i) = F at *
              obtain ⟨fA', fc', rfl, _, _, _⟩ := hF.shape
              obtain ⟨fn', hfn'⟩ : ∃ fn', fn' = F.length := ⟨_, rfl⟩
              rw [← hfn'] at hF hB
              have c1 := hB.cell 1
              simp only [List.getElem?_toArray, List.getElem?_cons_succ, List.getElem?_cons_zero] at c1
              by_cases hc : i = 0 ∨ b % 4 = 0
              · rw [if_pos hc] at hs
                obtain ⟨r, hr⟩ : ∃ r, r = b % 2 := ⟨_, rfl⟩
                obtain ⟨q, hq⟩ : ∃ q, q = 6 + b % 2 := ⟨_, rfl⟩
                rw [← hq] at hs
                have hq8 : q < 8 := by omega
                have hm : (b : Int) % 2 = (r : Int) := by omega
                have hm2 : Int.tmod (b : Int) 2 = (r : Int) := by rw [Int.tmod_eq_emod_of_nonneg (by omega)]; omega
                have hr2 : r < 2 := by omega
                have hqi : (6 : Int) + (r : Int) = (q : Int) := by omega
                have hwr : IntKind.i64.wrap (r : Int) = (r : Int) := IntWalk.i64_in _ (by omega)
                have hwq : IntKind.i64.wrap (q : Int) = (q : Int) := IntWalk.i64_in _ (by omega)
                have hqlt : (q : Int) < 8 := by omega
                have U := Lib.hid (And.intro hB (And.intro hF (And.intro hb1 (And.intro htk (And.intro (show F.length ≤ 4 from hfl) (And.intro hbw hs)))))); clear hB hF hb1 htk hfn' hbw hca2 hq hr hfl
                rcases (by omega : i = 0 ∨ (¬ i = 0 ∧ b % 4 = 0)) with hi0 | ⟨hi0, hb4⟩
                · have hib : ((i : Int) == 0) = true := by simp [hi0]
                  have hid : decide ((i : Int) = 0) = true := by simp [hi0]
                  have HI := Lib.hid hi0; clear hi0 hc
                  go_upto_region 11 with fail
                  go_region_law (first
                    | (go_simp; go_at_call 12; refine (names_any _).mono ?_; rintro e w5 ⟨rfl, oN, bN⟩; have n0 : w5.cell? ⟨wr1.heap.size, q, none⟩ = some (.string (nmO q)) := nms_cell oN q hq8; have b5 : Below wr1.heap.size wr1 w5 := (by first | exact bN | exact bt (below_drew (Below.refl _ _)) bN); have c1' : w5.cell? ⟨g, 1, none⟩ = some (.slice fA' fn' fc') := (by rw [b5.cell (World.block_lt_of_cell? wr1 _ c1)]; exact c1); have c1q : (w5.alloc (.cells #[.string (nmO q)] 9)).cell? ⟨g, 1, none⟩ = some (.slice fA' fn' fc') := (by rw [(ba w5 (.cells #[.string (nmO q)] 9)).cell (World.block_lt_of_cell? w5 _ c1')]; exact c1'); have K5 := Lib.hid b5; clear oN bN b5)
                    | (refine step_append_at rfl (.tmp 56) (.tmp 63) 27 rfl (g + 1) 9 js (.string ⟨#[]⟩) 1 16 Try.underlying27 sj sy0 sy1 sy2 rfl (by decide) (f := scV) (fun _ => rfl) one_scV (.slice fA' fn' fc') F (by first | rfl | (simp [Act.eval, Act.put])) (U.out.2.1.later (by first | exact bt K5.out (ba _ _) | exact bt (bt K5.out (below_drew (Below.refl _ _))) (ba _ _))) (some ⟨w5.heap.size, 0, none⟩) 1 1 [nmO q] rfl (by first | rfl | (simp [Act.eval, Act.put])) (by first | exact at_newS w5 _ | exact at_newS w5.drew _) (by have := U.out.2.2.2.2.1; unfold maxLen; simp; omega) (by have := U.out.2.2.2.2.1; simp; omega) (by have h1 := K5.out.size; have h2 := hgl; simp; omega) ?_; intro v6 w6 hO6 hg6; obtain ⟨vA, vn, vc, rfl⟩ := own_shape hO6; have x1 : Blk w6 g 45 #[.string (nmO i), .slice fA' fn' fc'] := Blk.grown (U.out.1.later (by first | exact bt K5.out (ba _ _) | exact bt (bt K5.out (below_drew (Below.refl _ _))) (ba _ _))) hg6 (fun e => (by have := (Own.block U.out.2.1 e.symm).1; omega)); have y1 : w6.cell? ⟨g, 1, none⟩ = some (.slice fA' fn' fc') := x1.cell 1; have y2 := x1.lt; have y3 := x1.frozen; have hb6 := below_app U.out.2.2.1 (Nat.le_of_lt hgl) (by first | exact bt K5.out (ba _ _) | exact bt (bt K5.out (below_drew (Below.refl _ _))) (ba _ _)) hg6 (fun x hx => (by have := (Own.block U.out.2.1 hx).1; omega)); have Z := Lib.hid (And.intro x1 (And.intro hO6 hb6)); clear x1 hO6 hg6 hb6))
                  all_goals
                    have hBf : Blk (w6.setCell ⟨g, 1, none⟩ (.slice vA vn vc)) g 45 #[.string (nmO i), .slice vA vn vc] := by
                      have := Z.out.1.set_ 1 (.slice vA vn vc)
                      simpa using this
                    have hFf : Own (w6.setCell ⟨g, 1, none⟩ (.slice vA vn vc)) (g + 1) 9 1 scV (.slice vA vn vc) ((fr.take (k + 1)).map (dnF i)) := by
                      rw [U.out.2.2.2.1, U.out.2.2.2.2.2.2]
                      exact Z.out.2.1.far (p := ⟨g, 1, none⟩) (Nat.lt_succ_self g) _
                    have hbf : Below g w1 (w6.setCell ⟨g, 1, none⟩ (.slice vA vn vc)) := Z.out.2.2.setCell (p := ⟨g, 1, none⟩) (Nat.le_refl g) _
                    have Y := Lib.hid (And.intro hBf (And.intro hFf hbf)); clear hBf hFf hbf
                  all_goals go_wp2
                  all_goals go_roundw
                  all_goals first
                    | exact ⟨k + 1, _, by omega, by omega, by go_num, Y.out.1, Y.out.2.1, Y.out.2.2⟩
                    | exact ⟨k + 1, _, by omega, by omega, by go_num, Y.out.1.later (below_drew (Below.refl _ _)), Y.out.2.1.later (below_drew (Below.refl _ _)), below_drew Y.out.2.2⟩
                    | (simp [intOf]; omega)
                    | (simp [intOf])
                · have hib : ((i : Int) == 0) = false := by simp [hi0]
                  have hi0' : ¬ (i : Int) = 0 := by omega
                  have hb4' : (b : Int) % 4 = 0 := by omega
                  have hb5 : Int.tmod (b : Int) 4 = 0 := by rw [Int.tmod_eq_emod_of_nonneg (by omega)]; omega
                  clear hc
                  go_upto_region 11 with fail
                  go_region_law (first
                    | (go_simp; go_at_call 12; refine (names_any _).mono ?_; rintro e w5 ⟨rfl, oN, bN⟩; have n0 : w5.cell? ⟨wr1.heap.size, q, none⟩ = some (.string (nmO q)) := nms_cell oN q hq8; have b5 : Below wr1.heap.size wr1 w5 := (by first | exact bN | exact bt (below_drew (Below.refl _ _)) bN); have c1' : w5.cell? ⟨g, 1, none⟩ = some (.slice fA' fn' fc') := (by rw [b5.cell (World.block_lt_of_cell? wr1 _ c1)]; exact c1); have c1q : (w5.alloc (.cells #[.string (nmO q)] 9)).cell? ⟨g, 1, none⟩ = some (.slice fA' fn' fc') := (by rw [(ba w5 (.cells #[.string (nmO q)] 9)).cell (World.block_lt_of_cell? w5 _ c1')]; exact c1'); have K5 := Lib.hid b5; clear oN bN b5)
                    | (refine step_append_at rfl (.tmp 56) (.tmp 63) 27 rfl (g + 1) 9 js (.string ⟨#[]⟩) 1 16 Try.underlying27 sj sy0 sy1 sy2 rfl (by decide) (f := scV) (fun _ => rfl) one_scV (.slice fA' fn' fc') F (by first | rfl | (simp [Act.eval, Act.put])) (U.out.2.1.later (by first | exact bt K5.out (ba _ _) | exact bt (bt K5.out (below_drew (Below.refl _ _))) (ba _ _))) (some ⟨w5.heap.size, 0, none⟩) 1 1 [nmO q] rfl (by first | rfl | (simp [Act.eval, Act.put])) (by first | exact at_newS w5 _ | exact at_newS w5.drew _) (by have := U.out.2.2.2.2.1; unfold maxLen; simp; omega) (by have := U.out.2.2.2.2.1; simp; omega) (by have h1 := K5.out.size; have h2 := hgl; simp; omega) ?_; intro v6 w6 hO6 hg6; obtain ⟨vA, vn, vc, rfl⟩ := own_shape hO6; have x1 : Blk w6 g 45 #[.string (nmO i), .slice fA' fn' fc'] := Blk.grown (U.out.1.later (by first | exact bt K5.out (ba _ _) | exact bt (bt K5.out (below_drew (Below.refl _ _))) (ba _ _))) hg6 (fun e => (by have := (Own.block U.out.2.1 e.symm).1; omega)); have y1 : w6.cell? ⟨g, 1, none⟩ = some (.slice fA' fn' fc') := x1.cell 1; have y2 := x1.lt; have y3 := x1.frozen; have hb6 := below_app U.out.2.2.1 (Nat.le_of_lt hgl) (by first | exact bt K5.out (ba _ _) | exact bt (bt K5.out (below_drew (Below.refl _ _))) (ba _ _)) hg6 (fun x hx => (by have := (Own.block U.out.2.1 hx).1; omega)); have Z := Lib.hid (And.intro x1 (And.intro hO6 hb6)); clear x1 hO6 hg6 hb6))
                  all_goals
                    have hBf : Blk (w6.setCell ⟨g, 1, none⟩ (.slice vA vn vc)) g 45 #[.string (nmO i), .slice vA vn vc] := by
                      have := Z.out.1.set_ 1 (.slice vA vn vc)
                      simpa using this
                    have hFf : Own (w6.setCell ⟨g, 1, none⟩ (.slice vA vn vc)) (g + 1) 9 1 scV (.slice vA vn vc) ((fr.take (k + 1)).map (dnF i)) := by
                      rw [U.out.2.2.2.1, U.out.2.2.2.2.2.2]
                      exact Z.out.2.1.far (p := ⟨g, 1, none⟩) (Nat.lt_succ_self g) _
                    have hbf : Below g w1 (w6.setCell ⟨g, 1, none⟩ (.slice vA vn vc)) := Z.out.2.2.setCell (p := ⟨g, 1, none⟩) (Nat.le_refl g) _
                    have Y := Lib.hid (And.intro hBf (And.intro hFf hbf)); clear hBf hFf hbf
                  all_goals go_wp2
                  all_goals go_roundw
                  all_goals first
                    | exact ⟨k + 1, _, by omega, by omega, by go_num, Y.out.1, Y.out.2.1, Y.out.2.2⟩
                    | exact ⟨k + 1, _, by omega, by omega, by go_num, Y.out.1.later (below_drew (Below.refl _ _)), Y.out.2.1.later (below_drew (Below.refl _ _)), below_drew Y.out.2.2⟩
                    | (simp [intOf]; omega)
                    | (simp [intOf])
              · rw [if_neg hc] at hs
                have hi1 : 1 ≤ i := by omega
                obtain ⟨q, hq⟩ : ∃ q, q = b % i := ⟨_, rfl⟩
                rw [← hq] at hs
                have hqi : q < i := by rw [hq]; exact Nat.mod_lt _ hi1
                have hq8 : q < 8 := by omega
                have hm : (b : Int) % (i : Int) = (q : Int) := by rw [hq]; rfl
                have hm2 : Int.tmod (b : Int) (i : Int) = (q : Int) := by rw [Int.tmod_eq_emod_of_nonneg (by omega)]; exact hm
                have hwq : IntKind.i64.wrap (q : Int) = (q : Int) := IntWalk.i64_in _ (by omega)
                have hqlt : (q : Int) < 8 := by omega
                have hib : ((i : Int) == 0) = false := by simp; omega
                have hi0' : ¬ (i : Int) = 0 := by omega
                have hi0'' : ¬ i = 0 := by omega
                have hb4' : ¬ (b : Int) % 4 = 0 := by omega
                have hb5 : ¬ Int.tmod (b : Int) 4 = 0 := by rw [Int.tmod_eq_emod_of_nonneg (by omega)]; omega
                have U := Lib.hid (And.intro hB (And.intro hF (And.intro hb1 (And.intro htk (And.intro (show F.length ≤ 4 from hfl) (And.intro hbw hs)))))); clear hB hF hb1 htk hfn' hbw hca2 hq hfl hc
                go_upto_region 12 with fail
                go_region_law (first
                  | (go_simp; go_at_call 12; refine (names_any _).mono ?_; rintro e w5 ⟨rfl, oN, bN⟩; have n0 : w5.cell? ⟨wr1.heap.size, q, none⟩ = some (.string (nmO q)) := nms_cell oN q hq8; have b5 : Below wr1.heap.size wr1 w5 := (by first | exact bN | exact bt (below_drew (Below.refl _ _)) bN); have c1' : w5.cell? ⟨g, 1, none⟩ = some (.slice fA' fn' fc') := (by rw [b5.cell (World.block_lt_of_cell? wr1 _ c1)]; exact c1); have c1q : (w5.alloc (.cells #[.string (nmO q)] 9)).cell? ⟨g, 1, none⟩ = some (.slice fA' fn' fc') := (by rw [(ba w5 (.cells #[.string (nmO q)] 9)).cell (World.block_lt_of_cell? w5 _ c1')]; exact c1'); have K5 := Lib.hid b5; clear oN bN b5)
                  | (refine step_append_at rfl (.tmp 67) (.tmp 74) 27 rfl (g + 1) 9 js (.string ⟨#[]⟩) 1 16 Try.underlying27 sj sy0 sy1 sy2 rfl (by decide) (f := scV) (fun _ => rfl) one_scV (.slice fA' fn' fc') F (by first | rfl | (simp [Act.eval, Act.put])) (U.out.2.1.later (by first | exact bt K5.out (ba _ _) | exact bt (bt K5.out (below_drew (Below.refl _ _))) (ba _ _))) (some ⟨w5.heap.size, 0, none⟩) 1 1 [nmO q] rfl (by first | rfl | (simp [Act.eval, Act.put])) (by first | exact at_newS w5 _ | exact at_newS w5.drew _) (by have := U.out.2.2.2.2.1; unfold maxLen; simp; omega) (by have := U.out.2.2.2.2.1; simp; omega) (by have h1 := K5.out.size; have h2 := hgl; simp; omega) ?_; intro v6 w6 hO6 hg6; obtain ⟨vA, vn, vc, rfl⟩ := own_shape hO6; have x1 : Blk w6 g 45 #[.string (nmO i), .slice fA' fn' fc'] := Blk.grown (U.out.1.later (by first | exact bt K5.out (ba _ _) | exact bt (bt K5.out (below_drew (Below.refl _ _))) (ba _ _))) hg6 (fun e => (by have := (Own.block U.out.2.1 e.symm).1; omega)); have y1 : w6.cell? ⟨g, 1, none⟩ = some (.slice fA' fn' fc') := x1.cell 1; have y2 := x1.lt; have y3 := x1.frozen; have hb6 := below_app U.out.2.2.1 (Nat.le_of_lt hgl) (by first | exact bt K5.out (ba _ _) | exact bt (bt K5.out (below_drew (Below.refl _ _))) (ba _ _)) hg6 (fun x hx => (by have := (Own.block U.out.2.1 hx).1; omega)); have Z := Lib.hid (And.intro x1 (And.intro hO6 hb6)); clear x1 hO6 hg6 hb6))
                all_goals
                  have hBf : Blk (w6.setCell ⟨g, 1, none⟩ (.slice vA vn vc)) g 45 #[.string (nmO i), .slice vA vn vc] := by
                    have := Z.out.1.set_ 1 (.slice vA vn vc)
                    simpa using this
                  have hFf : Own (w6.setCell ⟨g, 1, none⟩ (.slice vA vn vc)) (g + 1) 9 1 scV (.slice vA vn vc) ((fr.take (k + 1)).map (dnF i)) := by
                    rw [U.out.2.2.2.1, U.out.2.2.2.2.2.2]
                    exact Z.out.2.1.far (p := ⟨g, 1, none⟩) (Nat.lt_succ_self g) _
                  have hbf : Below g w1 (w6.setCell ⟨g, 1, none⟩ (.slice vA vn vc)) := Z.out.2.2.setCell (p := ⟨g, 1, none⟩) (Nat.le_refl g) _
                  have Y := Lib.hid (And.intro hBf (And.intro hFf hbf)); clear hBf hFf hbf
                all_goals go_wp2
                all_goals go_roundw
                all_goals first
                  | exact ⟨k + 1, _, by omega, by omega, by go_num, Y.out.1, Y.out.2.1, Y.out.2.2⟩
                  | exact ⟨k + 1, _, by omega, by omega, by go_num, Y.out.1.later (below_drew (Below.refl _ _)), Y.out.2.1.later (below_drew (Below.refl _ _)), below_drew Y.out.2.2⟩
                  | (simp [intOf]; omega)
                  | (simp [intOf])

            · have hkm : fr.take k = fr.take 4 := by rw [show k = 4 by omega]
              rw [hkm] at hF
              have hFs := map_size (F := (fr.take 4).map (dnF i)) rfl
              have hdn := M.out.2.2.2.1
              generalize (fr.take 4).map (dnF i) = F at *
              obtain ⟨fA', fc', rfl, _, _, _⟩ := hF.shape
              obtain ⟨fn', hfn'⟩ : ∃ fn', fn' = F.length := ⟨_, rfl⟩
              rw [← hfn'] at hF hB
              obtain ⟨c0, c1⟩ := hB.two
              obtain ⟨l, oO, oN, oY⟩ := M.out.1.later hb0
              obtain ⟨oA, oc, rfl, _, _, _⟩ := oO.shape
              obtain ⟨on, hon⟩ : ∃ on, on = l.length := ⟨_, rfl⟩
              rw [← hon] at oO ⊢
              have hli : on = i := by rw [hon, ← List.length_map (f := fun y : Ny => y.1), oN, downU_len]
              have hlb : l.length ≤ 6 := by omega
              have hsh : turn / 2 ^ i % 2 < 2 := Nat.mod_lt _ (by omega)
              have hgb : w.heap.size ≤ wr1.heap.size := hbw.size
              have U := Lib.hid (And.intro (hF.lift (show w.heap.size ≤ g + 1 by omega)) (And.intro oO (And.intro oN (And.intro oY (And.intro hdn (And.intro hFs (And.intro hon (And.intro hbw hgb)))))))); clear hB hF hb1 hfn' hbw oO oN oY hdn hFs hon hkm
              have htm : ((turn : Int) / 2 ^ i).tmod 2 = ((turn / 2 ^ i % 2 : Nat) : Int) := by
                have hx : (turn : Int) / 2 ^ i = ((turn / 2 ^ i : Nat) : Int) := by push_cast; rfl
                rw [hx, Int.tmod_eq_emod_of_nonneg (Int.natCast_nonneg _)]
                rfl
              have hY := at_newN wr1 ((nmO i, F), (fA', fn', fc'))
              have hbA := ba wr1 (.cells #[.string (nmO i), .slice fA' fn' fc'] 45)
              have hdU : downU Ls turn (i + 1) = if turn / 2 ^ i % 2 = 1 then dn Ls i :: downU Ls turn i else downU Ls turn i ++ [dn Ls i] := rfl
              by_cases ht1 : turn / 2 ^ i % 2 = 1
              · rw [ht1] at htm
                rw [if_pos ht1] at hdU
                have hL := own_lit (W := wr1) (e := 45) (k := 2) (f := rowN) (B := w.heap.size) [((nmO i, F), (fA', fn', fc'))] (cs := #[.string (nmO i), .slice fA' fn' fc']) rfl hgb rfl (by show 1 ≤ maxLen; unfold maxLen; omega) rfl rfl
                have HT := Lib.hid (And.intro hdU (And.intro hL ht1)); clear hdU hL ht1 hsh
                have htm1 : ((turn : Int) / 2 ^ i).tmod 2 = 1 := htm
                clear htm
                go_wp2_with (at_builtin; refine wpList_append_at _ rfl (.tmp 83) (.tmp 84) 23 rfl w.heap.size 45 j0 (.agg #[.string ⟨#[]⟩, .slice none 0 0]) 2 40 Try.underlying23 hj hy0 hy1 hy2 rfl (by decide) (f := rowN) (fun _ => rfl) one_rowN _ [((nmO i, F), (fA', fn', fc'))] rfl HT.out.2.1 oA on oc l U.out.2.2.2.2.2.2.1 rfl ((U.out.2.1.later hbA).at_ (f := rowN) (k := 2) (fun _ => rfl)) (by unfold maxLen; simp; omega) (by simp; omega) (by simp only [World.size_alloc]; omega) ?_; intro v6 w6 hO6 hg6; have Z := Lib.hid (And.intro hO6 hg6); clear hO6 hg6)
                have hN6 : NdsO w6 w.heap.size v6 (downU Ls turn (i + 1)) := by
                  have := NdsO.of Z.out.1 (fun y hy => by
                    rcases List.mem_append.1 hy with hy | hy
                    · obtain rfl : y = ((nmO i, F), (fA', fn', fc')) := by simpa using hy
                      exact ⟨U.out.1.later hbA, nmO_size i, U.out.2.2.2.2.2.1⟩
                    · exact ⟨(U.out.2.2.2.1 y hy).1.later hbA, (U.out.2.2.2.1 y hy).2⟩) Z.out.2 (fun b hb => (Own.block HT.out.2.1 hb).2)
                  rw [HT.out.1, U.out.2.2.2.2.1, ← U.out.2.2.1]
                  simpa using this
                have b6 : Below w.heap.size w w6 := (bt U.out.2.2.2.2.2.2.2.1 hbA).trans (grownBy_below Z.out.2 (Nat.le_trans hgb hbA.size) (fun x hx => (Own.block HT.out.2.1 hx).1))
                go_roundw
                case rel => exact ⟨i + 1, by omega, by omega, by go_num, hN6, b6⟩
                case measure => simp [intOf]; omega
              · have ht0 : turn / 2 ^ i % 2 = 0 := by omega
                rw [ht0] at htm
                rw [if_neg ht1] at hdU
                have HT := Lib.hid hdU; clear hdU ht1 ht0 hsh
                have htm1 : ((turn : Int) / 2 ^ i).tmod 2 = 0 := htm
                clear htm
                go_wp2_with (at_builtin; refine wpList_append_at _ rfl (.tmp 86) (.tmp 88) 23 rfl w.heap.size 45 j0 (.agg #[.string ⟨#[]⟩, .slice none 0 0]) 2 40 Try.underlying23 hj hy0 hy1 hy2 rfl (by decide) (f := rowN) (fun _ => rfl) one_rowN _ l rfl (U.out.2.1.later hbA) (some ⟨wr1.heap.size, 0, none⟩) 1 1 [((nmO i, F), (fA', fn', fc'))] rfl rfl hY (by have := U.out.2.2.2.2.2.2.1; unfold maxLen; omega) (by have := U.out.2.2.2.2.2.2.1; omega) (by simp only [World.size_alloc]; omega) ?_; intro v6 w6 hO6 hg6; have Z := Lib.hid (And.intro hO6 hg6); clear hO6 hg6)
                have hN6 : NdsO w6 w.heap.size v6 (downU Ls turn (i + 1)) := by
                  have := NdsO.of Z.out.1 (fun y hy => by
                    rcases List.mem_append.1 hy with hy | hy
                    · exact ⟨(U.out.2.2.2.1 y hy).1.later hbA, (U.out.2.2.2.1 y hy).2⟩
                    · obtain rfl : y = ((nmO i, F), (fA', fn', fc')) := by simpa using hy
                      exact ⟨U.out.1.later hbA, nmO_size i, U.out.2.2.2.2.2.1⟩) Z.out.2 (fun b hb => (Own.block (U.out.2.1.later hbA) hb).2)
                  rw [HT.out, U.out.2.2.2.2.1, ← U.out.2.2.1]
                  simpa using this
                have b6 : Below w.heap.size w w6 := (bt U.out.2.2.2.2.2.2.2.1 hbA).trans (grownBy_below Z.out.2 (Nat.le_trans hgb hbA.size) (fun x hx => (Own.block U.out.2.1 hx).1))
                go_roundw
                case rel => exact ⟨i + 1, by omega, by omega, by go_num, hN6, b6⟩
                case measure => simp [intOf]; omega
          · have hkm : fr.take k = fr.take 4 := by rw [show k = nf by omega, M.out.2.2.2.2.1, List.take_length, List.take_of_length_le (by have := M.out.2.2.2.2.1; omega)]
            rw [hkm] at hF
            have hFs := map_size (F := (fr.take 4).map (dnF i)) rfl
            have hdn := M.out.2.2.2.1
            generalize (fr.take 4).map (dnF i) = F at *
            obtain ⟨fA', fc', rfl, _, _, _⟩ := hF.shape
            obtain ⟨fn', hfn'⟩ : ∃ fn', fn' = F.length := ⟨_, rfl⟩
            rw [← hfn'] at hF hB
            obtain ⟨c0, c1⟩ := hB.two
            obtain ⟨l, oO, oN, oY⟩ := M.out.1.later hb0
            obtain ⟨oA, oc, rfl, _, _, _⟩ := oO.shape
            obtain ⟨on, hon⟩ : ∃ on, on = l.length := ⟨_, rfl⟩
            rw [← hon] at oO ⊢
            have hli : on = i := by rw [hon, ← List.length_map (f := fun y : Ny => y.1), oN, downU_len]
            have hlb : l.length ≤ 6 := by omega
            have hsh : turn / 2 ^ i % 2 < 2 := Nat.mod_lt _ (by omega)
            have hgb : w.heap.size ≤ wr1.heap.size := hbw.size
            have U := Lib.hid (And.intro (hF.lift (show w.heap.size ≤ g + 1 by omega)) (And.intro oO (And.intro oN (And.intro oY (And.intro hdn (And.intro hFs (And.intro hon (And.intro hbw hgb)))))))); clear hB hF hb1 hfn' hbw oO oN oY hdn hFs hon hkm
            have htm : ((turn : Int) / 2 ^ i).tmod 2 = ((turn / 2 ^ i % 2 : Nat) : Int) := by
              have hx : (turn : Int) / 2 ^ i = ((turn / 2 ^ i : Nat) : Int) := by push_cast; rfl
              rw [hx, Int.tmod_eq_emod_of_nonneg (Int.natCast_nonneg _)]
              rfl
            have hY := at_newN wr1 ((nmO i, F), (fA', fn', fc'))
            have hbA := ba wr1 (.cells #[.string (nmO i), .slice fA' fn' fc'] 45)
            have hdU : downU Ls turn (i + 1) = if turn / 2 ^ i % 2 = 1 then dn Ls i :: downU Ls turn i else downU Ls turn i ++ [dn Ls i] := rfl
            by_cases ht1 : turn / 2 ^ i % 2 = 1
            · rw [ht1] at htm
              rw [if_pos ht1] at hdU
              have hL := own_lit (W := wr1) (e := 45) (k := 2) (f := rowN) (B := w.heap.size) [((nmO i, F), (fA', fn', fc'))] (cs := #[.string (nmO i), .slice fA' fn' fc']) rfl hgb rfl (by show 1 ≤ maxLen; unfold maxLen; omega) rfl rfl
              have HT := Lib.hid (And.intro hdU (And.intro hL ht1)); clear hdU hL ht1 hsh
              have htm1 : ((turn : Int) / 2 ^ i).tmod 2 = 1 := htm
              clear htm
              go_wp2_with (at_builtin; refine wpList_append_at _ rfl (.tmp 83) (.tmp 84) 23 rfl w.heap.size 45 j0 (.agg #[.string ⟨#[]⟩, .slice none 0 0]) 2 40 Try.underlying23 hj hy0 hy1 hy2 rfl (by decide) (f := rowN) (fun _ => rfl) one_rowN _ [((nmO i, F), (fA', fn', fc'))] rfl HT.out.2.1 oA on oc l U.out.2.2.2.2.2.2.1 rfl ((U.out.2.1.later hbA).at_ (f := rowN) (k := 2) (fun _ => rfl)) (by unfold maxLen; simp; omega) (by simp; omega) (by simp only [World.size_alloc]; omega) ?_; intro v6 w6 hO6 hg6; have Z := Lib.hid (And.intro hO6 hg6); clear hO6 hg6)
              have hN6 : NdsO w6 w.heap.size v6 (downU Ls turn (i + 1)) := by
                have := NdsO.of Z.out.1 (fun y hy => by
                  rcases List.mem_append.1 hy with hy | hy
                  · obtain rfl : y = ((nmO i, F), (fA', fn', fc')) := by simpa using hy
                    exact ⟨U.out.1.later hbA, nmO_size i, U.out.2.2.2.2.2.1⟩
                  · exact ⟨(U.out.2.2.2.1 y hy).1.later hbA, (U.out.2.2.2.1 y hy).2⟩) Z.out.2 (fun b hb => (Own.block HT.out.2.1 hb).2)
                rw [HT.out.1, U.out.2.2.2.2.1, ← U.out.2.2.1]
                simpa using this
              have b6 : Below w.heap.size w w6 := (bt U.out.2.2.2.2.2.2.2.1 hbA).trans (grownBy_below Z.out.2 (Nat.le_trans hgb hbA.size) (fun x hx => (Own.block HT.out.2.1 hx).1))
              go_roundw
              case rel => exact ⟨i + 1, by omega, by omega, by go_num, hN6, b6⟩
              case measure => simp [intOf]; omega
            · have ht0 : turn / 2 ^ i % 2 = 0 := by omega
              rw [ht0] at htm
              rw [if_neg ht1] at hdU
              have HT := Lib.hid hdU; clear hdU ht1 ht0 hsh
              have htm1 : ((turn : Int) / 2 ^ i).tmod 2 = 0 := htm
              clear htm
              go_wp2_with (at_builtin; refine wpList_append_at _ rfl (.tmp 86) (.tmp 88) 23 rfl w.heap.size 45 j0 (.agg #[.string ⟨#[]⟩, .slice none 0 0]) 2 40 Try.underlying23 hj hy0 hy1 hy2 rfl (by decide) (f := rowN) (fun _ => rfl) one_rowN _ l rfl (U.out.2.1.later hbA) (some ⟨wr1.heap.size, 0, none⟩) 1 1 [((nmO i, F), (fA', fn', fc'))] rfl rfl hY (by have := U.out.2.2.2.2.2.2.1; unfold maxLen; omega) (by have := U.out.2.2.2.2.2.2.1; omega) (by simp only [World.size_alloc]; omega) ?_; intro v6 w6 hO6 hg6; have Z := Lib.hid (And.intro hO6 hg6); clear hO6 hg6)
              have hN6 : NdsO w6 w.heap.size v6 (downU Ls turn (i + 1)) := by
                have := NdsO.of Z.out.1 (fun y hy => by
                  rcases List.mem_append.1 hy with hy | hy
                  · exact ⟨(U.out.2.2.2.1 y hy).1.later hbA, (U.out.2.2.2.1 y hy).2⟩
                  · obtain rfl : y = ((nmO i, F), (fA', fn', fc')) := by simpa using hy
                    exact ⟨U.out.1.later hbA, nmO_size i, U.out.2.2.2.2.2.1⟩) Z.out.2 (fun b hb => (Own.block (U.out.2.1.later hbA) hb).2)
                rw [HT.out, U.out.2.2.2.2.1, ← U.out.2.2.1]
                simpa using this
              have b6 : Below w.heap.size w w6 := (bt U.out.2.2.2.2.2.2.2.1 hbA).trans (grownBy_below Z.out.2 (Nat.le_trans hgb hbA.size) (fun x hx => (Own.block U.out.2.1 hx).1))
              go_roundw
              case rel => exact ⟨i + 1, by omega, by omega, by go_num, hN6, b6⟩
              case measure => simp [intOf]; omega
      · obtain rfl : i = 6 := by omega
        have U := Lib.hid (And.intro hO hb); clear hO hb
        go_wp2_with fail
        go_ret
        exact ⟨_, ⟨rfl, by rw [show min Ls.length 6 = 6 by have := H.out.2; omega]; exact U.out.1⟩, U.out.2⟩
    · obtain rfl : i = n := by omega
      have U := Lib.hid (And.intro hO hb); clear hO hb
      go_wp2_with fail
      go_ret
      exact ⟨_, ⟨rfl, by rw [show min Ls.length 6 = i by have := H.out.2; omega]; exact U.out.1⟩, U.out.2⟩
end Go.Proofs.Ytinonfgehbjneaa
