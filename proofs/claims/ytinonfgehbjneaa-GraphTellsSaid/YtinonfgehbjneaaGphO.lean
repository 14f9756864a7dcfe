/- Layer 12: nodes by links. -/
import Derived.Test.YtinonfgehbjneaaGphN
import Derived.Deep.DeepCutAuto
import Derived.Deep.CutBlock
namespace Go.Proofs.Ytinonfgehbjneaa
open Go.ChangeShapes Go.WideShapes Go.ChangeAt Go.RowKit Go.Maps
open Gr (Nd nmAt frAt)
set_option linter.unusedVariables false
set_option linter.unusedSimpArgs false

def ndF (b : UInt8) : ByteArray := nmO (b.toNat % 8)
def nd (Ls : List Lk) (un : Bool) (i : Nat) : Nd := (if un then nmO i else nmO ((Ls.getD i ((0, []), (none, 0, 0))).1.1.toNat % 6), ((Ls.getD i ((0, []), (none, 0, 0))).1.2.take 4).map ndF)
/-- Nodes, as the links say. -/
def nodesU (Ls : List Lk) (un : Bool) : Nat → List Nd
  | 0 => []
  | i + 1 => nodesU Ls un i ++ [nd Ls un i]
theorem nodesU_len (Ls : List Lk) (un : Bool) : ∀ i, (nodesU Ls un i).length = i
  | 0 => rfl
  | i + 1 => by simp [nodesU, nodesU_len Ls un i]
theorem map_size2 {F : List ByteArray} {fr : List UInt8} (h : F = fr.map ndF) : ∀ f ∈ F, f.size ≤ maxLen := fun f hf => by
  rw [h] at hf
  obtain ⟨b, _, rfl⟩ := List.mem_map.1 hf
  exact nmO_size _
def NodesP (Ls : List Lk) (un : Bool) (w : World) (e : Ending) (w' : World) : Prop :=
  ∃ r, (e = .returned r ∧ NdsO w' w.heap.size r (nodesU Ls un (min Ls.length 6))) ∧ Below w.heap.size w w'
set_option maxRecDepth 20000 in
set_option maxHeartbeats 16000000 in
theorem nodes_any (v : Value) (Ls : List Lk) (un : Bool) (w : World) (h : LksR w v Ls) :
    Calls Try.prog 10 #[v, .bool un] w (NodesP Ls un w) := by
  obtain ⟨j0, hj, hy0, hy1, hy2⟩ := info_parts (P := Try.prog) (e := 45) (z := .agg #[.string ⟨#[]⟩, .slice none 0 0]) (size := 2) (bytes := 40) (by kernel_rfl)
  obtain ⟨js, sj, sy0, sy1, sy2⟩ := info_parts (P := Try.prog) (e := 9) (z := .string ⟨#[]⟩) (size := 1) (bytes := 16) (by kernel_rfl)
  obtain ⟨A, c, rfl, a1, a2, _⟩ := h.1.shape
  obtain ⟨n, hnl⟩ : ∃ n, n = Ls.length := ⟨_, rfl⟩
  have hnb : n ≤ 9223372036854775807 := by unfold maxLen at a2; omega
  rw [← hnl] at h a1 ⊢
  have H := Lib.hid (And.intro h hnl); clear h hnl a1
  go_enter Try.func10, Try.ntmps10
  go_wp2_with fail
  go_loopw [5, 6] (fun ov iv wr => ∃ i : Nat, i ≤ n ∧ i ≤ 6 ∧ iv = .int .i64 (i : Int) ∧ NdsO wr w.heap.size ov (nodesU Ls un i) ∧ Below w.heap.size w wr) (fun _ iv _ => n - (intOf iv).toNat)
  case atStart => exact ⟨0, Nat.zero_le _, by omega, rfl, NdsO.nil _ _, Below.refl _ _⟩
  case round =>
    rename World => wr0
    obtain ⟨i, hi, hi6, rfl, hO, hb⟩ := hrel
    by_cases hlt : i < n
    · by_cases h6 : i < 6
      · have hil : i < Ls.length := by have := H.out.2; omega
        obtain ⟨a, rfl, hca⟩ := (H.out.1.1.later hb).cells rfl (by omega)
        obtain ⟨e0, e1⟩ := hca.row2 i hil rfl
        obtain ⟨g0, g1⟩ := H.out.1.2 _ (List.getElem_mem hil)
        have hdn : nd Ls un i = (if un then nmO i else nmO ((Ls[i]'hil).1.1.toNat % 6), ((Ls[i]'hil).1.2.take 4).map ndF) := by unfold nd; rw [List.getD_eq_getElem?_getD, List.getElem?_eq_getElem hil]; rfl
        generalize Ls[i]'hil = y at *
        obtain ⟨⟨xb, fr⟩, fA, fn, fc⟩ := y
        simp only at e0 e1 g0 g1 hdn
        obtain ⟨B1, cc, hv, k1, k2, k3⟩ := g1.shape
        simp only [Value.slice.injEq] at hv
        obtain ⟨q1, q2, q3⟩ := hv
        subst q2
        subst q3
        subst q1
        change wr0.cell? ⟨(a.add (i * 2)).block, (a.add (i * 2)).off + 1, none⟩ = some (.slice fA fr.length fc) at e1
        obtain ⟨nf, hnf⟩ : ∃ nf, nf = fr.length := ⟨_, rfl⟩
        have hnfb : nf ≤ 9223372036854775807 := by unfold maxLen at k2; omega
        rw [← hnf] at e1
        obtain ⟨xn, rfl⟩ := Int.eq_ofNat_of_zero_le g0.1
        simp only [Int.toNat_natCast] at hdn
        obtain ⟨p, hp⟩ : ∃ p, p = xn % 6 := ⟨_, rfl⟩
        rw [← hp] at hdn
        have hp6 : p < 8 := by omega
        have hxm : (xn : Int) % 6 = (p : Int) := by omega
        have hxm2 : Int.tmod (xn : Int) 6 = (p : Int) := by rw [Int.tmod_eq_emod_of_nonneg (by omega)]; omega
        have hwp : IntKind.u8.wrap (p : Int) = (p : Int) := IntWalk.u8_in _ (by omega)
        have hpl : (p : Int) < 8 := by omega
        obtain ⟨on, onl⟩ := hO
        have M := Lib.hid (And.intro (show NdsO wr0 w.heap.size _ (nodesU Ls un i) from ⟨on, onl⟩) (And.intro hb (And.intro g1 (And.intro hdn (And.intro hnf hca))))); clear hb g1 hdn hnf hca k1 k3 onl hp
        go_upto_region 5 with fail
        go_cut [7] (fun bv wx => ∃ g, bv = .pointer (some ⟨g, 0, none⟩) ∧ wr0.heap.size ≤ g ∧ Blk wx g 45 #[.string (nmO p), .slice none 0 0] ∧ Below wr0.heap.size wr0 wx)
        case first =>
          have e7 : (wr0.alloc (.cells #[.string ⟨#[]⟩, .slice none 0 0] 45)).cell? (a.add (i * 2)) = some (.int .u8 (xn : Int)) := by rw [(ba wr0 (.cells #[.string ⟨#[]⟩, .slice none 0 0] 45)).cell (World.block_lt_of_cell? wr0 _ e0)]; exact e0
          go_region_law (first
            | (go_simp; go_at_call 12; refine (names_any _).mono ?_; rintro e w5 ⟨rfl, oN, bN⟩; have b5 : Below wr0.heap.size wr0 w5 := (by first | exact bN | exact bt (below_drew (Below.refl _ _)) bN | exact bt (ba _ _) bN | exact bt (below_drew (ba _ _)) bN | exact bt (bt (below_drew (Below.refl _ _)) (ba _ _)) bN); have e5 : w5.cell? (a.add (i * 2)) = some (.int .u8 (xn : Int)) := (by rw [b5.cell (World.block_lt_of_cell? wr0 _ e0)]; exact e0); have n0 := nms_cell oN p hp6; (try simp only [World.size_alloc] at n0); first
                | (have n1 : w5.cell? ⟨wr0.heap.size, p, none⟩ = some (.string (nmO p)) := n0; have K5 := Lib.hid b5; have n2 : (w5.alloc (.cells #[.string ⟨#[]⟩, .slice none 0 0] 45)).cell? ⟨wr0.heap.size, p, none⟩ = some (.string (nmO p)) := (by rw [(ba w5 (.cells #[.string ⟨#[]⟩, .slice none 0 0] 45)).cell (World.block_lt_of_cell? w5 _ n1)]; exact n1); have e6 : (w5.alloc (.cells #[.string ⟨#[]⟩, .slice none 0 0] 45)).cell? (a.add (i * 2)) = some (.int .u8 (xn : Int)) := (by rw [(ba w5 (.cells #[.string ⟨#[]⟩, .slice none 0 0] 45)).cell (World.block_lt_of_cell? w5 _ e5)]; exact e5); clear oN bN b5 n0)
                | (have hz : (wr0.alloc (.cells #[.string ⟨#[]⟩, .slice none 0 0] 45)).drew.heap.size = wr0.heap.size + 1 := (by show (wr0.alloc (.cells #[.string ⟨#[]⟩, .slice none 0 0] 45)).heap.size = _; exact World.size_alloc _ _); have n1 : w5.cell? ⟨wr0.heap.size + 1, p, none⟩ = some (.string (nmO p)) := (by first | exact n0 | (rw [hz] at n0; exact n0)); have hB0 : Blk w5 wr0.heap.size 45 #[.string ⟨#[]⟩, .slice none 0 0] := (Blk.new wr0 45 #[.string ⟨#[]⟩, .slice none 0 0]).later (by first | exact bN | exact bt (below_drew (Below.refl _ _)) bN); have c0 : w5.cell? ⟨wr0.heap.size, 0, none⟩ = some (.string ⟨#[]⟩) := hB0.cell 0; have c1 : w5.cell? ⟨wr0.heap.size, 1, none⟩ = some (.slice none 0 0) := hB0.cell 1; have c2 := hB0.lt; have c3 := hB0.frozen; have K5 := Lib.hid (And.intro b5 hB0); clear oN bN b5 n0 hB0 hz)))
          all_goals go_wp2_with fail
          all_goals go_meet
          all_goals first
            | exact ⟨_, rfl, K5.out.size, Blk.new _ _ _, bt K5.out (ba _ _)⟩
            | exact ⟨_, rfl, K5.out.size, (Blk.new _ _ _).later (below_drew (Below.refl _ _)), below_drew (bt K5.out (ba _ _))⟩
            | exact ⟨_, rfl, Nat.le_refl _, K5.out.2.put2 _ _, below_put2 K5.out.1 (Nat.le_refl _) _ _⟩
            | exact ⟨_, rfl, Nat.le_refl _, (K5.out.2.put2 _ _).later (below_drew (Below.refl _ _)), below_drew (below_put2 K5.out.1 (Nat.le_refl _) _ _)⟩
        case rest =>
          obtain ⟨g, rfl, hgw, hB0, hb0⟩ := hcut
          rename World => w2
          have hcB := hB0.two
          obtain ⟨c0, c1⟩ := hcB
          have hgl := hB0.lt
          have hgf := hB0.frozen
          have M2 := Lib.hid (And.intro hB0 hb0); clear hB0 hb0
          go_upto_if 29 with fail
          go_cut [7] (fun bv wx => bv = .pointer (some ⟨g, 0, none⟩) ∧ Blk wx g 45 #[.string (if un then nmO i else nmO p), .slice none 0 0] ∧ Below wr0.heap.size wr0 wx)
          case first =>
            cases un with
            | false =>
              go_wp2_with fail
              go_meet
              exact ⟨rfl, M2.out.1, M2.out.2⟩
            | true =>
              go_wp2_with (go_at_call 12; refine (names_any _).mono ?_; rintro e w5 ⟨rfl, oN, bN⟩; have n0 := nms_cell oN i (by omega); have hB5 := M2.out.1.later bN; have d0 := hB5.cell 0; have d1 := hB5.lt; have d2 := hB5.frozen; simp only [List.getElem?_toArray, List.getElem?_cons_zero] at d0; have K5 := Lib.hid (And.intro (bt M2.out.2 bN) hB5); clear oN bN hB5)
              go_meet
              refine ⟨rfl, ?_, K5.out.1.setCell (p := ⟨g, 0, none⟩) hgw _⟩
              have := K5.out.2.set_ 0 (.string (nmO i))
              simpa using this
          case rest =>
            obtain ⟨rfl, hB0, hb0⟩ := hcut
            rename World => w3
            clear c0 c1 hgl hgf
            obtain ⟨nme, hnme⟩ : ∃ nme, nme = (if un then nmO i else nmO p) := ⟨_, rfl⟩
            rw [← hnme] at hB0
            have M3 := Lib.hid (And.intro hB0 (And.intro hb0 hnme)); clear hB0 hb0 hnme
            have hgw2 : w.heap.size ≤ wr0.heap.size := M.out.2.1.size
            go_wp2_with fail
            go_loopw [8] (fun kv wr => ∃ (k : Nat) (fv : Value), k ≤ nf ∧ k ≤ 4 ∧ kv = .int .i64 (k : Int) ∧ Blk wr g 45 #[.string nme, fv] ∧ Own wr (g + 1) 9 1 scV fv ((fr.take k).map ndF) ∧ Below wr0.heap.size wr0 wr) (fun kv _ => nf - (intOf kv).toNat)
            case atStart => exact ⟨0, _, Nat.zero_le _, by omega, rfl, M3.out.1, Own.nil _ _ _ _ _, M3.out.2.1⟩
            case round =>
              rename World => wr1
              obtain ⟨k, fv, hk, hk4, rfl, hB, hF, hb0⟩ := hrel
              have hgl := hB.lt
              have hbw : Below w.heap.size w wr1 := bt M.out.2.1 hb0
              have e1' : wr1.cell? ⟨(a.add (i * 2)).block, (a.add (i * 2)).off + 1, none⟩ = some (.slice fA nf fc) := by rw [hb0.cell (World.block_lt_of_cell? wr0 _ e1)]; exact e1
              by_cases hlt2 : k < nf
              · by_cases h4 : k < 4
                · have hkl : k < fr.length := by have := M.out.2.2.2.2.1; omega
                  obtain ⟨a2, rfl, hca2⟩ := (M.out.2.2.1.later hbw).cells rfl (by omega)
                  have z0 := hca2.row1 k hkl rfl
                  rw [Nat.mul_one] at z0
                  have htk : (fr.take (k + 1)).map ndF = (fr.take k).map ndF ++ [ndF (fr[k]'hkl)] := by rw [Gr.take_more hkl, List.map_append]; rfl
                  have hbl := UInt8.toNat_lt (fr[k]'hkl)
                  obtain ⟨s, hs⟩ : ∃ s, s = ndF (fr[k]'hkl) := ⟨_, rfl⟩
                  rw [← hs] at htk
                  unfold ndF at hs
                  generalize (fr[k]'hkl).toNat = b at *
                  have hfl : ((fr.take k).map ndF).length ≤ 4 := by rw [List.length_map, List.length_take]; omega
                  generalize (fr.take k).map ndF = F at *
                  obtain ⟨fA', fc', rfl, _, _, _⟩ := hF.shape
                  obtain ⟨fn', hfn'⟩ : ∃ fn', fn' = F.length := ⟨_, rfl⟩
                  rw [← hfn'] at hF hB
                  have c1 := hB.cell 1
                  simp only [List.getElem?_toArray, List.getElem?_cons_succ, List.getElem?_cons_zero] at c1
                  obtain ⟨q, hq⟩ : ∃ q, q = b % 8 := ⟨_, rfl⟩
                  rw [← hq] at hs
                  have hq8 : q < 8 := by omega
                  have hm : (b : Int) % 8 = (q : Int) := by omega
                  have hm2 : Int.tmod (b : Int) 8 = (q : Int) := by rw [Int.tmod_eq_emod_of_nonneg (by omega)]; omega
                  have hwq : IntKind.u8.wrap (q : Int) = (q : Int) := IntWalk.u8_in _ (by omega)
                  have hqlt : (q : Int) < 8 := by omega
                  have U := Lib.hid (And.intro hB (And.intro hF (And.intro hb0 (And.intro htk (And.intro (show F.length ≤ 4 from hfl) (And.intro hbw hs)))))); clear hB hF hb0 htk hfn' hbw hca2 hq hfl
                  go_upto_region 11 with fail
                  go_region_law (first
                    | (go_simp; go_at_call 12; refine (names_any _).mono ?_; rintro e w5 ⟨rfl, oN, bN⟩; have n0 : w5.cell? ⟨wr1.heap.size, q, none⟩ = some (.string (nmO q)) := nms_cell oN q hq8; have b5 : Below wr1.heap.size wr1 w5 := (by first | exact bN | exact bt (below_drew (Below.refl _ _)) bN); have c1' : w5.cell? ⟨g, 1, none⟩ = some (.slice fA' fn' fc') := (by rw [b5.cell (World.block_lt_of_cell? wr1 _ c1)]; exact c1); have z1 : w5.cell? (a2.add k) = some (.int .u8 (b : Int)) := (by rw [b5.cell (World.block_lt_of_cell? wr1 _ z0)]; exact z0); have f1 : w5.cell? ⟨(a.add (i * 2)).block, (a.add (i * 2)).off + 1, none⟩ = some (.slice (some a2) nf fc) := (by rw [b5.cell (World.block_lt_of_cell? wr1 _ e1')]; exact e1'); have c1q : (w5.alloc (.cells #[.string (nmO q)] 9)).cell? ⟨g, 1, none⟩ = some (.slice fA' fn' fc') := (by rw [(ba w5 (.cells #[.string (nmO q)] 9)).cell (World.block_lt_of_cell? w5 _ c1')]; exact c1'); have K5 := Lib.hid b5; clear oN bN b5)
                    | (refine step_append_at rfl (.tmp 50) (.tmp 63) 27 rfl (g + 1) 9 js (.string ⟨#[]⟩) 1 16 Try.underlying27 sj sy0 sy1 sy2 rfl (by decide) (f := scV) (fun _ => rfl) one_scV (.slice fA' fn' fc') F (by first | rfl | (simp [Act.eval, Act.put])) (U.out.2.1.later (by first | exact bt K5.out (ba _ _) | exact bt (bt K5.out (below_drew (Below.refl _ _))) (ba _ _))) (some ⟨w5.heap.size, 0, none⟩) 1 1 [nmO q] rfl (by first | rfl | (simp [Act.eval, Act.put])) (by first | exact at_newS w5 _ | exact at_newS w5.drew _) (by have := U.out.2.2.2.2.1; unfold maxLen; simp; omega) (by have := U.out.2.2.2.2.1; simp; omega) (by have h1 := K5.out.size; have h2 := hgl; simp; omega) ?_; intro v6 w6 hO6 hg6; obtain ⟨vA, vn, vc, rfl⟩ := own_shape hO6; have x1 : Blk w6 g 45 #[.string nme, .slice fA' fn' fc'] := Blk.grown (U.out.1.later (by first | exact bt K5.out (ba _ _) | exact bt (bt K5.out (below_drew (Below.refl _ _))) (ba _ _))) hg6 (fun e => (by have := (Own.block U.out.2.1 e.symm).1; omega)); have y1 : w6.cell? ⟨g, 1, none⟩ = some (.slice fA' fn' fc') := x1.cell 1; have y2 := x1.lt; have y3 := x1.frozen; have hb6 := below_app U.out.2.2.1 U.out.2.2.1.size (by first | exact bt K5.out (ba _ _) | exact bt (bt K5.out (below_drew (Below.refl _ _))) (ba _ _)) hg6 (fun x hx => (by have := (Own.block U.out.2.1 hx).1; omega)); have Z := Lib.hid (And.intro x1 (And.intro hO6 hb6)); clear x1 hO6 hg6 hb6))
                  all_goals
                    have hBf : Blk (w6.setCell ⟨g, 1, none⟩ (.slice vA vn vc)) g 45 #[.string nme, .slice vA vn vc] := by
                      have := Z.out.1.set_ 1 (.slice vA vn vc)
                      simpa using this
                    have hFf : Own (w6.setCell ⟨g, 1, none⟩ (.slice vA vn vc)) (g + 1) 9 1 scV (.slice vA vn vc) ((fr.take (k + 1)).map ndF) := by
                      rw [U.out.2.2.2.1, U.out.2.2.2.2.2.2]
                      exact Z.out.2.1.far (p := ⟨g, 1, none⟩) (Nat.lt_succ_self g) _
                    have hbf : Below wr0.heap.size wr0 (w6.setCell ⟨g, 1, none⟩ (.slice vA vn vc)) := Z.out.2.2.setCell (p := ⟨g, 1, none⟩) hgw _
                    have Y := Lib.hid (And.intro hBf (And.intro hFf hbf)); clear hBf hFf hbf
                  all_goals go_wp2
                  all_goals go_roundw
                  all_goals first
                    | exact ⟨k + 1, _, by omega, by omega, by go_num, Y.out.1, Y.out.2.1, Y.out.2.2⟩
                    | exact ⟨k + 1, _, by omega, by omega, by go_num, Y.out.1.later (below_drew (Below.refl _ _)), Y.out.2.1.later (below_drew (Below.refl _ _)), below_drew Y.out.2.2⟩
                    | (simp [intOf]; omega)
                    | (simp [intOf])
                · have hkm : fr.take k = fr.take 4 := by rw [show k = 4 by omega]
                  rw [hkm] at hF
                  have hFs := map_size2 (F := (fr.take 4).map ndF) rfl
                  have hdn := M.out.2.2.2.1
                  generalize (fr.take 4).map ndF = F at *
                  obtain ⟨fA', fc', rfl, _, _, _⟩ := hF.shape
                  obtain ⟨fn', hfn'⟩ : ∃ fn', fn' = F.length := ⟨_, rfl⟩
                  rw [← hfn'] at hF hB
                  obtain ⟨c0, c1⟩ := hB.two
                  obtain ⟨l, oO, oN, oY⟩ := M.out.1.later hb0
                  obtain ⟨oA, oc, rfl, _, _, _⟩ := oO.shape
                  obtain ⟨on, hon⟩ : ∃ on, on = l.length := ⟨_, rfl⟩
                  rw [← hon] at oO ⊢
                  have hli : on = i := by rw [hon, ← List.length_map (f := fun y : Ny => y.1), oN, nodesU_len]
                  have hlb : l.length ≤ 6 := by omega
                  have hgb : w.heap.size ≤ wr1.heap.size := hbw.size
                  have hns : nme.size ≤ maxLen := by rw [M3.out.2.2]; split <;> exact nmO_size _
                  have hdn2 : nd Ls un i = (nme, F) := by rw [hdn, M3.out.2.2]
                  have U := Lib.hid (And.intro (hF.lift (show w.heap.size ≤ g + 1 by omega)) (And.intro oO (And.intro oN (And.intro oY (And.intro hdn2 (And.intro hFs (And.intro hon (And.intro hbw (And.intro hgb hns))))))))); clear hB hF hb0 hfn' hbw oO oN oY hdn hdn2 hFs hon hkm hns
                  have hY := at_newN wr1 ((nme, F), (fA', fn', fc'))
                  have hbA := ba wr1 (.cells #[.string nme, .slice fA' fn' fc'] 45)
                  go_wp2_with (at_builtin; refine wpList_append_at _ rfl (.tmp 66) (.tmp 68) 23 rfl w.heap.size 45 j0 (.agg #[.string ⟨#[]⟩, .slice none 0 0]) 2 40 Try.underlying23 hj hy0 hy1 hy2 rfl (by decide) (f := rowN) (fun _ => rfl) one_rowN _ l rfl (U.out.2.1.later hbA) (some ⟨wr1.heap.size, 0, none⟩) 1 1 [((nme, F), (fA', fn', fc'))] rfl rfl hY (by have := U.out.2.2.2.2.2.2.1; unfold maxLen; omega) (by have := U.out.2.2.2.2.2.2.1; omega) (by simp only [World.size_alloc]; omega) ?_; intro v6 w6 hO6 hg6; have Z := Lib.hid (And.intro hO6 hg6); clear hO6 hg6)
                  have hN6 : NdsO w6 w.heap.size v6 (nodesU Ls un (i + 1)) := by
                    have := NdsO.of Z.out.1 (fun y hy => by
                      rcases List.mem_append.1 hy with hy | hy
                      · exact ⟨(U.out.2.2.2.1 y hy).1.later hbA, (U.out.2.2.2.1 y hy).2⟩
                      · obtain rfl : y = ((nme, F), (fA', fn', fc')) := by simpa using hy
                        exact ⟨U.out.1.later hbA, U.out.2.2.2.2.2.2.2.2.2, U.out.2.2.2.2.2.1⟩) Z.out.2 (fun b hb => (Own.block (U.out.2.1.later hbA) hb).2)
                    show NdsO w6 w.heap.size v6 (nodesU Ls un i ++ [nd Ls un i])
                    rw [U.out.2.2.2.2.1, ← U.out.2.2.1]
                    simpa using this
                  have b6 : Below w.heap.size w w6 := (bt U.out.2.2.2.2.2.2.2.1 hbA).trans (grownBy_below Z.out.2 (Nat.le_trans hgb hbA.size) (fun x hx => (Own.block U.out.2.1 hx).1))
                  go_roundw
                  case rel => exact ⟨i + 1, by omega, by omega, by go_num, hN6, b6⟩
                  case measure => simp [intOf]; omega
              · have hkm : fr.take k = fr.take 4 := by rw [show k = nf by omega, M.out.2.2.2.2.1, List.take_length, List.take_of_length_le (by have := M.out.2.2.2.2.1; omega)]
                rw [hkm] at hF
                have hFs := map_size2 (F := (fr.take 4).map ndF) rfl
                have hdn := M.out.2.2.2.1
                generalize (fr.take 4).map ndF = F at *
                obtain ⟨fA', fc', rfl, _, _, _⟩ := hF.shape
                obtain ⟨fn', hfn'⟩ : ∃ fn', fn' = F.length := ⟨_, rfl⟩
                rw [← hfn'] at hF hB
                obtain ⟨c0, c1⟩ := hB.two
                obtain ⟨l, oO, oN, oY⟩ := M.out.1.later hb0
                obtain ⟨oA, oc, rfl, _, _, _⟩ := oO.shape
                obtain ⟨on, hon⟩ : ∃ on, on = l.length := ⟨_, rfl⟩
                rw [← hon] at oO ⊢
                have hli : on = i := by rw [hon, ← List.length_map (f := fun y : Ny => y.1), oN, nodesU_len]
                have hlb : l.length ≤ 6 := by omega
                have hgb : w.heap.size ≤ wr1.heap.size := hbw.size
                have hns : nme.size ≤ maxLen := by rw [M3.out.2.2]; split <;> exact nmO_size _
                have hdn2 : nd Ls un i = (nme, F) := by rw [hdn, M3.out.2.2]
                have U := Lib.hid (And.intro (hF.lift (show w.heap.size ≤ g + 1 by omega)) (And.intro oO (And.intro oN (And.intro oY (And.intro hdn2 (And.intro hFs (And.intro hon (And.intro hbw (And.intro hgb hns))))))))); clear hB hF hb0 hfn' hbw oO oN oY hdn hdn2 hFs hon hkm hns
                have hY := at_newN wr1 ((nme, F), (fA', fn', fc'))
                have hbA := ba wr1 (.cells #[.string nme, .slice fA' fn' fc'] 45)
                go_wp2_with (at_builtin; refine wpList_append_at _ rfl (.tmp 66) (.tmp 68) 23 rfl w.heap.size 45 j0 (.agg #[.string ⟨#[]⟩, .slice none 0 0]) 2 40 Try.underlying23 hj hy0 hy1 hy2 rfl (by decide) (f := rowN) (fun _ => rfl) one_rowN _ l rfl (U.out.2.1.later hbA) (some ⟨wr1.heap.size, 0, none⟩) 1 1 [((nme, F), (fA', fn', fc'))] rfl rfl hY (by have := U.out.2.2.2.2.2.2.1; unfold maxLen; omega) (by have := U.out.2.2.2.2.2.2.1; omega) (by simp only [World.size_alloc]; omega) ?_; intro v6 w6 hO6 hg6; have Z := Lib.hid (And.intro hO6 hg6); clear hO6 hg6)
                have hN6 : NdsO w6 w.heap.size v6 (nodesU Ls un (i + 1)) := by
                  have := NdsO.of Z.out.1 (fun y hy => by
                    rcases List.mem_append.1 hy with hy | hy
                    · exact ⟨(U.out.2.2.2.1 y hy).1.later hbA, (U.out.2.2.2.1 y hy).2⟩
                    · obtain rfl : y = ((nme, F), (fA', fn', fc')) := by simpa using hy
                      exact ⟨U.out.1.later hbA, U.out.2.2.2.2.2.2.2.2.2, U.out.2.2.2.2.2.1⟩) Z.out.2 (fun b hb => (Own.block (U.out.2.1.later hbA) hb).2)
                  show NdsO w6 w.heap.size v6 (nodesU Ls un i ++ [nd Ls un i])
                  rw [U.out.2.2.2.2.1, ← U.out.2.2.1]
                  simpa using this
                have b6 : Below w.heap.size w w6 := (bt U.out.2.2.2.2.2.2.2.1 hbA).trans (grownBy_below Z.out.2 (Nat.le_trans hgb hbA.size) (fun x hx => (Own.block U.out.2.1 hx).1))
                go_roundw
                case rel => exact ⟨i + 1, by omega, by omega, by go_num, hN6, b6⟩
                case measure => simp [intOf]; omega
      · obtain rfl : i = 6 := by omega
        have U := Lib.hid (And.intro hO hb); clear hO hb
        go_wp2_with fail
        go_ret
        exact ⟨_, ⟨rfl, by rw [show min Ls.length 6 = 6 by have := H.out.2; omega]; exact U.out.1⟩, U.out.2⟩
    · obtain rfl : i = n := by omega
      have U := Lib.hid (And.intro hO hb); clear hO hb
      go_wp2_with fail
      go_ret
      exact ⟨_, ⟨rfl, by rw [show min Ls.length 6 = i by have := H.out.2; omega]; exact U.out.1⟩, U.out.2⟩
end Go.Proofs.Ytinonfgehbjneaa
