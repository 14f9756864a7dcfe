/- The walk of GraphAbove. -/
import Derived.Test.YtinonfgehbjneaaWalkGraphLoops
import Derived.Deep.DeepCutAuto
import Derived.Deep.CutBlock
namespace Go.Proofs.Ytinonfgehbjneaa
open Go.ChangeShapes Go.WideShapes Go.ChangeAt Go.RowKit Go.Maps
open Gr (Nd nmAt frAt Dist Loopy RankFull IsOrder)
set_option linter.unusedVariables false
set_option linter.unusedSimpArgs false

/-- Is a name, or one of those that are found, among some names up to k? -/
def Hit (N : List Nd) (LA : List Nat) (s : ByteArray) (fr : List ByteArray) (k : Nat) : Prop := ∃ q, ∃ hq : q < fr.length, q < k ∧ (fr[q]'hq = s ∨ ∃ a ∈ LA, nmAt N a = fr[q]'hq)
theorem hit_more {N : List Nd} {LA : List Nat} {s : ByteArray} {fr : List ByteArray} {k : Nat} (hk : k < fr.length) : Hit N LA s fr (k + 1) ↔ (Hit N LA s fr k ∨ fr[k]'hk = s) ∨ ∃ j, ∃ hj : j < LA.length, j < LA.length ∧ nmAt N (LA[j]'hj) = fr[k]'hk := by
  constructor
  · rintro ⟨q, hq, h1, h2⟩
    rcases (by omega : q < k ∨ q = k) with h | rfl
    · exact Or.inl (Or.inl ⟨q, hq, h, h2⟩)
    · rcases h2 with h2 | ⟨a, ha, e⟩
      · exact Or.inl (Or.inr h2)
      · obtain ⟨j, hj, rfl⟩ := List.getElem_of_mem ha
        exact Or.inr ⟨j, hj, hj, e⟩
  · rintro ((⟨q, hq, h1, h2⟩ | h) | ⟨j, hj, _, e⟩)
    · exact ⟨q, hq, by omega, h2⟩
    · exact ⟨k, hk, by omega, Or.inl h⟩
    · exact ⟨k, hk, by omega, Or.inr ⟨_, List.getElem_mem hj, e⟩⟩
set_option maxRecDepth 20000 in
set_option maxHeartbeats 16000000 in
theorem walk_GraphAbove (v0 : Value) (Ls : List Lk) (un : Bool) (t : Int) (w : World) (h0 : LksR w v0 Ls) (b0 : True) (l1 : 0 ≤ t) (u1 : t ≤ 255) :
    Calls Try.prog 8 #[v0, .bool un, .int .u8 t] w fun e w' => e = .returned (.bool true) ∧ Below w.heap.size w w' := by
  obtain ⟨tn, rfl⟩ := Int.eq_ofNat_of_zero_le l1
  obtain ⟨A, c, rfl, a1, a2, _⟩ := h0.1.shape
  have H := Lib.hid h0; clear h0 a1
  obtain ⟨p, hp⟩ : ∃ p, p = tn % 8 := ⟨_, rfl⟩
  have hp8 : p < 8 := by omega
  have hpm : (tn : Int) % 8 = (p : Int) := by omega
  have hpl : (p : Int) < 8 := by omega
  have hwp : IntKind.u8.wrap (p : Int) = (p : Int) := IntWalk.u8_in _ (by omega)
  have hpm2 : Int.tmod (tn : Int) 8 = (p : Int) := by rw [Int.tmod_eq_emod_of_nonneg (by omega)]; omega
  clear hp
  go_enter Try.func8, Try.ntmps8
  go_wp2_with fail
  try go_at_call 9
  refine (examples_any w).mono ?_
  rintro e w1 ⟨rfl, b1⟩
  have K1 := Lib.hid b1; clear b1
  go_wp2_with fail
  try go_at_call 10
  refine (nodes_any _ Ls un w1 (H.out.later K1.out)).mono ?_
  rintro e w2 ⟨r, ⟨rfl, hN⟩, b2⟩
  have hi6 : min Ls.length 6 ≤ 6 := by omega
  have hlen := nodesU_len Ls un (min Ls.length 6)
  have htt := nodes_tot (Ls := Ls) (un := un) (i := min Ls.length 6) (min Ls.length 6)
  have hf4 := fun k => nodes_fr (Ls := Ls) (un := un) (i := min Ls.length 6) (k := k)
  generalize nodesU Ls un (min Ls.length 6) = N at *
  obtain ⟨n, hn⟩ : ∃ n, n = min Ls.length 6 := ⟨_, rfl⟩
  rw [← hn] at hlen htt hi6
  clear hn
  have hat := hN.at_
  obtain ⟨l, h1, h2, h3⟩ := hat
  have hln : l.length = n := by rw [← hlen, ← h2, List.length_map]
  obtain ⟨A1, c1, rfl, _, _, _⟩ := h1.shape
  rw [hln] at hN h1 ⊢
  have K2 := Lib.hid (And.intro hN.at_ (And.intro (bt K1.out b2) (And.intro h1 (And.intro h2 (And.intro h3 (And.intro hlen (And.intro hf4 (And.intro (show tot N N.length ≤ 26388279066700 by rw [hlen]; omega) (And.intro (show N.length ≤ 1000 by omega) hln))))))))); clear hN b2 h1 h2 h3 hlen hf4 htt hln
  go_wp2_with fail
  try go_at_call 12
  refine (names_any _).mono ?_
  rintro e w3 ⟨rfl, oN, b3⟩
  have n0 := nms_cell oN p hp8
  have K3 := Lib.hid (And.intro (K2.out.1.later b3) (And.intro (bt K2.out.2.1 b3) b3)); clear b3 oN
  have hsz := nmO_size p
  obtain ⟨s, hs⟩ : ∃ s, s = nmO p := ⟨_, rfl⟩
  rw [← hs] at n0 hsz
  clear hs
  go_wp2_with fail
  try go_at_call 21
  refine (Above_any _ N s w3 K3.out.1 hsz K2.out.2.2.2.2.2.2.2.2.1 K2.out.2.2.2.2.2.2.2.1).mono ?_
  rintro e w4 ⟨r4, LA, ⟨rfl, oA, hA⟩, b4⟩
  clear n0
  obtain ⟨lA, lc, rfl, _, _, _⟩ := oA.shape
  obtain ⟨ln, hln⟩ : ∃ ln, ln = LA.length := ⟨_, rfl⟩
  have hln6 : ln ≤ 6 := by
    have := hA.len (n := N.length) (fun k hk => hk.lt)
    rw [K2.out.2.2.2.2.2.1] at this; omega
  rw [← hln] at oA ⊢
  have K4 := Lib.hid (And.intro (K3.out.1.later b4) (And.intro (bt K3.out.2.1 b4) (And.intro oA (And.intro hA (And.intro hln (bt K3.out.2.2 b4)))))); clear b4 oA hA hln
  go_wp2_with fail
  go_loopw [11] (fun iv wr => ∃ i : Nat, i ≤ ln ∧ iv = .int .i64 (i : Int) ∧ Below w4.heap.size w4 wr) (fun iv _ => ln - (intOf iv).toNat)
  case atStart => exact ⟨0, Nat.zero_le _, rfl, Below.refl _ _⟩
  case round =>
    rename World => wr0
    obtain ⟨i, hi, rfl, hb⟩ := hrel
    by_cases hlt : i + 1 < ln
    · obtain ⟨gA, rfl, _, _, _, oc⟩ := (K4.out.2.2.1.later hb).cells (f := rowP) (k := 1) (fun _ => rfl) rfl (by have := K4.out.2.2.2.2.1; omega)
      have hl1 : i < LA.length := by have := K4.out.2.2.2.2.1; omega
      have hl2 : i + 1 < LA.length := by have := K4.out.2.2.2.2.1; omega
      have x0 := oc i hl1 0 _ rfl
      have x1 := oc (i + 1) hl2 0 _ rfl
      simp only [Nat.mul_one, Nat.add_zero] at x0 x1
      have hlt3 := List.pairwise_iff_getElem.1 K4.out.2.2.2.1.1 i (i + 1) hl1 hl2 (by omega)
      generalize LA[i]'hl1 = y at *
      generalize LA[i + 1]'hl2 = z at *
      have hyz : (y : Int) < (z : Int) := by omega
      have hltI : (i : Int) + 1 < (ln : Int) := by omega
      have U := Lib.hid hb; clear hb oc
      go_wp2_with fail
      go_quiet (fail)
      go_wp2
      go_roundw
      case rel => exact ⟨i + 1, by omega, by go_num, below_drewN U.out _⟩
      case measure => simp [intOf]; omega
    · have hltI : ¬ (i : Int) + 1 < (ln : Int) := by omega
      have U := Lib.hid hb; clear hb
      go_wp2_with fail
      go_loopw [12] (fun iv wr => ∃ i : Nat, i ≤ n ∧ iv = .int .i64 (i : Int) ∧ Below w4.heap.size w4 wr) (fun iv _ => n - (intOf iv).toNat)
      case atStart => exact ⟨0, Nat.zero_le _, rfl, U.out⟩
      case round =>
        clear U hltI hlt hi
        rename World => wr1
        obtain ⟨i, hi, rfl, hb⟩ := hrel
        by_cases hlt : i < n
        · have hil : i < l.length := by have := K2.out.2.2.2.2.2.2.2.2.2; omega
          have U := Lib.hid hb; clear hb
          go_wp2_with fail
          go_loopw [13, 14] (fun bv kv wr => ∃ (k : Nat) (b : Bool), k ≤ (frAt N i).length ∧ kv = .int .i64 (k : Int) ∧ bv = .bool b ∧ (b = true ↔ Hit N LA s (frAt N i) k) ∧ Below w4.heap.size w4 wr) (fun _ kv _ => (frAt N i).length - (intOf kv).toNat)
          case atStart =>
            refine ⟨0, false, Nat.zero_le _, rfl, rfl, ?_, U.out⟩
            constructor
            · intro h
              cases h
            · rintro ⟨q, hq, h1, _⟩
              omega
          case round =>
            rename World => wr2
            obtain ⟨k, b, hk, rfl, rfl, hB, hb⟩ := hrel
            have hb2 : Below w2.heap.size w2 wr2 := bt K4.out.2.2.2.2.2 hb
            obtain ⟨a, rfl, hca⟩ := (K2.out.2.2.1).cells rfl (by rw [K2.out.2.2.2.2.2.2.2.2.2]; omega)
            obtain ⟨_, e1⟩ := hca.row2 i hil rfl
            obtain ⟨_, f2⟩ := at_node K2.out.2.2.2.1 hil
            have g1 := (K2.out.2.2.2.2.1 _ (List.getElem_mem hil)).1
            rw [← f2] at g1
            have hf4 := K2.out.2.2.2.2.2.2.1 i
            generalize (l[i]'hil).2 = sv at *
            obtain ⟨fA, fn, fc⟩ := sv
            obtain ⟨B1, cc, hv, _, _, _⟩ := g1.shape
            simp only [Value.slice.injEq] at hv
            obtain ⟨q1, q2, q3⟩ := hv
            subst q2
            subst q3
            subst q1
            change w2.cell? ⟨(a.add (i * 2)).block, (a.add (i * 2)).off + 1, none⟩ = some (.slice fA (frAt N i).length fc) at e1
            have E1 := fun X (hX : Below w2.heap.size w2 X) => (show X.cell? ⟨(a.add (i * 2)).block, (a.add (i * 2)).off + 1, none⟩ = some (.slice fA (frAt N i).length fc) from by rw [hX.cell (World.block_lt_of_cell? w2 _ e1)]; exact e1)
            clear e1
            have e1 := E1 wr2 hb2
            obtain ⟨nf, hnf⟩ : ∃ nf, nf = (frAt N i).length := ⟨_, rfl⟩
            by_cases hlt2 : k < nf
            · have hkl : k < (frAt N i).length := by omega
              obtain ⟨a2, rfl, hca2⟩ := g1.cells rfl (by omega)
              have z0 := hca2.row1 k hkl rfl
              rw [Nat.mul_one] at z0
              have Z0 := fun X (hX : Below w2.heap.size w2 X) => (show X.cell? (a2.add k) = some (.string ((frAt N i)[k]'hkl)) from by rw [hX.cell (World.block_lt_of_cell? w2 _ z0)]; exact z0)
              clear z0
              have z0 := Z0 wr2 hb2
              have hM := hit_more (N := N) (LA := LA) (s := s) hkl
              rw [← hnf] at e1 hf4
              simp only [← hnf] at E1
              obtain ⟨x, hx⟩ : ∃ x, x = (frAt N i)[k]'hkl := ⟨_, rfl⟩
              rw [← hx] at z0 hM
              simp only [← hx] at Z0
              obtain ⟨b1, hb1⟩ : ∃ b1 : Bool, b1 = (b || decide (x = s)) := ⟨_, rfl⟩
              have hB1 : b1 = true ↔ (Hit N LA s (frAt N i) k ∨ x = s) := by rw [hb1]; simp [hB]
              have V := Lib.hid (And.intro hB1 (And.intro hM (And.intro hb (And.intro hx (And.intro hnf (And.intro E1 Z0)))))); clear hB1 hM hb hB hb2 hca g1 f2 hca2 hx hnf E1 Z0
              go_upto_region 19 with fail
              go_cut [13] (fun bv wx => bv = .bool b1 ∧ wr2 = wx)
              case first =>
                cases b with
                | true =>
                  go_wp2_with fail
                  go_meet
                  exact ⟨by rw [hb1]; rfl, rfl⟩
                | false =>
                  by_cases hxs : x = s
                  · subst hxs
                    go_wp2_with fail
                    go_meet
                    exact ⟨by rw [hb1]; simp, rfl⟩
                  · have hxl : ¬ x.toList = s.toList := fun h => hxs (toList_inj h)
                    have hxb : (x.toList == s.toList) = false := by simpa using hxl
                    go_wp2_with fail
                    go_meet
                    exact ⟨by rw [hb1]; simp [hxs], rfl⟩
              case rest =>
                obtain ⟨rfl, rfl⟩ := hcut
                clear hb1
                go_wp2_with fail
                go_loopw [13, 15] (fun bv jv wr => ∃ (j : Nat) (b2 : Bool), j ≤ ln ∧ jv = .int .i64 (j : Int) ∧ bv = .bool b2 ∧ (b2 = true ↔ (b1 = true ∨ ∃ q, ∃ hq : q < LA.length, q < j ∧ nmAt N (LA[q]'hq) = x)) ∧ Below w4.heap.size w4 wr) (fun _ jv _ => ln - (intOf jv).toNat)
                case atStart =>
                  refine ⟨0, b1, Nat.zero_le _, rfl, rfl, ?_, V.out.2.2.1⟩
                  constructor
                  · intro h
                    exact Or.inl h
                  · rintro (h | ⟨q, hq, h1, _⟩)
                    · exact h
                    · omega
                case round =>
                  rename World => wr3
                  obtain ⟨j, b2, hj, rfl, rfl, hB2, hb⟩ := hrel
                  by_cases hlt3 : j < ln
                  · have hjl : j < LA.length := by have := K4.out.2.2.2.2.1; omega
                    obtain ⟨gA, rfl, _, _, _, oc⟩ := (K4.out.2.2.1.later hb).cells (f := rowP) (k := 1) (fun _ => rfl) rfl (by omega)
                    have y0 := oc j hjl 0 _ rfl
                    simp only [Nat.mul_one, Nat.add_zero] at y0
                    have hyn := ((K4.out.2.2.2.1.2 _).1 (List.getElem_mem hjl)).lt
                    rw [K2.out.2.2.2.2.2.1] at hyn
                    have hst : (∃ q, ∃ hq : q < LA.length, q < j + 1 ∧ nmAt N (LA[q]'hq) = x) ↔ ((∃ q, ∃ hq : q < LA.length, q < j ∧ nmAt N (LA[q]'hq) = x) ∨ nmAt N (LA[j]'hjl) = x) := by
                      constructor
                      · rintro ⟨q, hq, h1, h2⟩
                        rcases (by omega : q < j ∨ q = j) with h | rfl
                        · exact Or.inl ⟨q, hq, h, h2⟩
                        · exact Or.inr h2
                      · rintro (⟨q, hq, h1, h2⟩ | h)
                        · exact ⟨q, hq, by omega, h2⟩
                        · exact ⟨j, hjl, by omega, h⟩
                    generalize LA[j]'hjl = y at *
                    have hyl : y < l.length := by have := K2.out.2.2.2.2.2.2.2.2.2; omega
                    have hb3 : Below w2.heap.size w2 wr3 := bt K4.out.2.2.2.2.2 hb
                    obtain ⟨a', ha', hca'⟩ := (K2.out.2.2.1.later hb3).cells rfl (by rw [K2.out.2.2.2.2.2.2.2.2.2]; omega)
                    obtain rfl : a = a' := by simpa using ha'
                    clear ha'
                    obtain ⟨d0, _⟩ := hca'.row2 y hyl rfl
                    obtain ⟨f3, _⟩ := at_node K2.out.2.2.2.1 hyl
                    rw [← f3] at d0
                    have d1 := V.out.2.2.2.2.2.1 wr3 hb3
                    have d2 := V.out.2.2.2.2.2.2 wr3 hb3
                    have hyI : ¬ (y : Int) < 0 := by omega
                    have hyI2 : ¬ (n : Int) ≤ (y : Int) := by omega
                    have hyI3 : decide ((n : Int) ≤ (y : Int)) = false := decide_eq_false hyI2
                    have hyI4 : ¬ n ≤ y := by omega
                    have hyI5 : decide (n ≤ y) = false := decide_eq_false hyI4
                    obtain ⟨z, hz⟩ : ∃ z, z = nmAt N y := ⟨_, rfl⟩
                    rw [← hz] at d0
                    obtain ⟨b3, hb3d⟩ : ∃ b3 : Bool, b3 = (b2 || decide (z = x)) := ⟨_, rfl⟩
                    have hB3 : b3 = true ↔ (b1 = true ∨ ∃ q, ∃ hq : q < LA.length, q < j + 1 ∧ nmAt N (LA[q]'hq) = x) := by
                      rw [hb3d, Bool.or_eq_true, hB2, decide_eq_true_iff, hst, hz, or_assoc]
                    have Y := Lib.hid (And.intro hB3 hb); clear hB3 hB2 hst hb hz oc hca' f3 hb3
                    cases b2 with
                    | true =>
                      go_wp2_with fail
                      go_quiet (fail)
                      go_wp2
                      go_roundw
                      case rel => exact ⟨j + 1, b3, by omega, by go_num, by rw [hb3d]; rfl, Y.out.1, below_drewN Y.out.2 _⟩
                      case measure => simp [intOf]; omega
                    | false =>
                      by_cases hzx : z = x
                      · subst hzx
                        go_wp2_with fail
                        go_quiet (fail)
                        go_wp2
                        go_roundw
                        case rel => exact ⟨j + 1, b3, by omega, by go_num, by rw [hb3d]; simp, Y.out.1, below_drewN Y.out.2 _⟩
                        case measure => simp [intOf]; omega
                      · have hxl : ¬ z.toList = x.toList := fun h => hzx (toList_inj h)
                        have hxb : (z.toList == x.toList) = false := by simpa using hxl
                        go_wp2_with fail
                        go_quiet (fail)
                        go_wp2
                        go_roundw
                        case rel => exact ⟨j + 1, b3, by omega, by go_num, by rw [hb3d]; simp [hzx], Y.out.1, below_drewN Y.out.2 _⟩
                        case measure => simp [intOf]; omega
                  · obtain rfl : j = ln := by omega
                    have hfin : b2 = true ↔ Hit N LA s (frAt N i) (k + 1) := by
                      rw [V.out.2.1, hB2, V.out.1]
                      have := K4.out.2.2.2.2.1
                      constructor
                      · rintro (h | ⟨q, hq, _, e⟩)
                        · exact Or.inl h
                        · exact Or.inr ⟨q, hq, hq, e⟩
                      · rintro (h | ⟨q, hq, _, e⟩)
                        · exact Or.inl h
                        · exact Or.inr ⟨q, hq, by omega, e⟩
                    have Y := Lib.hid (And.intro hfin hb); clear hfin hb hB2
                    go_wp2_with fail
                    go_roundw
                    case rel => exact ⟨k + 1, b2, by have := V.out.2.2.2.2.1; omega, by go_num, rfl, Y.out.1, Y.out.2⟩
                    case measure => (have := V.out.2.2.2.2.1; simp [intOf]; omega)
            · obtain rfl : k = nf := by omega
              rw [← hnf] at e1
              have hE : b = decide (i ∈ LA) := by
                rw [Bool.eq_iff_iff, hB, decide_eq_true_iff, K4.out.2.2.2.1.2 i, Gr.comes_iff]
                constructor
                · rintro ⟨q, hq, _, h | ⟨y, hy, e⟩⟩
                  · exact Or.inl (h ▸ List.getElem_mem hq)
                  · exact Or.inr ⟨y, (K4.out.2.2.2.1.2 y).1 hy, e ▸ List.getElem_mem hq⟩
                · rintro (h | ⟨y, hy, h⟩)
                  · obtain ⟨q, hq, e⟩ := List.getElem_of_mem h
                    exact ⟨q, hq, by omega, Or.inl e⟩
                  · obtain ⟨q, hq, e⟩ := List.getElem_of_mem h
                    exact ⟨q, hq, by omega, Or.inr ⟨y, (K4.out.2.2.2.1.2 y).2 hy, e.symm⟩⟩
              have cH : Calls Try.prog 23 #[.slice lA ln lc, .int .i64 (i : Int)] wr2 (fun e w' => e = .returned (.bool b) ∧ Below wr2.heap.size wr2 w') := by
                rw [hE]; exact has_any _ LA i wr2 ((K4.out.2.2.1.later hb).at_ (f := rowP) (k := 1) (fun _ => rfl))
              have hbb : (b != b) = false := by simp
              have Y := Lib.hid (And.intro cH hb); clear cH hb hE hB g1 hca f2 hb2 hnf
              go_wp2_with fail
              try go_at_call 23
              refine Y.out.1.mono ?_
              rintro e w9 ⟨rfl, b9⟩
              have Y2 := Lib.hid (bt Y.out.2 b9); clear b9
              go_wp2_with fail
              go_roundw
              case rel => exact ⟨i + 1, by omega, by go_num, Y2.out⟩
              case measure => simp [intOf]; omega
        · obtain rfl : i = n := by omega
          have U := Lib.hid (bt K4.out.2.1 hb); clear hb
          go_wp2_with fail
          go_ret
          exact ⟨rfl, U.out⟩
end Go.Proofs.Ytinonfgehbjneaa
