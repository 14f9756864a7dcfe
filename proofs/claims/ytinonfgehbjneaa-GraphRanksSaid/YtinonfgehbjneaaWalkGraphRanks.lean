/- The walk of GraphRanks. -/
import Derived.Test.YtinonfgehbjneaaGphP
namespace Go.Proofs.Ytinonfgehbjneaa
open Go.ChangeShapes Go.WideShapes Go.ChangeAt Go.RowKit Go.Maps
open Gr (Nd nmAt frAt Dist Loopy RankFull IsOrder)
set_option linter.unusedVariables false
set_option linter.unusedSimpArgs false

set_option maxRecDepth 20000 in
set_option maxHeartbeats 8000000 in
theorem walk_GraphRanks (v0 : Value) (Ls : List Lk) (t : Int) (w : World) (h0 : LksR w v0 Ls) (b0 : True) (l1 : 0 ≤ t) (u1 : t ≤ 255) :
    Calls Try.prog 5 #[v0, .int .u8 t] w fun e w' => e = .returned (.bool true) ∧ Below w.heap.size w w' := by
  obtain ⟨tn, rfl⟩ := Int.eq_ofNat_of_zero_le l1
  obtain ⟨A, c, rfl, a1, a2, _⟩ := h0.1.shape
  have H := Lib.hid h0; clear h0 a1
  go_enter Try.func5, Try.ntmps5
  go_wp2_with fail
  try go_at_call 9
  refine (examples_any w).mono ?_
  rintro e w1 ⟨rfl, b1⟩
  have K1 := Lib.hid b1; clear b1
  go_wp2_with fail
  try go_at_call 11
  refine (down_any _ Ls tn w1 (H.out.later K1.out) (by omega)).mono ?_
  rintro e w2 ⟨r, ⟨rfl, hN⟩, b2⟩
  have hi6 : min Ls.length 6 ≤ 6 := by omega
  have hlen := downU_len Ls tn (min Ls.length 6)
  have hD := down_dist (Ls := Ls) (turn := tn) hi6
  have hLo := down_loop (Ls := Ls) (turn := tn) hi6
  have htt := down_tot (Ls := Ls) (turn := tn) (i := min Ls.length 6) (min Ls.length 6)
  have hf4 := fun k => down_fr (Ls := Ls) (turn := tn) (i := min Ls.length 6) (k := k)
  generalize downU Ls tn (min Ls.length 6) = N at *
  obtain ⟨n, hn⟩ : ∃ n, n = min Ls.length 6 := ⟨_, rfl⟩
  rw [← hn] at hlen htt hi6
  clear hn
  have hat := hN.at_
  obtain ⟨l, h1, h2, h3⟩ := hat
  have hln : l.length = n := by rw [← hlen, ← h2, List.length_map]
  obtain ⟨A1, c1, rfl, _, _, _⟩ := h1.shape
  rw [hln] at hN h1 ⊢
  have K2 := Lib.hid (And.intro hN.at_ (And.intro (bt K1.out b2) (And.intro h1 (And.intro h2 (And.intro h3 (And.intro hlen (And.intro hD (And.intro hLo (And.intro htt (And.intro hf4 hln)))))))))); clear hN b2 h1 h2 h3 hlen hD hLo htt hf4 hln
  go_wp2_with fail
  try go_at_call 14
  refine (Ranks_any _ N w2 K2.out.1 (by have := K2.out.2.2.2.2.2.1; omega) (by have := K2.out.2.2.2.2.2.1; have := K2.out.2.2.2.2.2.2.2.2.1; rw [K2.out.2.2.2.2.2.1]; omega)).mono ?_
  rintro e w3 ⟨r3, k, ⟨rfl, hA⟩, b3⟩
  obtain ⟨rfl, R, oR, hRl, hF⟩ : k = 0 ∧ ∃ R : List Nat, Own w3 w2.heap.size 3 1 rowP r3 R ∧ R.length = n ∧ RankFull N (fun j => R.getD j 0) := by
    rcases hA with ⟨h, _⟩ | ⟨_, h, _⟩ | ⟨_, hk, R, h1, h2, h3⟩
    · exact absurd K2.out.2.2.2.2.2.2.1 h
    · exact absurd h K2.out.2.2.2.2.2.2.2.1
    · exact ⟨hk, R, h1, h2.trans K2.out.2.2.2.2.2.1, h3⟩
  obtain ⟨rA, rc, rfl, _, _, _⟩ := oR.shape
  rw [hRl] at oR ⊢
  have e1 : ((n : Int) != (n : Int)) = false := by simp
  have K3 := Lib.hid (And.intro oR (And.intro hRl (And.intro hF (And.intro (bt K2.out.2.1 b3) b3)))); clear oR hRl hF b3 hA
  go_wp2_with fail
  go_loopw [9] (fun iv wr => ∃ i : Nat, i ≤ n ∧ iv = .int .i64 (i : Int) ∧ Below w3.heap.size w3 wr) (fun iv _ => n - (intOf iv).toNat)
  case atStart => exact ⟨0, Nat.zero_le _, rfl, Below.refl _ _⟩
  case round =>
    rename World => wr0
    obtain ⟨i, hi, rfl, hb0⟩ := hrel
    by_cases hlt : i < n
    · have M0 := Lib.hid hb0; clear hb0
      go_wp2_with fail
      go_loopw [10, 11] (fun wv kv wr => ∃ (k want : Nat), k ≤ n ∧ kv = .int .i64 (k : Int) ∧ wv = .int .i64 (want : Int) ∧ want ≤ R.getD i 0 ∧ (∀ p, p < k → nmAt N p ∈ frAt N i → R.getD p 0 + 1 ≤ want) ∧ Below w3.heap.size w3 wr) (fun _ kv _ => n - (intOf kv).toNat)
      case atStart => exact ⟨0, 0, Nat.zero_le _, rfl, rfl, Nat.zero_le _, fun p hp => by omega, M0.out⟩
      case round =>
        rename World => wr1
        obtain ⟨k, want, hk, rfl, rfl, hw, hall, hb⟩ := hrel
        by_cases hlt1 : k < n
        · have M1 := Lib.hid (And.intro hall hb); clear hall hb
          have hil : i < l.length := by have := K2.out.2.2.2.2.2.2.2.2.2.2; omega
          have hkl : k < l.length := by have := K2.out.2.2.2.2.2.2.2.2.2.2; omega
          have hRi := rank_small K3.out.2.2.1 (k := i) (by rw [K2.out.2.2.2.2.2.1]; exact hlt)
          have hRk := rank_small K3.out.2.2.1 (k := k) (by rw [K2.out.2.2.2.2.2.1]; exact hlt1)
          rw [K2.out.2.2.2.2.2.1] at hRi hRk
          go_wp2_with fail
          go_loopw [10, 12] (fun wv jv wr => ∃ (j want : Nat), j ≤ (frAt N i).length ∧ jv = .int .i64 (j : Int) ∧ wv = .int .i64 (want : Int) ∧ want ≤ R.getD i 0 ∧ (∀ p, p < k → nmAt N p ∈ frAt N i → R.getD p 0 + 1 ≤ want) ∧ (∀ q (hq : q < (frAt N i).length), q < j → (frAt N i)[q]'hq = nmAt N k → R.getD k 0 + 1 ≤ want) ∧ Below w3.heap.size w3 wr) (fun _ jv _ => (frAt N i).length - (intOf jv).toNat)
          case atStart => exact ⟨0, want, Nat.zero_le _, rfl, rfl, hw, M1.out.1, fun q hq h => by omega, M1.out.2⟩
          case round =>
            rename World => wr2
            obtain ⟨j, want2, hj, rfl, rfl, hw2, hall, hin, hb⟩ := hrel
            have hb2 : Below w2.heap.size w2 wr2 := bt K3.out.2.2.2.2 hb
            obtain ⟨a, rfl, hca⟩ := (K2.out.2.2.1.later hb2).cells rfl (by rw [K2.out.2.2.2.2.2.2.2.2.2.2]; omega)
            obtain ⟨_, e1'⟩ := hca.row2 i hil rfl
            obtain ⟨e0, _⟩ := hca.row2 k hkl rfl
            obtain ⟨f1, f2⟩ := at_node K2.out.2.2.2.1 hil
            obtain ⟨f3, _⟩ := at_node K2.out.2.2.2.1 hkl
            have g1 := (K2.out.2.2.2.2.1 _ (List.getElem_mem hil)).1.later hb2
            rw [← f3] at e0
            rw [← f2] at g1
            have hf4 := K2.out.2.2.2.2.2.2.2.2.2.1 i
            generalize (l[i]'hil).2 = sv at *
            obtain ⟨fA, fn, fc⟩ := sv
            obtain ⟨B1, cc, hv, _, _, _⟩ := g1.shape
            simp only [Value.slice.injEq] at hv
            obtain ⟨q1, q2, q3⟩ := hv
            subst q2
            subst q3
            subst q1
            change wr2.cell? ⟨(a.add (i * 2)).block, (a.add (i * 2)).off + 1, none⟩ = some (.slice fA (frAt N i).length fc) at e1'
            obtain ⟨nf, hnf⟩ : ∃ nf, nf = (frAt N i).length := ⟨_, rfl⟩
            by_cases hlt2 : j < nf
            · have hjl : j < (frAt N i).length := by omega
              obtain ⟨a2, rfl, hca2⟩ := g1.cells rfl (by omega)
              have z0 := hca2.row1 j hjl rfl
              rw [Nat.mul_one] at z0
              have hstep : ∀ W : Nat, want2 ≤ W → ((frAt N i)[j]'hjl = nmAt N k → R.getD k 0 + 1 ≤ W) → (∀ p, p < k → nmAt N p ∈ frAt N i → R.getD p 0 + 1 ≤ W) ∧ (∀ q (hq : q < (frAt N i).length), q < j + 1 → (frAt N i)[q]'hq = nmAt N k → R.getD k 0 + 1 ≤ W) := fun W hW he => ⟨fun p hp hf => Nat.le_trans (hall p hp hf) hW, fun q hq hq2 e => by
                rcases (by omega : q < j ∨ q = j) with h | rfl
                · exact Nat.le_trans (hin q hq h e) hW
                · exact he e⟩
              have hup : (frAt N i)[j]'hjl = nmAt N k → R.getD k 0 + 1 ≤ R.getD i 0 := fun e => (K3.out.2.2.1 i (by rw [K2.out.2.2.2.2.2.1]; exact hlt)).1 k (by rw [K2.out.2.2.2.2.2.1]; exact hlt1) (e ▸ List.getElem_mem hjl)
              rw [← hnf] at e1' hf4
              have hrk : wr2.cell? ⟨0, 0, none⟩ = wr2.cell? ⟨0, 0, none⟩ := rfl
              obtain ⟨gr, rfl, _, _, _, oc⟩ := (K3.out.1.later hb).cells (f := rowP) (k := 1) (fun _ => rfl) rfl (by rw [K3.out.2.1]; omega)
              have r0 := oc k (by rw [K3.out.2.1]; exact hlt1) 0 _ rfl
              rw [Nat.mul_one, Nat.add_zero] at r0
              change wr2.cell? ⟨gr, k, none⟩ = some (.int .i64 ((R[k]'(by rw [K3.out.2.1]; exact hlt1) : Nat) : Int)) at r0
              rw [← getD_at (by rw [K3.out.2.1]; exact hlt1)] at r0
              generalize R.getD k 0 = rk at *
              generalize R.getD i 0 = ri at *
              generalize (frAt N i)[j]'hjl = x at *
              generalize nmAt N k = y at *
              clear hrk hca hca2 oc g1 f1 f2 f3 hall hin
              by_cases hxy : x = y
              · subst hxy
                obtain ⟨mx, hmx⟩ : ∃ mx, mx = max want2 (rk + 1) := ⟨_, rfl⟩
                have hmxI : max (want2 : Int) ((rk : Int) + 1) = (mx : Int) := by omega
                have hwr : IntKind.i64.wrap ((rk : Int) + 1) = (rk : Int) + 1 := IntWalk.i64_in _ (by omega)
                have U := Lib.hid (And.intro (hstep mx (by omega) (fun _ => by omega)) (And.intro (show mx ≤ ri by have := hup rfl; omega) hb)); clear hstep hup hb hmx
                have HNF := Lib.hid hnf; clear hnf
                go_wp2_with fail
                go_quiet (fail)
                go_wp2
                go_roundw
                case rel => exact ⟨j + 1, mx, by have := HNF.out; omega, by go_num, rfl, U.out.2.1, U.out.1.1, U.out.1.2, below_drewN U.out.2.2 _⟩
                case measure => (have := HNF.out; simp [intOf]; omega)
              · have hxl : ¬ x.toList = y.toList := fun h => hxy (toList_inj h)
                have hxb : (x.toList == y.toList) = false := by simpa using hxl
                have U := Lib.hid (And.intro (hstep want2 (Nat.le_refl _) (fun e => absurd e hxy)) hb); clear hstep hup hb hxy
                have HNF := Lib.hid hnf; clear hnf
                go_wp2_with fail
                go_quiet (fail)
                go_wp2
                go_roundw
                case rel => exact ⟨j + 1, want2, by have := HNF.out; omega, by go_num, rfl, hw2, U.out.1.1, U.out.1.2, below_drewN U.out.2 _⟩
                case measure => (have := HNF.out; simp [intOf]; omega)
            · obtain rfl : j = nf := by omega
              rw [← hnf] at e1'
              have hfin : ∀ p, p < k + 1 → nmAt N p ∈ frAt N i → R.getD p 0 + 1 ≤ want2 := fun p hp hf => by
                rcases (by omega : p < k ∨ p = k) with h | rfl
                · exact hall p h hf
                · obtain ⟨q, hq, e⟩ := List.getElem_of_mem hf
                  exact hin q hq (by omega) e
              have U := Lib.hid (And.intro hfin hb); clear hfin hb hall hin g1 hca f1 f2 f3
              have HNF := Lib.hid hnf; clear hnf
              go_wp2_with fail
              go_roundw
              case rel => exact ⟨k + 1, want2, by omega, by go_num, rfl, hw2, U.out.1, U.out.2⟩
              case measure => simp [intOf]; omega
        · obtain rfl : k = n := by omega
          have hRi : R.getD i 0 = want := by
            have hN := K2.out.2.2.2.2.2.1
            rcases (K3.out.2.2.1 i (by omega)).2 with h | ⟨p, h4, h5, h6⟩
            · simp only at h; omega
            · have := hall p (by omega) h5
              simp only at h6; omega
          obtain ⟨gr, rfl, _, _, _, oc⟩ := (K3.out.1.later hb).cells (f := rowP) (k := 1) (fun _ => rfl) rfl (by rw [K3.out.2.1]; omega)
          have r0 := oc i (by rw [K3.out.2.1]; exact hlt) 0 _ rfl
          rw [Nat.mul_one, Nat.add_zero] at r0
          change wr1.cell? ⟨gr, i, none⟩ = some (.int .i64 ((R[i]'(by rw [K3.out.2.1]; exact hlt) : Nat) : Int)) at r0
          rw [← getD_at (by rw [K3.out.2.1]; exact hlt), hRi] at r0
          have U := Lib.hid hb; clear hb hall oc hRi hw
          go_wp2_with fail
          go_roundw
          case rel => exact ⟨i + 1, by omega, by go_num, U.out⟩
          case measure => simp [intOf]; omega
    · obtain rfl : i = n := by omega
      have U := Lib.hid (bt K3.out.2.2.2.1 hb0); clear hb0
      go_wp2_with fail
      go_ret
      exact ⟨rfl, U.out⟩
end Go.Proofs.Ytinonfgehbjneaa
