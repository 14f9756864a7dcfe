/- The walk of GraphTells. -/
import Derived.Test.YtinonfgehbjneaaGphV
import Derived.Test.YtinonfgehbjneaaGphZ2
import Derived.Test.YtinonfgehbjneaaOpenNd
import Derived.Test.YtinonfgehbjneaaGphO
import Derived.Test.YtinonfgehbjneaaGphX
import Derived.Test.YtinonfgehbjneaaWalkGraphLoops
import Derived.Deep.DeepCutAuto
import Derived.Deep.CutBlock
namespace Go.Proofs.Ytinonfgehbjneaa
open Go.ChangeShapes Go.WideShapes Go.ChangeAt Go.RowKit Go.Maps
open Gr (Nd nmAt frAt Dist Loopy RankFull IsOrder)
set_option linter.unusedVariables false
set_option linter.unusedSimpArgs false
theorem down_len9 {Ls : List Lk} {tn : Nat} : (downU Ls tn (min Ls.length 6)).length ≤ 9 := by rw [downU_len]; omega
theorem down_tot9 {Ls : List Lk} {tn : Nat} : tot (downU Ls tn (min Ls.length 6)) (downU Ls tn (min Ls.length 6)).length ≤ 26388279066700 := by
  have := down_tot (Ls := Ls) (turn := tn) (i := min Ls.length 6) (min Ls.length 6)
  rw [downU_len]; omega
theorem nodes_len9 {Ls : List Lk} {un : Bool} : (nodesU Ls un (min Ls.length 6)).length ≤ 9 := by rw [nodesU_len]; omega
theorem nodes_tot9 {Ls : List Lk} {un : Bool} : tot (nodesU Ls un (min Ls.length 6)) (nodesU Ls un (min Ls.length 6)).length ≤ 26388279066700 := by
  have := nodes_tot (Ls := Ls) (un := un) (i := min Ls.length 6) (min Ls.length 6)
  rw [nodesU_len]; omega
theorem fr_app (N X : List Nd) (k : Nat) : frAt (N ++ X) (N.length + k) = frAt X k := by
  unfold frAt
  rw [List.getD_eq_getElem?_getD, List.getD_eq_getElem?_getD, List.getElem?_append_right (by omega)]
  congr 3; omega
theorem tot_app (N X : List Nd) : ∀ k, tot (N ++ X) (N.length + k) = tot (N ++ X) N.length + tot X k
  | 0 => rfl
  | k + 1 => by
    rw [← Nat.add_assoc]
    simp only [tot]
    rw [tot_app N X k, fr_app]; omega
theorem tot_pre (N X : List Nd) : ∀ i, i ≤ N.length → tot (N ++ X) i = tot N i
  | 0, _ => rfl
  | i + 1, h => by
    simp only [tot]
    rw [tot_pre N X i (by omega)]
    congr 2
    unfold frAt
    rw [List.getD_eq_getElem?_getD, List.getD_eq_getElem?_getD, List.getElem?_append_left (by omega)]
theorem tot_le (X : List Nd) (M : Nat) (h : ∀ y ∈ X, y.2.length ≤ M) : ∀ k, tot X k ≤ k * M
  | 0 => Nat.zero_le _
  | k + 1 => by
    have h1 := tot_le X M h k
    have h2 : (frAt X k).length ≤ M := by
      unfold frAt
      rw [List.getD_eq_getElem?_getD]
      cases e : X[k]? with
      | none => exact Nat.zero_le _
      | some y => exact h y (List.mem_of_getElem? e)
    simp only [tot]
    rw [Nat.add_mul]; omega
theorem ranksA_ex {N : List Nd} {B : Nat} {w : World} {r : Value} {k : Int} (h : RanksA N B w r k) : Dist N → ¬ Loopy N → ∃ R, RankFull N R := fun hD hL => by
  rcases h with ⟨h, _⟩ | ⟨_, h, _⟩ | ⟨_, _, R, _, _, h⟩
  · exact absurd hD h
  · exact absurd h hL
  · exact ⟨_, h⟩
theorem ranks_same {N : List Nd} {B B' : Nat} {w w' : World} {r r' : Value} {k k' : Int} (h : RanksA N B w r k) (h' : RanksA N B' w' r' k') (hb : Below w.heap.size w w') : k = k' ∧ ∃ L, At w' 1 rowP r L ∧ At w' 1 rowP r' L := by
  rcases h with ⟨h1, rfl, rfl⟩ | ⟨h1, h2, rfl, rfl⟩ | ⟨h1, rfl, R, h3, h4, h5⟩
  · rcases h' with ⟨g1, rfl, rfl⟩ | ⟨g1, g2, rfl, rfl⟩ | ⟨g1, rfl, S, g3, g4, g5⟩
    · exact ⟨rfl, [], At.nil _ _ _, At.nil _ _ _⟩
    · exact absurd g1 h1
    · exact absurd g1 h1
  · rcases h' with ⟨g1, rfl, rfl⟩ | ⟨g1, g2, rfl, rfl⟩ | ⟨g1, rfl, S, g3, g4, g5⟩
    · exact absurd h1 g1
    · exact ⟨rfl, [], At.nil _ _ _, At.nil _ _ _⟩
    · exact absurd h2 g5.noLoop
  · rcases h' with ⟨g1, rfl, rfl⟩ | ⟨g1, g2, rfl, rfl⟩ | ⟨g1, rfl, S, g3, g4, g5⟩
    · exact absurd h1 g1
    · exact absurd g2 h5.noLoop
    · have e : R = S := by
        apply List.ext_getElem (by rw [h4, g4])
        intro i i1 i2
        have := h5.uniq g5 (R.getD i 0) i (Nat.le_refl _) (by omega)
        simpa [List.getD_eq_getElem?_getD, List.getElem?_eq_getElem i1, List.getElem?_eq_getElem i2] using this
      subst e
      exact ⟨rfl, R, (h3.at_ (f := rowP) (k := 1) (fun _ => rfl)).later hb, g3.at_ (f := rowP) (k := 1) (fun _ => rfl)⟩
theorem isOrder_congr {R S : Nat → Nat} {n : Nat} {L : List Nat} (h : IsOrder R n L) (e : ∀ k, k < n → R k = S k) : IsOrder S n L := by
  refine ⟨?_, h.2⟩
  refine List.Pairwise.imp_of_mem ?_ h.1
  intro a b ha hb hab
  unfold Gr.LexR at hab ⊢
  rw [← e a ((h.2 a).1 ha), ← e b ((h.2 b).1 hb)]
  exact hab
theorem order_same {N : List Nd} {B B' : Nat} {w w' : World} {r r' : Value} {k k' : Int} (h : OrderA N B w r k) (h' : OrderA N B' w' r' k') (hb : Below w.heap.size w w') : k = k' ∧ ∃ L, At w' 1 rowP r L ∧ At w' 1 rowP r' L := by
  rcases h with ⟨h1, rfl, rfl⟩ | ⟨h1, h2, rfl, rfl⟩ | ⟨h1, rfl, R, L, h3, h4, h5⟩
  · rcases h' with ⟨g1, rfl, rfl⟩ | ⟨g1, g2, rfl, rfl⟩ | ⟨g1, rfl, S, M, g3, g4, g5⟩
    · exact ⟨rfl, [], At.nil _ _ _, At.nil _ _ _⟩
    · exact absurd g1 h1
    · exact absurd g1 h1
  · rcases h' with ⟨g1, rfl, rfl⟩ | ⟨g1, g2, rfl, rfl⟩ | ⟨g1, rfl, S, M, g3, g4, g5⟩
    · exact absurd h1 g1
    · exact ⟨rfl, [], At.nil _ _ _, At.nil _ _ _⟩
    · exact absurd h2 g3.noLoop
  · rcases h' with ⟨g1, rfl, rfl⟩ | ⟨g1, g2, rfl, rfl⟩ | ⟨g1, rfl, S, M, g3, g4, g5⟩
    · exact absurd h1 g1
    · exact absurd g2 h3.noLoop
    · have h6 := isOrder_congr h4 (fun k hk => h3.uniq g3 (R k) k (Nat.le_refl _) hk)
      have e : L = M := Gr.IsOrder.uniq h6.1 g4.1 (fun k => (h6.2 k).trans (g4.2 k).symm)
      subst e
      exact ⟨rfl, L, (h5.at_ (f := rowP) (k := 1) (fun _ => rfl)).later hb, g5.at_ (f := rowP) (k := 1) (fun _ => rfl)⟩
set_option maxRecDepth 20000 in
set_option maxHeartbeats 16000000 in
theorem walk_GraphTells (v0 : Value) (Ls : List Lk) (t : Int) (v2 : Value) (lr : List Ny) (s0 : ByteArray) (w : World) (h0 : LksR w v0 Ls) (b0 : True) (l1 : 0 ≤ t) (u1 : t ≤ 255) (hraw : NdsR w v2 lr) (braw : ∀ y ∈ lr, y.1.2.length * 16 ≤ 140737488355328) (bs : s0.size ≤ 140737488351232) :
    Calls Try.prog 3 #[v0, .int .u8 t, v2, .string s0] w fun e w' => e = .returned (.bool true) ∧ Below w.heap.size w w' := by
  obtain ⟨j0, hj, hy0, hy1, hy2⟩ := info_parts (P := Try.prog) (e := 45) (z := .agg #[.string ⟨#[]⟩, .slice none 0 0]) (size := 2) (bytes := 40) (by kernel_rfl)
  obtain ⟨tn, rfl⟩ := Int.eq_ofNat_of_zero_le l1
  obtain ⟨A, c, rfl, a1, a2, _⟩ := h0.1.shape
  obtain ⟨Ar, cr, rfl, _, r2, _⟩ := hraw.1.shape
  obtain ⟨nr, hnr⟩ : ∃ nr, nr = lr.length := ⟨_, rfl⟩
  rw [← hnr] at hraw ⊢
  have H := Lib.hid (And.intro h0 (And.intro hraw (And.intro braw hnr))); clear h0 a1 hraw braw hnr
  obtain ⟨q4, hq4⟩ : ∃ q4, q4 = tn % 4 := ⟨_, rfl⟩
  have hm4 : (tn : Int) % 4 = (q4 : Int) := by omega
  have hm4b : Int.tmod (tn : Int) 4 = (q4 : Int) := by rw [Int.tmod_eq_emod_of_nonneg (by omega)]; omega
  have hw4 : IntKind.u8.wrap (q4 : Int) = (q4 : Int) := IntWalk.u8_in _ (by omega)
  obtain ⟨un, hun⟩ : ∃ un, decide (0 < q4) = un := ⟨_, rfl⟩
  obtain ⟨q8, hq8⟩ : ∃ q8, q8 = tn % 8 := ⟨_, rfl⟩
  have hm8 : (tn : Int) % 8 = (q8 : Int) := by omega
  have hm8b : Int.tmod (tn : Int) 8 = (q8 : Int) := by rw [Int.tmod_eq_emod_of_nonneg (by omega)]; omega
  have hw8 : IntKind.u8.wrap (q8 : Int) = (q8 : Int) := IntWalk.u8_in _ (by omega)
  have hq88 : q8 < 8 := by omega
  clear hq4 hq8
  go_enter Try.func3, Try.ntmps3
  go_wp2_with fail
  try go_at_call 9
  refine (examples_any w).mono ?_
  rintro e w1 ⟨rfl, b1⟩
  have K1 := Lib.hid b1; clear b1
  go_wp2_with fail
  try go_at_call 10
  refine (nodes_any _ Ls un w1 (H.out.1.later K1.out)).mono ?_
  rintro e w2 ⟨r, ⟨rfl, hN⟩, b2⟩
  have W12 := Lib.hid b2.size
  have K2 := Lib.hid (And.intro hN (bt K1.out b2)); clear hN b2 hun
  go_upto_block 0 with fail
  go_cut [10] (fun nv wx => ∃ N, NdsAt wx nv N ∧ N.length ≤ 9 ∧ tot N N.length ≤ 26388279066700 ∧ Below w.heap.size w wx)
  case first =>
    rcases (by omega : q8 = 1 ∨ q8 = 2 ∨ q8 = 4 ∨ (q8 ≠ 1 ∧ q8 ≠ 2 ∧ q8 ≠ 4)) with h | h | h | ⟨h, h2, h3⟩
    · have e1 : ((q8 : Int) == 1) = true := by simp [h]
      clear h
      go_wp2_with fail
      try go_at_call 11
      refine (down_any _ Ls tn w2 (H.out.1.later K2.out.2) (by omega)).mono ?_
      rintro e w3 ⟨r3, ⟨rfl, hN⟩, b3⟩
      have Y := Lib.hid (And.intro hN (bt K2.out.2 b3)); clear hN b3
      go_wp2_with fail
      go_meet
      exact ⟨_, Y.out.1.at_, down_len9, down_tot9, Y.out.2⟩
    · have e1 : ((q8 : Int) == 1) = false := by simp [h]
      have e2 : ((q8 : Int) == 2) = true := by simp [h]
      clear h
      go_wp2_with fail
      try go_at_call 11
      refine (down_any _ Ls tn w2 (H.out.1.later K2.out.2) (by omega)).mono ?_
      rintro e w3 ⟨r3, ⟨rfl, hN⟩, b3⟩
      have Y := Lib.hid (And.intro hN (bt K2.out.2 b3)); clear hN b3
      go_wp2_with fail
      go_meet
      exact ⟨_, Y.out.1.at_, down_len9, down_tot9, Y.out.2⟩
    · have e1 : ((q8 : Int) == 1) = false := by simp [h]
      have e2 : ((q8 : Int) == 2) = false := by simp [h]
      have e4 : ((q8 : Int) == 4) = true := by simp [h]
      clear h
      obtain ⟨m, hmm⟩ : ∃ m, m = min nr 3 := ⟨_, rfl⟩
      have hmI : min (nr : Int) 3 = (m : Int) := by omega
      have hml : m ≤ lr.length := by have := H.out.2.2.2; omega
      have hm3 : m ≤ 3 := by omega
      clear hmm
      obtain ⟨A', c', hrun, hat⟩ := At.upto (P := Try.prog) undNd szNd (H.out.2.1.1) m hml
      have hmt : m = (lr.take m).length := by rw [List.length_take]; omega
      obtain ⟨l, q1, q2, q3⟩ := K2.out.1
      have hll : l.length ≤ 6 := by rw [← List.length_map (f := fun y : Ny => y.1), q2, nodesU_len]; omega
      have hmn : m ≤ nr := by have := H.out.2.2.2; omega
      have hncr : nr ≤ cr := by
        obtain ⟨_, _, e, _, h5, _⟩ := H.out.2.1.1.shape
        simp only [Value.slice.injEq] at e
        have := H.out.2.2.2
        omega
      obtain ⟨rA, rn, rc, rfl⟩ := own_shape q1
      have U := Lib.hid (And.intro q1 (And.intro q2 (And.intro q3 (And.intro (hat.later K2.out.2) hmt)))); clear q1 q2 q3 hat hmt
      go_wp2_with (at_builtin; refine wpList_append_loc _ rfl (.tmp 38) (.tmp 43) 23 rfl w1.heap.size 45 j0 (.agg #[.string ⟨#[]⟩, .slice none 0 0]) 2 40 Try.underlying23 hj hy0 hy1 hy2 rfl (by decide) (f := rowN) (fun _ => rfl) one_rowN _ l rfl U.out.1 A' m c' (lr.take m) U.out.2.2.2.2 rfl U.out.2.2.2.1 (by unfold maxLen; omega) (by omega) (W12.out) ?_; intro v6 w6 hO6 hg6 hq6; have Z := Lib.hid (And.intro hO6 hg6); clear hO6 hg6 hq6)
      go_meet
      have b6 := K2.out.2.trans (grownBy_below Z.out.2 K2.out.2.size (fun k hk => by have := (Own.block U.out.1 hk).1; have := K1.out.size; omega))
      have hNl : (nodesU Ls un (min Ls.length 6)).length = min Ls.length 6 := nodesU_len _ _ _
      refine ⟨nodesU Ls un (min Ls.length 6) ++ (lr.take m).map (·.1), ⟨l ++ lr.take m, Z.out.1.at_ (f := rowN) (k := 2) (fun _ => rfl), by rw [List.map_append, U.out.2.1], fun y hy => ?_⟩, ?_, ?_, b6⟩
      · rcases List.mem_append.1 hy with hy | hy
        · obtain ⟨y1, y2⟩ := U.out.2.2.1 y hy
          exact ⟨(y1.grown Z.out.2 (fun b hb e => own_two U.out.1 y1 (by decide) b hb e)).at_ (f := scV) (k := 1) (fun _ => rfl), y2⟩
        · obtain ⟨y1, y2⟩ := H.out.2.1.2 y (List.mem_of_mem_take hy)
          exact ⟨y1.later b6, y2⟩
      · rw [List.length_append, List.length_map, List.length_take, hNl]; omega
      · rw [List.length_append, tot_app, tot_pre _ _ _ (Nat.le_refl _)]
        have h1 := nodes_tot (Ls := Ls) (un := un) (i := min Ls.length 6) (min Ls.length 6)
        have h2 := tot_le ((lr.take m).map (·.1)) 8796093022208 (fun y hy => by
          obtain ⟨z, hz, rfl⟩ := List.mem_map.1 hy
          have := H.out.2.2.1 z (List.mem_of_mem_take hz)
          omega) ((lr.take m).map (·.1)).length
        have h3 : ((lr.take m).map (·.1)).length ≤ 3 := by rw [List.length_map, List.length_take]; omega
        have h4 := Nat.mul_le_mul_right 8796093022208 h3
        rw [hNl]
        omega
    · have e1 : ((q8 : Int) == 1) = false := by simp; omega
      have e2 : ((q8 : Int) == 2) = false := by simp; omega
      have e4 : ((q8 : Int) == 4) = false := by simp; omega
      clear h h2 h3
      go_wp2_with fail
      go_meet
      exact ⟨_, K2.out.1.at_, nodes_len9, nodes_tot9, K2.out.2⟩
  case rest =>
    obtain ⟨N, hN, hn9, htN, hb⟩ := hcut
    rename World => w3
    clear K2
    have K3 := Lib.hid (And.intro hN (And.intro hn9 (And.intro htN hb))); clear hN hn9 htN hb
    obtain ⟨p2, hp2⟩ : ∃ p2, p2 = tn % 2 := ⟨_, rfl⟩
    have hm2 : (tn : Int) % 2 = (p2 : Int) := by omega
    have hm2b : Int.tmod (tn : Int) 2 = (p2 : Int) := by rw [Int.tmod_eq_emod_of_nonneg (by omega)]; omega
    have hw2 : IntKind.u8.wrap (p2 : Int) = (p2 : Int) := IntWalk.u8_in _ (by omega)
    obtain ⟨bb, hbb⟩ : ∃ bb, ((p2 : Int) == 0) = bb := ⟨_, rfl⟩
    clear hp2
    go_upto_region 11 with fail
    go_cut [47] (fun bv wx => bv = .bool bb ∧ w3 = wx)
    case first =>
      go_wp2_with fail
      go_meet
      exact ⟨rfl, rfl⟩
    case rest =>
      obtain ⟨rfl, rfl⟩ := hcut
      go_upto_if 47 with fail
      go_cut [3] (fun sv wx => ∃ s, sv = .string s ∧ s.size ≤ maxLen ∧ Below w3.heap.size w3 wx)
      case first =>
        cases bb with
        | false =>
          go_wp2_with fail
          go_meet
          exact ⟨_, rfl, by unfold maxLen; omega, Below.refl _ _⟩
        | true =>
          obtain ⟨p, hp⟩ : ∃ p, p = tn / 2 % 8 := ⟨_, rfl⟩
          have hp8 : p < 8 := by omega
          obtain ⟨hf, hhf⟩ : ∃ hf, hf = tn / 2 := ⟨_, rfl⟩
          have hd1 : (tn : Int) / 2 = (hf : Int) := by omega
          have hd2 : Int.tdiv (tn : Int) 2 = (hf : Int) := by rw [Int.tdiv_eq_ediv_of_nonneg (by omega)]; omega
          have hwh : IntKind.u8.wrap (hf : Int) = (hf : Int) := IntWalk.u8_in _ (by omega)
          have hpm : (hf : Int) % 8 = (p : Int) := by omega
          have hpm2 : Int.tmod (hf : Int) 8 = (p : Int) := by rw [Int.tmod_eq_emod_of_nonneg (by omega)]; omega
          have hpl : (p : Int) < 8 := by omega
          have hwp : IntKind.u8.wrap (p : Int) = (p : Int) := IntWalk.u8_in _ (by omega)
          clear hp hhf
          go_wp2_with fail
          try go_at_call 12
          refine (names_any _).mono ?_
          rintro e w4 ⟨rfl, oN, b4⟩
          have n0 := nms_cell oN p hp8
          have B4 := Lib.hid b4; clear b4 oN
          go_wp2_with fail
          go_meet
          exact ⟨_, rfl, nmO_size p, B4.out⟩
      case rest =>
        obtain ⟨s, rfl, hsz, hb⟩ := hcut
        rename World => w4
        clear hbb
        have K4 := Lib.hid (And.intro (K3.out.1.later hb) (bt K3.out.2.2.2 hb)); clear hb
        go_wp2_with fail
        try go_at_call 13
        refine (refs_any _ N w4 K4.out.1 (by have := K3.out.2.1; omega)).mono ?_
        rintro e w5 ⟨rm, ⟨rfl, hM⟩, b5⟩
        have K5 := Lib.hid (And.intro (K4.out.1.later b5) (And.intro hM (bt K4.out.2 b5))); clear hM b5
        go_wp2_with fail
        try go_at_call 14
        refine (Ranks_any _ N w5 K5.out.1 (by have := K3.out.2.1; omega) K3.out.2.2.1).mono ?_
        rintro e w6 ⟨ra, ka, ⟨rfl, hA⟩, b6⟩
        have hE := ranksA_ex hA
        have K6 := Lib.hid (And.intro (K5.out.1.later b6) (And.intro (K5.out.2.1.later b6) (And.intro (bt K5.out.2.2 b6) (And.intro hE hA)))); clear b6 hA hE
        go_wp2_with fail
        try go_at_call 15
        refine (rRanks_any _ N w6 K6.out.2.1 (by have := K3.out.2.1; omega) K6.out.2.2.2.1).mono ?_
        rintro e w7 ⟨rb, kb, ⟨rfl, hB⟩, b7⟩
        obtain ⟨rfl, LR, hR1, hR2⟩ := ranks_same K6.out.2.2.2.2 hB b7
        have K7 := Lib.hid (And.intro (K6.out.1.later b7) (And.intro (K6.out.2.1.later b7) (And.intro (bt K6.out.2.2.1 b7) (And.intro hR1 hR2)))); clear b7 hB hR1 hR2
        go_wp2_with fail
        try go_at_call 16
        refine (Order_any _ N w7 K7.out.1 (by have := K3.out.2.1; omega) K3.out.2.2.1).mono ?_
        rintro e w8 ⟨rc, kc, ⟨rfl, hA⟩, b8⟩
        have K8 := Lib.hid (And.intro (K7.out.1.later b8) (And.intro (K7.out.2.1.later b8) (And.intro (bt K7.out.2.2.1 b8) (And.intro (K7.out.2.2.2.1.later b8) (And.intro (K7.out.2.2.2.2.later b8) hA))))); clear b8 hA
        go_wp2_with fail
        try go_at_call 17
        refine (rOrder_any _ N w8 K8.out.2.1 (by have := K3.out.2.1; omega) K6.out.2.2.2.1).mono ?_
        rintro e w9 ⟨rd, kd, ⟨rfl, hB⟩, b9⟩
        obtain ⟨rfl, LO, hO1, hO2⟩ := order_same K8.out.2.2.2.2.2 hB b9
        have K9 := Lib.hid (And.intro (K8.out.1.later b9) (And.intro (K8.out.2.1.later b9) (And.intro (bt K8.out.2.2.1 b9) (And.intro (K8.out.2.2.2.1.later b9) (And.intro (K8.out.2.2.2.2.1.later b9) (And.intro hO1 hO2)))))); clear b9 hB hO1 hO2
        go_wp2_with fail
        try go_at_call 19
        refine (Loops_any _ N w9 K9.out.1 (by have := K3.out.2.1; omega) K3.out.2.2.1).mono ?_
        rintro e w10 ⟨re, Le, ⟨rfl, oe, he⟩, b10⟩
        have K10 := Lib.hid (And.intro (K9.out.2.1.later b10) (And.intro b10 (And.intro (oe.at_ (f := rowP) (k := 1) (fun _ => rfl)) he))); clear b10 oe he
        go_wp2_with fail
        try go_at_call 20
        refine (rLoops_any _ N w10 K10.out.1 (by have := K3.out.2.1; omega)).mono ?_
        rintro e w11 ⟨rf, Lf, ⟨rfl, of, hf⟩, b11⟩
        obtain rfl := K10.out.2.2.2.uniq hf
        have K11 := Lib.hid (And.intro (bt K10.out.2.1 b11) (And.intro (K10.out.2.2.1.later b11) (of.at_ (f := rowP) (k := 1) (fun _ => rfl)))); clear b11 of hf
        go_wp2_with fail
        try go_at_call 18
        refine (numbers_any _ _ Le Le w11 K11.out.2.1 K11.out.2.2).mono ?_
        rintro e w12 ⟨rfl, b12⟩
        have K12 := Lib.hid (bt K11.out.1 b12); clear b12
        rw [show decide (Le = Le) = true from decide_eq_true rfl]
        go_wp2_with fail
        try go_at_call 18
        refine (numbers_any _ _ LR LR w12 (K9.out.2.2.2.1.later K12.out) (K9.out.2.2.2.2.1.later K12.out)).mono ?_
        rintro e w13 ⟨rfl, b13⟩
        have K13 := Lib.hid (bt K12.out b13); clear b13
        rw [show decide (LR = LR) = true from decide_eq_true rfl]
        go_wp2_with fail
        try go_at_call 18
        refine (numbers_any _ _ LO LO w13 (K9.out.2.2.2.2.2.1.later K13.out) (K9.out.2.2.2.2.2.2.later K13.out)).mono ?_
        rintro e w14 ⟨rfl, b14⟩
        have K14 := Lib.hid (bt K13.out b14); clear b14
        rw [show decide (LO = LO) = true from decide_eq_true rfl]
        go_wp2_with fail
        try go_at_call 21
        refine (Above_any _ N s w14 (K9.out.1.later K14.out) hsz (by have := K3.out.2.1; omega) K3.out.2.2.1).mono ?_
        rintro e w15 ⟨rg, Lg, ⟨rfl, og, hg⟩, b15⟩
        have K15 := Lib.hid (And.intro (bt K14.out b15) (And.intro (og.at_ (f := rowP) (k := 1) (fun _ => rfl)) hg)); clear b15 og hg
        go_wp2_with fail
        try go_at_call 22
        refine (rAbove_any _ N s w15 (K9.out.2.1.later K15.out.1) (by have := K3.out.2.1; omega)).mono ?_
        rintro e w16 ⟨rh, Lh, ⟨rfl, oh, hh⟩, b16⟩
        obtain rfl := K15.out.2.2.uniq hh
        have K16 := Lib.hid (And.intro (bt K15.out.1 b16) (And.intro (K15.out.2.1.later b16) (oh.at_ (f := rowP) (k := 1) (fun _ => rfl)))); clear b16 oh hh
        go_wp2_with fail
        try go_at_call 18
        refine (numbers_any _ _ Lg Lg w16 K16.out.2.1 K16.out.2.2).mono ?_
        rintro e w17 ⟨rfl, b17⟩
        have K17 := Lib.hid (bt K9.out.2.2.1 (bt K16.out.1 b17)); clear b17
        rw [show decide (Lg = Lg) = true from decide_eq_true rfl]
        go_wp2_with fail
        go_ret
        exact ⟨rfl, K17.out⟩
end Go.Proofs.Ytinonfgehbjneaa
