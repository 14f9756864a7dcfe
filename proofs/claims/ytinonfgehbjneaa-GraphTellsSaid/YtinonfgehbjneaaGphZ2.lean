/- Layer 12: the document's own words: Ranks, Order. -/
import Derived.Test.YtinonfgehbjneaaGphZ
import Derived.Test.YtinonfgehbjneaaGphK
import Derived.BigQuiet
namespace Go.Proofs.Ytinonfgehbjneaa
open Go.ChangeShapes Go.WideShapes Go.ChangeAt Go.RowKit Go.Maps
open Gr (Nd nmAt frAt RankFull Dist Loopy IsOrder LexR)
set_option linter.unusedVariables false
set_option linter.unusedSimpArgs false

theorem rankFull_congr {N : List Nd} {R S : Nat → Nat} (h : RankFull N R) (e : ∀ k, k < N.length → S k = R k) : RankFull N S := by
  intro k hk
  obtain ⟨h1, h2⟩ := h k hk
  refine ⟨fun p hp hm => ?_, ?_⟩
  · rw [e p hp, e k hk]; exact h1 p hp hm
  · rw [e k hk]
    rcases h2 with h2 | ⟨p, hp, hm, h3⟩
    · exact Or.inl h2
    · exact Or.inr ⟨p, hp, hm, by rw [e p hp]; exact h3⟩
set_option maxRecDepth 20000 in
set_option maxHeartbeats 4000000 in
theorem rRanks_any (v : Value) (N : List Nd) (w : World) (h : NdsAt w v N) (hn : N.length ≤ 1000) (hE : Dist N → ¬ Loopy N → ∃ R, RankFull N R) :
    Calls Try.prog 15 #[v] w (RanksP N w) := by
  have hw := h
  obtain ⟨l, h1, h2, h3⟩ := h
  obtain ⟨A, c, rfl, a1, a2, _⟩ := h1.shape
  obtain ⟨n, hnl⟩ : ∃ n, n = l.length := ⟨_, rfl⟩
  have hN : N.length = n := by rw [hnl, ← h2, List.length_map]
  rw [← hnl] at h1 a1 hw ⊢
  have hn' : n ≤ 1000 := by omega
  have H := Lib.hid (And.intro h1 (And.intro h2 (And.intro hE (And.intro hnl (And.intro hN (And.intro hw hn)))))); clear h1 h2 h3 hnl hN hw hn hE a1
  go_enter Try.func15, Try.ntmps15
  go_wp2_with fail
  go_loopw [4] (fun iv wr => ∃ i : Nat, i ≤ n ∧ iv = .int .i64 (i : Int) ∧ (∀ x y, x < i → y < x → ¬ nmAt N x = nmAt N y) ∧ Below w.heap.size w wr) (fun iv _ => n - (intOf iv).toNat)
  case atStart => exact ⟨0, Nat.zero_le _, rfl, fun x y hx => by omega, Below.refl _ _⟩
  case round =>
    rename World => wr0
    obtain ⟨i, hi, rfl, hD, hb⟩ := hrel
    by_cases hlt : i < n
    · have M := Lib.hid (And.intro hD hb); clear hD hb
      go_wp2_with fail
      go_loopw [5] (fun kv wr => ∃ k : Nat, k ≤ i ∧ kv = .int .i64 (k : Int) ∧ (∀ y, y < k → ¬ nmAt N i = nmAt N y) ∧ Below w.heap.size w wr) (fun kv _ => i - (intOf kv).toNat)
      case atStart => exact ⟨0, Nat.zero_le _, rfl, fun y hy => by omega, M.out.2⟩
      case round =>
        rename World => wr1
        obtain ⟨k, hk, rfl, hK, hb⟩ := hrel
        by_cases hlt2 : k < i
        · have hil : i < l.length := by have := H.out.2.2.2.1; omega
          have hkl : k < l.length := by have := H.out.2.2.2.1; omega
          have hiI : (i : Int) < (n : Int) := by omega
          have hkI : (k : Int) < (n : Int) := by omega
          have hkN : k < n := by omega
          have hkI2 : (k : Int) < (i : Int) := by omega
          obtain ⟨a, rfl, hca⟩ := (H.out.1.later hb).cells rfl (by omega)
          obtain ⟨e0, _⟩ := hca.row2 i hil rfl
          obtain ⟨d0, _⟩ := hca.row2 k hkl rfl
          obtain ⟨f1, _⟩ := at_node H.out.2.1 hil
          obtain ⟨f3, _⟩ := at_node H.out.2.1 hkl
          rw [← f1] at e0
          rw [← f3] at d0
          obtain ⟨s, hs⟩ : ∃ s, s = nmAt N i := ⟨_, rfl⟩
          obtain ⟨t, ht⟩ : ∃ t, t = nmAt N k := ⟨_, rfl⟩
          rw [← hs] at e0
          rw [← ht] at d0
          by_cases hst : s = t
          · have hno : ¬ Dist N := fun h => by
              have := h i k (by rw [H.out.2.2.2.2.1]; exact hlt) (by rw [H.out.2.2.2.2.1]; exact hkN) (by rw [← hs, ← ht]; exact hst)
              omega
            subst hst
            have Y := Lib.hid (And.intro hno hb); clear hno hb hK hca f1 f3 hs ht
            go_wp2_with fail
            go_quiet (fail)
            go_wp2
            go_ret2
            exact ⟨_, 11, ⟨rfl, Or.inl ⟨Y.out.1, rfl, rfl⟩⟩, below_drewN Y.out.2 _⟩
          · have hxl : ¬ s.toList = t.toList := fun h => hst (toList_inj h)
            have hxb : (s.toList == t.toList) = false := by simpa using hxl
            have hK2 : ∀ y, y < k + 1 → ¬ nmAt N i = nmAt N y := fun y hy => by
              rcases (by omega : y < k ∨ y = k) with h | rfl
              · exact hK y h
              · rw [← hs, ← ht]; exact hst
            have Y := Lib.hid (And.intro hK2 hb); clear hb hK hK2 hca f1 f3 hs ht hst
            go_wp2_with fail
            go_quiet (fail)
            go_wp2
            go_roundw
            case rel => exact ⟨k + 1, by omega, by go_num, Y.out.1, below_drewN Y.out.2 _⟩
            case measure => simp [intOf]; omega
        · obtain rfl : k = i := by omega
          have hD2 : ∀ x y, x < k + 1 → y < x → ¬ nmAt N x = nmAt N y := fun x y hx hy => by
            rcases (by omega : x < k ∨ x = k) with h | rfl
            · exact M.out.1 x y h hy
            · exact hK y hy
          have Y := Lib.hid (And.intro hD2 hb); clear hb hK hD2
          go_wp2_with fail
          go_roundw
          case rel => exact ⟨k + 1, by omega, by go_num, Y.out.1, Y.out.2⟩
          case measure => simp [intOf]; omega
    · obtain rfl : i = n := by omega
      have hDi : Dist N := fun x y hx hy e => by
        rw [H.out.2.2.2.2.1] at hx hy
        rcases (by omega : x < y ∨ x = y ∨ y < x) with h | h | h
        · exact absurd e.symm (hD y x hy h)
        · exact h
        · exact absurd e (hD x y hx h)
      have M := Lib.hid (And.intro hDi hb); clear hD hb hDi
      go_wp2_with fail
      try go_at_call 20
      refine (rLoops_any _ N wr0 (H.out.2.2.2.2.2.1.later M.out.2) H.out.2.2.2.2.2.2).mono ?_
      rintro e w5 ⟨r5, L5, ⟨rfl, o5, h5⟩, b5⟩
      obtain ⟨pA, pc, rfl, _, pk, pm⟩ := o5.shape
      have hl5 : 0 < L5.length ↔ Loopy N := by
        constructor
        · intro h
          obtain ⟨h1, h2⟩ := (h5.2 _).1 (List.getElem_mem h)
          exact ⟨_, h1, h2⟩
        · rintro ⟨x, h1, h2⟩
          exact List.length_pos_of_mem ((h5.2 x).2 ⟨h1, h2⟩)
      obtain ⟨ln, hln⟩ : ∃ ln, ln = L5.length := ⟨_, rfl⟩
      rw [← hln] at hl5 pk
      rw [← hln]
      clear hln
      have hm7 : ln ≤ 9223372036854775807 := by unfold maxLen at pm; omega
      have Y := Lib.hid (And.intro hl5 (bt M.out.2 b5)); clear hl5 o5 h5 b5 pk pm
      by_cases h0 : 0 < ln
      · have hd0 : decide (0 < ln) = true := decide_eq_true h0
        go_wp2_with fail
        go_ret2
        exact ⟨_, 12, ⟨rfl, Or.inr (Or.inl ⟨M.out.1, Y.out.1.1 h0, rfl, rfl⟩)⟩, Y.out.2⟩
      · obtain rfl : ln = 0 := by omega
        obtain ⟨R, hR⟩ := H.out.2.2.1 M.out.1 (fun h => h0 (Y.out.1.2 h))
        have HR := Lib.hid hR; clear hR
        go_wp2_with fail
        try go_at_call 25
        refine (rranks_any _ N R w5 (H.out.2.2.2.2.2.1.later Y.out.2) H.out.2.2.2.2.2.2 HR.out).mono ?_
        rintro e w6 ⟨r6, O, ⟨rfl, o6, l6, e6⟩, b6⟩
        have Z := Lib.hid (And.intro o6 (And.intro l6 (And.intro e6 (bt Y.out.2 b6)))); clear o6 l6 e6 b6
        go_wp2_with fail
        go_ret2
        exact ⟨_, 0, ⟨rfl, Or.inr (Or.inr ⟨M.out.1, rfl, O, Z.out.1.lift Y.out.2.size, Z.out.2.1, rankFull_congr HR.out Z.out.2.2.1⟩)⟩, Z.out.2.2.2⟩
/-- What stands in the order so far. -/
structure OrI (R : Nat → Nat) (n p i : Nat) (L : List Nat) : Prop where
  pw : L.Pairwise (LexR R)
  mem : ∀ k, k ∈ L ↔ k < n ∧ (R k < p ∨ (R k = p ∧ k < i))
theorem OrI.start {R : Nat → Nat} {n : Nat} : OrI R n 0 0 [] := ⟨List.Pairwise.nil, fun k => by simp⟩
theorem OrI.pass {R : Nat → Nat} {n p : Nat} {L : List Nat} (h : OrI R n p n L) : OrI R n (p + 1) 0 L :=
  ⟨h.pw, fun k => by rw [h.mem]; constructor <;> (rintro ⟨h1, h2⟩; exact ⟨h1, by omega⟩)⟩
theorem OrI.skip {R : Nat → Nat} {n p i : Nat} {L : List Nat} (h : OrI R n p i L) (hi : ¬ R i = p) : OrI R n p (i + 1) L := by
  refine ⟨h.pw, fun k => ?_⟩
  rw [h.mem]
  constructor
  · rintro ⟨h1, h2⟩; exact ⟨h1, by omega⟩
  · rintro ⟨h1, h2 | ⟨h2, h3⟩⟩
    · exact ⟨h1, Or.inl h2⟩
    · rcases (by omega : k < i ∨ k = i) with h4 | rfl
      · exact ⟨h1, Or.inr ⟨h2, h4⟩⟩
      · exact absurd h2 hi
theorem OrI.step {R : Nat → Nat} {n p i : Nat} {L : List Nat} (h : OrI R n p i L) (hi : R i = p) (hn : i < n) : OrI R n p (i + 1) (L ++ [i]) := by
  refine ⟨List.pairwise_append.2 ⟨h.pw, List.pairwise_singleton _ _, fun a ha b hb => ?_⟩, fun k => ?_⟩
  · obtain rfl : b = i := by simpa using hb
    have := (h.mem a).1 ha
    unfold LexR
    omega
  · rw [List.mem_append, h.mem, List.mem_singleton]
    constructor
    · rintro (⟨h1, h2⟩ | rfl)
      · exact ⟨h1, by omega⟩
      · exact ⟨hn, Or.inr ⟨hi, by omega⟩⟩
    · rintro ⟨h1, h2⟩
      by_cases hk : k = i
      · exact Or.inr hk
      · exact Or.inl ⟨h1, by omega⟩
theorem OrI.len {R : Nat → Nat} {n p i : Nat} {L : List Nat} (h : OrI R n p i L) : L.length ≤ n :=
  Gr.nodup_len (h.pw.imp (fun {a b} h e => by subst e; unfold LexR at h; omega)) (fun k hk => ((h.mem k).1 hk).1)
set_option maxRecDepth 20000 in
set_option maxHeartbeats 4000000 in
theorem rOrder_any (v : Value) (N : List Nd) (w : World) (h : NdsAt w v N) (hn : N.length ≤ 1000) (hE : Dist N → ¬ Loopy N → ∃ R, RankFull N R) :
    Calls Try.prog 17 #[v] w (OrderP N w) := by
  obtain ⟨j0, hj, hy0, hy1, hy2⟩ := info_parts (P := Try.prog) (e := 3) (z := .int .i64 0) (size := 1) (bytes := 8) (by kernel_rfl)
  have hw := h
  obtain ⟨l, h1, h2, h3⟩ := h
  obtain ⟨A, c, rfl, a1, a2, _⟩ := h1.shape
  obtain ⟨n, hnl⟩ : ∃ n, n = l.length := ⟨_, rfl⟩
  have hN : N.length = n := by rw [hnl, ← h2, List.length_map]
  rw [← hnl] at h1 a1 hw ⊢
  have hn' : n ≤ 1000 := by omega
  have cR := rRanks_any _ N w hw hn hE
  have H := Lib.hid (And.intro hN hn); clear h1 h2 h3 hnl hN hw hn hE a1
  go_enter Try.func17, Try.ntmps17
  have CR := Lib.hid cR; clear cR
  go_wp2_with fail
  try go_at_call 15
  refine CR.out.mono ?_
  clear CR
  rintro e w1 ⟨r, k, ⟨rfl, hR⟩, b1⟩
  rcases hR with ⟨hD, rfl, rfl⟩ | ⟨hD, hL, rfl, rfl⟩ | ⟨hD, rfl, R, oR, lR, hF⟩
  · have Y := Lib.hid (And.intro hD b1); clear hD b1
    go_wp2_with fail
    go_ret2
    exact ⟨_, 11, ⟨rfl, Or.inl ⟨Y.out.1, rfl, rfl⟩⟩, Y.out.2⟩
  · have Y := Lib.hid (And.intro hD (And.intro hL b1)); clear hD hL b1
    go_wp2_with fail
    go_ret2
    exact ⟨_, 12, ⟨rfl, Or.inr (Or.inl ⟨Y.out.1, Y.out.2.1, rfl, rfl⟩)⟩, Y.out.2.2⟩
  · obtain ⟨rA, rc, rfl, _, _, _⟩ := oR.shape
    obtain ⟨rn, hrn⟩ : ∃ rn, rn = R.length := ⟨_, rfl⟩
    have hrnn : rn = n := by rw [hrn, lR, H.out.1]
    rw [← hrn] at oR ⊢
    subst hrnn
    have Y := Lib.hid (And.intro hD (And.intro oR (And.intro hF (And.intro hrn b1)))); clear hD oR hF hrn b1 lR
    go_wp2_with fail
    go_loopw [6, 7] (fun ov pv wr => ∃ (p : Nat) (L : List Nat), p ≤ rn ∧ pv = .int .i64 (p : Int) ∧ OrI (fun j => R.getD j 0) rn p 0 L ∧ Own wr w1.heap.size 3 1 rowP ov L ∧ Below w1.heap.size w1 wr) (fun _ pv _ => rn - (intOf pv).toNat)
    case atStart => exact ⟨0, [], Nat.zero_le _, rfl, OrI.start, Own.nil _ _ _ _ _, Below.refl _ _⟩
    case round =>
      rename World => wr0
      obtain ⟨p, L, hp, rfl, hI, hO, hb⟩ := hrel
      by_cases hlt : p < rn
      · have M := Lib.hid (And.intro hI (And.intro hO hb)); clear hI hO hb
        go_wp2_with fail
        go_loopw [6, 8] (fun ov iv wr => ∃ (i : Nat) (L : List Nat), i ≤ rn ∧ iv = .int .i64 (i : Int) ∧ OrI (fun j => R.getD j 0) rn p i L ∧ Own wr w1.heap.size 3 1 rowP ov L ∧ Below w1.heap.size w1 wr) (fun _ iv _ => rn - (intOf iv).toNat)
        case atStart => exact ⟨0, L, Nat.zero_le _, rfl, M.out.1, M.out.2.1, M.out.2.2⟩
        case round =>
          clear M
          rename World => wr1
          obtain ⟨i, L, hi, rfl, hI, hO, hb⟩ := hrel
          by_cases hlti : i < rn
          · have hil : i < R.length := by have := Y.out.2.2.2.1; omega
            obtain ⟨gR, rfl, _, _, _, oc⟩ := (Y.out.2.1.later hb).cells (f := rowP) (k := 1) (fun _ => rfl) rfl (by omega)
            have c0 := oc i hil 0 _ rfl
            rw [Nat.mul_one, Nat.add_zero, show R[i]'hil = R.getD i 0 by rw [List.getD_eq_getElem?_getD, List.getElem?_eq_getElem hil]; rfl] at c0
            have hls := hI.len
            by_cases hip : R.getD i 0 = p
            · have hst := hI.step (by exact hip) hlti
              rw [hip] at c0
              have U := Lib.hid (And.intro hst (And.intro hO (And.intro hb hls))); clear hst hI hO hb oc hip hls
              obtain ⟨oA, on_, ocp, rfl⟩ := own_shape U.out.2.1
              have hB1 := at_newP wr1 i
              have hbA := ba wr1 (.cells #[.int .i64 (i : Int)] 3)
              go_wp2_with (at_builtin; refine wpList_append_loc _ rfl (.tmp 35) (.tmp 37) 31 rfl w1.heap.size 3 j0 (.int .i64 0) 1 8 Try.underlying31 hj hy0 hy1 hy2 rfl (by decide) (f := rowP) (fun _ => rfl) one_rowP _ L rfl (U.out.2.1.later hbA) (some ⟨wr1.heap.size, 0, none⟩) 1 1 [i] rfl rfl hB1 (by have := U.out.2.2.2; unfold maxLen; omega) (by have := U.out.2.2.2; omega) (by have := U.out.2.2.1.size; simp only [World.size_alloc]; omega) ?_; intro v6 w6 hO6 hg6 hq6; have Z := Lib.hid (And.intro hO6 hg6); clear hO6 hg6 hq6)
              have bA := bt U.out.2.2.1 hbA
              have b6 := bA.trans (grownBy_below Z.out.2 bA.size (fun k hk => (Own.block U.out.2.1 hk).1))
              go_roundw
              case rel => exact ⟨i + 1, _, by omega, by go_num, U.out.1, Z.out.1, b6⟩
              case measure => simp [intOf]; omega
            · have hst := hI.skip (by exact hip)
              obtain ⟨ri, hri⟩ : ∃ ri, ri = R.getD i 0 := ⟨_, rfl⟩
              rw [← hri] at c0 hip
              clear hri
              have hyi : ¬ (ri : Int) = (p : Int) := by omega
              have hyb : ((ri : Int) == (p : Int)) = false := by simpa using hyi
              have U := Lib.hid (And.intro hst (And.intro hO hb)); clear hst hI hO hb oc hls
              go_wp2_with fail
              go_roundw
              case rel => exact ⟨i + 1, L, by omega, by go_num, U.out.1, U.out.2.1, U.out.2.2⟩
              case measure => simp [intOf]; omega
          · obtain rfl : i = rn := by omega
            have U := Lib.hid (And.intro hI.pass (And.intro hO hb)); clear hI hO hb
            go_wp2_with fail
            go_roundw
            case rel => exact ⟨p + 1, L, by omega, by go_num, U.out.1, U.out.2.1, U.out.2.2⟩
            case measure => simp [intOf]; omega
      · obtain rfl : p = rn := by omega
        have hord : IsOrder (fun j => R.getD j 0) N.length L := by
          refine ⟨hI.pw, fun k => ?_⟩
          rw [hI.mem, H.out.1]
          constructor
          · exact fun h => h.1
          · intro hk
            have := rank_small Y.out.2.2.1 (k := k) (by rw [H.out.1]; exact hk)
            rw [H.out.1] at this
            exact ⟨hk, Or.inl this⟩
        have U := Lib.hid (And.intro hord (And.intro (hO.lift Y.out.2.2.2.2.size) (bt Y.out.2.2.2.2 hb))); clear hI hO hb hord
        go_wp2_with fail
        go_ret2
        exact ⟨_, 0, ⟨rfl, Or.inr (Or.inr ⟨Y.out.1, rfl, _, L, Y.out.2.2.1, U.out.1, U.out.2.1⟩)⟩, U.out.2.2⟩
end Go.Proofs.Ytinonfgehbjneaa
