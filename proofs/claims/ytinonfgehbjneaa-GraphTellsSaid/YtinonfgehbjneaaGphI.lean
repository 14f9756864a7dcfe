/- Layer 12: Ranks. -/
import Derived.Test.YtinonfgehbjneaaGphH
namespace Go.Proofs.Ytinonfgehbjneaa
open Go.ChangeShapes Go.WideShapes Go.ChangeAt Go.RowKit Go.Maps
open Gr (Nd nmAt frAt cn leadsU leadsL wtOf Dist Kahn Inner RankFull Loopy)
set_option linter.unusedVariables false
set_option linter.unusedSimpArgs false

theorem wpList_mapUpdate_met (w : World) {ops : Array Oper} {rest : List Oper} {o : Oper} {a : Act} {Q : Exit → Act → World → Prop}
    (hg : o.guard = none) (m x v : Operand) (hop : o.op = Op.mapUpdate 54 m x v)
    (b n : Nat) (l : List ByteArray) (hm : a.eval m = .map (some b)) (hown : MetS w b n l) (hn : n < maxLen) (s : ByteArray) (hx : a.eval x = .string s) (hv : a.eval v = .bool true) (hs : s.size ≤ maxLen)
    (hK : ∀ w', MetS w' b (n + 1) (s :: l) → w.grownBy w' (some b) → wpList Try.prog ops Q rest (a.put o.dst undef) w') :
    wpList Try.prog ops Q (o :: rest) a w := by
  refine wpList_plain hg fun K' hK' => ?_
  obtain ⟨w', hrun, r1, r2⟩ := hown.put hn hs
  unfold Oper.wp
  simp [execOp, hop, hm, hx, hv, hrun, Result.andThen]
  exact hK' _ _ (hK w' r1 r2)
/-- What Ranks answers. -/
def RanksA (N : List Nd) (B : Nat) (w' : World) (r : Value) (k : Int) : Prop :=
  (¬ Dist N ∧ r = .slice none 0 0 ∧ k = 11) ∨ (Dist N ∧ Loopy N ∧ r = .slice none 0 0 ∧ k = 12) ∨
  (Dist N ∧ k = 0 ∧ ∃ R : List Nat, Own w' B 3 1 rowP r R ∧ R.length = N.length ∧ RankFull N (fun j => R.getD j 0))
def RanksP (N : List Nd) (w : World) (e : Ending) (w' : World) : Prop :=
  ∃ (r : Value) (k : Int), (e = .returned (.tuple #[r, .int .i64 k]) ∧ RanksA N w.heap.size w' r k) ∧ Below w.heap.size w w'
set_option maxRecDepth 20000 in
set_option maxHeartbeats 4000000 in
theorem Ranks_any (v : Value) (N : List Nd) (w : World) (h : NdsAt w v N) (hn : N.length ≤ 1000) (ht : tot N N.length ≤ 26388279066700) :
    Calls Try.prog 14 #[v] w (RanksP N w) := by
  have hw := h
  obtain ⟨l, h1, h2, h3⟩ := h
  obtain ⟨A, c, rfl, a1, a2, _⟩ := h1.shape
  obtain ⟨n, hnl⟩ : ∃ n, n = l.length := ⟨_, rfl⟩
  have hN : N.length = n := by rw [hnl, ← h2, List.length_map]
  rw [← hnl] at h1 a1 hw ⊢
  have hn' : n ≤ 1000 := by omega
  have H := Lib.hid (And.intro h1 (And.intro h2 (And.intro h3 (And.intro hnl (And.intro hN (And.intro hw (And.intro hn ht))))))); clear h1 h2 h3 hnl hN hw hn a1 ht
  have hmm := @run_makeMap Try.prog
  have hM0 := MetS.made w
  have hb0 := ba w (.map #[] 0)
  have KM := Lib.hid (And.intro hM0 hb0); clear hM0 hb0
  go_enter Try.func14, Try.ntmps14
  go_wp2_with fail
  clear hmm
  go_loopw [12] (fun iv wr => ∃ (i : Nat) (S : List ByteArray), i ≤ n ∧ iv = .int .i64 (i : Int) ∧ MetS wr w.heap.size i S ∧ (∀ s, s ∈ S ↔ ∃ j, j < i ∧ nmAt N j = s) ∧ (∀ a b, a < i → b < i → nmAt N a = nmAt N b → a = b) ∧ Below w.heap.size w wr) (fun iv _ => n - (intOf iv).toNat)
  case atStart => exact ⟨0, [], Nat.zero_le _, rfl, KM.out.1, fun s => by simp, fun a b h => by omega, KM.out.2⟩
  case round =>
    rename World => wr0
    clear KM
    obtain ⟨i, S, hi, rfl, hM, hS, hD, hb⟩ := hrel
    by_cases hlt : i < n
    · have hil : i < l.length := by have := H.out.2.2.2.1; omega
      obtain ⟨a, rfl, hca⟩ := (H.out.1.later hb).cells rfl (by omega)
      obtain ⟨e0, e1⟩ := hca.row2 i hil rfl
      obtain ⟨f1, f2⟩ := at_node H.out.2.1 hil
      have hsz := (H.out.2.2.1 _ (List.getElem_mem hil)).2.1
      generalize l[i]'hil = y at *
      obtain ⟨⟨nm, fr⟩, fA, fn, fc⟩ := y
      simp only at e0 e1 f1 f2 hsz
      change wr0.cell? ⟨(a.add (i * 2)).block, (a.add (i * 2)).off + 1, none⟩ = some (.slice fA fn fc) at e1
      have hM1 := hM.later (ba wr0 (.cells #[.string nm, .slice fA fn fc] 45))
      have hb1 := bt hb (ba wr0 (.cells #[.string nm, .slice fA fn fc] 45))
      obtain ⟨b, hlk, hbS⟩ := hM1.look hsz
      have hbN := hbS.trans (hS nm)
      cases b with
      | true =>
        have hno : ¬ Dist N := fun hd => by
          obtain ⟨j, hj, e⟩ := hbN.1 rfl
          have := hd j i (by rw [H.out.2.2.2.2.1]; omega) (by rw [H.out.2.2.2.2.1]; omega) (e.trans f1.symm)
          omega
        have U := Lib.hid (And.intro hno hb1); clear hno hb1 hb hM hM1 hS hD hbS hbN hca f1 f2
        go_wp2_with fail
        go_ret2
        exact ⟨_, _, ⟨rfl, Or.inl ⟨U.out.1, rfl, rfl⟩⟩, U.out.2⟩
      | false =>
        have hnew : ∀ j, j < i → nmAt N j ≠ nm := fun j hj e => by have := hbN.2 ⟨j, hj, e⟩; cases this
        have hS2 : ∀ s, s ∈ nm :: S ↔ ∃ j, j < i + 1 ∧ nmAt N j = s := fun s => by
          rw [List.mem_cons, hS]
          constructor
          · rintro (rfl | ⟨j, h1, h2⟩)
            · exact ⟨i, by omega, f1⟩
            · exact ⟨j, by omega, h2⟩
          · rintro ⟨j, h1, h2⟩
            rcases (by omega : j < i ∨ j = i) with h | rfl
            · exact Or.inr ⟨j, h, h2⟩
            · exact Or.inl (h2.symm.trans f1)
        have hD2 : ∀ a b, a < i + 1 → b < i + 1 → nmAt N a = nmAt N b → a = b := fun a b ha hb e => by
          rcases (by omega : a < i ∨ a = i) with h | rfl
          · rcases (by omega : b < i ∨ b = i) with h' | rfl
            · exact hD a b h h' e
            · exact absurd (e.trans f1) (hnew a h)
          · rcases (by omega : b < a ∨ b = a) with h' | rfl
            · exact absurd (e.symm.trans f1) (hnew b h')
            · rfl
        have U := Lib.hid (And.intro hM1 (And.intro hS2 (And.intro hD2 (And.intro hb1 hsz)))); clear hb1 hb hM hM1 hS hD hbS hbN hca f1 f2 hnew hS2 hD2
        go_wp2_with (at_mapUpdate; refine wpList_mapUpdate_met _ rfl _ _ _ rfl w.heap.size i S rfl U.out.1 (by unfold maxLen; omega) nm rfl rfl U.out.2.2.2.2 ?_; intro w6 hM6 hg6)
        go_roundw
        case rel => exact ⟨i + 1, _, by omega, by go_num, hM6, U.out.2.1, U.out.2.2.1, U.out.2.2.2.1.trans (grownBy_below hg6 U.out.2.2.2.1.size (fun k hk => by cases hk; exact Nat.le_refl _))⟩
        case measure => simp [intOf]; omega
    · obtain rfl : i = n := by omega
      have hN := H.out.2.2.2.2.1
      have hD2 : Dist N := fun a b ha hb e => hD a b (by omega) (by omega) e
      have cR := rank_any _ N w.heap.size i S wr0 (H.out.2.2.2.2.2.1.later hb) hM (fun s => (hS s).trans ⟨fun ⟨j, h1, h2⟩ => ⟨j, by omega, h2⟩, fun ⟨j, h1, h2⟩ => ⟨j, by omega, h2⟩⟩) hD2 H.out.2.2.2.2.2.2.1 H.out.2.2.2.2.2.2.2
      have U := Lib.hid (And.intro cR (And.intro hD2 hb)); clear cR hD2 hb hM hS hD hN
      go_wp2_with fail
      try go_at_call 24
      refine U.out.1.mono ?_
      rintro e w5 ⟨r, R, k, ⟨rfl, hO, hl, hk⟩, hb5⟩
      have hN := H.out.2.2.2.2.1
      obtain ⟨rA, rn, rc, rfl⟩ := own_shape hO
      rcases hk with ⟨hk, hF⟩ | ⟨hk, hL⟩
      · obtain rfl : k = i := by omega
        have U2 := Lib.hid (And.intro (hO.lift U.out.2.2.size) (And.intro hl (And.intro hF (bt U.out.2.2 hb5)))); clear hO hl hF hb5 hN hk
        go_wp2_with fail
        go_ret2
        exact ⟨_, _, ⟨rfl, Or.inr (Or.inr ⟨U.out.2.1, rfl, R, U2.out.1, U2.out.2.1, U2.out.2.2.1⟩)⟩, U2.out.2.2.2⟩
      · have hki : (k : Int) < (i : Int) := by omega
        have U2 := Lib.hid (And.intro hL (bt U.out.2.2 hb5)); clear hO hl hL hb5 hN hk
        go_wp2_with fail
        go_ret2
        exact ⟨_, _, ⟨rfl, Or.inr (Or.inl ⟨U.out.2.1, U2.out.1, rfl, rfl⟩)⟩, U2.out.2⟩
end Go.Proofs.Ytinonfgehbjneaa
