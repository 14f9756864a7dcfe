/- Words of texts: the reference's Put; two rows alike. -/
import Derived.Test.YtoaallhibgbokaaDoorLtG
import Derived.BigQuiet
import Derived.Deep.QuietTactic
namespace Go.Proofs.YtoaallhibgbokaaDoor
open Go.ChangeShapes Go.WideShapes Go.ChangeAt Go.RowKit
set_option linter.unusedVariables false
set_option linter.unusedSimpArgs false

theorem putT_more : ∀ (L : List Tk) (x : Tk), putT (L ++ [x]) = if L = [] then raw x else putT L ++ 32 :: raw x
  | [], x => rfl
  | [y], x => rfl
  | y :: z :: L, x => by
    show raw y ++ 32 :: putT ((z :: L) ++ [x]) = _
    rw [putT_more (z :: L) x, if_neg (by simp), if_neg (by simp)]
    show _ = (raw y ++ 32 :: putT (z :: L)) ++ 32 :: raw x
    rw [List.append_assoc]; rfl
theorem mk_app (a b : Bs) : mk a ++ mk b = mk (a ++ b) := by
  rw [← mk_list (mk a ++ mk b)]
  refine congrArg mk ?_
  rw [ByteArray.data_append, Array.toList_append, mk_data, mk_data]
set_option maxRecDepth 20000 in
set_option maxHeartbeats 4000000 in
theorem RPut_any (v : Value) (L : List Tk) (w : World) (hv : At w 4 rowT v L) (hN : L.length ≤ 1000000000) (hs : ∀ x ∈ L, x.t.length ≤ 1000000000) (hlen : ∀ k, (putT (L.take k)).length ≤ 1000000000) :
    Calls Tryd.prog 17 #[v] w fun e w' => e = .returned (.string (mk (putT L))) ∧ Below w.heap.size w w' := by
  obtain ⟨A, cap, hve, _, h2, _⟩ := hv.shape
  have hcells := fun h0 => hv.cells hve h0
  subst hve
  clear hv
  obtain ⟨n, hn⟩ : ∃ n, n = L.length := ⟨_, rfl⟩
  rw [← hn] at hN ⊢
  have hnm : n ≤ 9223372036854775807 := by omega
  have H := Lib.hid (And.intro hcells (And.intro hs (And.intro hlen hn))); clear hcells hs hlen hn
  go_enter Tryd.func17, Tryd.ntmps17
  go_wp2
  go_loop [3, 4] (fun ov iv => ∃ (k : Nat), k ≤ n ∧ iv = .int .i64 (k : Int) ∧ ov = .string (mk (putT (L.take k)))) (fun _ i => n - (intOf i).toNat)
  case atStart => exact ⟨0, Nat.zero_le _, rfl, rfl⟩
  case round =>
    obtain ⟨k, hk, rfl, rfl⟩ := hrel
    by_cases hlt : k < n
    · have hil : k < L.length := by rw [← H.out.2.2.2]; exact hlt
      obtain ⟨a, rfl, hC⟩ := H.out.1 (by omega)
      obtain ⟨c0, c1, c2, c3⟩ := hC.row4 k hil rfl
      have htl := H.out.2.1 _ (List.getElem_mem hil)
      have htk : L.take (k + 1) = L.take k ++ [L[k]'hil] := List.take_succ_eq_append_getElem hil
      have hpm := putT_more (L.take k) (L[k]'hil)
      rw [← htk] at hpm
      have hnil : (L.take k = []) ↔ k = 0 := by
        constructor
        · intro e
          have := congrArg List.length e
          rw [List.length_take, List.length_nil] at this
          omega
        · rintro rfl; rfl
      have hpl := H.out.2.2.1 k
      generalize L[k]'hil = x at *
      clear hC htk
      obtain ⟨xk, xt, xn, xa⟩ := x
      simp only at c0 c1 c2 c3 htl
      have htz := mk_size xt
      have hpz := mk_size (putT (L.take k))
      by_cases hk0 : k = 0
      · subst hk0
        rw [if_pos (hnil.2 rfl)] at hpm
        have ha0 : a.add (0 * 4) = a := by simp [Addr.add]
        rw [ha0] at c0 c1 c2 c3
        have hp0 : mk (putT (L.take 0)) = ⟨#[]⟩ := rfl
        rw [hp0]
        by_cases h3 : xk = 3
        · subst h3
          have hq : (⟨#[]⟩ : ByteArray) ++ ⟨#[39]⟩ ++ mk xt ++ ⟨#[39]⟩ = mk (putT (L.take (0 + 1))) := by
            rw [hpm, show (⟨#[]⟩ : ByteArray) = mk [] from rfl, show (⟨#[39]⟩ : ByteArray) = mk [39] from rfl, mk_app, mk_app, mk_app]
            rfl
          have hq2 : (⟨#[39]⟩ : ByteArray) ++ mk xt ++ ⟨#[39]⟩ = mk (putT (L.take (0 + 1))) := by
            rw [hpm, show (⟨#[39]⟩ : ByteArray) = mk [39] from rfl, mk_app, mk_app]
            rfl
          obtain ⟨tb, htb⟩ : ∃ tb, mk xt = tb := ⟨_, rfl⟩
          rw [htb] at c1 htz hq hq2
          have gg1 : ¬ 9223372036854775807 < 1 + tb.size := by omega
          have gg2 : ¬ 9223372036854775807 < 1 + tb.size + 1 := by omega
          have Q := Lib.hid (And.intro hq hq2); clear hq hq2 hpm hnil htb hpl hpz
          go_wp2
          go_round
          case rel => exact ⟨0 + 1, by omega, by go_num, by first | (rw [← Q.out.1]; done) | (rw [← Q.out.2]; done) | (rw [← Q.out.1]; rfl)⟩
          case measure => simp [intOf]; omega
        · have hq : (⟨#[]⟩ : ByteArray) ++ mk xt = mk (putT (L.take (0 + 1))) := by
            rw [hpm, show (⟨#[]⟩ : ByteArray) = mk [] from rfl, mk_app]
            unfold raw; rw [if_neg h3]; rfl
          have hq2 : mk xt = mk (putT (L.take (0 + 1))) := by
            rw [hpm]; unfold raw; rw [if_neg h3]
          have h3b : (xk == 3) = false := by simpa using h3
          obtain ⟨tb, htb⟩ : ∃ tb, mk xt = tb := ⟨_, rfl⟩
          rw [htb] at c1 htz hq hq2
          have gg1 : ¬ 9223372036854775807 < tb.size := by omega
          have Q := Lib.hid (And.intro hq hq2); clear hq hq2 hpm hnil htb hpl hpz
          go_wp2
          go_round
          case rel => exact ⟨0 + 1, by omega, by go_num, by first | (rw [← Q.out.1]; done) | (rw [← Q.out.2]; done) | (rw [← Q.out.1]; rfl)⟩
          case measure => simp [intOf]; omega
      · rw [if_neg (fun e => hk0 (hnil.1 e))] at hpm
        have hk0I : (0 : Int) < (k : Int) := by omega
        have hk0n : 0 < k := by omega
        obtain ⟨pl, hpl'⟩ : ∃ pl, (putT (L.take k)).length = pl := ⟨_, rfl⟩
        rw [hpl'] at hpl hpz
        by_cases h3 : xk = 3
        · subst h3
          have hq : mk (putT (L.take k)) ++ ⟨#[32]⟩ ++ ⟨#[39]⟩ ++ mk xt ++ ⟨#[39]⟩ = mk (putT (L.take (k + 1))) := by
            rw [hpm, show (⟨#[39]⟩ : ByteArray) = mk [39] from rfl, show (⟨#[32]⟩ : ByteArray) = mk [32] from rfl, mk_app, mk_app, mk_app, mk_app]
            unfold raw; simp
          obtain ⟨tb, htb⟩ : ∃ tb, mk xt = tb := ⟨_, rfl⟩
          obtain ⟨pb, hpb⟩ : ∃ pb, mk (putT (L.take k)) = pb := ⟨_, rfl⟩
          rw [htb] at c1 htz hq
          rw [hpb] at hq hpz ⊢
          have gg1 : ¬ 9223372036854775807 < pb.size + 1 := by omega
          have gg2 : ¬ 9223372036854775807 < pb.size + 1 + 1 := by omega
          have gg3 : ¬ 9223372036854775807 < pb.size + 1 + 1 + tb.size := by omega
          have gg4 : ¬ 9223372036854775807 < pb.size + 1 + 1 + tb.size + 1 := by omega
          have Q := Lib.hid hq; clear hq hpm hnil htb hpl hpb hpl'
          go_wp2
          go_round
          case rel => exact ⟨k + 1, by omega, by go_num, by rw [← Q.out]⟩
          case measure => simp [intOf]; omega
        · have hq : mk (putT (L.take k)) ++ ⟨#[32]⟩ ++ mk xt = mk (putT (L.take (k + 1))) := by
            rw [hpm, show (⟨#[32]⟩ : ByteArray) = mk [32] from rfl, mk_app, mk_app]
            unfold raw; rw [if_neg h3]; simp
          have h3b : (xk == 3) = false := by simpa using h3
          obtain ⟨tb, htb⟩ : ∃ tb, mk xt = tb := ⟨_, rfl⟩
          obtain ⟨pb, hpb⟩ : ∃ pb, mk (putT (L.take k)) = pb := ⟨_, rfl⟩
          rw [htb] at c1 htz hq
          rw [hpb] at hq hpz ⊢
          have gg1 : ¬ 9223372036854775807 < pb.size + 1 := by omega
          have gg2 : ¬ 9223372036854775807 < pb.size + 1 + tb.size := by omega
          have Q := Lib.hid hq; clear hq hpm hnil htb hpl hpb hpl'
          go_wp2
          go_round
          case rel => exact ⟨k + 1, by omega, by go_num, by rw [← Q.out]⟩
          case measure => simp [intOf]; omega
    · obtain rfl : k = n := by omega
      have hT : L.take k = L := List.take_of_length_le (by rw [← H.out.2.2.2]; exact Nat.le_refl _)
      rw [hT]
      go_wp2
      go_ret
      exact ⟨rfl, Below.refl _ _⟩
set_option maxRecDepth 20000 in
set_option maxHeartbeats 4000000 in
theorem same_any (v u : Value) (L : List Tk) (w : World) (hv : At w 4 rowT v L) (hu : At w 4 rowT u L) (hN : L.length ≤ 1000000000) :
    Calls Tryd.prog 15 #[v, u] w fun e w' => e = .returned (.bool true) ∧ Below w.heap.size w w' := by
  obtain ⟨A, cap, hve, _, h2, _⟩ := hv.shape
  obtain ⟨A', cap', hue, _, h2', _⟩ := hu.shape
  have hcells := fun h0 => hv.cells hve h0
  have hcells' := fun h0 => hu.cells hue h0
  subst hve hue
  clear hv hu
  obtain ⟨n, hn⟩ : ∃ n, n = L.length := ⟨_, rfl⟩
  rw [← hn] at hN ⊢
  have hnm : n ≤ 9223372036854775807 := by omega
  have H := Lib.hid (And.intro hcells (And.intro hcells' hn)); clear hcells hcells' hn
  go_enter Tryd.func15, Tryd.ntmps15
  go_wp2
  go_loopw [5] (fun iv wr => ∃ (k : Nat), k ≤ n ∧ iv = .int .i64 (k : Int) ∧ Below w.heap.size w wr) (fun i _ => n - (intOf i).toNat)
  case atStart => exact ⟨0, Nat.zero_le _, rfl, Below.refl _ _⟩
  case round =>
    obtain ⟨k, hk, rfl, hb⟩ := hrel
    have B := Lib.hid hb; clear hb
    by_cases hlt : k < n
    · have hil : k < L.length := by rw [← H.out.2.2]; exact hlt
      obtain ⟨a, rfl, hC⟩ := H.out.1 (by omega)
      obtain ⟨a', rfl, hC'⟩ := H.out.2.1 (by omega)
      obtain ⟨c0, c1, c2, c3⟩ := (hC.later B.out).row4 k hil rfl
      obtain ⟨d0, d1, d2, d3⟩ := (hC'.later B.out).row4 k hil rfl
      generalize L[k]'hil = x at *
      clear hC hC'
      obtain ⟨xk, xt, xn, xa⟩ := x
      simp only at c0 c1 c2 c3 d0 d1 d2 d3
      obtain ⟨tb, htb⟩ : ∃ tb, mk xt = tb := ⟨_, rfl⟩
      rw [htb] at c1 d1
      have e1 : (tb.toList == tb.toList) = true := by simp
      clear htb
      go_wp2
      go_quiet (fail)
      go_wp2
      go_roundw
      case rel => exact ⟨k + 1, by omega, by go_num, below_drewN B.out _⟩
      case measure => simp [intOf]; omega
    · obtain rfl : k = n := by omega
      go_wp2
      go_ret
      exact ⟨rfl, B.out⟩
end Go.Proofs.YtoaallhibgbokaaDoor
