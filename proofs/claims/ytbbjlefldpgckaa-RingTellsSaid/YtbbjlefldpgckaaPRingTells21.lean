/- Texts of the proof of RingTells, part 21. -/
import Derived.Test.YtbbjlefldpgckaaPRingTells20
import Derived.Deep.QuietTactic
import Derived.BigQuiet
namespace Go.Proofs.Ytbbjlefldpgckaa
open Go.ChangeShapes Go.WideShapes Go.ChangeAt Go.RowKit Go.Maps
open Ev (V3 rightV OkV)
set_option linter.unusedVariables false
set_option linter.unusedSimpArgs false
set_option maxRecDepth 20000

def FindR (Q : List Qr) (id : Int) (i : Int) : Prop := (∃ k r, ∃ hk : k < Q.length, Q[k]'hk = (id, r) ∧ i = (k : Int)) ∨ ((∀ k (hk : k < Q.length), (Q[k]'hk).1 ≠ id) ∧ i = -1)
def FindP (Q : List Qr) (id : Int) (w : World) (e : Ending) (w' : World) : Prop := ∃ i, (e = .returned (.int .i64 i) ∧ FindR Q id i) ∧ w = w'
section
variable {w : World} {B p : Nat} {vl vq : Value} {L : List Raw} {Q : List Qr} {s : Rg}
theorem Find_any (id : Int) (h : RM w B p vl vq L Q s) : Calls Try.prog 51 #[.pointer (some ⟨p, 0, none⟩), .int .i64 id] w (FindP Q id w) := by
  obtain ⟨_, _, c2, _, _, _, _, _⟩ := h.cells
  obtain ⟨A, c, rfl, _, hc1, hc2⟩ := h.q.shape
  obtain ⟨n, hn⟩ : ∃ n, n = Q.length := ⟨_, rfl⟩
  have hn16 : n ≤ 16 := by rw [hn]; exact h.qlen
  rw [← hn] at c2
  have H := Lib.hid (And.intro h hn); clear h hn
  go_enter Try.func51, Try.ntmps51
  go_wp2
  go_loop [5] (fun i => ∃ k : Nat, k ≤ n ∧ i = .int .i64 k ∧ ∀ j (hj : j < Q.length), j < k → (Q[j]'hj).1 ≠ id) (fun i => n - (intOf i).toNat)
  case atStart => exact ⟨0, Nat.zero_le _, rfl, fun j hj h => absurd h (by omega)⟩
  case round =>
    obtain ⟨k, hk, rfl, hall⟩ := hrel
    have K := Lib.hid hall; clear hall
    by_cases hlt : k < n
    · have hkl : k < Q.length := by rw [← H.out.2]; exact hlt
      obtain ⟨g, rfl⟩ := own_some H.out.1.q (by omega)
      obtain ⟨d0, _, _⟩ := three_cells H.out.1.q k hkl
      obtain ⟨x, hx⟩ : ∃ x, Q[k]'hkl = x := ⟨_, rfl⟩
      rw [hx] at d0
      obtain ⟨x1, x2⟩ := x
      simp only at d0
      have hx := Lib.hid hx
      by_cases he : x1 = id
      · subst he
        go_wp2
        go_ret
        exact ⟨_, ⟨rfl, Or.inl ⟨k, x2, hkl, hx.out, rfl⟩⟩, rfl⟩
      · have heb : (x1 == id) = false := by simpa using he
        go_wp2
        go_round
        case rel => exact ⟨k + 1, by omega, by go_num, fun j hj h1 => by
          rcases Nat.lt_or_ge j k with h2 | h2
          · exact K.out j hj h2
          · obtain rfl : j = k := by omega
            rw [hx.out]; exact he⟩
        case measure => simp [intOf]; omega
    · go_wp2
      go_ret
      exact ⟨_, ⟨rfl, Or.inr ⟨fun j hj => K.out j hj (by have := H.out.2; omega), rfl⟩⟩, rfl⟩
theorem mWait_any (id : Int) (h : RM w B p vl vq L Q s) : Calls Try.prog 40 #[.pointer (some ⟨p, 0, none⟩), .int .i64 id] w fun e w' => e = .returned (.int .i64 (waitR s id)) ∧ Below w.heap.size w w' := by
  have cF := Find_any id h
  obtain ⟨_, c1, c2, _, _, _, _, _⟩ := h.cells
  obtain ⟨A, c, rfl, _, hc1, hc2⟩ := h.q.shape
  obtain ⟨AL, cL, rfl, _, hl1, hl2⟩ := h.l.shape
  have hL := h.llen
  rw [hL] at c1 hl1
  have hT := h.ok.total
  have hT' : (s.hist.length : Int) ≤ 4000000000000000000 := by omega
  generalize hnl : s.hist.length = nl at *
  obtain ⟨n, hn⟩ : ∃ n, n = Q.length := ⟨_, rfl⟩
  have hn16 : n ≤ 16 := by rw [hn]; exact h.qlen
  rw [← hn] at c2
  have H := Lib.hid (And.intro h (And.intro hn (And.intro hnl cF))); clear h hn hnl cF hL
  go_enter Try.func40, Try.ntmps40
  go_wp2_with fail
  go_at_call 51
  refine H.out.2.2.2.mono ?_
  rintro e w1 ⟨i, ⟨rfl, hF⟩, rfl⟩
  rcases hF with ⟨k, r, hk, hx, rfl⟩ | ⟨hno, rfl⟩
  · have hkn : k < n := by rw [H.out.2.1]; exact hk
    obtain ⟨g, rfl⟩ := own_some H.out.1.q (by omega)
    obtain ⟨_, d1, _⟩ := three_cells H.out.1.q k hk
    rw [hx] at d1
    have hrd := H.out.1.qok.at_ hk
    rw [hx] at hrd
    simp only at d1 hrd
    have hle := (H.out.1.ok.rd _ _ hrd).2.2.1
    rw [H.out.2.2.1] at hle
    obtain ⟨ra, rl⟩ := r
    simp only at d1 hle
    have hws : IntKind.i64.wrap ((nl : Int) - (ra : Int)) = (nl : Int) - (ra : Int) := IntWalk.i64_in _ (by omega)
    have hge : ¬ (k : Int) < 0 := by omega
    have hkI : (k : Int) < (n : Int) := by omega
    have hkN : ¬ (n : Int) ≤ (k : Int) := by omega
    have E := Lib.hid hrd; clear hrd hx
    go_wp2_with fail
    go_quiet (fail)
    go_wp2
    go_ret
    exact ⟨by unfold waitR; rw [E.out, H.out.2.2.1]; rfl, below_drewN (Below.refl _ _) _⟩
  · have hrd := Lib.hid (H.out.1.qok.none_ hno); clear hno
    go_wp2
    go_ret
    exact ⟨by unfold waitR; rw [hrd.out]; rfl, Below.refl _ _⟩
theorem mLow_any (id : Int) (h : RM w B p vl vq L Q s) : Calls Try.prog 41 #[.pointer (some ⟨p, 0, none⟩), .int .i64 id] w fun e w' => e = .returned (.int .i64 (lowR s id)) ∧ Below w.heap.size w w' := by
  have cF := Find_any id h
  obtain ⟨_, _, c2, _, _, _, _, _⟩ := h.cells
  obtain ⟨A, c, rfl, _, hc1, hc2⟩ := h.q.shape
  obtain ⟨n, hn⟩ : ∃ n, n = Q.length := ⟨_, rfl⟩
  have hn16 : n ≤ 16 := by rw [hn]; exact h.qlen
  rw [← hn] at c2
  have H := Lib.hid (And.intro h (And.intro hn cF)); clear h hn cF
  go_enter Try.func41, Try.ntmps41
  go_wp2_with fail
  go_at_call 51
  refine H.out.2.2.mono ?_
  rintro e w1 ⟨i, ⟨rfl, hF⟩, rfl⟩
  rcases hF with ⟨k, r, hk, hx, rfl⟩ | ⟨hno, rfl⟩
  · have hkn : k < n := by rw [H.out.2.1]; exact hk
    obtain ⟨g, rfl⟩ := own_some H.out.1.q (by omega)
    obtain ⟨_, _, d2⟩ := three_cells H.out.1.q k hk
    rw [hx] at d2
    have hrd := H.out.1.qok.at_ hk
    rw [hx] at hrd
    simp only at d2 hrd
    have hge : ¬ (k : Int) < 0 := by omega
    have E := Lib.hid hrd; clear hrd hx
    go_wp2
    go_ret
    exact ⟨by unfold lowR; rw [E.out]; rfl, Below.refl _ _⟩
  · have hrd := Lib.hid (H.out.1.qok.none_ hno); clear hno
    go_wp2
    go_ret
    exact ⟨by unfold lowR; rw [hrd.out]; rfl, Below.refl _ _⟩
theorem mEnded_any (id : Int) (h : RM w B p vl vq L Q s) : Calls Try.prog 42 #[.pointer (some ⟨p, 0, none⟩), .int .i64 id] w fun e w' => e = .returned (.bool (endR s id)) ∧ Below w.heap.size w w' := by
  have cF := Find_any id h
  have cW := mWait_any id h
  obtain ⟨_, _, _, _, c4, _, _, _⟩ := h.cells
  have H := Lib.hid (And.intro h (And.intro cF cW)); clear h cF cW
  go_enter Try.func42, Try.ntmps42
  go_wp2_with fail
  go_at_call 51
  refine H.out.2.1.mono ?_
  rintro e w1 ⟨i, ⟨rfl, hF⟩, rfl⟩
  rcases hF with ⟨k, r, hk, hx, rfl⟩ | ⟨hno, rfl⟩
  · have hrd := H.out.1.qok.at_ hk
    rw [hx] at hrd
    simp only at hrd
    have hle := (H.out.1.ok.rd _ _ hrd).2.2.1
    have hge : (k : Int) ≥ 0 := by omega
    have hge2 : ¬ (k : Int) < 0 := by omega
    have E := Lib.hid (And.intro hrd hle); clear hrd hx hle
    have hE : endR s id = (s.shut && decide (r.1 = s.hist.length)) := by unfold endR; rw [E.out.1]
    have hW : waitR s id = (s.hist.length : Int) - (r.1 : Int) := by unfold waitR; rw [E.out.1]
    have hH := Lib.hid (And.intro hE hW); clear hE hW
    rcases hs : s.shut with _ | _
    · rw [hs] at c4
      have hs := Lib.hid hs
      go_wp2
      go_ret
      exact ⟨by rw [hH.out.1, hs.out]; rfl, Below.refl _ _⟩
    · rw [hs] at c4
      have hs := Lib.hid hs
      go_wp2_with fail
      go_at_call 40
      refine H.out.2.2.mono ?_
      rintro e w2 ⟨he, hb⟩
      rw [hH.out.2] at he
      subst he
      have hb := Lib.hid hb
      have hd : (((s.hist.length : Int) - (r.1 : Int)) == 0) = decide (r.1 = s.hist.length) := by
        rw [Bool.eq_iff_iff]
        have := E.out.2
        simp
        omega
      have hd := Lib.hid hd
      go_wp2
      go_ret
      exact ⟨by rw [hH.out.1, hs.out, Bool.true_and, ← hd.out]; rfl, hb.out⟩
  · have hrd := Lib.hid (H.out.1.qok.none_ hno); clear hno
    go_wp2
    go_ret
    exact ⟨by unfold endR; rw [hrd.out]; rfl, Below.refl _ _⟩
end
theorem mAfter_any (mk : Bool) (t : Int) (v : Value) (w : World) (ht : 0 ≤ t ∧ t ≤ 2305843009213693952) : Calls Try.prog 49 #[item mk t v] w fun e w' => e = .returned (.int .i64 (behindI mk t)) ∧ Below w.heap.size w w' := by
  have hw1 : IntKind.i64.wrap (t + 1) = t + 1 := IntWalk.i64_in _ (by omega)
  cases mk
  all_goals
    go_enter Try.func49, Try.ntmps49
    go_wp2
    go_ret
    exact ⟨rfl, ba _ _⟩
end Go.Proofs.Ytbbjlefldpgckaa
namespace Go.Proofs.Ytbbjlefldpgckaa
open Go.ChangeShapes Go.WideShapes Go.ChangeAt Go.RowKit Go.Maps
open Ev (V3 rightV OkV)
set_option linter.unusedVariables false
set_option linter.unusedSimpArgs false
set_option maxRecDepth 20000

/-- The most that one of the first k readers has to read. -/
def MaxOf (Q : List Qr) (n k m : Nat) : Prop := (∀ j (hj : j < Q.length), j < k → n - (Q[j]'hj).2.1 ≤ m) ∧ (m = 0 ∨ ∃ j, ∃ hj : j < Q.length, m = n - (Q[j]'hj).2.1)
theorem MaxOf.next {Q : List Qr} {n k m : Nat} (h : MaxOf Q n k m) (hk : k < Q.length) : MaxOf Q n (k + 1) (max m (n - (Q[k]'hk).2.1)) := by
  refine ⟨fun j hj hjk => ?_, ?_⟩
  · rcases Nat.lt_or_ge j k with h1 | h1
    · have := h.1 j hj h1; omega
    · obtain rfl : j = k := by omega
      exact Nat.le_max_right ..
  · rcases Nat.le_total m (n - (Q[k]'hk).2.1) with h1 | h1
    · exact Or.inr ⟨k, hk, Nat.max_eq_right h1⟩
    · rw [Nat.max_eq_left h1]; exact h.2
theorem MaxOf.isLen {Q : List Qr} {s : Rg} {m k : Nat} (h : MaxOf Q s.hist.length k m) (hk : Q.length ≤ k) (hq : QOk Q s) : IsLen s.hist.length s.rd m := by
  refine ⟨fun id r hr => ?_, ?_⟩
  · rw [hq.rd] at hr
    rcases hf : Q.find? (fun x => x.1 == id) with _ | x
    · rw [hf] at hr; cases hr
    · rw [hf] at hr
      obtain ⟨j, hj, rfl⟩ := List.getElem_of_mem (List.mem_of_find?_eq_some hf)
      obtain rfl : (Q[j]'hj).2 = r := by simpa using hr
      exact h.1 j hj (by omega)
  · rcases h.2 with h0 | ⟨j, hj, h0⟩
    · exact Or.inl h0
    · exact Or.inr ⟨_, _, hq.at_ hj, h0⟩
section
variable {w : World} {B p : Nat} {vl vq : Value} {L : List Raw} {Q : List Qr} {s : Rg}
set_option maxHeartbeats 1000000 in
theorem mLen_any (h : RM w B p vl vq L Q s) : Calls Try.prog 38 #[.pointer (some ⟨p, 0, none⟩)] w (LenP s w) := by
  obtain ⟨_, c1, c2, _, _, _, dl, _⟩ := h.cells
  obtain ⟨A, c, rfl, _, hc1, hc2⟩ := h.q.shape
  obtain ⟨AL, cL, rfl, _, hl1, hl2⟩ := h.l.shape
  have hL := h.llen
  rw [hL] at c1 hl1
  have hT := h.ok.total
  generalize hnl : s.hist.length = nl at *
  obtain ⟨n, hn⟩ : ∃ n, n = Q.length := ⟨_, rfl⟩
  have hn16 : n ≤ 16 := by rw [hn]; exact h.qlen
  rw [← hn] at c2
  have H := Lib.hid (And.intro h (And.intro hn hnl)); clear h hn hnl hL
  go_enter Try.func38, Try.ntmps38
  go_wp2
  go_loopw [3, 4] (fun mv i wr => ∃ k m : Nat, k ≤ n ∧ m ≤ nl ∧ i = .int .i64 k ∧ mv = .int .i64 m ∧ MaxOf Q nl k m ∧ Below w.heap.size w wr) (fun _ i _ => n - (intOf i).toNat)
  case atStart => exact ⟨0, 0, Nat.zero_le _, Nat.zero_le _, rfl, rfl, ⟨fun j hj h => absurd h (by omega), Or.inl rfl⟩, Below.refl _ _⟩
  case round =>
    obtain ⟨k, m, hk, hm, rfl, rfl, hM, hb⟩ := hrel
    obtain ⟨_, e1, e2, _, _, _, _, _⟩ := (H.out.1.later hb).cells
    rw [H.out.1.llen, H.out.2.2] at e1
    rw [← H.out.2.1] at e2
    by_cases hlt : k < n
    · have hkl : k < Q.length := by rw [← H.out.2.1]; exact hlt
      obtain ⟨g, rfl⟩ := own_some H.out.1.q (by omega)
      obtain ⟨_, d1, _⟩ := three_cells (H.out.1.q.later hb) k hkl
      have hMn := hM.next hkl
      have hle := (H.out.1.ok.rd _ _ (H.out.1.qok.at_ hkl)).2.2.1
      rw [H.out.2.2] at hle
      generalize (Q[k]'hkl).2.1 = ra at *
      have hws : IntKind.i64.wrap ((nl : Int) - (ra : Int)) = (nl : Int) - (ra : Int) := IntWalk.i64_in _ (by omega)
      have hkI : (k : Int) < (n : Int) := by omega
      have hkN : ¬ (n : Int) ≤ (k : Int) := by omega
      have K := Lib.hid (And.intro hM (And.intro hb hMn)); clear hM hb hMn
      rcases Nat.lt_or_ge m (nl - ra) with h1 | h1
      · have f1 : (m : Int) < (nl : Int) - (ra : Int) := by omega
        have f2 : decide ((m : Int) < (nl : Int) - (ra : Int)) = true := decide_eq_true f1
        have e3 : (((max m (nl - ra) : Nat) : Int)) = (nl : Int) - (ra : Int) := by omega
        have E := Lib.hid e3; clear e3
        go_wp2_with fail
        go_quiet (fail)
        go_wp2
        go_roundw
        case rel => exact ⟨k + 1, max m (nl - ra), by omega, by omega, by go_num, by rw [E.out], K.out.2.2, below_drewN K.out.2.1 _⟩
        case measure => simp [intOf]; omega
      · have f1 : ¬ (m : Int) < (nl : Int) - (ra : Int) := by omega
        have f2 : decide ((m : Int) < (nl : Int) - (ra : Int)) = false := decide_eq_false f1
        have e3 : max m (nl - ra) = m := by omega
        have E := Lib.hid e3; clear e3
        go_wp2_with fail
        go_quiet (fail)
        go_wp2
        go_roundw
        case rel => exact ⟨k + 1, max m (nl - ra), by omega, by omega, by go_num, by rw [E.out], K.out.2.2, below_drewN K.out.2.1 _⟩
        case measure => simp [intOf]; omega
    · have K := Lib.hid (And.intro hM hb); clear hM hb
      go_wp2
      go_ret
      refine ⟨m, ⟨rfl, ?_⟩, K.out.2⟩
      have hM := K.out.1
      rw [← H.out.2.2] at hM
      exact hM.isLen (by have := H.out.2.1; omega) H.out.1.qok
end
end Go.Proofs.Ytbbjlefldpgckaa
