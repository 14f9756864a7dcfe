/- Rings: Drop. -/
import Derived.Test.YtbbjlefldpgckaaRgJ
namespace Go.Proofs.Ytbbjlefldpgckaa
open Go.ChangeShapes Go.WideShapes Go.ChangeAt Go.RowKit Go.Maps
open Ev (V3 rightV OkV)
set_option linter.unusedVariables false
set_option linter.unusedSimpArgs false
set_option maxRecDepth 20000

theorem isLen_drop {n : Nat} {rd : Rd} {m q : Nat} (h : IsLen n rd m) {id : Int} (hq : IsLen n (upd rd id none) q) : q ≤ m := by
  rcases hq.2 with h0 | ⟨x, r', hx, h0⟩
  · omega
  · by_cases he : x = id
    · subst he
      rw [upd_same] at hx
      cases hx
    · rw [upd_other _ _ he] at hx
      have := h.1 x r' hx
      omega
def DropR (s : Rg) (id : Int) (ok : Bool) (s' : Rg) : Prop :=
  (s.rd id = none ∧ ok = false ∧ s' = s) ∨ ((∃ r, s.rd id = some r) ∧ ok = true ∧ s' = { s with cnt := s.cnt - 1, rd := upd s.rd id none })
def DropP (X : Nat → Prop) (B d : Nat) (s : Rg) (id : Int) (w : World) (e : Ending) (w' : World) : Prop := ∃ ok s', (e = .returned (.bool ok) ∧ DropR s id ok s' ∧ RX X w' B d s') ∧ Chg B w w' ∧ Kx X w w'
set_option maxHeartbeats 1000000 in
theorem Drop_any (X : Nat → Prop) (B d : Nat) (s : Rg) (w : World) (id : Int) (hi : wfI id) (h : RX X w B d s) : Calls Try.prog 26 #[.pointer (some ⟨d, 0, none⟩), .int .i64 id] w (DropP X B d s id w) := by
  have hRX := Lib.hid h
  obtain ⟨v, m, L, h, hX⟩ := h
  have hX := Lib.hid hX
  obtain ⟨_, _, _, _, _, c5, _, dl, df⟩ := h.pre.cells
  have r1 := h.pre.map.ok hi
  rcases hr : s.rd id with _ | ⟨a, b⟩
  · rw [hr] at r1
    have H := Lib.hid (And.intro h hr); clear h hr
    go_enter Try.func26, Try.ntmps26
    go_wp2
    go_ret
    exact ⟨false, s, ⟨rfl, Or.inl ⟨H.out.2, rfl, rfl⟩, (hRX.out.later (ba _ _)).1⟩, Chg.later H.out.1.pre.low' (ba _ _), (hRX.out.later (ba _ _)).2⟩
  · rw [hr] at r1
    have bA := ba w (.cells #[.int .i64 (a : Int), .int .i64 b] 79)
    have hrd : ∀ x r', upd s.rd id none x = some r' → 1 ≤ x ∧ x ≤ s.given ∧ r'.1 ≤ s.hist.length ∧ r'.2 ≤ s.edge := by
      intro x r' hx
      by_cases he : x = id
      · subst he
        rw [upd_same] at hx
        cases hx
      · rw [upd_other _ _ he] at hx
        exact h.pre.ok.rd x r' hx
    have hfq : ∀ q, IsLen s.hist.length (upd s.rd id none) q → q ≤ L.length ∧ q ≤ s.room := fun q hq => by
      have := isLen_drop h.len hq
      have := h.fits
      omega
    have H := Lib.hid (And.intro h (And.intro hr (And.intro bA (And.intro hrd hfq)))); clear h hr bA hrd hfq
    go_enter Try.func26, Try.ntmps26
    go_wp2_with (first
      | (at_delete; refine wpList_drop_rd rfl (.tmp 21) (.tmp 22) rfl m s.cnt s.rd rfl (H.out.1.pre.later H.out.2.2.1).map id rfl hi (by rw [H.out.2.1]; rfl) ?_; intro w5 hm5 hg5; have h5 := (H.out.1.pre.later H.out.2.2.1).turn hg5 hm5 (by have := H.out.1.pre.ok.cnt; omega) H.out.2.2.2.1; have K5 := Lib.hid h5; have K6 := Lib.hid hg5; clear hm5 hg5 h5)
      | (go_at_call 46; refine (forget_any B d v m L _ w5 K5.out.1 H.out.2.2.2.2 H.out.1.times).mono ?_; rintro e w9 ⟨⟨⟨x9, rfl⟩, ⟨v9, L9, hS9, ho9⟩, hk9⟩, C9⟩; have K9 := Lib.hid (And.intro (And.intro hS9 (And.intro ho9 hk9)) C9); clear hS9 ho9 hk9 C9))
    go_ret
    have hCC := (Chg.later H.out.1.pre.low' H.out.2.2.1).trans (K5.out.2.trans K9.out.2)
    exact ⟨true, _, ⟨rfl, Or.inr ⟨⟨_, H.out.2.1⟩, rfl, rfl⟩, ⟨_, _, _, K9.out.1.1, fun k hk => ⟨Nat.lt_of_lt_of_le (hX.out k hk).1 hCC.bel.size, (hX.out k hk).2.1, (hX.out k hk).2.2.1, by rw [K9.out.1.2.1]; exact (hX.out k hk).2.2.2⟩⟩⟩, hCC, fun k hk => ((K9.out.1.2.2 k (Nat.lt_of_lt_of_le (hX.out k hk).1 (Nat.le_trans H.out.2.2.1.size K5.out.2.bel.size)) (hX.out k hk).2.1 (hX.out k hk).2.2.2).trans (K6.out.block k (Nat.lt_of_lt_of_le (hX.out k hk).1 H.out.2.2.1.size) (fun e => (hX.out k hk).2.2.1 (by simpa using e)))).trans (H.out.2.2.1.block k (hX.out k hk).1)⟩
end Go.Proofs.Ytbbjlefldpgckaa
