/- Texts of the proof of RingTells, part 15. -/
import Derived.Test.YtbbjlefldpgckaaPRingTells14
namespace Go.Proofs.Ytbbjlefldpgckaa
open Go.ChangeShapes Go.WideShapes Go.ChangeAt Go.RowKit Go.Maps
open Ev (V3 rightV OkV)
set_option linter.unusedVariables false
set_option linter.unusedSimpArgs false
set_option maxRecDepth 20000

section
variable (X : Nat → Prop) (B d : Nat) (s : Rg) (mk : Bool) (t : Int) (v : Value) (l : List V3) (w : World)
theorem Put_late (h : RX X w B d s) (hv : ValsAt w v l) (hs : ∀ x ∈ l, x.2.2.size ≤ maxLen) (hr : Ev.rightI mk t l = true) (hsh : s.shut = false) (hL : late s mk t) :
    Calls Try.prog 15 #[.pointer (some ⟨d, 0, none⟩), item mk t v] w (PutP X B d s mk t l w) := by
  have bA := ba w (.cells #[.bool mk, .int .i64 t, v] 37)
  have cR := Right_i mk t v l _ (hv.later bA) hs
  have hp := Blk.new w 37 #[.bool mk, .int .i64 t, v]
  rw [hr] at cR
  have hRX := Lib.hid h
  obtain ⟨v0, m, L, h, _⟩ := h
  have hB : B ≤ w.heap.size := h.pre.low'
  obtain ⟨A, cap, rfl, _⟩ := hv
  have hL' := hL
  have H := Lib.hid (And.intro cR (And.intro bA (And.intro h (And.intro hr (And.intro hB (And.intro hsh (And.intro hp hL'))))))); clear cR bA h hr hB hsh hp hL'
  rcases hL with hL | ⟨rfl, hL⟩
  · go_enter Try.func15, Try.ntmps15
    go_wp2_with (go_at_call 43; ((with_reducible refine H.out.1.mono ?_); rintro e w1 ⟨rfl, b1⟩; obtain ⟨_, _, _, c3, c4, _, _, dl, df⟩ := (H.out.2.2.1.pre.later (bt H.out.2.1 b1)).cells; rw [H.out.2.2.2.2.2.1] at c4; obtain ⟨p0, p1, p2⟩ := (H.out.2.2.2.2.2.2.1.later b1).three))
    go_quiet (fail)
    go_wp2
    go_ret
    exact ⟨8, s, ⟨rfl, Or.inr (Or.inr (Or.inl ⟨H.out.2.2.2.1, H.out.2.2.2.2.2.1, H.out.2.2.2.2.2.2.2, rfl, rfl⟩)), (hRX.out.later (below_drewN (bt H.out.2.1 b1) _)).1⟩, Chg.later H.out.2.2.2.2.1 (below_drewN (bt H.out.2.1 b1) _), (hRX.out.later (below_drewN (bt H.out.2.1 b1) _)).2⟩
  · subst hL
    go_enter Try.func15, Try.ntmps15
    go_wp2_with (go_at_call 43; ((with_reducible refine H.out.1.mono ?_); rintro e w1 ⟨rfl, b1⟩; obtain ⟨_, _, _, c3, c4, _, _, dl, df⟩ := (H.out.2.2.1.pre.later (bt H.out.2.1 b1)).cells; rw [H.out.2.2.2.2.2.1] at c4; obtain ⟨p0, p1, p2⟩ := (H.out.2.2.2.2.2.2.1.later b1).three))
    go_quiet (fail)
    go_wp2
    go_ret
    exact ⟨8, s, ⟨rfl, Or.inr (Or.inr (Or.inl ⟨H.out.2.2.2.1, H.out.2.2.2.2.2.1, H.out.2.2.2.2.2.2.2, rfl, rfl⟩)), (hRX.out.later (below_drewN (bt H.out.2.1 b1) _)).1⟩, Chg.later H.out.2.2.2.2.1 (below_drewN (bt H.out.2.1 b1) _), (hRX.out.later (below_drewN (bt H.out.2.1 b1) _)).2⟩
set_option maxHeartbeats 2000000 in
theorem Put_full (h : RX X w B d s) (hv : ValsAt w v l) (hs : ∀ x ∈ l, x.2.2.size ≤ maxLen) (hr : Ev.rightI mk t l = true) (hsh : s.shut = false) (hL : ¬ late s mk t) (hF : IsLen s.hist.length s.rd s.room) :
    Calls Try.prog 15 #[.pointer (some ⟨d, 0, none⟩), item mk t v] w (PutP X B d s mk t l w) := by
  have bA := ba w (.cells #[.bool mk, .int .i64 t, v] 37)
  have cR := Right_i mk t v l _ (hv.later bA) hs
  have hp := Blk.new w 37 #[.bool mk, .int .i64 t, v]
  rw [hr] at cR
  have cF := fun W (hb : Below w.heap.size w W) => Free_any B d s W (h.rs.later hb)
  have hRX := Lib.hid h
  obtain ⟨v0, m, L, h, _⟩ := h
  have hB : B ≤ w.heap.size := h.pre.low'
  obtain ⟨A, cap, rfl, _⟩ := hv
  have hL' := hL
  have H := Lib.hid (And.intro cR (And.intro bA (And.intro h (And.intro hr (And.intro hB (And.intro hsh (And.intro hp (And.intro hL' (And.intro hF cF))))))))); clear cR bA h hr hB hsh hp hL' cF
  unfold late at hL
  have n1 : ¬ t < s.edge := fun e => hL (Or.inl e)
  have n1b : decide (t < s.edge) = false := decide_eq_false n1
  have n2 : mk = false ∨ (mk = true ∧ ¬ t = s.edge) := by
    cases mk
    · exact Or.inl rfl
    · exact Or.inr ⟨rfl, fun e => hL (Or.inr ⟨rfl, e⟩)⟩
  clear hL
  have n2' : (mk = false ∧ True ∧ True) ∨ (mk = true ∧ decide (t = s.edge) = false ∧ (t == s.edge) = false) := by
    rcases n2 with h | ⟨h, n2⟩
    · exact Or.inl ⟨h, trivial, trivial⟩
    · exact Or.inr ⟨h, decide_eq_false n2, by simpa using n2⟩
  clear n2
  rcases n2' with ⟨rfl, n2b, n2c⟩ | ⟨rfl, n2b, n2c⟩
  all_goals
    go_enter Try.func15, Try.ntmps15
    go_wp2_with (go_at_call 43; ((with_reducible refine H.out.1.mono ?_); rintro e w1 ⟨rfl, b1⟩; obtain ⟨_, _, _, c3, c4, _, _, dl, df⟩ := (H.out.2.2.1.pre.later (bt H.out.2.1 b1)).cells; rw [H.out.2.2.2.2.2.1] at c4; obtain ⟨p0, p1, p2⟩ := (H.out.2.2.2.2.2.2.1.later b1).three))
    go_quiet (fail)
    go_wp2_with (go_at_call 21; ((with_reducible refine (H.out.2.2.2.2.2.2.2.2.2 _ (below_drewN (bt H.out.2.1 b1) _)).mono ?_); rintro e w2 ⟨q, ⟨rfl, hq, hqr⟩, b2⟩; obtain rfl := hq.one H.out.2.2.2.2.2.2.2.2.1; have hz : ((s.room : Int) - (s.room : Int) == 0) = true := (by simp); have K := Lib.hid (bt (below_drewN (bt H.out.2.1 b1) _) b2); clear b1 b2 hq))
    go_ret
    exact ⟨9, s, ⟨rfl, Or.inr (Or.inr (Or.inr (Or.inl ⟨H.out.2.2.2.1, H.out.2.2.2.2.2.1, H.out.2.2.2.2.2.2.2.1, H.out.2.2.2.2.2.2.2.2.1, rfl, rfl⟩))), (hRX.out.later K.out).1⟩, Chg.later H.out.2.2.2.2.1 K.out, (hRX.out.later K.out).2⟩
end
end Go.Proofs.Ytbbjlefldpgckaa
