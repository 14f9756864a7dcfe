/- Texts of the proof of RingTells, part 32. -/
import Derived.Test.YtbbjlefldpgckaaPRingTells31
import Derived.Deep.QuietTactic
import Derived.BigQuiet
namespace Go.Proofs.Ytbbjlefldpgckaa
open Go.ChangeShapes Go.WideShapes Go.ChangeAt Go.RowKit Go.Maps
open Ev (V3 rightV OkV)
set_option linter.unusedVariables false
set_option linter.unusedSimpArgs false
set_option maxRecDepth 20000

def mPutP (B p : Nat) (s : Rg) (mk : Bool) (t : Int) (l : List V3) (w : World) (e : Ending) (w' : World) : Prop :=
  ∃ c s', (e = .returned (.int .i64 c) ∧ PutR s mk t l c s' ∧ MS w' B p s') ∧ ChM B w w'
section
variable {w w' : World} {B p : Nat} {vl vq : Value} {L : List Raw} {Q : List Qr} {s : Rg}
/-- The items' row is another one, with one more. -/
theorem RM.newL (h : RM w B p vl vq L Q s) (hg : w.grownBy w' vl.ownBlock) {v5 : Value} {mk : Bool} {t : Int} {sv : SV} {l : List V3} (hO : Own w' B tMi 3 rowI v5 (L ++ [(mk, t, sv)])) (hN : Own w B tMv 3 row3 (sl sv) l) (hT : s.hist.length < 4000000000000000000) (hl6 : l.length ≤ 6 ∧ 0 ≤ t ∧ t ≤ 2305843009213693952) :
    RM (w'.setCell ⟨p, 1, none⟩ v5) B p v5 vq (L ++ [(mk, t, sv)]) Q { s with hist := s.hist ++ [(mk, t, l)] } ∧ ChM B w (w'.setCell ⟨p, 1, none⟩ v5) := by
  have hne := own_nep h.l h.blk (by decide)
  have hb := h.blk.grown hg (fun e => hne e.symm)
  have hF := FrM.own h.l hg (Or.inr (Or.inl rfl))
  have hlow := h.low'
  have hv : ∀ u ll, Own w B tMv 3 row3 u ll → Own (w'.setCell ⟨p, 1, none⟩ v5) B tMv 3 row3 u ll := fun u ll hn => own_setp (hn.grown hg (fun g hgg => own_nq hn h.l (by decide) hgg)) hb (by decide) 1 v5
  refine ⟨⟨h.low, ?_, own_setp hO hb (by decide) 1 v5, (h.its.mono hv).snoc (x := (mk, t, sv)) (y := (mk, t, l)) ⟨rfl, rfl, hv _ _ hN⟩, own_setp (h.q.grown hg (fun g hgg => own_nq h.q h.l (by decide) hgg)) hb (by decide) 1 v5, ⟨h.qok.nd, h.qok.rd, h.qok.cnt⟩, ?_⟩, ⟨(grownBy_below hg hlow (fun k hk => (h.l.block hk).1)).trans ((Below.refl _ _).setCell (p := ⟨p, 1, none⟩) h.low _), hF.trans (FrM.set hb (Or.inl rfl) 1 v5)⟩⟩
  · have := hb.set_ 1 v5
    unfold mgCells
    simpa using this
  · refine ⟨h.ok.room, h.ok.cnt, fun id r hr => ?_, h.ok.edge, by show (s.hist ++ [(mk, t, l)]).length ≤ _; simp; omega, h.ok.given, fun x hx => by
      rcases List.mem_append.1 hx with hx | hx
      · exact h.ok.items x hx
      · rw [List.mem_singleton] at hx; subst hx; exact hl6⟩
    obtain ⟨a, b, c, d'⟩ := h.ok.rd id r hr
    exact ⟨a, b, by show r.1 ≤ (s.hist ++ [(mk, t, l)]).length; simp; omega, d'⟩
theorem RM.edge_ (h : RM w B p vl vq L Q s) (e : Int) (h1 : s.edge ≤ e) (h2 : e ≤ 2305843009213693953) :
    RM (w.setCell ⟨p, 5, none⟩ (.int .i64 e)) B p vl vq L Q { s with edge := e } ∧ ChM B w (w.setCell ⟨p, 5, none⟩ (.int .i64 e)) := by
  obtain ⟨r1, r2, r3, r4⟩ := h.rest 5 (.int .i64 e)
  have hb := h.blk.set_ 5 (.int .i64 e)
  refine ⟨⟨h.low, by simpa [mgCells] using hb, r1, r2, r3, ⟨h.qok.nd, h.qok.rd, h.qok.cnt⟩, ⟨h.ok.room, h.ok.cnt, fun id r hr => ?_, ⟨by have := h.ok.edge.1; show 0 ≤ e; omega, h2⟩, h.ok.total, h.ok.given, h.ok.items⟩⟩, r4⟩
  obtain ⟨a, b, c, d'⟩ := h.ok.rd id r hr
  exact ⟨a, b, c, by show r.2 ≤ e; omega⟩
variable (mk : Bool) (t : Int) (v : Value) (l : List V3)
theorem mPut_no (h : RM w B p vl vq L Q s) (hv : ValsAt w v l) (hs : ∀ x ∈ l, x.2.2.size ≤ maxLen) (hr : Ev.rightI mk t l = false) :
    Calls Try.prog 32 #[.pointer (some ⟨p, 0, none⟩), item mk t v] w (mPutP B p s mk t l w) := by
  have bA := ba w (.cells #[.bool mk, .int .i64 t, v] tMi)
  have cR := rRight_i mk t v l _ (hv.later bA) hs
  rw [hr] at cR
  have hB := h.low'
  obtain ⟨A, cap, rfl, _⟩ := hv
  have H := Lib.hid (And.intro cR (And.intro bA (And.intro h (And.intro hr hB)))); clear cR bA h hr hB
  go_enter Try.func32, Try.ntmps32
  go_wp2_with (go_at_call 48; ((with_reducible refine H.out.1.mono ?_); rintro e w1 ⟨rfl, b1⟩))
  go_ret
  exact ⟨7, s, ⟨rfl, Or.inl ⟨H.out.2.2.2.1, rfl, rfl⟩, ⟨_, _, _, _, H.out.2.2.1.later (bt H.out.2.1 b1)⟩⟩, ChM.later H.out.2.2.2.2 (bt H.out.2.1 b1)⟩
theorem mPut_shut (h : RM w B p vl vq L Q s) (hv : ValsAt w v l) (hs : ∀ x ∈ l, x.2.2.size ≤ maxLen) (hr : Ev.rightI mk t l = true) (hsh : s.shut = true) :
    Calls Try.prog 32 #[.pointer (some ⟨p, 0, none⟩), item mk t v] w (mPutP B p s mk t l w) := by
  have bA := ba w (.cells #[.bool mk, .int .i64 t, v] tMi)
  have cR := rRight_i mk t v l _ (hv.later bA) hs
  rw [hr] at cR
  have hB := h.low'
  obtain ⟨A, cap, rfl, _⟩ := hv
  have H := Lib.hid (And.intro cR (And.intro bA (And.intro h (And.intro hr (And.intro hB hsh))))); clear cR bA h hr hB hsh
  go_enter Try.func32, Try.ntmps32
  go_wp2_with (go_at_call 48; ((with_reducible refine H.out.1.mono ?_); rintro e w1 ⟨rfl, b1⟩; obtain ⟨_, _, _, _, c4, _, dl, df⟩ := (H.out.2.2.1.later (bt H.out.2.1 b1)).cells; rw [H.out.2.2.2.2.2] at c4))
  go_ret
  exact ⟨13, s, ⟨rfl, Or.inr (Or.inl ⟨H.out.2.2.2.1, H.out.2.2.2.2.2, rfl, rfl⟩), ⟨_, _, _, _, H.out.2.2.1.later (bt H.out.2.1 b1)⟩⟩, ChM.later H.out.2.2.2.2.1 (bt H.out.2.1 b1)⟩
theorem mPut_late (h : RM w B p vl vq L Q s) (hv : ValsAt w v l) (hs : ∀ x ∈ l, x.2.2.size ≤ maxLen) (hr : Ev.rightI mk t l = true) (hsh : s.shut = false) (hL : late s mk t) :
    Calls Try.prog 32 #[.pointer (some ⟨p, 0, none⟩), item mk t v] w (mPutP B p s mk t l w) := by
  have bA := ba w (.cells #[.bool mk, .int .i64 t, v] tMi)
  have cR := rRight_i mk t v l _ (hv.later bA) hs
  have hp := Blk.new w tMi #[.bool mk, .int .i64 t, v]
  rw [hr] at cR
  have hB := h.low'
  obtain ⟨A, cap, rfl, _⟩ := hv
  have hL' := hL
  have H := Lib.hid (And.intro cR (And.intro bA (And.intro h (And.intro hr (And.intro hB (And.intro hsh (And.intro hp hL'))))))); clear cR bA h hr hB hsh hp hL'
  rcases hL with hL | ⟨rfl, hL⟩
  · go_enter Try.func32, Try.ntmps32
    go_wp2_with (go_at_call 48; ((with_reducible refine H.out.1.mono ?_); rintro e w1 ⟨rfl, b1⟩; obtain ⟨_, _, _, _, c4, c5, dl, df⟩ := (H.out.2.2.1.later (bt H.out.2.1 b1)).cells; rw [H.out.2.2.2.2.2.1] at c4; obtain ⟨p0, p1, p2⟩ := (H.out.2.2.2.2.2.2.1.later b1).three))
    go_quiet (fail)
    go_wp2
    go_ret
    exact ⟨8, s, ⟨rfl, Or.inr (Or.inr (Or.inl ⟨H.out.2.2.2.1, H.out.2.2.2.2.2.1, H.out.2.2.2.2.2.2.2, rfl, rfl⟩)), ⟨_, _, _, _, H.out.2.2.1.later (below_drewN (bt H.out.2.1 b1) _)⟩⟩, ChM.later H.out.2.2.2.2.1 (below_drewN (bt H.out.2.1 b1) _)⟩
  · subst hL
    go_enter Try.func32, Try.ntmps32
    go_wp2_with (go_at_call 48; ((with_reducible refine H.out.1.mono ?_); rintro e w1 ⟨rfl, b1⟩; obtain ⟨_, _, _, _, c4, c5, dl, df⟩ := (H.out.2.2.1.later (bt H.out.2.1 b1)).cells; rw [H.out.2.2.2.2.2.1] at c4; obtain ⟨p0, p1, p2⟩ := (H.out.2.2.2.2.2.2.1.later b1).three))
    go_quiet (fail)
    go_wp2
    go_ret
    exact ⟨8, s, ⟨rfl, Or.inr (Or.inr (Or.inl ⟨H.out.2.2.2.1, H.out.2.2.2.2.2.1, H.out.2.2.2.2.2.2.2, rfl, rfl⟩)), ⟨_, _, _, _, H.out.2.2.1.later (below_drewN (bt H.out.2.1 b1) _)⟩⟩, ChM.later H.out.2.2.2.2.1 (below_drewN (bt H.out.2.1 b1) _)⟩
set_option maxHeartbeats 2000000 in
theorem mPut_full (h : RM w B p vl vq L Q s) (hv : ValsAt w v l) (hs : ∀ x ∈ l, x.2.2.size ≤ maxLen) (hr : Ev.rightI mk t l = true) (hsh : s.shut = false) (hL : ¬ late s mk t) (hF : IsLen s.hist.length s.rd s.room) :
    Calls Try.prog 32 #[.pointer (some ⟨p, 0, none⟩), item mk t v] w (mPutP B p s mk t l w) := by
  have bA := ba w (.cells #[.bool mk, .int .i64 t, v] tMi)
  have cR := rRight_i mk t v l _ (hv.later bA) hs
  have hp := Blk.new w tMi #[.bool mk, .int .i64 t, v]
  rw [hr] at cR
  have cF := fun W (hb : Below w.heap.size w W) => mLen_any (h.later hb)
  have hB := h.low'
  obtain ⟨A, cap, rfl, _⟩ := hv
  have hL' := hL
  have H := Lib.hid (And.intro cR (And.intro bA (And.intro h (And.intro hr (And.intro hB (And.intro hsh (And.intro hp (And.intro hL' (And.intro hF cF))))))))); clear cR bA h hr hB hsh hp hL' cF
  unfold late at hL
  have n1 : ¬ t < s.edge := fun e => hL (Or.inl e)
  have n1b : decide (t < s.edge) = false := decide_eq_false n1
  have n2 : mk = false ∨ (mk = true ∧ ¬ t = s.edge) := by
    cases mk
    · exact Or.inl rfl
    · exact Or.inr ⟨rfl, fun e => hL (Or.inr ⟨rfl, e⟩)⟩
  clear hL
  have n2' : (mk = false ∧ True ∧ True) ∨ (mk = true ∧ decide (t = s.edge) = false ∧ (t == s.edge) = false) := by
    rcases n2 with h | ⟨h, n2⟩
    · exact Or.inl ⟨h, trivial, trivial⟩
    · exact Or.inr ⟨h, decide_eq_false n2, by simpa using n2⟩
  clear n2
  rcases n2' with ⟨rfl, n2b, n2c⟩ | ⟨rfl, n2b, n2c⟩
  all_goals
    go_enter Try.func32, Try.ntmps32
    go_wp2_with (go_at_call 48; ((with_reducible refine H.out.1.mono ?_); rintro e w1 ⟨rfl, b1⟩; obtain ⟨_, _, _, _, c4, c5, dl, df⟩ := (H.out.2.2.1.later (bt H.out.2.1 b1)).cells; rw [H.out.2.2.2.2.2.1] at c4; obtain ⟨p0, p1, p2⟩ := (H.out.2.2.2.2.2.2.1.later b1).three))
    go_quiet (fail)
    obtain ⟨r0, _, _, _, _, _, _, _⟩ := (H.out.2.2.1.later (bt H.out.2.1 b1)).cells
    have K := Lib.hid (And.intro (below_drewN (bt H.out.2.1 b1) _ : Below w.heap.size w (w1.drewN nq)) (fun X (hb : Below w.heap.size w X) => (H.out.2.2.1.later hb).blk.cell 0))
    clear b1 c4 c5 dl df p0 p1 p2
    go_wp2_with fail
    refine wp_region_noPanic ?_
    go_region_held3 (fun X => X.cell? ⟨p, 0, none⟩ = some (.int .i64 (s.room : Int))) (exact K.out.2 _ (by first | exact K.out.1 | exact below_drew K.out.1 | exact K2.out)) ((go_at_call 38; ((refine (H.out.2.2.2.2.2.2.2.2.2 _ (by first | exact K.out.1 | exact below_drew K.out.1)).mono ?_); rintro e w2 ⟨q, ⟨rfl, hq⟩, b2⟩; obtain rfl := hq.one H.out.2.2.2.2.2.2.2.2.1; have K2 := Lib.hid (by first | exact bt K.out.1 b2 | exact bt (below_drew K.out.1) b2 : Below w.heap.size w w2); have hz : decide ((s.room : Int) ≤ (s.room : Int)) = true := decide_eq_true (Int.le_refl _); clear b2 hq)))
    all_goals
      refine NoPanic.normal ?_
      go_wp2
      go_ret
      exact ⟨9, s, ⟨rfl, Or.inr (Or.inr (Or.inr (Or.inl ⟨H.out.2.2.2.1, H.out.2.2.2.2.2.1, H.out.2.2.2.2.2.2.2.1, H.out.2.2.2.2.2.2.2.2.1, rfl, rfl⟩))), ⟨_, _, _, _, H.out.2.2.1.later K2.out⟩⟩, ChM.later H.out.2.2.2.2.1 K2.out⟩
end
end Go.Proofs.Ytbbjlefldpgckaa
