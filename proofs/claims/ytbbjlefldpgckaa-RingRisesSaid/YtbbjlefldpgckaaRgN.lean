/- Rings: Next. -/
import Derived.Test.YtbbjlefldpgckaaRgK
import Derived.Test.YtbbjlefldpgckaaRgJ
namespace Go.Proofs.Ytbbjlefldpgckaa
open Go.ChangeShapes Go.WideShapes Go.ChangeAt Go.RowKit Go.Maps
open Ev (V3 rightV OkV)
set_option linter.unusedVariables false
set_option linter.unusedSimpArgs false
set_option maxRecDepth 20000

/-- What Next does: nothing where nothing is left; else the item that stands there, and the reader has read it. -/
def NextR (s : Rg) (id : Int) (x : Option It) (s' : Rg) : Prop :=
  (waitR s id = 0 ∧ x = none ∧ s' = s) ∨ (∃ r y, s.rd id = some r ∧ s.hist[r.1]? = some y ∧ x = some y ∧ s' = { s with rd := upd s.rd id (some (r.1 + 1, behindI y.1 y.2.1)) })
def itemOf (x : Option It) (v : Value) : Value := match x with
  | none => .tuple #[item false 0 (.slice none 0 0), .bool false]
  | some y => .tuple #[item y.1 y.2.1 v, .bool true]
def NextP (X : Nat → Prop) (B d : Nat) (s : Rg) (id : Int) (w : World) (e : Ending) (w' : World) : Prop :=
  ∃ x s' v', (e = .returned (itemOf x v') ∧ NextR s id x s' ∧ (∀ y, x = some y → NewAt w.heap.size w' v' y.2.2) ∧ RX X w' B d s') ∧ Chg B w w' ∧ Kx X w w'
theorem isLen_next {n : Nat} {rd : Rd} {m q : Nat} (h : IsLen n rd m) {id : Int} {r : Rdr} (hr : rd id = some r) (lo : Int) (hq : IsLen n (upd rd id (some (r.1 + 1, lo))) q) : q ≤ m := by
  rcases hq.2 with h0 | ⟨x, r', hx, h0⟩
  · omega
  · by_cases he : x = id
    · subst he
      rw [upd_same] at hx
      cases hx
      have := h.1 x r hr
      simp only at h0
      omega
    · rw [upd_other _ _ he] at hx
      have := h.1 x r' hx
      omega
theorem next_ok {w : World} {B d : Nat} {v : Value} {m : Nat} {L : List Raw} {s : Rg} (h : RAt w B d v m L s) {id : Int} {r : Rdr} (hr : s.rd id = some r) {y : It} (hy : s.hist[r.1]? = some y) :
    ∀ x r', upd s.rd id (some (r.1 + 1, behindI y.1 y.2.1)) x = some r' → 1 ≤ x ∧ x ≤ s.given ∧ r'.1 ≤ s.hist.length ∧ r'.2 ≤ s.edge := by
  intro x r' hx
  by_cases he : x = id
  · subst he
    rw [upd_same] at hx
    cases hx
    obtain ⟨a, b, _, _⟩ := h.pre.ok.rd x r hr
    exact ⟨a, b, (List.getElem?_eq_some_iff.1 hy).1, h.times y (List.mem_of_getElem? hy)⟩
  · rw [upd_other _ _ he] at hx
    exact h.pre.ok.rd x r' hx
theorem chg_put3 {w : World} {B g : Nat} (hB : B ≤ g) {cs : Array Value} (hs : cs.size = 3) (h : Blk w g 37 cs) (a b c : Value) :
    Chg B w (((w.setCell ⟨g, 0, none⟩ a).setCell ⟨g, 1, none⟩ b).setCell ⟨g, 2, none⟩ c) :=
  have h1 := h.set_ 0 a
  have h2 := h1.set_ 1 b
  ⟨below_put3 (Below.refl _ _) hB a b c, (FrR.set h (Or.inr rfl) 0 a).trans ((FrR.set h1 (Or.inr rfl) 1 b).trans (FrR.set h2 (Or.inr rfl) 2 c))⟩
/-- A block of an item that is not the ring's is written. -/
theorem kx_next {X : Nat → Prop} {w W : World} {g : Nat} (hX : ∀ k, X k → k < w.heap.size) (hk : Kx X w W) (hg : w.heap.size ≤ g) (a b c : Value) : Kx X w (((W.setCell ⟨g, 0, none⟩ a).setCell ⟨g, 1, none⟩ b).setCell ⟨g, 2, none⟩ c) := fun k h => by
  have := hX k h
  have hne : k ≠ g := by omega
  rw [Below.heap_setCell _ _ _ _ hne, Below.heap_setCell _ _ _ _ hne, Below.heap_setCell _ _ _ _ hne]
  exact hk k h
theorem next_put {X : Nat → Prop} {w : World} {B d : Nat} {v : Value} {m : Nat} {L : List Raw} {s : Rg} (h : RAt w B d v m L s) (hX : ∀ k, X k → k < w.heap.size ∧ k ≠ d ∧ k ≠ m ∧ some k ≠ v.ownBlock) {g : Nat} {cs : Array Value} (hp : Blk w g 37 cs) (hne : some g ≠ v.ownBlock) (a b c : Value) :
    RX X (((w.setCell ⟨g, 0, none⟩ a).setCell ⟨g, 1, none⟩ b).setCell ⟨g, 2, none⟩ c) B d s := by
  have hd : d ≠ g := by
    rintro rfl
    have h1 : w.heap[d]? = some (.cells cs 37 (0, 0)) := hp
    have := h1.symm.trans h.pre.blk
    simp at this
  have one : ∀ {w : World} {cs : Array Value}, RAt w B d v m L s → Blk w g 37 cs → ∀ o u, RAt (w.setCell ⟨g, o, none⟩ u) B d v m L s := fun {w cs} h hp o u =>
    have hF := FrR.set hp (Or.inr rfl) o u
    ⟨⟨h.pre.low, h.pre.mlow, h.pre.blk.far (p := ⟨g, o, none⟩) hd u, h.pre.row.grown (grown_set w g o u) (fun b hb he => hne (by rw [he]; exact hb)), h.pre.kept.mono (fun _ _ hn => hn.frr hF), h.pre.map.setCell hp o u, h.pre.ok⟩, h.len, h.fits, h.times⟩
  exact ⟨v, m, L, one (one (one h hp 0 a) (hp.set_ 0 a) 1 b) ((hp.set_ 0 a).set_ 1 b) 2 c, fun k hk => ⟨by have := (hX k hk).1; simpa [World.setCell] using this, (hX k hk).2⟩⟩
theorem Next_none (X : Nat → Prop) (B d : Nat) (s : Rg) (w : World) (id : Int) (hi : wfI id) (h : RX X w B d s) (h0 : waitR s id = 0) : Calls Try.prog 17 #[.pointer (some ⟨d, 0, none⟩), .int .i64 id] w (NextP X B d s id w) := by
  have bA := ba w (.cells #[.bool false, .int .i64 0, .slice none 0 0] 37)
  have hp := Blk.new w 37 #[.bool false, .int .i64 0, .slice none 0 0]
  have hB : B ≤ w.heap.size := by obtain ⟨_, _, _, h', _⟩ := h; exact h'.pre.low'
  have cP : Calls Try.prog 27 #[.pointer (some ⟨d, 0, none⟩), .int .i64 id] (w.alloc (.cells #[.bool false, .int .i64 0, .slice none 0 0] 37)) fun e w1 => e = .returned (.tuple #[item false 0 (.slice none 0 0), .bool false]) ∧ Below (w.heap.size + 1) (w.alloc (.cells #[.bool false, .int .i64 0, .slice none 0 0] 37)) w1 :=
    (Peek_any B d s _ id hi (h.rs.later bA)).mono (fun e w1 hh => by
      obtain ⟨hc, hb⟩ := hh
      rw [World.size_alloc] at hb hc
      rcases hc with ⟨_, he⟩ | ⟨r', x, v', ⟨hr', hx⟩, _⟩
      · exact ⟨he, hb⟩
      · have := (List.getElem?_eq_some_iff.1 hx).1
        unfold waitR at h0
        rw [hr'] at h0
        simp only at h0
        omega)
  have H := Lib.hid (And.intro cP (And.intro bA (And.intro hp (And.intro h0 (And.intro h hB))))); clear cP bA hp h0 h hB
  go_enter Try.func17, Try.ntmps17
  go_wp2_with (go_at_call 27; ((with_reducible refine H.out.1.mono ?_); rintro e w1 ⟨rfl, b1⟩; have hq := H.out.2.2.1.later (by rw [World.size_alloc]; exact b1); obtain ⟨p0, p1, p2⟩ := (H.out.2.2.1.later (by rw [World.size_alloc]; exact b1)).three; have pl := (H.out.2.2.1.later (by rw [World.size_alloc]; exact b1)).lt; have pf := (H.out.2.2.1.later (by rw [World.size_alloc]; exact b1)).frozen; have K := Lib.hid (And.intro b1 hq); clear b1 hq))
  obtain ⟨z0, z1, z2⟩ := ((K.out.2.put3 (.bool false) (.int .i64 0) (.slice none 0 0)).alloc (.cells #[.bool false, .int .i64 0, .slice none 0 0] 37)).three
  refine bodyPost_ret (v := .tuple #[item false 0 (.slice none 0 0), .bool false]) (by simp only [results, Try.results17]; simp [go_sem, z0, z1, z2]) rfl ?_
  have bW := H.out.2.1.trans (K.out.1.mono (Nat.le_succ _))
  obtain ⟨v, m, L, hR, hX⟩ := H.out.2.2.2.2.1
  have Cp := (Chg.later H.out.2.2.2.2.2 bW).trans (chg_put3 H.out.2.2.2.2.2 rfl K.out.2 (.bool false) (.int .i64 0) (.slice none 0 0))
  have hx1 : ∀ k, X k → k < w.heap.size := fun k hk => (hX k hk).1
  have hKx := kx_next hx1 (fun k hk => bW.block k (hx1 k hk)) (Nat.le_refl _) (.bool false) (.int .i64 0) (.slice none 0 0)
  have hP := next_put (X := X) (hR.later bW) (fun k hk => ⟨Nat.lt_of_lt_of_le (hX k hk).1 bW.size, (hX k hk).2⟩) K.out.2 (fun e => by
    obtain ⟨_, cs', hc⟩ := hR.pre.row.block e.symm
    have := (Array.getElem?_eq_some_iff.1 hc).1
    omega) (.bool false) (.int .i64 0) (.slice none 0 0)
  exact ⟨none, s, .slice none 0 0, ⟨rfl, Or.inl ⟨H.out.2.2.2.1, rfl, rfl⟩, fun y hy => (by cases hy), (hP.later (ba _ _)).1⟩, Cp.trans (Chg.later (Nat.le_trans H.out.2.2.2.2.2 Cp.bel.size) (ba _ _)), hKx.trans (hP.later (ba _ _)).2⟩
end Go.Proofs.Ytbbjlefldpgckaa
