/- Texts of the proof of RingTells, part 19. -/
import Derived.Test.YtbbjlefldpgckaaPRingTells16
import Derived.Test.YtbbjlefldpgckaaPRingTells17
import Derived.Test.YtbbjlefldpgckaaPRingTells18
namespace Go.Proofs.Ytbbjlefldpgckaa
open Go.ChangeShapes Go.WideShapes Go.ChangeAt Go.RowKit Go.Maps
open Ev (V3 rightV OkV)
set_option linter.unusedVariables false
set_option linter.unusedSimpArgs false

theorem upd_upd (rd : Rd) (id : Int) (a b : Option Rdr) : upd (upd rd id a) id b = upd rd id b := by
  funext x; unfold upd; split <;> rfl
theorem upd_swap (rd : Rd) {i j : Int} (h : i ≠ j) (a b : Option Rdr) : upd (upd rd i a) j b = upd (upd rd j b) i a := by
  funext x; unfold upd; split
  · rename_i e; subst e; rw [if_neg (fun e => h e.symm)]
  · rfl
theorem isLen_none (n : Nat) : IsLen n (fun _ => none) 0 := ⟨fun _ _ h => (by cases h), Or.inl rfl⟩
theorem isLen_one (n : Nat) (id : Int) (r : Rdr) : IsLen n (upd (fun _ => none) id (some r)) (n - r.1) := by
  refine ⟨fun x r' h => ?_, Or.inr ⟨id, r, upd_same _ _ _, rfl⟩⟩
  unfold upd at h
  split at h
  · cases h; exact Nat.le_refl _
  · cases h
theorem isLen_two (n : Nat) {i j : Int} (hij : i ≠ j) (r s : Rdr) (h : r.1 ≤ s.1) : IsLen n (upd (upd (fun _ => none) i (some r)) j (some s)) (n - r.1) := by
  refine ⟨fun x r' hx => ?_, Or.inr ⟨i, r, by rw [upd_other _ _ hij, upd_same], rfl⟩⟩
  unfold upd at hx
  split at hx
  · cases hx; omega
  · split at hx
    · cases hx; exact Nat.le_refl _
    · cases hx
section
variable {s s' : Rg} {mk okb : Bool} {t e id n : Int} {l : List V3} {q : Nat} {x : Option It}
theorem PutR.ok (h : PutR s mk t l e s') (hr : Ev.rightI mk t l = true) (hs : s.shut = false) (hl : ¬ late s mk t) (hq : IsLen s.hist.length s.rd q) (hlt : q < s.room) :
    e = 0 ∧ s' = { s with hist := s.hist ++ [(mk, t, l)], edge := behindI mk t } := by
  rcases h with ⟨h, _⟩ | ⟨_, h, _⟩ | ⟨_, _, h, _⟩ | ⟨_, _, _, h, _⟩ | ⟨_, _, _, _, h1, h2⟩
  · rw [hr] at h; cases h
  · rw [hs] at h; cases h
  · exact absurd h hl
  · have := h.one hq; omega
  · exact ⟨h1, h2⟩
theorem PutR.full (h : PutR s mk t l e s') (hr : Ev.rightI mk t l = true) (hs : s.shut = false) (hl : ¬ late s mk t) (hq : IsLen s.hist.length s.rd q) (hlt : q = s.room) : e = 9 ∧ s' = s := by
  rcases h with ⟨h, _⟩ | ⟨_, h, _⟩ | ⟨_, _, h, _⟩ | ⟨_, _, _, _, h1, h2⟩ | ⟨_, _, _, ⟨q', h, h'⟩, _⟩
  · rw [hr] at h; cases h
  · rw [hs] at h; cases h
  · exact absurd h hl
  · exact ⟨h1, h2⟩
  · have := h.one hq; omega
theorem PutR.either (h : PutR s mk t l e s') (hr : Ev.rightI mk t l = true) (hs : s.shut = false) (hl : ¬ late s mk t) : (e = 9 ∧ s' = s) ∨ (e = 0 ∧ s' = { s with hist := s.hist ++ [(mk, t, l)], edge := behindI mk t }) := by
  rcases h with ⟨h, _⟩ | ⟨_, h, _⟩ | ⟨_, _, h, _⟩ | ⟨_, _, _, _, h1, h2⟩ | ⟨_, _, _, _, h1, h2⟩
  · rw [hr] at h; cases h
  · rw [hs] at h; cases h
  · exact absurd h hl
  · exact Or.inl ⟨h1, h2⟩
  · exact Or.inr ⟨h1, h2⟩
theorem PutR.late (h : PutR s mk t l e s') (hr : Ev.rightI mk t l = true) (hs : s.shut = false) (hl : Go.Proofs.Ytbbjlefldpgckaa.late s mk t) : e = 8 ∧ s' = s := by
  rcases h with ⟨h, _⟩ | ⟨_, h, _⟩ | ⟨_, _, _, h1, h2⟩ | ⟨_, _, h, _⟩ | ⟨_, _, h, _⟩
  · rw [hr] at h; cases h
  · rw [hs] at h; cases h
  · exact ⟨h1, h2⟩
  · exact absurd hl h
  · exact absurd hl h
theorem PutR.shut (h : PutR s mk t l e s') (hr : Ev.rightI mk t l = true) (hs : s.shut = true) : e = 13 ∧ s' = s := by
  rcases h with ⟨h, _⟩ | ⟨_, _, h1, h2⟩ | ⟨_, h, _⟩ | ⟨_, h, _⟩ | ⟨_, h, _⟩
  · rw [hr] at h; cases h
  · exact ⟨h1, h2⟩
  all_goals (rw [hs] at h; cases h)
theorem AddR.yes (h : AddR s n s') (hc : s.cnt < 16) : n = (s.given : Int) + 1 ∧ s' = { s with given := s.given + 1, cnt := s.cnt + 1, rd := upd s.rd ((s.given : Int) + 1) (some (s.hist.length, s.edge)) } := by
  rcases h with ⟨h, _⟩ | ⟨_, rfl, _, h2⟩
  · omega
  · exact ⟨rfl, h2⟩
theorem AddR.no (h : AddR s n s') (hc : 16 ≤ s.cnt) : n = 0 ∧ s' = s := by
  rcases h with ⟨_, h⟩ | ⟨h, _⟩
  · exact h
  · omega
theorem NextR.yes (h : NextR s id x s') {r : Rdr} {y : It} (hr : s.rd id = some r) (hy : s.hist[r.1]? = some y) : x = some y ∧ s' = { s with rd := upd s.rd id (some (r.1 + 1, behindI y.1 y.2.1)) } := by
  rcases h with ⟨h, _⟩ | ⟨r', y', h1, h2, h3, h4⟩
  · have := (List.getElem?_eq_some_iff.1 hy).1
    unfold waitR at h
    rw [hr] at h
    simp only at h
    omega
  · rw [hr] at h1; cases h1
    rw [hy] at h2; cases h2
    exact ⟨h3, h4⟩
theorem NextR.no (h : NextR s id x s') (h0 : waitR s id = 0) : x = none ∧ s' = s := by
  rcases h with ⟨_, h1, h2⟩ | ⟨r', y', h1, h2, h3, h4⟩
  · exact ⟨h1, h2⟩
  · have := (List.getElem?_eq_some_iff.1 h2).1
    unfold waitR at h0
    rw [h1] at h0
    simp only at h0
    omega
theorem DropR.yes (h : DropR s id okb s') {r : Rdr} (hr : s.rd id = some r) : okb = true ∧ s' = { s with cnt := s.cnt - 1, rd := upd s.rd id none } := by
  rcases h with ⟨h, _⟩ | ⟨_, h⟩
  · rw [hr] at h; cases h
  · exact h
theorem DropR.no (h : DropR s id okb s') (hr : s.rd id = none) : okb = false ∧ s' = s := by
  rcases h with ⟨_, h⟩ | ⟨⟨r, h⟩, _⟩
  · exact h
  · rw [hr] at h; cases h
end
/-- What a law keeps of its ring: it, beside blocks that are none of its own, and all that is older. -/
structure Kr (X : Nat → Prop) (w W : World) (d : Nat) (s : Rg) : Prop where
  rx : RX X W w.heap.size d s
  bel : Below w.heap.size w W
theorem Kr.go {X : Nat → Prop} {w W W' : World} {d : Nat} {s s' : Rg} (h : Kr X w W d s) (hx : RX X W' w.heap.size d s') (hc : Chg w.heap.size W W') : Kr X w W' d s' := ⟨hx, h.bel.trans hc.bel⟩
theorem Kr.later {X : Nat → Prop} {w W W' : World} {d : Nat} {s : Rg} (h : Kr X w W d s) (hb : Below W.heap.size W W') : Kr X w W' d s := ⟨(h.rx.later hb).1, bt h.bel hb⟩
theorem Kr.box {X : Nat → Prop} {w W W' : World} {d : Nat} {s : Rg} (h : Kr X w W d s) (hb : Below W.heap.size W W') {g : Nat} (h1 : W.heap.size ≤ g) (h2 : g < W'.heap.size) : Kr (fun k => k = g ∨ X k) w W' d s := ⟨h.rx.add hb h1 h2, bt h.bel hb⟩
theorem Kr.rs {X : Nat → Prop} {w W : World} {d : Nat} {s : Rg} (h : Kr X w W d s) : RS W w.heap.size d s := h.rx.rs
theorem own_lit {α : Type} {W : World} {e : TypeId} {k : Nat} {f : α → List Value} {B : Nat} (l : List α) {cs : Array Value} {g n : Nat} (hg : g = W.heap.size) (hB : B ≤ g) (hn : n = l.length) (hm : n ≤ maxLen) (hs : cs.size = n * k) (hcs : l.flatMap f = cs.toList) : Own (W.alloc (.cells cs e)) B e k f (.slice (some ⟨g, 0, none⟩) n n) l := by
  subst hg; subst hn
  unfold Own
  rw [hcs]
  exact World.ownsRow_lit W cs l.length hB hm hs
end Go.Proofs.Ytbbjlefldpgckaa
