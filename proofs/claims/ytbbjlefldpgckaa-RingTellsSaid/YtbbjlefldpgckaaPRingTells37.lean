/- Texts of the proof of RingTells, part 37. -/
import Derived.Test.YtbbjlefldpgckaaPRingTells31
import Derived.Deep.RegionHeld3
namespace Go.Proofs.Ytbbjlefldpgckaa
open Go.ChangeShapes Go.WideShapes Go.ChangeAt Go.RowKit Go.Maps
open Ev (V3 rightV OkV)
set_option linter.unusedVariables false
set_option linter.unusedSimpArgs false
set_option maxRecDepth 20000

theorem flat_set3 {u : Value} {i : Nat} (hi : i < 3) : ∀ (Q : List Qr) (k : Nat) (hk : k < Q.length) (x' : Qr) (hx : rowQ x' = (rowQ (Q[k]'hk)).set i u), (Q.flatMap rowQ).set (k * 3 + i) u = (Q.set k x').flatMap rowQ
  | x :: Q, 0, hk, x', hx => by
    simp only [List.getElem_cons_zero] at hx
    rw [List.set_cons_zero, List.flatMap_cons, List.flatMap_cons, hx, List.set_append, if_pos (show 0 * 3 + i < (rowQ x).length by show 0 * 3 + i < 3; omega)]
    simp
  | x :: Q, k + 1, hk, x', hx => by
    simp only [List.getElem_cons_succ] at hx
    have hk' : k < Q.length := by simpa using hk
    rw [List.set_cons_succ, List.flatMap_cons, List.flatMap_cons, List.set_append, if_neg (show ¬ (k + 1) * 3 + i < (rowQ x).length by show ¬ (k + 1) * 3 + i < 3; omega), ← flat_set3 hi Q k hk' x' hx]
    have e : (k + 1) * 3 + i - (rowQ x).length = k * 3 + i := by show (k + 1) * 3 + i - 3 = k * 3 + i; omega
    rw [e]
theorem own_setQ {w : World} {B g n c : Nat} {Q : List Qr} (h : Own w B tMq 3 rowQ (.slice (some ⟨g, 0, none⟩) n c) Q) {k : Nat} (hk : k < Q.length) {i : Nat} (hi : i < 3) {u : Value} {x' : Qr} (hx : rowQ x' = (rowQ (Q[k]'hk)).set i u) : Own (w.setCell ⟨g, k * 3 + i, none⟩ u) B tMq 3 rowQ (.slice (some ⟨g, 0, none⟩) n c) (Q.set k x') := by
  obtain ⟨_, _, he, _, _, _⟩ := h.shape
  simp only [Value.slice.injEq] at he
  obtain ⟨_, rfl, rfl⟩ := he
  have := (World.ownsRow.stored h (k * 3 + i) u).1
  unfold Own
  rw [List.length_set, ← flat_set3 hi Q k hk x' hx]
  exact this
theorem find_set {x' : Qr} {id : Int} (h' : (x'.1 == id) = false) : ∀ (Q : List Qr) (k : Nat) (hk : k < Q.length), ((Q[k]'hk).1 == id) = false → (Q.set k x').find? (fun x => x.1 == id) = Q.find? (fun x => x.1 == id)
  | x :: Q, 0, hk, h => by
    simp only [List.getElem_cons_zero] at h
    rw [List.set_cons_zero, List.find?_cons, List.find?_cons, h', h]
  | x :: Q, k + 1, hk, h => by
    have hk' : k < Q.length := by simpa using hk
    simp only [List.getElem_cons_succ] at h
    rw [List.set_cons_succ, List.find?_cons, List.find?_cons, find_set h' Q k hk' h]
theorem QOk.set {Q : List Qr} {s s' : Rg} (h : QOk Q s) {k : Nat} (hk : k < Q.length) {x' : Qr} (hx : x'.1 = (Q[k]'hk).1) (e1 : s'.rd = upd s.rd x'.1 (some x'.2)) (e2 : s'.cnt = s.cnt) : QOk (Q.set k x') s' := by
  have hm : (Q.set k x').map (·.1) = Q.map (·.1) := by
    rw [List.map_set, hx]
    refine List.ext_getElem (by simp) (fun i h1 h2 => ?_)
    rw [List.getElem_set]
    split
    · rename_i e; subst e; simp
    · rfl
  have hnd : ((Q.set k x').map (·.1)).Nodup := by rw [hm]; exact h.nd
  refine ⟨hnd, fun id => ?_, by rw [e2, h.cnt]; simp⟩
  rw [e1]
  by_cases he : id = x'.1
  · subst he
    rw [upd_same]
    have hk2 : k < (Q.set k x').length := by simpa using hk
    have := find_at hnd hk2
    rw [List.getElem_set_self] at this
    rw [this]; rfl
  · rw [upd_other _ _ he, h.rd]
    rw [find_set (by simpa using fun e => he e.symm) Q k hk (by rw [← hx]; simpa using fun e => he e.symm)]
theorem upd_upd' (rd : Rd) (id : Int) (a b : Option Rdr) : upd (upd rd id a) id b = upd rd id b := upd_upd rd id a b
section
variable {w w' : World} {B p : Nat} {vl vq : Value} {L : List Raw} {Q : List Qr} {s : Rg}
/-- A cell of a reader is written. -/
theorem RM.setQ {g n c : Nat} (h : RM w B p vl (.slice (some ⟨g, 0, none⟩) n c) L Q s) {k : Nat} (hk : k < Q.length) {i : Nat} (hi : i < 3) {u : Value} {x' : Qr} (hx : rowQ x' = (rowQ (Q[k]'hk)).set i u) (h1 : x'.1 = (Q[k]'hk).1) (h2 : x'.2.1 ≤ s.hist.length) (h3 : x'.2.2 ≤ s.edge) :
    RM (w.setCell ⟨g, k * 3 + i, none⟩ u) B p vl (.slice (some ⟨g, 0, none⟩) n c) L (Q.set k x') { s with rd := upd s.rd x'.1 (some x'.2) } ∧ ChM B w (w.setCell ⟨g, k * 3 + i, none⟩ u) := by
  obtain ⟨hBg, cs, hc⟩ := h.q.block (g := g) rfl
  have hBk : Blk w g tMq cs := hc
  have hgp : p ≠ g := by
    rintro rfl
    have := hc.symm.trans h.blk
    simp at this
    exact absurd this.2 (by decide)
  refine ⟨⟨h.low, h.blk.far (p := ⟨g, k * 3 + i, none⟩) hgp u, own_setp h.l hBk (by decide) _ u, h.its.mono (fun _ _ hn => own_setp hn hBk (by decide) _ u), own_setQ h.q hk hi hx, h.qok.set hk h1 rfl rfl, ⟨h.ok.room, h.ok.cnt, fun id r hr => ?_, h.ok.edge, h.ok.total, h.ok.given, h.ok.items⟩⟩, ⟨(Below.refl _ _).setCell (p := ⟨g, k * 3 + i, none⟩) hBg _, FrM.set hBk (Or.inr (Or.inr rfl)) _ u⟩⟩
  by_cases he : id = x'.1
  · subst he
    have hr' : upd s.rd x'.1 (some x'.2) x'.1 = some r := hr
    rw [upd_same] at hr'
    obtain rfl := Option.some.inj hr'
    have hat := h.qok.at_ hk
    rw [← h1] at hat
    obtain ⟨a, b, _, _⟩ := h.ok.rd _ _ hat
    exact ⟨a, b, h2, h3⟩
  · have hr' : upd s.rd x'.1 (some x'.2) id = some r := hr
    rw [upd_other _ _ he] at hr'
    exact h.ok.rd id r hr'
def mNextP (B p : Nat) (s : Rg) (id : Int) (w : World) (e : Ending) (w' : World) : Prop :=
  ∃ x s' v', (e = .returned (itemOf x v') ∧ NextR s id x s' ∧ (∀ y, x = some y → Own w' 0 tMv 3 row3 v' y.2.2) ∧ MS w' B p s') ∧ ChM B w w'
end
end Go.Proofs.Ytbbjlefldpgckaa
