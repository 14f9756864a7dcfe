/- Texts of the proof of RingTells, part 18. -/
import Derived.Test.YtbbjlefldpgckaaPRingTells14
import Derived.Test.YtbbjlefldpgckaaPRingTells17
namespace Go.Proofs.Ytbbjlefldpgckaa
open Go.ChangeShapes Go.WideShapes Go.ChangeAt Go.RowKit Go.Maps
open Ev (V3 rightV OkV)
set_option linter.unusedVariables false
set_option linter.unusedSimpArgs false
set_option maxRecDepth 20000

def PeekP (s : Rg) (id : Int) (w : World) (e : Ending) (w' : World) : Prop :=
  ((waitR s id = 0 ∧ e = .returned (.tuple #[item false 0 (.slice none 0 0), .bool false])) ∨
    ∃ r x v', (s.rd id = some r ∧ s.hist[r.1]? = some x) ∧ e = .returned (.tuple #[item x.1 x.2.1 v', .bool true]) ∧ NewAt w.heap.size w' v' x.2.2) ∧ Below w.heap.size w w'
theorem Peek_none (B d : Nat) (s : Rg) (w : World) (id : Int) (hi : wfI id) (h : RS w B d s) (h0 : waitR s id = 0) : Calls Try.prog 27 #[.pointer (some ⟨d, 0, none⟩), .int .i64 id] w (PeekP s id w) := by
  have bA := ba w (.cells #[.bool false, .int .i64 0, .slice none 0 0] 37)
  have cW := Wait_any B d s _ id hi (h.later bA)
  have hp := Blk.new w 37 #[.bool false, .int .i64 0, .slice none 0 0]
  rw [h0] at cW
  have H := Lib.hid (And.intro cW (And.intro bA (And.intro hp h0))); clear cW bA hp h0 h
  go_enter Try.func27, Try.ntmps27
  go_wp2_with (go_at_call 23; ((with_reducible refine H.out.1.mono ?_); rintro e w1 ⟨rfl, b1⟩; obtain ⟨p0, p1, p2⟩ := (H.out.2.2.1.later b1).three; have pl := (H.out.2.2.1.later b1).lt; have pf := (H.out.2.2.1.later b1).frozen))
  obtain ⟨z0, z1, z2⟩ := ((H.out.2.2.1.later b1).put3 (.bool false) (.int .i64 0) (.slice none 0 0)).three
  refine bodyPost_ret (v := .tuple #[item false 0 (.slice none 0 0), .bool false]) (by simp only [results, Try.results27]; simp [go_sem, z0, z1, z2]) rfl ?_
  exact ⟨Or.inl ⟨H.out.2.2.2, rfl⟩, below_put3 (bt H.out.2.1 b1) (Nat.le_refl _) _ _ _⟩
set_option maxHeartbeats 2000000 in
theorem Peek_some (B d : Nat) (s : Rg) (w : World) (id : Int) (hi : wfI id) (h : RS w B d s) (r : Rdr) (hr : s.rd id = some r) (hlt : r.1 < s.hist.length) : Calls Try.prog 27 #[.pointer (some ⟨d, 0, none⟩), .int .i64 id] w (PeekP s id w) := by
  have bA := ba w (.cells #[.bool false, .int .i64 0, .slice none 0 0] 37)
  have cW := Wait_any B d s _ id hi (h.later bA)
  have hp := Blk.new w 37 #[.bool false, .int .i64 0, .slice none 0 0]
  have h0 : waitR s id = (s.hist.length : Int) - (r.1 : Int) := by unfold waitR; rw [hr]
  rw [h0] at cW
  obtain ⟨v, m, L, h⟩ := h
  have hT := h.pre.ok.total
  have hle := h.len.1 id r hr
  have hln := h.pre.lenL
  obtain ⟨A, c, rfl, _, hc1, hc2⟩ := h.pre.row.shape
  have hm2 : c ≤ 9223372036854775807 := by unfold maxLen at hc2; omega
  obtain ⟨j, hj⟩ : ∃ j, j = L.length - (s.hist.length - r.1) := ⟨_, rfl⟩
  have hjl : j < L.length := by omega
  obtain ⟨g, rfl, _, gl, _, hcell⟩ := h.pre.row.cells (f := rowI) (k := 3) (fun _ => rfl) rfl (by omega)
  obtain ⟨y, hy, e1, e2, hN⟩ := h.pre.kept.get j hjl
  have hyh : s.hist[r.1]? = some y := by
    rw [List.getElem?_drop] at hy
    rw [← hy]; congr 1; omega
  have hy6 := (h.pre.ok.items y (List.mem_of_getElem? hyh)).1
  have g0 := hcell j hjl 0 _ rfl
  have g1 := hcell j hjl 1 _ rfl
  have g2 := hcell j hjl 2 _ rfl
  generalize L[j]'hjl = x at *
  obtain ⟨mk, t, A1, n1, c1⟩ := x
  simp only at e1 e2 hN
  have hsh := (new_at hN).shape
  have hat := new_at hN
  have g0' : w.cell? ⟨g, j * 3, none⟩ = some (.bool mk) := g0
  have g1' : w.cell? ⟨g, j * 3 + 1, none⟩ = some (.int .i64 t) := g1
  have g2' : w.cell? ⟨g, j * 3 + 2, none⟩ = some (.slice A1 n1 c1) := g2
  have cC := fun W (hb : Below w.heap.size w W) => copyOf_any mk t (.slice A1 n1 c1) y.2.2 W hy6 (hat.later hb)
  have hG : ∀ W, Below w.heap.size w W → W.cell? ⟨g, j * 3, none⟩ = some (.bool mk) ∧ W.cell? ⟨g, j * 3 + 1, none⟩ = some (.int .i64 t) ∧ W.cell? ⟨g, j * 3 + 2, none⟩ = some (.slice A1 n1 c1) := fun W hb => ⟨by rw [hb.cell gl]; exact g0', by rw [hb.cell gl]; exact g1', by rw [hb.cell gl]; exact g2'⟩
  have hw1 : IntKind.i64.wrap ((L.length : Int) - ((s.hist.length : Int) - (r.1 : Int))) = (j : Int) := by rw [IntWalk.i64_in _ (by omega)]; omega
  have hz : ((s.hist.length : Int) - (r.1 : Int) == 0) = false := by simp; omega
  have hji : (j : Int) < (L.length : Int) := by omega
  have hml : L.length ≤ 9223372036854775807 := by omega
  have H := Lib.hid (And.intro cW (And.intro bA (And.intro hp (And.intro h (And.intro cC (And.intro hG (And.intro hyh (And.intro e1 (And.intro e2 hr))))))))); clear cW bA hp h cC hG hyh e1 e2 hr hN hat hsh hcell g0 g1 g2 g0' g1' g2' h0 hy hle hln hT hlt hy6 hc1 hc2
  obtain ⟨rr, rlo⟩ := r
  simp only at hw1 hz
  clear hj
  go_enter Try.func27, Try.ntmps27
  go_wp2_with (go_at_call 23; ((with_reducible refine H.out.1.mono ?_); rintro e w1 ⟨rfl, b1⟩; obtain ⟨p0, p1, p2⟩ := (H.out.2.2.1.later b1).three; have pl := (H.out.2.2.1.later b1).lt; have pf := (H.out.2.2.1.later b1).frozen; obtain ⟨_, f1, _, _, _, _, _, fl, ff⟩ := (H.out.2.2.2.1.pre.later (bt H.out.2.1 b1)).cells; obtain ⟨g0, g1, g2⟩ := H.out.2.2.2.2.2.1 w1 (bt H.out.2.1 b1); have gl1 := (bt H.out.2.1 b1).size; have K := Lib.hid b1; clear b1))
  go_region_law (first
    | (go_simp; go_at_call 44; refine (H.out.2.2.2.2.1 w1.drew (below_drew (bt H.out.2.1 K.out))).mono ?_; rintro e w3 ⟨v3, ⟨rfl, hN3⟩, b3⟩; have b13 := (below_drew (Below.refl w1.heap.size w1)).trans b3; have hpp := H.out.2.2.1.later (bt K.out b13); obtain ⟨q0, q1, q2⟩ := hpp.three; have ql := hpp.lt; have qf := hpp.frozen; obtain ⟨A3, n3, hv3⟩ := hN3.shape; subst hv3; have K3 := Lib.hid (And.intro hN3 (And.intro (bt H.out.2.1 (bt K.out b13)) hpp)); clear hN3 b3 b13 hpp))
  all_goals go_wp2
  all_goals
    obtain ⟨z0, z1, z2⟩ := (K3.out.2.2.put3 (.bool mk) (.int .i64 t) (.slice A3 y.2.2.length n3)).three
    refine bodyPost_ret (v := .tuple #[item mk t (.slice A3 y.2.2.length n3), .bool true]) (by simp only [results, Try.results27]; simp [go_sem, Act.put, z0, z1, z2]) rfl ?_
    exact ⟨Or.inr ⟨(rr, rlo), y, _, ⟨H.out.2.2.2.2.2.2.2.2.2, H.out.2.2.2.2.2.2.1⟩, by rw [H.out.2.2.2.2.2.2.2.1, H.out.2.2.2.2.2.2.2.2.1], (K3.out.1.put3 (g := w.heap.size) pl _ _ _).weak gl1⟩, below_put3 K3.out.2.1 (Nat.le_refl _) _ _ _⟩
theorem Peek_any (B d : Nat) (s : Rg) (w : World) (id : Int) (hi : wfI id) (h : RS w B d s) : Calls Try.prog 27 #[.pointer (some ⟨d, 0, none⟩), .int .i64 id] w (PeekP s id w) := by
  by_cases h0 : waitR s id = 0
  · exact Peek_none B d s w id hi h h0
  · rcases hr : s.rd id with _ | r
    · exact absurd (by unfold waitR; rw [hr]) h0
    · have hle : r.1 ≤ s.hist.length := by
        obtain ⟨_, _, _, h'⟩ := h
        exact (h'.pre.ok.rd id r hr).2.2.1
      refine Peek_some B d s w id hi h r hr ?_
      have : waitR s id = (s.hist.length : Int) - (r.1 : Int) := by unfold waitR; rw [hr]
      omega
end Go.Proofs.Ytbbjlefldpgckaa
namespace Go.Proofs.Ytbbjlefldpgckaa
open Go.ChangeShapes Go.WideShapes Go.ChangeAt Go.RowKit Go.Maps
open Ev (V3 rightV OkV)
set_option linter.unusedVariables false
set_option linter.unusedSimpArgs false
set_option maxRecDepth 20000

/-- What Next does: nothing where nothing is left; else the item that stands there, and the reader has read it. -/
def NextR (s : Rg) (id : Int) (x : Option It) (s' : Rg) : Prop :=
  (waitR s id = 0 ∧ x = none ∧ s' = s) ∨ (∃ r y, s.rd id = some r ∧ s.hist[r.1]? = some y ∧ x = some y ∧ s' = { s with rd := upd s.rd id (some (r.1 + 1, behindI y.1 y.2.1)) })
def itemOf (x : Option It) (v : Value) : Value := match x with
  | none => .tuple #[item false 0 (.slice none 0 0), .bool false]
  | some y => .tuple #[item y.1 y.2.1 v, .bool true]
def NextP (X : Nat → Prop) (B d : Nat) (s : Rg) (id : Int) (w : World) (e : Ending) (w' : World) : Prop :=
  ∃ x s' v', (e = .returned (itemOf x v') ∧ NextR s id x s' ∧ (∀ y, x = some y → NewAt w.heap.size w' v' y.2.2) ∧ RX X w' B d s') ∧ Chg B w w' ∧ Kx X w w'
theorem isLen_next {n : Nat} {rd : Rd} {m q : Nat} (h : IsLen n rd m) {id : Int} {r : Rdr} (hr : rd id = some r) (lo : Int) (hq : IsLen n (upd rd id (some (r.1 + 1, lo))) q) : q ≤ m := by
  rcases hq.2 with h0 | ⟨x, r', hx, h0⟩
  · omega
  · by_cases he : x = id
    · subst he
      rw [upd_same] at hx
      cases hx
      have := h.1 x r hr
      simp only at h0
      omega
    · rw [upd_other _ _ he] at hx
      have := h.1 x r' hx
      omega
theorem next_ok {w : World} {B d : Nat} {v : Value} {m : Nat} {L : List Raw} {s : Rg} (h : RAt w B d v m L s) {id : Int} {r : Rdr} (hr : s.rd id = some r) {y : It} (hy : s.hist[r.1]? = some y) :
    ∀ x r', upd s.rd id (some (r.1 + 1, behindI y.1 y.2.1)) x = some r' → 1 ≤ x ∧ x ≤ s.given ∧ r'.1 ≤ s.hist.length ∧ r'.2 ≤ s.edge := by
  intro x r' hx
  by_cases he : x = id
  · subst he
    rw [upd_same] at hx
    cases hx
    obtain ⟨a, b, _, _⟩ := h.pre.ok.rd x r hr
    exact ⟨a, b, (List.getElem?_eq_some_iff.1 hy).1, h.times y (List.mem_of_getElem? hy)⟩
  · rw [upd_other _ _ he] at hx
    exact h.pre.ok.rd x r' hx
theorem chg_put3 {w : World} {B g : Nat} (hB : B ≤ g) {cs : Array Value} (hs : cs.size = 3) (h : Blk w g 37 cs) (a b c : Value) :
    Chg B w (((w.setCell ⟨g, 0, none⟩ a).setCell ⟨g, 1, none⟩ b).setCell ⟨g, 2, none⟩ c) :=
  have h1 := h.set_ 0 a
  have h2 := h1.set_ 1 b
  ⟨below_put3 (Below.refl _ _) hB a b c, (FrR.set h (Or.inr rfl) 0 a).trans ((FrR.set h1 (Or.inr rfl) 1 b).trans (FrR.set h2 (Or.inr rfl) 2 c))⟩
/-- A block of an item that is not the ring's is written. -/
theorem kx_next {X : Nat → Prop} {w W : World} {g : Nat} (hX : ∀ k, X k → k < w.heap.size) (hk : Kx X w W) (hg : w.heap.size ≤ g) (a b c : Value) : Kx X w (((W.setCell ⟨g, 0, none⟩ a).setCell ⟨g, 1, none⟩ b).setCell ⟨g, 2, none⟩ c) := fun k h => by
  have := hX k h
  have hne : k ≠ g := by omega
  rw [Below.heap_setCell _ _ _ _ hne, Below.heap_setCell _ _ _ _ hne, Below.heap_setCell _ _ _ _ hne]
  exact hk k h
theorem next_put {X : Nat → Prop} {w : World} {B d : Nat} {v : Value} {m : Nat} {L : List Raw} {s : Rg} (h : RAt w B d v m L s) (hX : ∀ k, X k → k < w.heap.size ∧ k ≠ d ∧ k ≠ m ∧ some k ≠ v.ownBlock) {g : Nat} {cs : Array Value} (hp : Blk w g 37 cs) (hne : some g ≠ v.ownBlock) (a b c : Value) :
    RX X (((w.setCell ⟨g, 0, none⟩ a).setCell ⟨g, 1, none⟩ b).setCell ⟨g, 2, none⟩ c) B d s := by
  have hd : d ≠ g := by
    rintro rfl
    have h1 : w.heap[d]? = some (.cells cs 37 (0, 0)) := hp
    have := h1.symm.trans h.pre.blk
    simp at this
  have one : ∀ {w : World} {cs : Array Value}, RAt w B d v m L s → Blk w g 37 cs → ∀ o u, RAt (w.setCell ⟨g, o, none⟩ u) B d v m L s := fun {w cs} h hp o u =>
    have hF := FrR.set hp (Or.inr rfl) o u
    ⟨⟨h.pre.low, h.pre.mlow, h.pre.blk.far (p := ⟨g, o, none⟩) hd u, h.pre.row.grown (grown_set w g o u) (fun b hb he => hne (by rw [he]; exact hb)), h.pre.kept.mono (fun _ _ hn => hn.frr hF), h.pre.map.setCell hp o u, h.pre.ok⟩, h.len, h.fits, h.times⟩
  exact ⟨v, m, L, one (one (one h hp 0 a) (hp.set_ 0 a) 1 b) ((hp.set_ 0 a).set_ 1 b) 2 c, fun k hk => ⟨by have := (hX k hk).1; simpa [World.setCell] using this, (hX k hk).2⟩⟩
theorem Next_none (X : Nat → Prop) (B d : Nat) (s : Rg) (w : World) (id : Int) (hi : wfI id) (h : RX X w B d s) (h0 : waitR s id = 0) : Calls Try.prog 17 #[.pointer (some ⟨d, 0, none⟩), .int .i64 id] w (NextP X B d s id w) := by
  have bA := ba w (.cells #[.bool false, .int .i64 0, .slice none 0 0] 37)
  have hp := Blk.new w 37 #[.bool false, .int .i64 0, .slice none 0 0]
  have hB : B ≤ w.heap.size := by obtain ⟨_, _, _, h', _⟩ := h; exact h'.pre.low'
  have cP : Calls Try.prog 27 #[.pointer (some ⟨d, 0, none⟩), .int .i64 id] (w.alloc (.cells #[.bool false, .int .i64 0, .slice none 0 0] 37)) fun e w1 => e = .returned (.tuple #[item false 0 (.slice none 0 0), .bool false]) ∧ Below (w.heap.size + 1) (w.alloc (.cells #[.bool false, .int .i64 0, .slice none 0 0] 37)) w1 :=
    (Peek_any B d s _ id hi (h.rs.later bA)).mono (fun e w1 hh => by
      obtain ⟨hc, hb⟩ := hh
      rw [World.size_alloc] at hb hc
      rcases hc with ⟨_, he⟩ | ⟨r', x, v', ⟨hr', hx⟩, _⟩
      · exact ⟨he, hb⟩
      · have := (List.getElem?_eq_some_iff.1 hx).1
        unfold waitR at h0
        rw [hr'] at h0
        simp only at h0
        omega)
  have H := Lib.hid (And.intro cP (And.intro bA (And.intro hp (And.intro h0 (And.intro h hB))))); clear cP bA hp h0 h hB
  go_enter Try.func17, Try.ntmps17
  go_wp2_with (go_at_call 27; ((with_reducible refine H.out.1.mono ?_); rintro e w1 ⟨rfl, b1⟩; have hq := H.out.2.2.1.later (by rw [World.size_alloc]; exact b1); obtain ⟨p0, p1, p2⟩ := (H.out.2.2.1.later (by rw [World.size_alloc]; exact b1)).three; have pl := (H.out.2.2.1.later (by rw [World.size_alloc]; exact b1)).lt; have pf := (H.out.2.2.1.later (by rw [World.size_alloc]; exact b1)).frozen; have K := Lib.hid (And.intro b1 hq); clear b1 hq))
  obtain ⟨z0, z1, z2⟩ := ((K.out.2.put3 (.bool false) (.int .i64 0) (.slice none 0 0)).alloc (.cells #[.bool false, .int .i64 0, .slice none 0 0] 37)).three
  refine bodyPost_ret (v := .tuple #[item false 0 (.slice none 0 0), .bool false]) (by simp only [results, Try.results17]; simp [go_sem, z0, z1, z2]) rfl ?_
  have bW := H.out.2.1.trans (K.out.1.mono (Nat.le_succ _))
  obtain ⟨v, m, L, hR, hX⟩ := H.out.2.2.2.2.1
  have Cp := (Chg.later H.out.2.2.2.2.2 bW).trans (chg_put3 H.out.2.2.2.2.2 rfl K.out.2 (.bool false) (.int .i64 0) (.slice none 0 0))
  have hx1 : ∀ k, X k → k < w.heap.size := fun k hk => (hX k hk).1
  have hKx := kx_next hx1 (fun k hk => bW.block k (hx1 k hk)) (Nat.le_refl _) (.bool false) (.int .i64 0) (.slice none 0 0)
  have hP := next_put (X := X) (hR.later bW) (fun k hk => ⟨Nat.lt_of_lt_of_le (hX k hk).1 bW.size, (hX k hk).2⟩) K.out.2 (fun e => by
    obtain ⟨_, cs', hc⟩ := hR.pre.row.block e.symm
    have := (Array.getElem?_eq_some_iff.1 hc).1
    omega) (.bool false) (.int .i64 0) (.slice none 0 0)
  exact ⟨none, s, .slice none 0 0, ⟨rfl, Or.inl ⟨H.out.2.2.2.1, rfl, rfl⟩, fun y hy => (by cases hy), (hP.later (ba _ _)).1⟩, Cp.trans (Chg.later (Nat.le_trans H.out.2.2.2.2.2 Cp.bel.size) (ba _ _)), hKx.trans (hP.later (ba _ _)).2⟩
end Go.Proofs.Ytbbjlefldpgckaa
