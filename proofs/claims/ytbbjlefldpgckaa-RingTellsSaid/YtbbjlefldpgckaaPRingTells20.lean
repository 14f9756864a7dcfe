/- Texts of the proof of RingTells, part 20. -/
import Derived.Test.YtbbjlefldpgckaaPRingTells7
import Derived.Test.YtbbjlefldpgckaaPRingTells19
namespace Go.Proofs.Ytbbjlefldpgckaa
open Go.ChangeShapes Go.WideShapes Go.ChangeAt Go.RowKit Go.Maps
open Ev (V3 rightV OkV)
set_option linter.unusedVariables false
set_option linter.unusedSimpArgs false
set_option maxRecDepth 20000

abbrev tMr : TypeId := 67
abbrev tMi : TypeId := 73
abbrev tMq : TypeId := 91
abbrev tMv : TypeId := 98
/-- All blocks but of cells of the document's ring, its items, its readers are as they were. -/
structure FrM (w w' : World) : Prop where
  size : w.heap.size ≤ w'.heap.size
  same : ∀ (k : Nat) (o : Obj), w.heap[k]? = some o → (∀ cs t fr, o = Obj.cells cs t fr → t ≠ tMr ∧ t ≠ tMi ∧ t ≠ tMq) → w'.heap[k]? = w.heap[k]?
theorem FrM.refl (w : World) : FrM w w := ⟨Nat.le_refl _, fun _ _ _ _ => rfl⟩
theorem FrM.trans {a b c : World} (h : FrM a b) (k : FrM b c) : FrM a c :=
  ⟨Nat.le_trans h.size k.size, fun i o hi n => by
    have e := h.same i o hi n
    rw [k.same i o (e.trans hi) n, e]⟩
theorem FrM.below {w w' : World} (h : Below w.heap.size w w') : FrM w w' := ⟨h.size, fun k _ hk _ => h.block k (Array.getElem?_eq_some_iff.1 hk).1⟩
theorem FrM.grown {w w' : World} {g : Nat} {cs : Array Value} {t : TypeId} (hg : w.grownBy w' (some g)) (h : Blk w g t cs) (ht : t = tMr ∨ t = tMi ∨ t = tMq) : FrM w w' :=
  ⟨hg.size, fun k o hk n => hg.block k (Array.getElem?_eq_some_iff.1 hk).1 (fun e => by
    obtain rfl : k = g := by simpa using e
    have h' := hk.symm.trans h
    simp only [Option.some.injEq] at h'
    obtain ⟨n1, n2, n3⟩ := n _ _ _ h'
    rcases ht with h1 | h1 | h1
    · exact n1 h1
    · exact n2 h1
    · exact n3 h1)⟩
theorem FrM.set {w : World} {g : Nat} {cs : Array Value} {t : TypeId} (h : Blk w g t cs) (ht : t = tMr ∨ t = tMi ∨ t = tMq) (o : Nat) (u : Value) : FrM w (w.setCell ⟨g, o, none⟩ u) := FrM.grown (grown_set w g o u) h ht
theorem FrM.own {α : Type} {w w' : World} {b : Nat} {e : TypeId} {k : Nat} {f : α → List Value} {v : Value} {l : List α} (hO : Own w b e k f v l) (hg : w.grownBy w' v.ownBlock) (ht : e = tMr ∨ e = tMi ∨ e = tMq) : FrM w w' := by
  rcases hv : v.ownBlock with _ | g
  · rw [hv] at hg
    exact ⟨hg.size, fun k _ hk _ => hg.block k (Array.getElem?_eq_some_iff.1 hk).1 (by simp)⟩
  · rw [hv] at hg
    obtain ⟨_, cs, hc⟩ := hO.block hv
    exact FrM.grown hg (show Blk w g e cs from hc) ht
theorem Own.frm {α : Type} {w w' : World} {b : Nat} {e : TypeId} {k : Nat} {f : α → List Value} {v : Value} {l : List α} (h : Own w b e k f v l) (hF : FrM w w') (n : e ≠ tMr ∧ e ≠ tMi ∧ e ≠ tMq) : Own w' b e k f v l := by
  refine ⟨h.1, ?_⟩
  rcases h.2 with h0 | ⟨g, cap, cur, rfl, h1, h2, h3⟩
  · exact Or.inl h0
  · exact Or.inr ⟨g, cap, cur, rfl, h1, by rw [hF.same g _ h2 (fun cs t fr e => by simp only [Obj.cells.injEq] at e; obtain ⟨_, rfl, _⟩ := e; exact n)]; exact h2, h3⟩
theorem Blk.frm {w w' : World} {g : Nat} {t : TypeId} {cs : Array Value} (h : Blk w g t cs) (hF : FrM w w') (n : t ≠ tMr ∧ t ≠ tMi ∧ t ≠ tMq) : Blk w' g t cs :=
  (hF.same g _ h (fun cs t fr e => by simp only [Obj.cells.injEq] at e; obtain ⟨_, rfl, _⟩ := e; exact n)).trans h
/-- The program's ring is as it was. -/
theorem RX.frm {X : Nat → Prop} {w w' : World} {B d : Nat} {s : Rg} (h : RX X w B d s) (hF : FrM w w') : RX X w' B d s := by
  obtain ⟨v0, m, L, hR, hX⟩ := h
  refine ⟨v0, m, L, ⟨⟨hR.pre.low, hR.pre.mlow, hR.pre.blk.frm hF (by decide), Own.frm hR.pre.row hF (by decide), hR.pre.kept.mono (fun u ll hn => ?_), ?_, hR.pre.ok⟩, hR.len, hR.fits, hR.times⟩, fun k hk => ⟨Nat.lt_of_lt_of_le (hX k hk).1 hF.size, (hX k hk).2⟩⟩
  · have hn' : Own w B 84 3 row3 u ll := hn
    exact (Own.frm hn' hF (by decide) : Own w' B 84 3 row3 u ll)
  · obtain ⟨D, ⟨es, clock, g1, g2⟩, h2⟩ := hR.pre.map
    exact ⟨D, ⟨es, clock, (hF.same m _ g1 (fun cs t fr e => by cases e)).trans g1, g2⟩, h2⟩
/-- A reader: its number, how many it has read, its time. -/
abbrev Qr := Int × Nat × Int
abbrev rowQ (x : Qr) : List Value := [.int .i64 x.1, .int .i64 (x.2.1 : Int), .int .i64 x.2.2]
/-- The rows of items read so. -/
def Its (w : World) (B : Nat) (L : List Raw) (K : List It) : Prop :=
  L.length = K.length ∧ ∀ j (h : j < L.length) (h' : j < K.length), (L[j]'h).1 = (K[j]'h').1 ∧ (L[j]'h).2.1 = (K[j]'h').2.1 ∧ Own w B tMv 3 row3 (sl (L[j]'h).2.2) (K[j]'h').2.2
theorem Its.mono {w w' : World} {B : Nat} {L : List Raw} {K : List It} (h : Its w B L K) (hm : ∀ v l, Own w B tMv 3 row3 v l → Own w' B tMv 3 row3 v l) : Its w' B L K :=
  ⟨h.1, fun j h1 h2 => ⟨(h.2 j h1 h2).1, (h.2 j h1 h2).2.1, hm _ _ (h.2 j h1 h2).2.2⟩⟩
theorem Its.snoc {w : World} {B : Nat} {L : List Raw} {K : List It} (h : Its w B L K) {x : Raw} {y : It} (hx : x.1 = y.1 ∧ x.2.1 = y.2.1 ∧ Own w B tMv 3 row3 (sl x.2.2) y.2.2) : Its w B (L ++ [x]) (K ++ [y]) := by
  refine ⟨by simp [h.1], fun j h1 h2 => ?_⟩
  rcases Nat.lt_or_ge j L.length with hj | hj
  · rw [List.getElem_append_left hj, List.getElem_append_left (by rw [← h.1]; exact hj)]
    exact h.2 j hj _
  · simp only [List.length_append, List.length_cons, List.length_nil] at h1
    obtain rfl : j = L.length := by omega
    rw [List.getElem_append_right (Nat.le_refl _), List.getElem_append_right (by rw [h.1]; exact Nat.le_refl _)]
    simp only [Nat.sub_self, h.1, List.getElem_cons_zero]
    exact hx
/-- The readers are these. -/
structure QOk (Q : List Qr) (s : Rg) : Prop where
  nd : (Q.map (·.1)).Nodup
  rd : ∀ id, s.rd id = (Q.find? (fun x => x.1 == id)).map (·.2)
  cnt : s.cnt = Q.length
abbrev mgCells (s : Rg) (vl vq : Value) : Array Value := #[.int .i64 (s.room : Int), vl, vq, .int .i64 (s.given : Int), .bool s.shut, .int .i64 s.edge]
structure RM (w : World) (B p : Nat) (vl vq : Value) (L : List Raw) (Q : List Qr) (s : Rg) : Prop where
  low : B ≤ p
  blk : Blk w p tMr (mgCells s vl vq)
  l : Own w B tMi 3 rowI vl L
  its : Its w B L s.hist
  q : Own w B tMq 3 rowQ vq Q
  qok : QOk Q s
  ok : OkG s
def MS (w : World) (B p : Nat) (s : Rg) : Prop := ∃ vl vq L Q, RM w B p vl vq L Q s
section
variable {w w' : World} {B p : Nat} {vl vq : Value} {L : List Raw} {Q : List Qr} {s : Rg}
theorem RM.later (h : RM w B p vl vq L Q s) (hb : Below w.heap.size w w') : RM w' B p vl vq L Q s :=
  ⟨h.low, h.blk.later hb, h.l.later hb, h.its.mono (fun _ _ hn => hn.later hb), h.q.later hb, h.qok, h.ok⟩
theorem MS.later (h : MS w B p s) (hb : Below w.heap.size w w') : MS w' B p s := by
  obtain ⟨vl, vq, L, Q, h⟩ := h
  exact ⟨vl, vq, L, Q, h.later hb⟩
theorem Blk.frr {g : Nat} {t : TypeId} {cs : Array Value} (h : Blk w g t cs) (hF : FrR w w') (n1 : t ≠ 63) (n2 : t ≠ 37) : Blk w' g t cs := (hF.same g _ _ _ h n1 n2).trans h
theorem MS.frr (h : MS w B p s) (hF : FrR w w') : MS w' B p s := by
  obtain ⟨vl, vq, L, Q, h⟩ := h
  exact ⟨vl, vq, L, Q, ⟨h.low, h.blk.frr hF (by decide) (by decide), h.l.frr hF (by decide) (by decide), h.its.mono (fun _ _ hn => hn.frr hF (by decide) (by decide)), h.q.frr hF (by decide) (by decide), h.qok, h.ok⟩⟩
theorem RM.low' (h : RM w B p vl vq L Q s) : B ≤ w.heap.size := by have := h.low; have := h.blk.lt; omega
theorem RM.cells (h : RM w B p vl vq L Q s) : w.cell? ⟨p, 0, none⟩ = some (.int .i64 (s.room : Int)) ∧ w.cell? ⟨p, 1, none⟩ = some vl ∧ w.cell? ⟨p, 2, none⟩ = some vq ∧ w.cell? ⟨p, 3, none⟩ = some (.int .i64 (s.given : Int)) ∧ w.cell? ⟨p, 4, none⟩ = some (.bool s.shut) ∧ w.cell? ⟨p, 5, none⟩ = some (.int .i64 s.edge) ∧ p < w.heap.size ∧ ∀ o, w.frozen? ⟨p, o, none⟩ = false :=
  ⟨h.blk.cell 0, h.blk.cell 1, h.blk.cell 2, h.blk.cell 3, h.blk.cell 4, h.blk.cell 5, h.blk.lt, h.blk.frozen⟩
theorem RM.qlen (h : RM w B p vl vq L Q s) : Q.length ≤ 16 := by have := h.ok.cnt; rw [h.qok.cnt] at this; exact this
theorem RM.llen (h : RM w B p vl vq L Q s) : L.length = s.hist.length := h.its.1
end
theorem find_at {Q : List Qr} (hn : (Q.map (·.1)).Nodup) {k : Nat} (hk : k < Q.length) : Q.find? (fun x => x.1 == (Q[k]'hk).1) = some (Q[k]'hk) := by
  induction Q generalizing k with
  | nil => simp at hk
  | cons x Q ih =>
    rw [List.map_cons, List.nodup_cons] at hn
    cases k with
    | zero => simp
    | succ k =>
      have hk' : k < Q.length := by simpa using hk
      simp only [List.getElem_cons_succ]
      have hne : (x.1 == (Q[k]'hk').1) = false := by
        simp only [beq_eq_false_iff_ne]
        intro e
        exact hn.1 (by rw [e]; exact List.mem_map.2 ⟨_, List.getElem_mem hk', rfl⟩)
      rw [List.find?_cons, hne]
      exact ih hn.2 hk'
theorem QOk.at_ {Q : List Qr} {s : Rg} (h : QOk Q s) {k : Nat} (hk : k < Q.length) : s.rd (Q[k]'hk).1 = some (Q[k]'hk).2 := by
  rw [h.rd, find_at h.nd hk]; rfl
theorem QOk.none_ {Q : List Qr} {s : Rg} (h : QOk Q s) {id : Int} (hq : ∀ k (hk : k < Q.length), (Q[k]'hk).1 ≠ id) : s.rd id = none := by
  rw [h.rd, Option.map_eq_none_iff, List.find?_eq_none]
  intro x hx
  obtain ⟨k, hk, rfl⟩ := List.getElem_of_mem hx
  simpa using hq k hk
theorem three_cells {w : World} {B g n c : Nat} {Q : List Qr} (h : Own w B tMq 3 rowQ (.slice (some ⟨g, 0, none⟩) n c) Q) (k : Nat) (hk : k < Q.length) :
    w.cell? ⟨g, k * 3, none⟩ = some (.int .i64 (Q[k]'hk).1) ∧ w.cell? ⟨g, k * 3 + 1, none⟩ = some (.int .i64 ((Q[k]'hk).2.1 : Int)) ∧ w.cell? ⟨g, k * 3 + 2, none⟩ = some (.int .i64 (Q[k]'hk).2.2) := by
  obtain ⟨g', hA, _, _, _, hc⟩ := h.cells (f := rowQ) (k := 3) (fun _ => rfl) rfl (Nat.lt_of_le_of_lt (Nat.zero_le _) hk)
  obtain rfl : g = g' := by simpa using hA
  exact ⟨hc k hk 0 _ rfl, hc k hk 1 _ rfl, hc k hk 2 _ rfl⟩
/-- A row that is not empty lies in a block. -/
theorem own_some {α : Type} {w : World} {b : Nat} {e : TypeId} {k : Nat} {f : α → List Value} {A : Option Addr} {n c : Nat} {l : List α} (h : Own w b e k f (.slice A n c) l) (h0 : 0 < l.length) : ∃ g, A = some ⟨g, 0, none⟩ := by
  rcases h.2 with ⟨he, hl⟩ | ⟨g, cap, cur, he, _⟩
  · have h9 : l.length = 0 := hl
    omega
  · simp only [Value.slice.injEq] at he
    exact ⟨g, he.1⟩
end Go.Proofs.Ytbbjlefldpgckaa
