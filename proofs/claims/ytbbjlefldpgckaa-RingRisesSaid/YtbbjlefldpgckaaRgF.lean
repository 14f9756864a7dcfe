/- Rings: forget. -/
import Derived.Test.YtbbjlefldpgckaaRgD
namespace Go.Proofs.Ytbbjlefldpgckaa
open Go.ChangeShapes Go.WideShapes Go.ChangeAt Go.RowKit Go.Maps
open Ev (V3 rightV OkV)
set_option linter.unusedVariables false
set_option linter.unusedSimpArgs false
set_option maxRecDepth 20000

theorem RPre.lenL {w : World} {B d : Nat} {v : Value} {m : Nat} {L : List Raw} {s : Rg} (h : RPre w B d v m L s) : L.length ≤ s.hist.length := by
  have := h.kept.length
  rw [List.length_drop] at this
  omega
theorem forget_end {w w1 w5 : World} {B d q : Nat} {v v5 : Value} {m : Nat} {L : List Raw} {s : Rg} (h : RPre w B d v m L s) (b1 : Below w.heap.size w w1) (hq : IsLen s.hist.length s.rd q) (hqL : q ≤ L.length) (hqr : q ≤ s.room) (ht : ∀ x ∈ s.hist, behindI x.1 x.2.1 ≤ s.edge)
    (hO5 : Own w5 B 37 3 rowI v5 (L.drop (L.length - q))) (hg5 : w1.grownBy w5 v.ownBlock) :
    RAt (w5.setCell ⟨d, 1, none⟩ v5) B d v5 m (L.drop (L.length - q)) s ∧ Chg B w (w5.setCell ⟨d, 1, none⟩ v5) ∧ ∀ k, k < w.heap.size → k ≠ d → some k ≠ v.ownBlock → (w5.setCell ⟨d, 1, none⟩ v5).heap[k]? = w.heap[k]? := by
  have h1 := h.later b1
  obtain ⟨a1, a2, a3⟩ := h1.apart
  have hln := h.lenL
  have blk5 := h1.blk.grown hg5 (fun e => a1 d e.symm rfl)
  have F15 : FrR w1 w5 := FrR.grown hg5 (fun g hg cs t fr hc => by
    obtain ⟨_, cs', hc'⟩ := h1.row.block hg
    rw [hc'] at hc
    simp only [Option.some.injEq, Obj.cells.injEq] at hc
    exact Or.inr hc.2.1.symm)
  have C15 : Chg B w1 w5 := ⟨grownBy_below hg5 h1.low' (fun k hk => (h1.row.block hk).1), F15⟩
  have F5 := FrR.set blk5 (Or.inl rfl) 1 v5
  have C5 : Chg B w5 (w5.setCell ⟨d, 1, none⟩ v5) := ⟨(Below.refl _ _).setCell (p := ⟨d, 1, none⟩) h.low _, F5⟩
  have hlen : (L.drop (L.length - q)).length = q := by rw [List.length_drop]; omega
  refine ⟨⟨⟨h.low, h.mlow, ?_, ?_, ?_, ?_, h.ok⟩, by rw [hlen]; exact hq, by rw [hlen]; exact hqr, ht⟩, (Chg.later h.low' b1).trans (C15.trans C5), fun k hk hkd hkv => ?_⟩
  rotate_left 4
  · rw [Below.heap_setCell _ _ _ _ hkd, hg5.block k (Nat.lt_of_lt_of_le hk b1.size) hkv, b1.block k hk]
  · have := blk5.set_ 1 v5
    simpa using this
  · exact hO5.grown (grown_set w5 d 1 v5) (fun b hb he => by
      obtain rfl : d = b := by simpa using hb
      obtain ⟨_, cs', hc⟩ := hO5.block he
      have := hc.symm.trans blk5
      simp at this)
  · rw [hlen]
    have hk := (h1.kept.mono (fun _ _ hn => (NewAt.frr hn F15).frr F5)).drop (L.length - q)
    rw [List.drop_drop] at hk
    have e : s.hist.length - L.length + (L.length - q) = s.hist.length - q := by omega
    rw [e] at hk
    exact hk
  · exact (h1.map.grown hg5 (fun e => a3 m e.symm rfl)).setCell blk5 1 v5
def ForgetP (B d : Nat) (v : Value) (m : Nat) (s : Rg) (w : World) (e : Ending) (w' : World) : Prop := ((∃ x, e = .returned x) ∧ (∃ v' L', RAt w' B d v' m L' s ∧ v'.ownBlock = v.ownBlock) ∧ ∀ k, k < w.heap.size → k ≠ d → some k ≠ v.ownBlock → w'.heap[k]? = w.heap[k]?) ∧ Chg B w w'
set_option maxHeartbeats 1000000 in
theorem forget_any (B d : Nat) (v : Value) (m : Nat) (L : List Raw) (s : Rg) (w : World) (h : RPre w B d v m L s) (hq : ∀ q, IsLen s.hist.length s.rd q → q ≤ L.length ∧ q ≤ s.room) (ht : ∀ x ∈ s.hist, behindI x.1 x.2.1 ≤ s.edge) :
    Calls Try.prog 46 #[.pointer (some ⟨d, 0, none⟩)] w (ForgetP B d v m s w) := by
  have cL := Len_any B d v m L s w.drew (h.later (below_drew (Below.refl _ _)))
  obtain ⟨A, c, rfl, _, hc1, hc2⟩ := h.row.shape
  have hm2 : c ≤ 9223372036854775807 := by unfold maxLen at hc2; omega
  have cD : ∀ (w1 : World) (q : Nat), Below w.heap.size w w1 → q ≤ L.length → Calls Try.prog 55 #[.slice A L.length c, .int .i64 0, .int .i64 ((L.length - q : Nat) : Int)] w1 (DelP B (.slice A L.length c) (L.drop (L.length - q)) w1) := fun w1 q hb hle =>
    Delete_any B _ L (L.length - q) w1 (h.row.later hb) (by omega)
  have hws : ∀ q : Nat, q ≤ L.length → IntKind.i64.wrap ((L.length : Int) - (q : Int)) = ((L.length - q : Nat) : Int) := fun q hle => by
    rw [IntWalk.i64_in _ (by omega)]; omega
  obtain ⟨_, c1, _, _, _, _, _, dl, df⟩ := h.cells
  have H := Lib.hid (And.intro h (And.intro cL (And.intro cD (And.intro hws (And.intro hq ht))))); clear h cL cD hws hq ht
  go_enter Try.func46, Try.ntmps46
  go_wp2_with fail
  go_region_law (first
    | (go_simp; go_at_call 22; ((with_reducible refine H.out.2.1.mono ?_); rintro e w1 ⟨q, ⟨rfl, hq⟩, b1⟩; have hle := (H.out.2.2.2.2.1 q hq).1; have hws := H.out.2.2.2.1 q hle; have b2 := (below_drew (Below.refl w.heap.size w)).trans b1; obtain ⟨_, f1, _, _, _, _, _, fl, ff⟩ := (H.out.1.later b2).cells; have K := Lib.hid (And.intro hq b2); clear hq b1 b2))
    | (go_simp; go_at_call 55; ((with_reducible refine (H.out.2.2.1 w1 q K.out.2 hle).mono ?_); rintro e w5 ⟨v5, ⟨rfl, hO5, hv5⟩, hg5⟩; have blk5 := (H.out.1.later K.out.2).blk.grown hg5 (fun e => (H.out.1.later K.out.2).apart.1 d e.symm rfl); have e1 := blk5.cell 1; have el := blk5.lt; have ef := blk5.frozen; obtain ⟨A5, n5, k5, rfl⟩ := own_shape hO5; have Z := Lib.hid (And.intro hO5 (And.intro hg5 (And.intro blk5 hv5))); clear hO5 hg5 blk5 hv5)))
  all_goals go_wp2
  all_goals refine bodyPost_ret (v := .tuple #[]) (by simp [results, Try.results46, go_sem]) rfl ?_
  all_goals
    obtain ⟨x1, x2, x3⟩ := forget_end H.out.1 K.out.2 K.out.1 hle (H.out.2.2.2.2.1 q K.out.1).2 H.out.2.2.2.2.2 Z.out.1 Z.out.2.1
    exact ⟨⟨⟨_, rfl⟩, ⟨_, _, x1, Z.out.2.2.2⟩, x3⟩, x2⟩
end Go.Proofs.Ytbbjlefldpgckaa
