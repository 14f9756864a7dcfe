/- Texts of the proof of RingTells, part 11. -/
import Derived.Test.YtbbjlefldpgckaaPRingTells10
import Derived.Deep.RegionLaw
namespace Go.Proofs.Ytbbjlefldpgckaa
open Go.ChangeShapes Go.WideShapes Go.ChangeAt Go.RowKit Go.Maps
open Ev (V3 rightV OkV)
set_option linter.unusedVariables false
set_option linter.unusedSimpArgs false

theorem rdD_has {D : DataW Unit} {k : Lit} {c : Rdr} (h : ∀ z, D.atKey k z = rdD c) : has D k = true := has_true_of_atKey h
theorem below_at {B : Nat} {a w w' : World} (h : Below B a w) (hg : w.grownBy w' (some B)) (hB : B ≤ w.heap.size) : Below B a w' :=
  h.grown hg hB (fun k hk => by obtain rfl : B = k := by simpa using hk
                                exact Nat.le_refl _)
theorem ranges_heap {w w' : World} {b r n : Nat} {D : DataW Unit} {left : Lit → Bool} {cnt : Nat} (h : w.ranges Try.prog 3 rdElem b r n D left cnt) (hh : w'.heap = w.heap) : w'.ranges Try.prog 3 rdElem b r n D left cnt := by
  unfold World.ranges at h ⊢
  rw [hh]; exact h
/-- Len under way. -/
def LenRel (s : Rg) (D : DataW Unit) (m : Nat) (w : World) (mv : Value) (wr : World) : Prop :=
  ∃ (k : Nat) (left : Lit → Bool) (cnt : Nat), mv = .int .i64 (k : Int) ∧ k ≤ s.hist.length ∧ wr.ranges Try.prog 3 rdElem m w.heap.size s.cnt D left cnt ∧ (∀ id r, wfI id → s.rd id = some r → left (.int .i64 id) = false → s.hist.length - r.1 ≤ k) ∧ (k = 0 ∨ ∃ id r, s.rd id = some r ∧ k = s.hist.length - r.1) ∧ Below w.heap.size w wr
theorem LenRel.next {s : Rg} {D : DataW Unit} {m : Nat} {w w2 wr : World} {k k' cr : Nat} {cl x : Int} {left : Lit → Bool} {cnt1 : Nat} (hk : k ≤ s.hist.length) (hle : ∀ id r, wfI id → s.rd id = some r → left (.int .i64 id) = false → s.hist.length - r.1 ≤ k) (hat : k = 0 ∨ ∃ id r, s.rd id = some r ∧ k = s.hist.length - r.1)
    (hs : s.rd x = some (cr, cl)) (hr : w2.ranges Try.prog 3 rdElem m w.heap.size s.cnt D (fun z => left z && !z.sameKey (.int .i64 x)) cnt1) (hb : Below w.heap.size w w2) (hk' : (k' = k ∧ s.hist.length - cr ≤ k) ∨ (k' = s.hist.length - cr ∧ k ≤ s.hist.length - cr)) (hm : cnt1 < wr.rangeLeft m w.heap.size) {mv : Value} (hmv : mv = .int .i64 (k' : Int)) :
    LenRel s D m w mv w2 ∧ w2.rangeLeft m w.heap.size < wr.rangeLeft m w.heap.size := by
  refine ⟨⟨k', _, cnt1, hmv, by omega, hr, fun id r hi hid hl => ?_, ?_, hb⟩, by rw [hr.left_eq]; exact hm⟩
  · rcases hll : left (.int .i64 id) with _ | _
    · have := hle id r hi hid hll
      omega
    · rw [hll] at hl
      have hsk : (Lit.int .i64 id).sameKey (.int .i64 x) = true := by simpa using hl
      have he : Lit.int .i64 id = .int .i64 x := WideAt.sameKey_eq hsk
      simp only [Lit.int.injEq, true_and] at he
      subst he
      rw [hs] at hid
      cases hid
      show s.hist.length - cr ≤ k'
      omega
  · rcases hk' with ⟨rfl, _⟩ | ⟨rfl, _⟩
    · exact hat
    · exact Or.inr ⟨x, (cr, cl), hs, rfl⟩
def LenP (s : Rg) (w : World) (e : Ending) (w' : World) : Prop := ∃ q : Nat, (e = .returned (.int .i64 (q : Int)) ∧ IsLen s.hist.length s.rd q) ∧ Below w.heap.size w w'
set_option maxHeartbeats 1000000 in
theorem Len_any (B d : Nat) (v : Value) (m : Nat) (L : List Raw) (s : Rg) (w : World) (h : RPre w B d v m L s) :
    Calls Try.prog 22 #[.pointer (some ⟨d, 0, none⟩)] w (LenP s w) := by
  obtain ⟨D, o1, o2, o3, o4⟩ := h.map
  obtain ⟨c0, c1, c2, c3, c4, c5, c6, dl, df⟩ := h.cells
  have hT := h.ok.total
  have hrd := h.ok.rd
  have hIK : ∀ key kl, keyOf Try.prog 3 key = some kl → ∃ x, key = Value.int .i64 x := fun key kl hk => by obtain ⟨x, rfl, _⟩ := Maps.keyOf_int_inv Try.underlying3 hk; exact ⟨x, rfl⟩
  have hIV : ∀ v y, rdElem v = some y → ∃ c, v = rv c := fun v y hv => by obtain ⟨c, rfl, _⟩ := rdElem_inv hv; exact ⟨c, rfl⟩
  have H := Lib.hid (And.intro h (And.intro o1 (And.intro o3 (And.intro o4 (And.intro hrd (And.intro hIK hIV)))))); clear h o1 o2 o3 o4 hrd hIK hIV
  go_enter Try.func22, Try.ntmps22
  go_wp2_with (at_range; refine wpList_range_own _ rfl _ 60 rfl 3 79 intKeys Try.underlying60 rdElem m s.cnt D rfl H.out.2.1 ?_; intro w1 hr1 hg1 hs1; have K := Lib.hid (And.intro hr1 (grownBy_below hg1 (B := w.heap.size) (Nat.le_refl _) (fun k hk => by simp at hk))); clear hr1 hg1 hs1)
  go_frame
  clear c0 c1 c2 c3 c4 c5 c6
  go_loopw [3] (fun mv wr => LenRel s D m w mv wr) (fun _ wr => wr.rangeLeft m w.heap.size)
  case atStart =>
    refine ⟨0, _, _, rfl, Nat.zero_le _, K.out.1, fun id r hi hr hl => ?_, Or.inl rfl, K.out.2⟩
    rw [H.out.2.2.1 id hi, hr] at hl
    cases hl
  case round =>
    clear K
    obtain ⟨k, left, cnt, rfl, hk, hrg, hle, hat, hb⟩ := hrel
    obtain ⟨_, _, c2, _, _, _, _, _, _⟩ := (H.out.1.later hb).cells
    have K := Lib.hid (And.intro hrg (And.intro hle (And.intro hat hb))); clear hrg hle hat hb
    go_wp2_with (at_next; refine wpList_next_ranges _ rfl _ rfl 3 intKeys rdElem (Value.int .i64) rv H.out.2.2.2.2.2.1 H.out.2.2.2.2.2.2 m w.heap.size s.cnt D left cnt rfl K.out.1 ?_ ?_)
    · intro hc0 hl0
      go_wp2
      go_ret
      refine ⟨k, ⟨rfl, ⟨fun id r hr => K.out.2.1 id r ?_ hr (hl0 _), K.out.2.2.1⟩⟩, K.out.2.2.2⟩
      obtain ⟨h1, h2, _⟩ := H.out.2.2.2.2.1 id r hr
      have := H.out.1.ok.given
      constructor <;> omega
    · intro x cr cl kl yd yp w1 cnt1 hkey hlx hR hA hrg1 hlt hg1 hs1 hen
      obtain ⟨x', ex, rfl, hwx⟩ := Maps.keyOf_int_inv Try.underlying3 hkey
      cases ex
      have hx := wf_inv hwx
      cases (rdElem_mk (cr, cl)).symm.trans hR
      have hs : s.rd x = some (cr, cl) := by
        have h1 : (s.rd x).isSome = true := by rw [← H.out.2.2.1 x hx]; exact rdD_has hA
        obtain ⟨r, hr⟩ := Option.isSome_iff_exists.1 h1
        have h2 := (H.out.2.2.2.1 x r hx hr (rdD (0, 0))).symm.trans (hA (rdD (0, 0)))
        rw [hr, rdD_inj h2]
      obtain ⟨h1, h2, h3, _⟩ := H.out.2.2.2.2.1 x (cr, cl) hs
      have hb1 : Below w.heap.size w w1 := below_at K.out.2.2.2 hg1 K.out.2.2.2.size
      obtain ⟨_, _, f2, _, _, _, _, fl, _⟩ := (H.out.1.later hb1).cells
      have hmlt := K.out.1.left_eq
      have hnew := hrg1.left_eq
      simp only at h3
      have hw1 : IntKind.i64.wrap ((s.hist.length : Int) - (cr : Int)) = (s.hist.length : Int) - (cr : Int) := IntWalk.i64_in _ (by omega)
      have KK := Lib.hid (And.intro hs (And.intro hrg1 (And.intro hb1 (And.intro hmlt (And.intro hnew hlt))))); clear hs hrg1 hb1 hmlt hnew hlt hA hR hkey hwx hlx hg1 hs1 c2
      go_wp2_with fail
      go_region_law (fail)
      all_goals go_wp2
      all_goals
        have hrA := ranges_heap (w' := (w1.alloc (Obj.cells #[Value.int IntKind.i64 ↑cr, Value.int IntKind.i64 cl] 79)).drew) (KK.out.2.1.alloc _) rfl
        have hbA : Below w.heap.size w (w1.alloc (Obj.cells #[Value.int IntKind.i64 ↑cr, Value.int IntKind.i64 cl] 79)).drew := bt KK.out.2.2.1 (below_drew (ba _ _))
        have hmA : cnt1 < wr.rangeLeft m w.heap.size := by rw [KK.out.2.2.2.1]; exact KK.out.2.2.2.2.2
        go_roundw
        case rel => first
          | exact (LenRel.next (wr := wr) (k' := k) hk K.out.2.1 K.out.2.2.1 KK.out.1 hrA hbA (Or.inl ⟨rfl, by omega⟩) hmA rfl).1
          | exact (LenRel.next (wr := wr) (k' := s.hist.length - cr) hk K.out.2.1 K.out.2.2.1 KK.out.1 hrA hbA (Or.inr ⟨rfl, by omega⟩) hmA (by congr 1; omega)).1
        case measure => rw [hrA.left_eq]; exact hmA
end Go.Proofs.Ytbbjlefldpgckaa
