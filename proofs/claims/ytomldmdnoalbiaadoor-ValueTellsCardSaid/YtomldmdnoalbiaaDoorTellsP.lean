/- ValueTells: the walk. -/
import Derived.Test.YtomldmdnoalbiaaDoorEx02
import Derived.Test.YtomldmdnoalbiaaDoorNum24
import Derived.Test.YtomldmdnoalbiaaDoorWalkValueOnce
import Derived.Test.YtomldmdnoalbiaaDoorRefO
import Derived.Test.YtomldmdnoalbiaaDoorRefP
import Derived.Test.YtomldmdnoalbiaaDoorRefG
import Derived.Test.YtomldmdnoalbiaaDoorRefS
namespace Go.Proofs.YtomldmdnoalbiaaDoor
open Go.ChangeShapes Go.WideShapes Go.ChangeAt Go.RowKit
set_option linter.unusedVariables false
set_option linter.unusedSimpArgs false

def set3 (w : World) (b : Nat) (x y z : Value) : World := ((w.setCell ⟨b, 0, none⟩ x).setCell ⟨b, 1, none⟩ y).setCell ⟨b, 2, none⟩ z
theorem Box3.set {w : World} {b : Nat} {x y z : Value} (h : Box3 w b x y z) (x' y' z' : Value) : Box3 (set3 w b x' y' z') b x' y' z' := by
  obtain ⟨h0, h1, h2⟩ := h
  unfold set3
  refine ⟨?_, ?_, ?_⟩
  · simp [World.cell?_setCell_other, World.cell?_setCell_same', h0]
  · simp [World.cell?_setCell_other, World.cell?_setCell_same', h1]
  · simp [World.cell?_setCell_other, World.cell?_setCell_same', h2]
theorem Box3.far {w : World} {b c : Nat} {x y z : Value} (h : Box3 w b x y z) (hne : c ≠ b) (x' y' z' : Value) : Box3 (set3 w c x' y' z') b x y z := by
  obtain ⟨h0, h1, h2⟩ := h
  unfold set3
  have e : ∀ (o q : Nat) , (⟨c, q, none⟩ : Addr) ≠ ⟨b, o, none⟩ := fun o q h => hne (by injection h)
  refine ⟨?_, ?_, ?_⟩
  all_goals rw [World.cell?_setCell_other (h := e _ _), World.cell?_setCell_other (h := e _ _), World.cell?_setCell_other (h := e _ _)]; assumption
theorem below_set3 {B b : Nat} {a w : World} (h : Below B a w) (hp : B ≤ b) (x y z : Value) : Below B a (set3 w b x y z) := by
  unfold set3
  exact ((h.setCell (p := ⟨b, 0, none⟩) hp _).setCell (p := ⟨b, 1, none⟩) hp _).setCell (p := ⟨b, 2, none⟩) hp _

/-- A block that is no string's. -/
def NF (w : World) (b : Nat) : Prop := b < w.heap.size ∧ ∀ o, w.frozen? ⟨b, o, none⟩ = false
theorem NF.later {w w' : World} {b : Nat} (h : NF w b) (hb : Below w.heap.size w w') : NF w' b :=
  ⟨Nat.lt_of_lt_of_le h.1 hb.size, fun o => by rw [hb.frozen (p := ⟨b, o, none⟩) h.1]; exact h.2 o⟩
theorem NF.set3 {w : World} {b : Nat} (h : NF w b) (c : Nat) (x y z : Value) : NF (set3 w c x y z) b :=
  ⟨Nat.lt_of_lt_of_le h.1 (below_set3 (B := 0) (Below.refl 0 w) (Nat.zero_le c) x y z).size, fun o => by unfold Go.Proofs.YtomldmdnoalbiaaDoor.set3; rw [World.frozen?_setCell, World.frozen?_setCell, World.frozen?_setCell]; exact h.2 o⟩

theorem tells_pack (k n : Int) (s : ByteArray) (l m : Int) (t : ByteArray) (S : ByteArray) (a : Int) (hs : s.size ≤ maxLen) (n0 : -9223372036854775808 ≤ n) (n1 : n ≤ 9223372036854775807) (ht : t.size ≤ maxLen) (hS : S.size ≤ maxLen) :
    ∃ (gk gn : Int) (gs : ByteArray) (gx : Int) (gb : Bool) (x : Int) (ob rb : Bool) (X Y : ByteArray),
      (∀ w, Calls Tryd.prog 12 #[.string S, .int .i64 a] w fun e w' => e = .returned (.tuple #[vv gk gn gs, .int .i64 gx, .bool gb]) ∧ Below w.heap.size w w') ∧
      (∀ w, Calls Tryd.prog 13 #[.string S, .int .i64 a] w fun e w' => e = .returned (.tuple #[vv gk gn gs, .int .i64 gx, .bool gb]) ∧ Below w.heap.size w w') ∧
      (∀ w, Calls Tryd.prog 14 #[vv k n s, vv l m t] w fun e w' => e = .returned (.tuple #[.int .i64 x, .bool ob]) ∧ Below w.heap.size w w') ∧
      (∀ w, Calls Tryd.prog 15 #[vv k n s, vv l m t] w fun e w' => e = .returned (.tuple #[.int .i64 x, .bool ob]) ∧ Below w.heap.size w w') ∧
      (∀ w, Calls Tryd.prog 17 #[vv k n s] w fun e w' => e = .returned (.bool rb) ∧ Below w.heap.size w w') ∧
      (∀ w, Calls Tryd.prog 18 #[vv k n s] w fun e w' => e = .returned (.bool rb) ∧ Below w.heap.size w w') ∧
      (∀ w, Calls Tryd.prog 11 #[vv k n s] w fun e w' => e = .returned (.string X) ∧ Below w.heap.size w w') ∧
      (∀ w, Calls Tryd.prog 19 #[vv k n s] w fun e w' => e = .returned (.string X) ∧ Below w.heap.size w w') ∧
      (∀ w, Tab w → Calls Tryd.prog 20 #[vv k n s] w fun e w' => e = .returned (.string Y) ∧ Below w.heap.size w w') ∧
      (∀ w, Calls Tryd.prog 21 #[vv k n s] w fun e w' => e = .returned (.string Y) ∧ Below w.heap.size w w') := by
  obtain ⟨gk, gn, gs, gx, gb, hg⟩ : ∃ gk gn gs gx gb, valueV (Val.getAt S a) = .tuple #[vv gk gn gs, .int .i64 gx, .bool gb] := by
    rcases Val.getAt S a with _ | ⟨⟨gk, gn, gs⟩, gx⟩
    · exact ⟨_, _, _, _, _, rfl⟩
    · exact ⟨_, _, _, _, _, rfl⟩
  obtain ⟨x, ob, ho⟩ : ∃ x ob, orderV k n s l m t = .tuple #[.int .i64 x, .bool ob] := by
    rcases hr : Val.right k n s with _ | _
    · exact ⟨_, _, orderV_no (Or.inl hr)⟩
    rcases hq : Val.right l m t with _ | _
    · exact ⟨_, _, orderV_no (Or.inr (Or.inl hq))⟩
    by_cases hkl : k = l
    · subst hkl; exact ⟨_, _, orderV_cmp' hr hq⟩
    · exact ⟨_, _, orderV_no (Or.inr (Or.inr hkl))⟩
  refine ⟨gk, gn, gs, gx, gb, x, ob, Val.right k n s, ⟨(Val.put k n s).toArray⟩, ⟨(Val.showL k n s).toArray⟩, ?_, ?_, ?_, ?_, ?_, ?_, ?_, ?_, ?_, ?_⟩
  · intro w; rw [← hg]; exact Get_v S a w hS
  · intro w; rw [← hg]; exact rGetV_v S a w hS
  · intro w; rw [← ho]; exact Order_any k n s l m t w hs ht
  · intro w; rw [← ho]; exact rOrder_any k n s l m t w hs ht
  · intro w; exact Right_any k n s w hs
  · intro w; exact rRight_any k n s w hs
  · intro w; exact Put_v k n s w hs n0 n1
  · intro w; exact rPut_v k n s w hs n0 n1
  · intro w hT; exact Show_v k n s w hs n0 n1 hT
  · intro w; exact rShow_v k n s w hs n0 n1

theorem put_len_any (k n : Int) (s : ByteArray) (n0 : -9223372036854775808 ≤ n) (n1 : n ≤ 9223372036854775807) : (Val.put k n s).length ≤ 75 := by
  rcases hr : Val.right k n s with _ | _
  · rw [Val.put_no hr]; simp
  · rcases Val.right_kind hr with rfl | rfl | rfl
    · rw [Val.put_int hr]; have := Num.put_ten (Num.zig_natlt n n0 n1); simp; omega
    · rw [Val.put_bool hr]; simp
    · have hz := (Val.right_text hr).2
      rw [Val.put_text hr]; have := Num.put_ten (u := s.size) (by omega); simp; omega

end Go.Proofs.YtomldmdnoalbiaaDoor
