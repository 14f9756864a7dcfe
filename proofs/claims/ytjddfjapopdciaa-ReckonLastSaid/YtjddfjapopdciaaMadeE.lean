/- What a statement of reckon begins with: an expression, and binds, of bytes; operations of two. -/
import Derived.Test.YtjddfjapopdciaaShort
import Derived.Test.YtjddfjapopdciaaKeep
import Derived.Test.YtjddfjapopdciaaBindsD
import Derived.Test.YtjddfjapopdciaaMade
import Derived.Deep.RegionHeld3
namespace Go.Proofs.Ytjddfjapopdciaa
open Go.ChangeShapes Go.WideShapes Go.ChangeAt Go.RowKit
open Rk (inR)
set_option linter.unusedVariables false
set_option linter.unusedSimpArgs false

/-- What is told is an operation of two, a tree. -/
def IsN (op : ByteArray) (T : Tr) (e : Ending) (w : World) : Prop := ∃ A n c, e = .returned (ev 4 op 0 0 e0 e0 e0 (.slice A n c)) ∧ TrAt w T (.slice A n c)
/-- What is told is a right tree, its node in full. -/
def MadeE (e : Ending) (w : World) : Prop := ∃ (t : Tr) (k1 : Int) (o1 : ByteArray) (a1 b1 : Int) (s1 v1 f1 : ByteArray) (A1 : Option Addr) (n1 c1 : Nat) (A : Option Addr) (n c : Nat), e = .returned (ev k1 o1 a1 b1 s1 v1 f1 (.slice A1 n1 c1)) ∧ TrAt w t (.slice A n c) ∧ t.ok = true ∧ t.small ∧ t.val (.slice A n c) = ev k1 o1 a1 b1 s1 v1 f1 (.slice A1 n1 c1)
theorem made_ev (lv : Value) (L : List UInt8) (w : World) (hv : BytesAt w lv L) (hL : L.length ≤ 140737488351232) :
    Calls Try.prog 13 #[lv] w fun e w' => MadeE e w' ∧ Below w.heap.size w w' := by
  refine (made_any lv L w hv hL).mono ?_
  rintro e w' ⟨⟨t, K, rfl, hT, ho, hs⟩, hb⟩
  obtain ⟨A, n, c, rfl⟩ := hT.sl
  obtain ⟨k1, o1, a1, b1, s1, v1, f1, A1, n1, c1, e1, e2⟩ := Tr.val_ev t A n c w' hT
  exact ⟨⟨t, k1, o1, a1, b1, s1, v1, f1, A1, n1, c1, A, n, c, by rw [e1], hT, ho, hs, e1⟩, hb⟩
/-- What is told are binds. -/
def BindsE (e : Ending) (w : World) : Prop := ∃ (A : Option Addr) (n c : Nat) (l : List Bd), e = .returned (.slice A n c) ∧ BdsAt w (.slice A n c) l ∧ okBds l
theorem binds_ev (lv : Value) (L : List UInt8) (w : World) (hv : BytesAt w lv L) (hL : L.length ≤ 140737488351232) :
    Calls Try.prog 12 #[lv] w fun e w' => BindsE e w' ∧ Below w.heap.size w w' := by
  refine (binds_any lv L w hv hL).mono ?_
  rintro e w' ⟨⟨v, l, rfl, hB, ho⟩, hb⟩
  obtain ⟨A, n, c, rfl⟩ := hB.sl
  exact ⟨⟨A, n, c, l, rfl, hB, ho⟩, hb⟩
theorem bytes_sl {w : World} {v : Value} {l : List UInt8} (h : BytesAt w v l) : ∃ A n c, v = .slice A n c := by
  rcases h with ⟨rfl, _⟩ | ⟨a, cap, rfl, _⟩ <;> exact ⟨_, _, _, rfl⟩
theorem two_isN (op : ByteArray) (x y : Tr) (vx vy kx ky : Value) (w : World) (ex : x.val kx = vx) (ey : y.val ky = vy) (hx : TrAt w x kx) (hy : TrAt w y ky) :
    Calls Try.prog 32 #[.string op, vx, vy] w fun e w' => IsN op (.bin op x y) e w' ∧ Below w.heap.size w w' := by
  subst ex; subst ey
  refine (two_tr op x y kx ky w hx hy).mono ?_
  rintro e w' ⟨⟨K, rfl, hT⟩, hb⟩
  obtain ⟨A, n, c, rfl⟩ := hT.sl
  exact ⟨⟨A, n, c, rfl, hT⟩, hb⟩
theorem Reckon_isN (op : ByteArray) (x y : Tr) (l : List Bd) (r : Option V3) (A : Option Addr) (n c : Nat) (L : Value) (w : World) (h : TrAt w (.bin op x y) (.slice A n c)) (ho : (Tr.bin op x y).ok = true) (hs : (Tr.bin op x y).small) (hl : BdsAt w L l) (hk : okBds l) (hr : evalT l (.bin op x y) = r) :
    Calls Try.prog 14 #[ev 4 op 0 0 e0 e0 e0 (.slice A n c), L] w fun e w' => e = toldV r ∧ Below w.heap.size w w' := by
  subst hr
  exact Reckon_tr (.bin op x y) _ L l w h ho hs hl hk
theorem Holds_isN (op : ByteArray) (x y : Tr) (l : List Bd) (r : Option V3) (A : Option Addr) (n c : Nat) (L : Value) (w : World) (h : TrAt w (.bin op x y) (.slice A n c)) (ho : (Tr.bin op x y).ok = true) (hs : (Tr.bin op x y).small) (hl : BdsAt w L l) (hk : okBds l) (hr : evalT l (.bin op x y) = r) :
    Calls Try.prog 18 #[ev 4 op 0 0 e0 e0 e0 (.slice A n c), L] w fun e w' => e = .returned (.bool (isYes r)) ∧ Below w.heap.size w w' := by
  subst hr
  exact Holds_tr (.bin op x y) _ L l w h ho hs hl hk
end Go.Proofs.Ytjddfjapopdciaa
