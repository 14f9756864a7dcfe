/- Texts that several proofs stand on, part 13. -/
import Derived.Test.YtenmbahfgfmjjaaDoorQ5
import Derived.Test.YtenmbahfgfmjjaaDoorQ7
import Derived.Test.YtenmbahfgfmjjaaDoorQ12
import Derived.Deep.QuietTactic
import Derived.BigQuiet
namespace Go.Proofs.YtenmbahfgfmjjaaDoor
open Go.ChangeShapes Go.WideShapes Go.ChangeAt Go.RowKit
set_option linter.unusedVariables false
set_option linter.unusedSimpArgs false

abbrev GB (g : Nat) (w w' : World) : Prop := w.grownBy w' (some g)
theorem gb_of {g : Nat} {w w' : World} (h : Below w.heap.size w w') : GB g w w' := ⟨h.os, h.tape, h.output, h.size, fun k hk _ => h.block k hk⟩
theorem gb_refl (g : Nat) (w : World) : GB g w w := ⟨rfl, rfl, rfl, Nat.le_refl _, fun _ _ _ => rfl⟩
theorem gb_trans {g : Nat} {a b c : World} (h : GB g a b) (k : GB g b c) : GB g a c :=
  ⟨k.os.trans h.os, k.tape.trans h.tape, k.output.trans h.output, Nat.le_trans h.size k.size, fun j hj hn => (k.block j (Nat.lt_of_lt_of_le hj h.size) hn).trans (h.block j hj hn)⟩
theorem gb_below {g : Nat} {a b : World} {B : Nat} (h : GB g a b) (hB : B ≤ a.heap.size) (hg : B ≤ g) : Below B a b :=
  grownBy_below h hB (fun k hk => by obtain rfl := Option.some.inj hk; exact hg)
theorem gb_set {g : Nat} (w : World) (j : Nat) (v : Value) : GB g w (w.setCell ⟨g, j, none⟩ v) :=
  ⟨rfl, rfl, rfl, by simp, fun k _ hk => Below.heap_setCell w ⟨g, j, none⟩ v k (fun e => hk (by rw [e]))⟩
theorem gb_drew (g : Nat) (w : World) (n : Nat) : GB g w (w.drewN n) := gb_of (below_drewN (Below.refl _ _) n)
abbrev nK : ByteArray := ⟨#[107]⟩
abbrev nX : ByteArray := ⟨#[120]⟩
abbrev nY : ByteArray := ⟨#[121]⟩
abbrev nS : ByteArray := ⟨#[115]⟩
abbrev nT : ByteArray := ⟨#[116]⟩
abbrev nA : ByteArray := ⟨#[97]⟩
abbrev nB : ByteArray := ⟨#[98]⟩
/-- A slot: its name, where its fields lie, and these. -/
abbrev Sl := (ByteArray × SV) × List ByteArray
/-- A slot, as a row has it. -/
abbrev slF (x : ByteArray × SV) : List Value := [.string x.1, sl x.2]
abbrev strsC (l : List ByteArray) : Array Value := (l.map Value.string).toArray
/-- The slots ahead, how they lie; how many there were; the own one. -/
structure Oo where
  vl : List Sl
  vv : Value
  many : Nat
  nm : ByteArray
  A : Option Addr
  n : Nat
  c : Nat
  fs : List ByteArray
abbrev Oo.own (oo : Oo) : Sl := ((oo.nm, (oo.A, oo.n, oo.c)), oo.fs)
abbrev fC (lv : Value) (at_ : Nat) (oo : Oo) : Array Value := #[lv, .int .i64 at_, oo.vv, .int .i64 (oo.many : Int)]
/-- A slot lies so: none of its rows in block g. -/
def SlotR (w : World) (g : Nat) (x : Sl) : Prop :=
  nameB x.1.1 = true ∧ ∃ b, b ≠ g ∧ x.1.2 = (some ⟨b, 0, none⟩, x.2.length, x.2.length) ∧ Blk w b 9 (strsC x.2) ∧ 0 < x.2.length ∧ x.2.length ≤ 4 ∧ ∀ f ∈ x.2, nameB f = true
theorem SlotR.grown {w w' : World} {g : Nat} {x : Sl} (h : SlotR w g x) (hb : GB g w w') : SlotR w' g x := by
  obtain ⟨h1, b, h2, h3, h4, h5⟩ := h
  exact ⟨h1, b, h2, h3, h4.grown hb (fun e => h2 (Option.some.inj e)), h5⟩
theorem SlotR.later {w w' : World} {g : Nat} {x : Sl} (h : SlotR w g x) (hb : Below w.heap.size w w') : SlotR w' g x := h.grown (gb_of hb)
/-- What a feed keeps, but for a slot of one's own: g: it; vl, vv: the slots ahead, where they lie; many: how many there were. -/
abbrev fV (lv : Value) (at_ : Nat) (vv : Value) (many : Nat) : Array Value := #[lv, .int .i64 at_, vv, .int .i64 (many : Int)]
def FV (w0 : World) (g : Nat) (vl : List Sl) (vv : Value) (many : Nat) (lv : Value) (L : List UInt8) (w : World) : Prop :=
  Below w0.heap.size w0 w ∧ w0.heap.size ≤ g ∧ BytesAt w0 lv L ∧ (∃ at_ : Nat, at_ ≤ L.length ∧ Blk w g 50 (fV lv at_ vv many)) ∧
  (Own w w0.heap.size 54 2 slF vv (vl.map (·.1)) ∧ vl.length ≤ 8) ∧ (∀ x ∈ vl, SlotR w g x)
theorem own_off {w : World} {B g : Nat} {v : Value} {l : List (ByteArray × SV)} {cs : Array Value} (hO : Own w B 54 2 slF v l) (hg : Blk w g 50 cs) : v.ownBlock ≠ some g := fun e => by
  rcases hO.2 with ⟨h0, _⟩ | ⟨g', cap, cur, h0, h1, h2, _⟩
  · rw [h0] at e; simp [Value.ownBlock] at e
  · rw [h0] at e
    simp [Value.ownBlock] at e
    subst e
    have h' : w.heap[g']? = some (.cells cs 50 (0, 0)) := hg
    rw [h2] at h'
    simp at h'
theorem FV.grown {w0 : World} {g : Nat} {vl : List Sl} {vv : Value} {many : Nat} {lv : Value} {L : List UInt8} {w w' : World} (h : FV w0 g vl vv many lv L w) (hb : GB g w w') (at_ : Nat) (ha : at_ ≤ L.length) (hg : Blk w' g 50 (fV lv at_ vv many)) : FV w0 g vl vv many lv L w' := by
  obtain ⟨_, _, hg0⟩ := h.2.2.2.1
  exact ⟨h.1.trans (gb_below hb h.1.size h.2.1), h.2.1, h.2.2.1, ⟨at_, ha, hg⟩, ⟨h.2.2.2.2.1.1.grown hb (fun b hb' e => own_off h.2.2.2.2.1.1 hg0 (by rw [e, ← hb'])), h.2.2.2.2.1.2⟩, fun x hx => (h.2.2.2.2.2 x hx).grown hb⟩
theorem FV.go {w0 : World} {g : Nat} {vl : List Sl} {vv : Value} {many : Nat} {lv : Value} {L : List UInt8} {w w' : World} (h : FV w0 g vl vv many lv L w) (hb : Below w.heap.size w w') : FV w0 g vl vv many lv L w' := by
  obtain ⟨at_, ha, hg⟩ := h.2.2.2.1
  exact h.grown (gb_of hb) at_ ha (hg.later hb)
def IntB (e : Ending) : Prop := ∃ b : Nat, b ≤ 255 ∧ e = .returned (.int .i64 b)
set_option maxHeartbeats 1000000 in
theorem next_fv (w0 : World) (g : Nat) (vl : List Sl) (vv : Value) (many : Nat) (lv : Value) (L : List UInt8) (w : World) (hL : L.length ≤ 140737488351232) (h : FV w0 g vl vv many lv L w) :
    Calls Tryd.prog 15 #[.pointer (some ⟨g, 0, none⟩)] w fun e w' => IntB e ∧ FV w0 g vl vv many lv L w' ∧ GB g w w' := by
  obtain ⟨at_, ha, hg⟩ := h.2.2.2.1
  have c0 := hg.cell 0
  have c1 := hg.cell 1
  have hf := hg.frozen 1
  rcases h.2.2.1 with ⟨rfl, rfl⟩ | ⟨a, cap, rfl, h1, h2, h3⟩
  · have H := Lib.hid h; clear h hg
    obtain rfl : at_ = 0 := by simpa using ha
    clear ha
    go_enter Tryd.func15, Tryd.ntmps15
    go_wp2_with fail
    go_quiet (fail)
    go_wp2_with fail
    go_ret
    exact ⟨⟨0, by omega, rfl⟩, H.out.go (below_drewN (Below.refl _ _) _), gb_drew _ _ _⟩
  · by_cases hlt : at_ < L.length
    · have hc := h3 at_ hlt
      have hab : a.block < w0.heap.size := by have := World.block_lt_of_cell? w0 _ hc; rwa [addr_blk] at this
      have hc' : w.cell? (a.add at_) = some (.int .u8 (L[at_].toNat : Int)) := by rw [h.1.cell (World.block_lt_of_cell? w0 _ hc)]; exact hc
      have hx := (L[at_]'hlt).toNat_lt
      generalize (L[at_]'hlt).toNat = x at *
      have hne : (a.add at_).block ≠ g := by rw [addr_blk]; have := h.2.1; omega
      have hc2 : ∀ n, ((w.drewN n).setCell ⟨g, 1, none⟩ (.int .i64 ((at_ : Int) + 1))).cell? (a.add at_) = some (.int .u8 (x : Int)) := fun n => by
        rw [World.cell?_of_block (Below.heap_setCell (w.drewN n) ⟨g, 1, none⟩ _ _ hne)]; exact hc'
      have hB2 : ∀ n, Blk ((w.drewN n).setCell ⟨g, 1, none⟩ (.int .i64 ((at_ : Int) + 1))) g 50 (fV (.slice (some a) L.length cap) (at_ + 1) vv many) := fun n => Blk.set_ (show Blk (w.drewN n) g _ _ from hg) 1 _
      have hgs := fun n => gb_trans (gb_drew g w n) (gb_set (g := g) (w.drewN n) 1 (.int .i64 ((at_ : Int) + 1)))
      have hF2 := fun n => h.grown (hgs n) (at_ + 1) hlt (hB2 n)
      have H := Lib.hid (And.intro hgs hF2)
      have d0 := fun n => (hB2 n).cell 0
      have d1 := fun n => (hB2 n).cell 1
      clear h hg h3 hc hc' hgs hB2 hF2 hne hab
      have hl63 : L.length ≤ 9223372036854775807 := by omega
      go_enter Tryd.func15, Tryd.ntmps15
      go_wp2_with fail
      go_quiet (fail)
      go_wp2_with fail
      go_quiet (fail)
      go_wp2_with fail
      go_ret
      exact ⟨⟨x, by omega, rfl⟩, (H.out.2 _).go (below_drewN (Below.refl _ _) _), gb_trans (H.out.1 _) (gb_drew _ _ _)⟩
    · obtain rfl : at_ = L.length := by omega
      have H := Lib.hid h; clear h hg h3
      have hl63 : L.length ≤ 9223372036854775807 := by omega
      go_enter Tryd.func15, Tryd.ntmps15
      go_wp2_with fail
      go_quiet (fail)
      go_wp2_with fail
      go_ret
      exact ⟨⟨0, by omega, rfl⟩, H.out.go (below_drewN (Below.refl _ _) _), gb_drew _ _ _⟩
/-- What a feed keeps: g: it. -/
def FD (w0 : World) (g : Nat) (oo : Oo) (lv : Value) (L : List UInt8) (w : World) : Prop :=
  Below w0.heap.size w0 w ∧ w0.heap.size ≤ g ∧ BytesAt w0 lv L ∧ (∃ at_ : Nat, at_ ≤ L.length ∧ Blk w g 50 (fC lv at_ oo)) ∧
  (Own w w0.heap.size 54 2 slF oo.vv (oo.vl.map (·.1)) ∧ oo.vl.length ≤ 8) ∧ (∀ x ∈ oo.vl, SlotR w g x) ∧ SlotR w g oo.own
theorem FD.fv {w0 : World} {g : Nat} {oo : Oo} {lv : Value} {L : List UInt8} {w : World} (h : FD w0 g oo lv L w) : FV w0 g oo.vl oo.vv oo.many lv L w := ⟨h.1, h.2.1, h.2.2.1, h.2.2.2.1, h.2.2.2.2.1, h.2.2.2.2.2.1⟩
theorem FV.fd {w0 : World} {g : Nat} {oo : Oo} {lv : Value} {L : List UInt8} {w : World} (h : FV w0 g oo.vl oo.vv oo.many lv L w) (ho : SlotR w g oo.own) : FD w0 g oo lv L w := ⟨h.1, h.2.1, h.2.2.1, h.2.2.2.1, h.2.2.2.2.1, h.2.2.2.2.2, ho⟩
theorem FD.grown {w0 : World} {g : Nat} {oo : Oo} {lv : Value} {L : List UInt8} {w w' : World} (h : FD w0 g oo lv L w) (hb : GB g w w') (at_ : Nat) (ha : at_ ≤ L.length) (hg : Blk w' g 50 (fC lv at_ oo)) : FD w0 g oo lv L w' :=
  (h.fv.grown hb at_ ha hg).fd (h.2.2.2.2.2.2.grown hb)
theorem FD.go {w0 : World} {g : Nat} {oo : Oo} {lv : Value} {L : List UInt8} {w w' : World} (h : FD w0 g oo lv L w) (hb : Below w.heap.size w w') : FD w0 g oo lv L w' := by
  obtain ⟨at_, ha, hg⟩ := h.2.2.2.1
  exact h.grown (gb_of hb) at_ ha (hg.later hb)
theorem FD.nm {w0 : World} {g : Nat} {oo : Oo} {lv : Value} {L : List UInt8} {w : World} (h : FD w0 g oo lv L w) : nameB oo.nm = true := h.2.2.2.2.2.2.1
theorem next_any (w0 : World) (g : Nat) (oo : Oo) (lv : Value) (L : List UInt8) (w : World) (hL : L.length ≤ 140737488351232) (h : FD w0 g oo lv L w) :
    Calls Tryd.prog 15 #[.pointer (some ⟨g, 0, none⟩)] w fun e w' => IntB e ∧ FD w0 g oo lv L w' ∧ GB g w w' := by
  refine (next_fv w0 g oo.vl oo.vv oo.many lv L w hL h.fv).mono ?_
  rintro e w' ⟨h1, h2, h3⟩
  exact ⟨h1, h2.fd (h.2.2.2.2.2.2.grown h3), h3⟩
end Go.Proofs.YtenmbahfgfmjjaaDoor
