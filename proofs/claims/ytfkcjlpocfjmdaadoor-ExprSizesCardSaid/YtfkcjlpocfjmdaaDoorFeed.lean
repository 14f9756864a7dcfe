/- A feed of bytes, of which expressions are made: what it keeps; the next byte. -/
import Derived.Test.YtfkcjlpocfjmdaaDoorTree
import Derived.Test.YtfkcjlpocfjmdaaDoorCells2
import Derived.Deep.QuietTactic
import Derived.BigQuiet
namespace Go.Proofs.YtfkcjlpocfjmdaaDoor
open Go.ChangeShapes Go.WideShapes Go.ChangeAt Go.RowKit
set_option linter.unusedVariables false
set_option linter.unusedSimpArgs false

abbrev GB (g : Nat) (w w' : World) : Prop := w.grownBy w' (some g)
theorem gb_of {g : Nat} {w w' : World} (h : Below w.heap.size w w') : GB g w w' := ⟨h.os, h.tape, h.output, h.size, fun k hk _ => h.block k hk⟩
theorem gb_refl (g : Nat) (w : World) : GB g w w := ⟨rfl, rfl, rfl, Nat.le_refl _, fun _ _ _ => rfl⟩
theorem gb_trans {g : Nat} {a b c : World} (h : GB g a b) (k : GB g b c) : GB g a c :=
  ⟨k.os.trans h.os, k.tape.trans h.tape, k.output.trans h.output, Nat.le_trans h.size k.size, fun j hj hn => (k.block j (Nat.lt_of_lt_of_le hj h.size) hn).trans (h.block j hj hn)⟩
theorem gb_below {g : Nat} {a b : World} {B : Nat} (h : GB g a b) (hB : B ≤ a.heap.size) (hg : B ≤ g) : Below B a b :=
  grownBy_below h hB (fun k hk => by obtain rfl := Option.some.inj hk; exact hg)
theorem gb_set {g : Nat} (w : World) (j : Nat) (v : Value) : GB g w (w.setCell ⟨g, j, none⟩ v) :=
  ⟨rfl, rfl, rfl, by simp, fun k _ hk => Below.heap_setCell w ⟨g, j, none⟩ v k (fun e => hk (by rw [e]))⟩
theorem gb_drew (g : Nat) (w : World) (n : Nat) : GB g w (w.drewN n) := gb_of (below_drewN (Below.refl _ _) n)
abbrev fC (lv : Value) (at_ gv : Nat) : Array Value := #[lv, .int .i64 at_, .slice (some ⟨gv, 0, none⟩) 1 1, .int .i64 0]
abbrev nK : ByteArray := ⟨#[107]⟩
abbrev nX : ByteArray := ⟨#[120]⟩
abbrev nY : ByteArray := ⟨#[121]⟩
abbrev nS : ByteArray := ⟨#[115]⟩
abbrev nT : ByteArray := ⟨#[116]⟩
abbrev nA : ByteArray := ⟨#[97]⟩
abbrev nB : ByteArray := ⟨#[98]⟩
/-- What a feed keeps: g: it; gv, gk: the variable ahead, and its fields; go: the own one's fields. -/
def FD (w0 : World) (g gv gk go : Nat) (lv : Value) (L : List UInt8) (w : World) : Prop :=
  Below w0.heap.size w0 w ∧ w0.heap.size ≤ g ∧ BytesAt w0 lv L ∧ (∃ at_ : Nat, at_ ≤ L.length ∧ Blk w g 62 (fC lv at_ gv)) ∧
  (gv ≠ g ∧ Blk w gv 59 #[.string nA, .slice (some ⟨gk, 0, none⟩) 2 2]) ∧ (gk ≠ g ∧ Blk w gk 9 #[.string nK, .string nX]) ∧ (go ≠ g ∧ Blk w go 9 #[.string nK, .string nY, .string nS, .string nT])
theorem FD.grown {w0 : World} {g gv gk go : Nat} {lv : Value} {L : List UInt8} {w w' : World} (h : FD w0 g gv gk go lv L w) (hb : GB g w w') (at_ : Nat) (ha : at_ ≤ L.length) (hg : Blk w' g 62 (fC lv at_ gv)) : FD w0 g gv gk go lv L w' :=
  ⟨h.1.trans (gb_below hb h.1.size h.2.1), h.2.1, h.2.2.1, ⟨at_, ha, hg⟩, ⟨h.2.2.2.2.1.1, h.2.2.2.2.1.2.grown hb (fun e => h.2.2.2.2.1.1 (Option.some.inj e))⟩, ⟨h.2.2.2.2.2.1.1, h.2.2.2.2.2.1.2.grown hb (fun e => h.2.2.2.2.2.1.1 (Option.some.inj e))⟩, ⟨h.2.2.2.2.2.2.1, h.2.2.2.2.2.2.2.grown hb (fun e => h.2.2.2.2.2.2.1 (Option.some.inj e))⟩⟩
theorem FD.go {w0 : World} {g gv gk go : Nat} {lv : Value} {L : List UInt8} {w w' : World} (h : FD w0 g gv gk go lv L w) (hb : Below w.heap.size w w') : FD w0 g gv gk go lv L w' := by
  obtain ⟨at_, ha, hg⟩ := h.2.2.2.1
  exact h.grown (gb_of hb) at_ ha (hg.later hb)
def IntB (e : Ending) : Prop := ∃ b : Nat, b ≤ 255 ∧ e = .returned (.int .i64 b)
set_option maxHeartbeats 1000000 in
theorem next_any (w0 : World) (g gv gk go : Nat) (lv : Value) (L : List UInt8) (w : World) (hL : L.length ≤ 140737488351232) (h : FD w0 g gv gk go lv L w) :
    Calls Tryd.prog 29 #[.pointer (some ⟨g, 0, none⟩)] w fun e w' => IntB e ∧ FD w0 g gv gk go lv L w' ∧ GB g w w' := by
  obtain ⟨at_, ha, hg⟩ := h.2.2.2.1
  have c0 := hg.cell 0
  have c1 := hg.cell 1
  have hf := hg.frozen 1
  rcases h.2.2.1 with ⟨rfl, rfl⟩ | ⟨a, cap, rfl, h1, h2, h3⟩
  · have H := Lib.hid h; clear h hg
    obtain rfl : at_ = 0 := by simpa using ha
    clear ha
    go_enter Tryd.func29, Tryd.ntmps29
    go_wp2_with fail
    go_quiet (fail)
    go_wp2_with fail
    go_ret
    exact ⟨⟨0, by omega, rfl⟩, H.out.go (below_drewN (Below.refl _ _) _), gb_drew _ _ _⟩
  · by_cases hlt : at_ < L.length
    · have hc := h3 at_ hlt
      have hab : a.block < w0.heap.size := by have := World.block_lt_of_cell? w0 _ hc; rwa [addr_blk] at this
      have hc' : w.cell? (a.add at_) = some (.int .u8 (L[at_].toNat : Int)) := by rw [h.1.cell (World.block_lt_of_cell? w0 _ hc)]; exact hc
      have hx := (L[at_]'hlt).toNat_lt
      generalize (L[at_]'hlt).toNat = x at *
      have hne : (a.add at_).block ≠ g := by rw [addr_blk]; have := h.2.1; omega
      have hc2 : ∀ n, ((w.drewN n).setCell ⟨g, 1, none⟩ (.int .i64 ((at_ : Int) + 1))).cell? (a.add at_) = some (.int .u8 (x : Int)) := fun n => by
        rw [World.cell?_of_block (Below.heap_setCell (w.drewN n) ⟨g, 1, none⟩ _ _ hne)]; exact hc'
      have hB2 : ∀ n, Blk ((w.drewN n).setCell ⟨g, 1, none⟩ (.int .i64 ((at_ : Int) + 1))) g 62 (fC (.slice (some a) L.length cap) (at_ + 1) gv) := fun n => Blk.set_ (show Blk (w.drewN n) g _ _ from hg) 1 _
      have hgs := fun n => gb_trans (gb_drew g w n) (gb_set (g := g) (w.drewN n) 1 (.int .i64 ((at_ : Int) + 1)))
      have hF2 := fun n => h.grown (hgs n) (at_ + 1) hlt (hB2 n)
      have H := Lib.hid (And.intro hgs hF2)
      have d0 := fun n => (hB2 n).cell 0
      have d1 := fun n => (hB2 n).cell 1
      clear h hg h3 hc hc' hgs hB2 hF2 hne hab
      have hl63 : L.length ≤ 9223372036854775807 := by omega
      go_enter Tryd.func29, Tryd.ntmps29
      go_wp2_with fail
      go_quiet (fail)
      go_wp2_with fail
      go_quiet (fail)
      go_wp2_with fail
      go_ret
      exact ⟨⟨x, by omega, rfl⟩, (H.out.2 _).go (below_drewN (Below.refl _ _) _), gb_trans (H.out.1 _) (gb_drew _ _ _)⟩
    · obtain rfl : at_ = L.length := by omega
      have H := Lib.hid h; clear h hg h3
      have hl63 : L.length ≤ 9223372036854775807 := by omega
      go_enter Tryd.func29, Tryd.ntmps29
      go_wp2_with fail
      go_quiet (fail)
      go_wp2_with fail
      go_ret
      exact ⟨⟨0, by omega, rfl⟩, H.out.go (below_drewN (Below.refl _ _) _), gb_drew _ _ _⟩
end Go.Proofs.YtfkcjlpocfjmdaaDoor
