/- Binds of bytes: the closure that tells the next byte. -/
import Derived.Test.YtjddfjapopdciaaFeedOf2
namespace Go.Proofs.Ytjddfjapopdciaa
open Go.ChangeShapes Go.WideShapes Go.ChangeAt Go.RowKit
open Rk (inR)
set_option linter.unusedVariables false
set_option linter.unusedSimpArgs false

/-- What the closure keeps: its place, in block g; the bytes, in block gl. -/
def FB (w0 : World) (g gl : Nat) (lv : Value) (L : List UInt8) (w : World) : Prop :=
  Below w0.heap.size w0 w ∧ w0.heap.size ≤ g ∧ BytesAt w0 lv L ∧ (∃ at_ : Nat, at_ ≤ L.length ∧ Blk w g 3 #[.int .i64 at_]) ∧ (gl ≠ g ∧ Blk w gl 27 #[lv])
theorem FB.grown {w0 : World} {g gl : Nat} {lv : Value} {L : List UInt8} {w w' : World} (h : FB w0 g gl lv L w) (hb : GB g w w') (at_ : Nat) (ha : at_ ≤ L.length) (hg : Blk w' g 3 #[.int .i64 at_]) : FB w0 g gl lv L w' :=
  ⟨h.1.trans (gb_below hb h.1.size h.2.1), h.2.1, h.2.2.1, ⟨at_, ha, hg⟩, ⟨h.2.2.2.2.1, h.2.2.2.2.2.grown hb (fun e => h.2.2.2.2.1 (Option.some.inj e))⟩⟩
theorem FB.go {w0 : World} {g gl : Nat} {lv : Value} {L : List UInt8} {w w' : World} (h : FB w0 g gl lv L w) (hb : Below w.heap.size w w') : FB w0 g gl lv L w' := by
  obtain ⟨at_, ha, hg⟩ := h.2.2.2.1
  exact h.grown (gb_of hb) at_ ha (hg.later hb)
set_option maxHeartbeats 1000000 in
theorem nextB_any (w0 : World) (g gl : Nat) (lv : Value) (L : List UInt8) (w : World) (hL : L.length ≤ 140737488351232) (h : FB w0 g gl lv L w) :
    Calls Try.prog 35 #[.pointer (some ⟨g, 0, none⟩), .pointer (some ⟨gl, 0, none⟩)] w fun e w' => IntB e ∧ FB w0 g gl lv L w' ∧ GB g w w' := by
  obtain ⟨at_, ha, hg⟩ := h.2.2.2.1
  have c0 := hg.cell 0
  have c1 := h.2.2.2.2.2.cell 0
  have hf := hg.frozen 0
  rcases h.2.2.1 with ⟨rfl, rfl⟩ | ⟨a, cap, rfl, h1, h2, h3⟩
  · have H := Lib.hid h; clear h hg
    obtain rfl : at_ = 0 := by simpa using ha
    clear ha
    go_enter Try.func35, Try.ntmps35
    go_wp2_with fail
    go_ret
    exact ⟨⟨0, by omega, rfl⟩, H.out, gb_refl _ _⟩
  · by_cases hlt : at_ < L.length
    · have hc := h3 at_ hlt
      have hab : a.block < w0.heap.size := by have := World.block_lt_of_cell? w0 _ hc; rwa [addr_blk] at this
      have hc' : w.cell? (a.add at_) = some (.int .u8 (L[at_].toNat : Int)) := by rw [h.1.cell (World.block_lt_of_cell? w0 _ hc)]; exact hc
      have hx := (L[at_]'hlt).toNat_lt
      generalize (L[at_]'hlt).toNat = x at *
      have hne : (a.add at_).block ≠ g := by rw [addr_blk]; have := h.2.1; omega
      have hc2 : (w.setCell ⟨g, 0, none⟩ (.int .i64 ((at_ : Int) + 1))).cell? (a.add at_) = some (.int .u8 (x : Int)) := by
        rw [World.cell?_of_block (Below.heap_setCell w ⟨g, 0, none⟩ _ _ hne)]; exact hc'
      have hB2 : Blk (w.setCell ⟨g, 0, none⟩ (.int .i64 ((at_ : Int) + 1))) g 3 #[.int .i64 ((at_ + 1 : Nat) : Int)] := Blk.set_ hg 0 _
      have hgs := gb_set (g := g) w 0 (.int .i64 ((at_ : Int) + 1))
      have hF2 := h.grown hgs (at_ + 1) hlt hB2
      have d1 : (w.setCell ⟨g, 0, none⟩ (.int .i64 ((at_ : Int) + 1))).cell? ⟨gl, 0, none⟩ = some (.slice (some a) L.length cap) := (h.2.2.2.2.2.grown hgs (fun e => h.2.2.2.2.1 (Option.some.inj e))).cell 0
      have H := Lib.hid (And.intro hgs hF2)
      clear h hg h3 hc hc' hgs hB2 hF2 hne hab
      have hl63 : L.length ≤ 9223372036854775807 := by omega
      go_enter Try.func35, Try.ntmps35
      go_wp2_with fail
      go_ret
      exact ⟨⟨x, by omega, rfl⟩, H.out.2, H.out.1⟩
    · obtain rfl : at_ = L.length := by omega
      have H := Lib.hid h; clear h hg h3
      have hl63 : L.length ≤ 9223372036854775807 := by omega
      go_enter Try.func35, Try.ntmps35
      go_wp2_with fail
      go_ret
      exact ⟨⟨0, by omega, rfl⟩, H.out, gb_refl _ _⟩
end Go.Proofs.Ytjddfjapopdciaa
