/- Contracts of package expr: layKid. -/
import Derived.Test.YtenmbahfgfmjjaaDoorLayB
import Derived.Deep.RegionHeld3
import Derived.Deep.AppendLies
namespace Go.Proofs.YtenmbahfgfmjjaaDoor
open Go.ChangeShapes Go.WideShapes Go.ChangeAt Go.RowKit
open Rk (inR)
set_option linter.unusedVariables false
set_option linter.unusedSimpArgs false

abbrev r40 : Obj := .cells #[.int .u8 40] 5
abbrev r41 : Obj := .cells #[.int .u8 41] 5
theorem own_lt {α : Type} {w : World} {B : Nat} {e : TypeId} {k : Nat} {f : α → List Value} {v : Value} {l : List α} (h : Own w B e k f v l) {g : Nat} (hg : v.ownBlock = some g) : B ≤ g ∧ g < w.heap.size := by
  rcases h.2 with ⟨rfl, _⟩ | ⟨i, cap, cur, rfl, h1, h2, _⟩
  · simp [Value.ownBlock] at hg
  · simp [Value.ownBlock] at hg
    subst hg
    exact ⟨h1, (Array.getElem?_eq_some_iff.1 h2).1⟩
theorem own_nb {α : Type} {w : World} {b : Nat} {e t : TypeId} {k : Nat} {f : α → List Value} {v : Value} {l : List α} {g : Nat} {cs : Array Value} (h : Own w b e k f v l) (hB : Blk w g t cs) (hne : e ≠ t) : v.ownBlock ≠ some g := by
  intro hy
  rcases h.2 with ⟨rfl, _⟩ | ⟨i, cap, cur, rfl, h1, h2, _⟩
  · simp [Value.ownBlock] at hy
  · simp [Value.ownBlock] at hy
    subst hy
    unfold Blk at hB
    rw [hB] at h2
    simp at h2
    exact hne h2.2.symm
/-- Behind the append of one byte. -/
theorem app1 {w1 Wx w5 : World} {B : Nat} {v : Value} {l : List UInt8} {by_ : UInt8} {g cap : Nat} (hb : Below w1.heap.size w1 Wx) (hO : OwnB w1 B v l)
    (h5 : w5.ownsRow B 5 1 (.slice (some ⟨g, 0, none⟩) (l.length + 1) cap) (l.length + 1) (l.flatMap byF ++ [.int .u8 (by_.toNat : Int)])) (hg : Wx.grownBy w5 v.ownBlock) (hat : v.ownBlock = some g ∨ g = Wx.heap.size) :
    OwnB w5 B (.slice (some ⟨g, 0, none⟩) (l.length + 1) cap) (l ++ [by_]) ∧ Wr w1 v w5 (.slice (some ⟨g, 0, none⟩) (l.length + 1) cap) :=
  ⟨Own.more rfl h5, Wr.pre hb ⟨hg, hat.imp (fun e => e.symm) (fun e => ⟨g, rfl, by omega⟩)⟩⟩
theorem blk_wr {w w' : World} {v v' : Value} {g : Nat} {t : TypeId} {cs : Array Value} (h : Wr w v w' v') (hB : Blk w g t cs) (hg : v.ownBlock ≠ some g) : Blk w' g t cs := hB.grown h.grown (fun e => hg e.symm)
theorem row41 {w1 Wx w5 : World} {B : Nat} {v : Value} {l : List UInt8} {g gp cap n : Nat} {cs : Array Value} (hR : Blk Wx gp 5 cs) (hO : OwnB w1 B v l) (hp : w1.heap.size ≤ gp) (hg : Wx.grownBy w5 v.ownBlock) (hat : v.ownBlock = some g ∨ g = Wx.heap.size) (hlt : gp < Wx.heap.size) :
    Blk w5 gp 5 cs ∧ (Value.slice (some ⟨g, 0, none⟩) n cap).ownBlock ≠ some gp := by
  refine ⟨hR.grown hg (fun e => by have := (own_lt hO e.symm).2; omega), fun e => ?_⟩
  have e' : g = gp := by simpa [Value.ownBlock] using e
  subst e'
  rcases hat with h | h
  · have := (own_lt hO h).2; omega
  · omega
theorem wr_below {w w' : World} {v v' : Value} {B : Nat} {l : List UInt8} (h : Wr w v w' v') (hO : OwnB w B v l) (hb : B ≤ w.heap.size) : Below B w w' :=
  grownBy_below h.grown hb (fun k hk => (own_lt hO hk).1)
set_option maxRecDepth 20000 in
set_option maxHeartbeats 4000000 in
theorem kid_br (k : Int) (op : ByteArray) (vk vn : Int) (vs va f : ByteArray) (K : Value) (w : World) (v : Value) (B m : Nat) (l p : List UInt8) (hO : OwnB w B v l) (hb : B ≤ w.heap.size) (hl : l.length + 1 ≤ m) (hlp : l.length + p.length + 2 ≤ 1000000000)
    (HL : ∀ W v' l', Below B w W → OwnB W B v' l' → l'.length ≤ m → Calls Tryd.prog 66 #[v', ev k op vk vn vs va f K] W fun e w' => LayT W v' B (l' ++ p) e w') (hK : ∃ A n c, K = .slice A n c) :
    Calls Tryd.prog 79 #[v, ev k op vk vn vs va f K, .bool true] w fun e w' => LayT w v B (l ++ 40 :: (p ++ [41])) e w' := by
  obtain ⟨i0, hi, hz0, hz1, hz2⟩ := info_parts Tryd.infoU8
  obtain ⟨KA, Kn, Kc, rfl⟩ := hK
  obtain ⟨A, n, c, rfl⟩ := own_shape hO
  have bb := ba w (.cells #[.int .i64 k, .string op, .int .i64 vk, .int .i64 vn, .string vs, .string va, .string f, .slice KA Kn Kc] 42)
  have hB := Blk.new w 42 #[.int .i64 k, .string op, .int .i64 vk, .int .i64 vn, .string vs, .string va, .string f, .slice KA Kn Kc]
  have H0 := Lib.hid (And.intro hO (And.intro bb (And.intro hB HL))); clear hO bb hB HL
  go_enter Tryd.func79, Tryd.ntmps79
  go_wp2_with fail
  have hO1 := Own.later H0.out.1 H0.out.2.1
  have hB1 := H0.out.2.2.1
  have hb1 : Below w.heap.size w _ := H0.out.2.1
  have hw1 := hb1.size
  generalize w.alloc _ = w1 at *
  generalize hbx : w.heap.size = b at *
  have hne : (Value.slice A n c).ownBlock ≠ some b := own_nb hO1 hB1 (by decide)
  have nA := blk_cells (blk_drew (Blk.new (w1.alloc r41) 5 #[.int .u8 40]))
  rw [World.size_alloc] at nA
  have nB := blk_cells (blk_drew ((Blk.new w1 5 #[.int .u8 40]).alloc r41))
  have nC := blk_cells (blk_drew (Blk.new w1 5 #[.int .u8 40]))
  have H1 := Lib.hid (And.intro hO1 (And.intro hB1 (And.intro hb1 (And.intro nA (And.intro nB (And.intro nC hne)))))); clear hO1 hB1 hb1 nA nB nC hne
  have p0 := H1.out.2.1.cell
  have hl1 : B ≤ w1.heap.size := by omega
  have hb0 : Hid (Below w.heap.size w w1) := Lib.hid (by rw [hbx]; exact H1.out.2.2.1)
  have hb2 : Hid (B ≤ w.heap.size) := Lib.hid (by rw [hbx]; exact hb)
  have HX := Lib.hid hbx; clear hbx
  obtain ⟨L6, hL6⟩ : ∃ L : List UInt8, l ++ [40] ++ p = L := ⟨_, rfl⟩
  have hl6 : L6.length ≤ 999999999 := by rw [← hL6]; simp; omega
  have HL6 := Lib.hid hL6; clear hL6
  go_region_held3 (fun w' => ∀ j, w'.cell? ⟨b, j, none⟩ = (#[.int .i64 k, .string op, .int .i64 vk, .int .i64 vn, .string vs, .string va, .string f, .slice KA Kn Kc] : Array Value)[j]?) (first | exact H1.out.2.1.cell | exact (blk_drew H1.out.2.1).cell | exact (blk_drew (H1.out.2.1.alloc _)).cell | exact (blk_drew ((H1.out.2.1.alloc _).alloc _)).cell | exact E5.out.cell | exact (E5.out.alloc _).cell | exact E6.out.cell | exact (E6.out.alloc _).cell | exact E7.out.cell | go_keep) (first
    | ((refine step_append_lies _ (by rfl) (.tmp 12) (.tmp 13) 22 (by rfl) B 5 i0 (.int .u8 0) 1 1 Tryd.underlying22 hi hz0 hz1 hz2 rfl (by decide) (.slice A n c) l.length (l.flatMap byF) (by rfl) (World.ownsRow.drew (Own.later H1.out.1 (ba w1 r40))) ⟨w1.heap.size, 0, none⟩ 1 1 [.int .u8 40] (by rfl) rfl H1.out.2.2.2.2.2.1 (by simp [Value.oneCell']) (by decide) (by unfold maxLen; omega) (by omega) (by simp only [World.size_drew]; exact Nat.le_trans hl1 ((ba w1 r40)).size) _ rfl ?_; intro g5 cap5 w5 h5 hg5 hat5 _; have A5 := Lib.hid (app1 (w1 := w1) (by_ := 40) (below_drew (ba w1 r40)) H1.out.1 h5 hg5 hat5); have E5 := Lib.hid (blk_wr A5.out.2 H1.out.2.1 H1.out.2.2.2.2.2.2); clear h5 hg5 hat5))
    | ((refine step_append_lies _ (by rfl) (.tmp 12) (.tmp 13) 22 (by rfl) B 5 i0 (.int .u8 0) 1 1 Tryd.underlying22 hi hz0 hz1 hz2 rfl (by decide) (.slice A n c) l.length (l.flatMap byF) (by rfl) (World.ownsRow.drew (Own.later H1.out.1 (bt (ba w1 r41) (ba _ r40)))) ⟨w1.heap.size + 1, 0, none⟩ 1 1 [.int .u8 40] (by rfl) rfl H1.out.2.2.2.1 (by simp [Value.oneCell']) (by decide) (by unfold maxLen; omega) (by omega) (by simp only [World.size_drew]; exact Nat.le_trans hl1 ((bt (ba w1 r41) (ba _ r40))).size) _ rfl ?_; intro g5 cap5 w5 h5 hg5 hat5 _; have A5 := Lib.hid (app1 (w1 := w1) (by_ := 40) (below_drew (bt (ba w1 r41) (ba _ r40))) H1.out.1 h5 hg5 hat5); have E5 := Lib.hid (blk_wr A5.out.2 H1.out.2.1 H1.out.2.2.2.2.2.2); have R5 := Lib.hid (row41 (n := l.length + 1) (cap := cap5) (gp := w1.heap.size) (blk_drew ((Blk.new w1 5 #[.int .u8 41]).alloc r40)) H1.out.1 (Nat.le_refl _) hg5 hat5 (by simp only [World.size_drew, World.size_alloc]; omega)); clear h5 hg5 hat5))
    | ((refine step_append_lies _ (by rfl) (.tmp 12) (.tmp 13) 22 (by rfl) B 5 i0 (.int .u8 0) 1 1 Tryd.underlying22 hi hz0 hz1 hz2 rfl (by decide) (.slice A n c) l.length (l.flatMap byF) (by rfl) (World.ownsRow.drew (Own.later H1.out.1 (bt (ba w1 r40) (ba _ r41)))) ⟨w1.heap.size, 0, none⟩ 1 1 [.int .u8 40] (by rfl) rfl H1.out.2.2.2.2.1 (by simp [Value.oneCell']) (by decide) (by unfold maxLen; omega) (by omega) (by simp only [World.size_drew]; exact Nat.le_trans hl1 ((bt (ba w1 r40) (ba _ r41))).size) _ rfl ?_; intro g5 cap5 w5 h5 hg5 hat5 _; have A5 := Lib.hid (app1 (w1 := w1) (by_ := 40) (below_drew (bt (ba w1 r40) (ba _ r41))) H1.out.1 h5 hg5 hat5); have E5 := Lib.hid (blk_wr A5.out.2 H1.out.2.1 H1.out.2.2.2.2.2.2); have R5 := Lib.hid (row41 (n := l.length + 1) (cap := cap5) (gp := w1.heap.size + 1) (blk_drew (by have := Blk.new (w1.alloc r40) 5 #[.int .u8 41]; rwa [World.size_alloc] at this)) H1.out.1 (Nat.le_succ _) hg5 hat5 (by simp only [World.size_drew, World.size_alloc]; omega)); clear h5 hg5 hat5))
    | (go_at_call 66; refine (H0.out.2.2.2 w5 _ _ ((hb0.out.mono hb2.out).trans (wr_below A5.out.2 H1.out.1 hl1)) A5.out.1 (by simp; omega)).mono ?_; rintro e w6 ⟨A6, n6, c6, rfl, hO6, hW6⟩; have E6 := Lib.hid (blk_wr hW6 E5.out (own_nb A5.out.1 E5.out (by decide))); have W6 := Lib.hid (And.intro (show OwnB w6 B (.slice A6 n6 c6) L6 from by rw [← HL6.out]; exact hO6) (A5.out.2.trans hW6)); (try have R6 := Lib.hid (blk_wr hW6 R5.out.1 R5.out.2)); clear hO6 hW6)
    | (go_at_call 66; refine (H0.out.2.2.2 (w5.alloc r41) _ _ (((hb0.out.mono hb2.out).trans (wr_below A5.out.2 H1.out.1 hl1)).trans ((ba w5 r41).mono (Nat.le_trans hl1 A5.out.2.grown.size))) (Own.later A5.out.1 (ba w5 r41)) (by simp; omega)).mono ?_; rintro e w6 ⟨A6, n6, c6, rfl, hO6, hW6⟩; have E6 := Lib.hid (blk_wr hW6 (E5.out.alloc _) (own_nb A5.out.1 E5.out (by decide))); have R6 := Lib.hid (blk_wr hW6 (Blk.new w5 5 #[.int .u8 41]) (fun e => Nat.lt_irrefl _ (own_lt A5.out.1 e).2)); have W6 := Lib.hid (And.intro (show OwnB w6 B (.slice A6 n6 c6) L6 from by rw [← HL6.out]; exact hO6) (A5.out.2.trans (Wr.pre (ba w5 r41) hW6))); clear hO6 hW6)
    | ((refine step_append_lies _ (by rfl) (.tmp 16) (.tmp 17) 22 (by rfl) B 5 i0 (.int .u8 0) 1 1 Tryd.underlying22 hi hz0 hz1 hz2 rfl (by decide) (.slice A6 n6 c6) L6.length (L6.flatMap byF) (by rfl) W6.out.1 ⟨w5.heap.size, 0, none⟩ 1 1 [.int .u8 41] (by rfl) rfl (blk_cells R6.out) (by simp [Value.oneCell']) (by decide) (by unfold maxLen; omega) (by omega) (Nat.le_trans hl1 W6.out.2.grown.size) _ rfl ?_; intro g7 cap7 w7 h7 hg7 hat7 _; have A7 := Lib.hid (app1 (w1 := w6) (by_ := 41) (Below.refl _ _) W6.out.1 h7 hg7 hat7); have E7 := Lib.hid (blk_wr A7.out.2 E6.out (own_nb W6.out.1 E6.out (by decide))); clear h7 hg7 hat7))
    | ((refine step_append_lies _ (by rfl) (.tmp 16) (.tmp 17) 22 (by rfl) B 5 i0 (.int .u8 0) 1 1 Tryd.underlying22 hi hz0 hz1 hz2 rfl (by decide) (.slice A6 n6 c6) L6.length (L6.flatMap byF) (by rfl) W6.out.1 ⟨w1.heap.size, 0, none⟩ 1 1 [.int .u8 41] (by rfl) rfl (blk_cells R6.out) (by simp [Value.oneCell']) (by decide) (by unfold maxLen; omega) (by omega) (Nat.le_trans hl1 W6.out.2.grown.size) _ rfl ?_; intro g7 cap7 w7 h7 hg7 hat7 _; have A7 := Lib.hid (app1 (w1 := w6) (by_ := 41) (Below.refl _ _) W6.out.1 h7 hg7 hat7); have E7 := Lib.hid (blk_wr A7.out.2 E6.out (own_nb W6.out.1 E6.out (by decide))); clear h7 hg7 hat7))
    | ((refine step_append_lies _ (by rfl) (.tmp 16) (.tmp 17) 22 (by rfl) B 5 i0 (.int .u8 0) 1 1 Tryd.underlying22 hi hz0 hz1 hz2 rfl (by decide) (.slice A6 n6 c6) L6.length (L6.flatMap byF) (by rfl) W6.out.1 ⟨w1.heap.size + 1, 0, none⟩ 1 1 [.int .u8 41] (by rfl) rfl (blk_cells R6.out) (by simp [Value.oneCell']) (by decide) (by unfold maxLen; omega) (by omega) (Nat.le_trans hl1 W6.out.2.grown.size) _ rfl ?_; intro g7 cap7 w7 h7 hg7 hat7 _; have A7 := Lib.hid (app1 (w1 := w6) (by_ := 41) (Below.refl _ _) W6.out.1 h7 hg7 hat7); have E7 := Lib.hid (blk_wr A7.out.2 E6.out (own_nb W6.out.1 E6.out (by decide))); clear h7 hg7 hat7))
    | ((refine step_append_lies _ (by rfl) (.tmp 16) (.tmp 17) 22 (by rfl) B 5 i0 (.int .u8 0) 1 1 Tryd.underlying22 hi hz0 hz1 hz2 rfl (by decide) (.slice A6 n6 c6) L6.length (L6.flatMap byF) (by rfl) (Own.later W6.out.1 (ba w6 r41)) ⟨w6.heap.size, 0, none⟩ 1 1 [.int .u8 41] (by rfl) rfl (blk_cells (Blk.new w6 5 #[.int .u8 41])) (by simp [Value.oneCell']) (by decide) (by unfold maxLen; omega) (by omega) (Nat.le_trans (Nat.le_trans hl1 W6.out.2.grown.size) (ba w6 r41).size) _ rfl ?_; intro g7 cap7 w7 h7 hg7 hat7 _; have A7 := Lib.hid (app1 (w1 := w6) (by_ := 41) (ba w6 r41) W6.out.1 h7 hg7 hat7); have E7 := Lib.hid (blk_wr A7.out.2 E6.out (own_nb W6.out.1 E6.out (by decide))); clear h7 hg7 hat7)))
  all_goals
    go_wp2_with fail
    go_ret
    exact ⟨_, _, _, rfl, by have h := A7.out.1; have e : L6 ++ [41] = l ++ 40 :: (p ++ [41]) := by { rw [← HL6.out]; simp }; rw [e] at h; exact h, Wr.pre hb0.out (W6.out.2.trans A7.out.2)⟩
end Go.Proofs.YtenmbahfgfmjjaaDoor
