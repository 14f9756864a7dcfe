/- Texts that several proofs stand on, part 9. -/
import Derived.Test.YtenmbahfgfmjjaaDoorQ8
import Derived.Deep.RegionHeld3
import Derived.Deep.AppendLies
namespace Go.Proofs.YtenmbahfgfmjjaaDoor
open Go.ChangeShapes Go.WideShapes Go.ChangeAt Go.RowKit
open Rk (inR)
set_option linter.unusedVariables false
set_option linter.unusedSimpArgs false

abbrev r40 : Obj := .cells #[.int .u8 40] 5
abbrev r41 : Obj := .cells #[.int .u8 41] 5
theorem own_lt {α : Type} {w : World} {B : Nat} {e : TypeId} {k : Nat} {f : α → List Value} {v : Value} {l : List α} (h : Own w B e k f v l) {g : Nat} (hg : v.ownBlock = some g) : B ≤ g ∧ g < w.heap.size := by
  rcases h.2 with ⟨rfl, _⟩ | ⟨i, cap, cur, rfl, h1, h2, _⟩
  · simp [Value.ownBlock] at hg
  · simp [Value.ownBlock] at hg
    subst hg
    exact ⟨h1, (Array.getElem?_eq_some_iff.1 h2).1⟩
theorem own_nb {α : Type} {w : World} {b : Nat} {e t : TypeId} {k : Nat} {f : α → List Value} {v : Value} {l : List α} {g : Nat} {cs : Array Value} (h : Own w b e k f v l) (hB : Blk w g t cs) (hne : e ≠ t) : v.ownBlock ≠ some g := by
  intro hy
  rcases h.2 with ⟨rfl, _⟩ | ⟨i, cap, cur, rfl, h1, h2, _⟩
  · simp [Value.ownBlock] at hy
  · simp [Value.ownBlock] at hy
    subst hy
    unfold Blk at hB
    rw [hB] at h2
    simp at h2
    exact hne h2.2.symm
/-- Behind the append of one byte. -/
theorem app1 {w1 Wx w5 : World} {B : Nat} {v : Value} {l : List UInt8} {by_ : UInt8} {g cap : Nat} (hb : Below w1.heap.size w1 Wx) (hO : OwnB w1 B v l)
    (h5 : w5.ownsRow B 5 1 (.slice (some ⟨g, 0, none⟩) (l.length + 1) cap) (l.length + 1) (l.flatMap byF ++ [.int .u8 (by_.toNat : Int)])) (hg : Wx.grownBy w5 v.ownBlock) (hat : v.ownBlock = some g ∨ g = Wx.heap.size) :
    OwnB w5 B (.slice (some ⟨g, 0, none⟩) (l.length + 1) cap) (l ++ [by_]) ∧ Wr w1 v w5 (.slice (some ⟨g, 0, none⟩) (l.length + 1) cap) :=
  ⟨Own.more rfl h5, Wr.pre hb ⟨hg, hat.imp (fun e => e.symm) (fun e => ⟨g, rfl, by omega⟩)⟩⟩
theorem blk_wr {w w' : World} {v v' : Value} {g : Nat} {t : TypeId} {cs : Array Value} (h : Wr w v w' v') (hB : Blk w g t cs) (hg : v.ownBlock ≠ some g) : Blk w' g t cs := hB.grown h.grown (fun e => hg e.symm)
theorem row41 {w1 Wx w5 : World} {B : Nat} {v : Value} {l : List UInt8} {g gp cap n : Nat} {cs : Array Value} (hR : Blk Wx gp 5 cs) (hO : OwnB w1 B v l) (hp : w1.heap.size ≤ gp) (hg : Wx.grownBy w5 v.ownBlock) (hat : v.ownBlock = some g ∨ g = Wx.heap.size) (hlt : gp < Wx.heap.size) :
    Blk w5 gp 5 cs ∧ (Value.slice (some ⟨g, 0, none⟩) n cap).ownBlock ≠ some gp := by
  refine ⟨hR.grown hg (fun e => by have := (own_lt hO e.symm).2; omega), fun e => ?_⟩
  have e' : g = gp := by simpa [Value.ownBlock] using e
  subst e'
  rcases hat with h | h
  · have := (own_lt hO h).2; omega
  · omega
theorem wr_below {w w' : World} {v v' : Value} {B : Nat} {l : List UInt8} (h : Wr w v w' v') (hO : OwnB w B v l) (hb : B ≤ w.heap.size) : Below B w w' :=
  grownBy_below h.grown hb (fun k hk => (own_lt hO hk).1)
set_option maxRecDepth 20000 in
set_option maxHeartbeats 4000000 in
theorem kid_br (k : Int) (op : ByteArray) (vk vn : Int) (vs va f : ByteArray) (K : Value) (w : World) (v : Value) (B m : Nat) (l p : List UInt8) (hO : OwnB w B v l) (hb : B ≤ w.heap.size) (hl : l.length + 1 ≤ m) (hlp : l.length + p.length + 2 ≤ 1000000000)
    (HL : ∀ W v' l', Below B w W → OwnB W B v' l' → l'.length ≤ m → Calls Tryd.prog 66 #[v', ev k op vk vn vs va f K] W fun e w' => LayT W v' B (l' ++ p) e w') (hK : ∃ A n c, K = .slice A n c) :
    Calls Tryd.prog 79 #[v, ev k op vk vn vs va f K, .bool true] w fun e w' => LayT w v B (l ++ 40 :: (p ++ [41])) e w' := by
  obtain ⟨i0, hi, hz0, hz1, hz2⟩ := info_parts Tryd.infoU8
  obtain ⟨KA, Kn, Kc, rfl⟩ := hK
  obtain ⟨A, n, c, rfl⟩ := own_shape hO
  have bb := ba w (.cells #[.int .i64 k, .string op, .int .i64 vk, .int .i64 vn, .string vs, .string va, .string f, .slice KA Kn Kc] 42)
  have hB := Blk.new w 42 #[.int .i64 k, .string op, .int .i64 vk, .int .i64 vn, .string vs, .string va, .string f, .slice KA Kn Kc]
  have H0 := Lib.hid (And.intro hO (And.intro bb (And.intro hB HL))); clear hO bb hB HL
  go_enter Tryd.func79, Tryd.ntmps79
  go_wp2_with fail
  have hO1 := Own.later H0.out.1 H0.out.2.1
  have hB1 := H0.out.2.2.1
  have hb1 : Below w.heap.size w _ := H0.out.2.1
  have hw1 := hb1.size
  generalize w.alloc _ = w1 at *
  generalize hbx : w.heap.size = b at *
  have hne : (Value.slice A n c).ownBlock ≠ some b := own_nb hO1 hB1 (by decide)
  have nA := blk_cells (blk_drew (Blk.new (w1.alloc r41) 5 #[.int .u8 40]))
  rw [World.size_alloc] at nA
  have nB := blk_cells (blk_drew ((Blk.new w1 5 #[.int .u8 40]).alloc r41))
  have nC := blk_cells (blk_drew (Blk.new w1 5 #[.int .u8 40]))
  have H1 := Lib.hid (And.intro hO1 (And.intro hB1 (And.intro hb1 (And.intro nA (And.intro nB (And.intro nC hne)))))); clear hO1 hB1 hb1 nA nB nC hne
  have p0 := H1.out.2.1.cell
  have hl1 : B ≤ w1.heap.size := by omega
  have hb0 : Hid (Below w.heap.size w w1) := Lib.hid (by rw [hbx]; exact H1.out.2.2.1)
  have hb2 : Hid (B ≤ w.heap.size) := Lib.hid (by rw [hbx]; exact hb)
  have HX := Lib.hid hbx; clear hbx
  obtain ⟨L6, hL6⟩ : ∃ L : List UInt8, l ++ [40] ++ p = L := ⟨_, rfl⟩
  have hl6 : L6.length ≤ 999999999 := by rw [← hL6]; simp; omega
  have HL6 := Lib.hid hL6; clear hL6
  go_region_held3 (fun w' => ∀ j, w'.cell? ⟨b, j, none⟩ = (#[.int .i64 k, .string op, .int .i64 vk, .int .i64 vn, .string vs, .string va, .string f, .slice KA Kn Kc] : Array Value)[j]?) (first | exact H1.out.2.1.cell | exact (blk_drew H1.out.2.1).cell | exact (blk_drew (H1.out.2.1.alloc _)).cell | exact (blk_drew ((H1.out.2.1.alloc _).alloc _)).cell | exact E5.out.cell | exact (E5.out.alloc _).cell | exact E6.out.cell | exact (E6.out.alloc _).cell | exact E7.out.cell | go_keep) (first
    | ((refine step_append_lies _ (by rfl) (.tmp 12) (.tmp 13) 22 (by rfl) B 5 i0 (.int .u8 0) 1 1 Tryd.underlying22 hi hz0 hz1 hz2 rfl (by decide) (.slice A n c) l.length (l.flatMap byF) (by rfl) (World.ownsRow.drew (Own.later H1.out.1 (ba w1 r40))) ⟨w1.heap.size, 0, none⟩ 1 1 [.int .u8 40] (by rfl) rfl H1.out.2.2.2.2.2.1 (by simp [Value.oneCell']) (by decide) (by unfold maxLen; omega) (by omega) (by simp only [World.size_drew]; exact Nat.le_trans hl1 ((ba w1 r40)).size) _ rfl ?_; intro g5 cap5 w5 h5 hg5 hat5 _; have A5 := Lib.hid (app1 (w1 := w1) (by_ := 40) (below_drew (ba w1 r40)) H1.out.1 h5 hg5 hat5); have E5 := Lib.hid (blk_wr A5.out.2 H1.out.2.1 H1.out.2.2.2.2.2.2); clear h5 hg5 hat5))
    | ((refine step_append_lies _ (by rfl) (.tmp 12) (.tmp 13) 22 (by rfl) B 5 i0 (.int .u8 0) 1 1 Tryd.underlying22 hi hz0 hz1 hz2 rfl (by decide) (.slice A n c) l.length (l.flatMap byF) (by rfl) (World.ownsRow.drew (Own.later H1.out.1 (bt (ba w1 r41) (ba _ r40)))) ⟨w1.heap.size + 1, 0, none⟩ 1 1 [.int .u8 40] (by rfl) rfl H1.out.2.2.2.1 (by simp [Value.oneCell']) (by decide) (by unfold maxLen; omega) (by omega) (by simp only [World.size_drew]; exact Nat.le_trans hl1 ((bt (ba w1 r41) (ba _ r40))).size) _ rfl ?_; intro g5 cap5 w5 h5 hg5 hat5 _; have A5 := Lib.hid (app1 (w1 := w1) (by_ := 40) (below_drew (bt (ba w1 r41) (ba _ r40))) H1.out.1 h5 hg5 hat5); have E5 := Lib.hid (blk_wr A5.out.2 H1.out.2.1 H1.out.2.2.2.2.2.2); have R5 := Lib.hid (row41 (n := l.length + 1) (cap := cap5) (gp := w1.heap.size) (blk_drew ((Blk.new w1 5 #[.int .u8 41]).alloc r40)) H1.out.1 (Nat.le_refl _) hg5 hat5 (by simp only [World.size_drew, World.size_alloc]; omega)); clear h5 hg5 hat5))
    | ((refine step_append_lies _ (by rfl) (.tmp 12) (.tmp 13) 22 (by rfl) B 5 i0 (.int .u8 0) 1 1 Tryd.underlying22 hi hz0 hz1 hz2 rfl (by decide) (.slice A n c) l.length (l.flatMap byF) (by rfl) (World.ownsRow.drew (Own.later H1.out.1 (bt (ba w1 r40) (ba _ r41)))) ⟨w1.heap.size, 0, none⟩ 1 1 [.int .u8 40] (by rfl) rfl H1.out.2.2.2.2.1 (by simp [Value.oneCell']) (by decide) (by unfold maxLen; omega) (by omega) (by simp only [World.size_drew]; exact Nat.le_trans hl1 ((bt (ba w1 r40) (ba _ r41))).size) _ rfl ?_; intro g5 cap5 w5 h5 hg5 hat5 _; have A5 := Lib.hid (app1 (w1 := w1) (by_ := 40) (below_drew (bt (ba w1 r40) (ba _ r41))) H1.out.1 h5 hg5 hat5); have E5 := Lib.hid (blk_wr A5.out.2 H1.out.2.1 H1.out.2.2.2.2.2.2); have R5 := Lib.hid (row41 (n := l.length + 1) (cap := cap5) (gp := w1.heap.size + 1) (blk_drew (by have := Blk.new (w1.alloc r40) 5 #[.int .u8 41]; rwa [World.size_alloc] at this)) H1.out.1 (Nat.le_succ _) hg5 hat5 (by simp only [World.size_drew, World.size_alloc]; omega)); clear h5 hg5 hat5))
    | (go_at_call 66; refine (H0.out.2.2.2 w5 _ _ ((hb0.out.mono hb2.out).trans (wr_below A5.out.2 H1.out.1 hl1)) A5.out.1 (by simp; omega)).mono ?_; rintro e w6 ⟨A6, n6, c6, rfl, hO6, hW6⟩; have E6 := Lib.hid (blk_wr hW6 E5.out (own_nb A5.out.1 E5.out (by decide))); have W6 := Lib.hid (And.intro (show OwnB w6 B (.slice A6 n6 c6) L6 from by rw [← HL6.out]; exact hO6) (A5.out.2.trans hW6)); (try have R6 := Lib.hid (blk_wr hW6 R5.out.1 R5.out.2)); clear hO6 hW6)
    | (go_at_call 66; refine (H0.out.2.2.2 (w5.alloc r41) _ _ (((hb0.out.mono hb2.out).trans (wr_below A5.out.2 H1.out.1 hl1)).trans ((ba w5 r41).mono (Nat.le_trans hl1 A5.out.2.grown.size))) (Own.later A5.out.1 (ba w5 r41)) (by simp; omega)).mono ?_; rintro e w6 ⟨A6, n6, c6, rfl, hO6, hW6⟩; have E6 := Lib.hid (blk_wr hW6 (E5.out.alloc _) (own_nb A5.out.1 E5.out (by decide))); have R6 := Lib.hid (blk_wr hW6 (Blk.new w5 5 #[.int .u8 41]) (fun e => Nat.lt_irrefl _ (own_lt A5.out.1 e).2)); have W6 := Lib.hid (And.intro (show OwnB w6 B (.slice A6 n6 c6) L6 from by rw [← HL6.out]; exact hO6) (A5.out.2.trans (Wr.pre (ba w5 r41) hW6))); clear hO6 hW6)
    | ((refine step_append_lies _ (by rfl) (.tmp 16) (.tmp 17) 22 (by rfl) B 5 i0 (.int .u8 0) 1 1 Tryd.underlying22 hi hz0 hz1 hz2 rfl (by decide) (.slice A6 n6 c6) L6.length (L6.flatMap byF) (by rfl) W6.out.1 ⟨w5.heap.size, 0, none⟩ 1 1 [.int .u8 41] (by rfl) rfl (blk_cells R6.out) (by simp [Value.oneCell']) (by decide) (by unfold maxLen; omega) (by omega) (Nat.le_trans hl1 W6.out.2.grown.size) _ rfl ?_; intro g7 cap7 w7 h7 hg7 hat7 _; have A7 := Lib.hid (app1 (w1 := w6) (by_ := 41) (Below.refl _ _) W6.out.1 h7 hg7 hat7); have E7 := Lib.hid (blk_wr A7.out.2 E6.out (own_nb W6.out.1 E6.out (by decide))); clear h7 hg7 hat7))
    | ((refine step_append_lies _ (by rfl) (.tmp 16) (.tmp 17) 22 (by rfl) B 5 i0 (.int .u8 0) 1 1 Tryd.underlying22 hi hz0 hz1 hz2 rfl (by decide) (.slice A6 n6 c6) L6.length (L6.flatMap byF) (by rfl) W6.out.1 ⟨w1.heap.size, 0, none⟩ 1 1 [.int .u8 41] (by rfl) rfl (blk_cells R6.out) (by simp [Value.oneCell']) (by decide) (by unfold maxLen; omega) (by omega) (Nat.le_trans hl1 W6.out.2.grown.size) _ rfl ?_; intro g7 cap7 w7 h7 hg7 hat7 _; have A7 := Lib.hid (app1 (w1 := w6) (by_ := 41) (Below.refl _ _) W6.out.1 h7 hg7 hat7); have E7 := Lib.hid (blk_wr A7.out.2 E6.out (own_nb W6.out.1 E6.out (by decide))); clear h7 hg7 hat7))
    | ((refine step_append_lies _ (by rfl) (.tmp 16) (.tmp 17) 22 (by rfl) B 5 i0 (.int .u8 0) 1 1 Tryd.underlying22 hi hz0 hz1 hz2 rfl (by decide) (.slice A6 n6 c6) L6.length (L6.flatMap byF) (by rfl) W6.out.1 ⟨w1.heap.size + 1, 0, none⟩ 1 1 [.int .u8 41] (by rfl) rfl (blk_cells R6.out) (by simp [Value.oneCell']) (by decide) (by unfold maxLen; omega) (by omega) (Nat.le_trans hl1 W6.out.2.grown.size) _ rfl ?_; intro g7 cap7 w7 h7 hg7 hat7 _; have A7 := Lib.hid (app1 (w1 := w6) (by_ := 41) (Below.refl _ _) W6.out.1 h7 hg7 hat7); have E7 := Lib.hid (blk_wr A7.out.2 E6.out (own_nb W6.out.1 E6.out (by decide))); clear h7 hg7 hat7))
    | ((refine step_append_lies _ (by rfl) (.tmp 16) (.tmp 17) 22 (by rfl) B 5 i0 (.int .u8 0) 1 1 Tryd.underlying22 hi hz0 hz1 hz2 rfl (by decide) (.slice A6 n6 c6) L6.length (L6.flatMap byF) (by rfl) (Own.later W6.out.1 (ba w6 r41)) ⟨w6.heap.size, 0, none⟩ 1 1 [.int .u8 41] (by rfl) rfl (blk_cells (Blk.new w6 5 #[.int .u8 41])) (by simp [Value.oneCell']) (by decide) (by unfold maxLen; omega) (by omega) (Nat.le_trans (Nat.le_trans hl1 W6.out.2.grown.size) (ba w6 r41).size) _ rfl ?_; intro g7 cap7 w7 h7 hg7 hat7 _; have A7 := Lib.hid (app1 (w1 := w6) (by_ := 41) (ba w6 r41) W6.out.1 h7 hg7 hat7); have E7 := Lib.hid (blk_wr A7.out.2 E6.out (own_nb W6.out.1 E6.out (by decide))); clear h7 hg7 hat7)))
  all_goals
    go_wp2_with fail
    go_ret
    exact ⟨_, _, _, rfl, by have h := A7.out.1; have e : L6 ++ [41] = l ++ 40 :: (p ++ [41]) := by { rw [← HL6.out]; simp }; rw [e] at h; exact h, Wr.pre hb0.out (W6.out.2.trans A7.out.2)⟩
end Go.Proofs.YtenmbahfgfmjjaaDoor
namespace Go.Proofs.YtenmbahfgfmjjaaDoor
open Go.ChangeShapes Go.WideShapes Go.ChangeAt Go.RowKit
open Rk (inR)
set_option linter.unusedVariables false
set_option linter.unusedSimpArgs false

section
variable {P : Program}
theorem step_append_string_at {w : World} {ops : Array Oper} {o : Oper} {a : Act} {K : Act → World → Prop} {Q : Exit → Act → World → Prop} {E : Prop} (hgd : o.guard = none) (sl x : Operand) (t u : TypeId)
    (ho : o.op = .call { callee := .builtin .append, args := #[sl, x], argTypes := #[t, u] })
    (base : Nat) (e : TypeId) (i : TypeInfo) (ht : P.underlying t = some (.slice e)) (hu : P.underlying u = some .string) (hi : P.info? e = some i) (hz : i.zero = some (.int .u8 0))
    (hsize : i.size = 1) (hby : i.bytes = 1)
    (v : Value) (n : Nat) (xs : List Value) (hs : a.eval sl = v) (hown : w.ownsRow base e 1 v n xs) (s : ByteArray) (hx : a.eval x = .string s)
    (h63 : n + s.size ≤ maxLen) (hbytes : n + s.size ≤ 140737488355328) (hbase : base ≤ w.heap.size)
    (h : ∀ v' w', w'.ownsRow base e 1 v' (n + s.size) (xs ++ Lib.strCells s) → w.grownBy w' v.ownBlock → (v'.ownBlock = v.ownBlock ∨ v'.ownBlock = some w.heap.size) → K (a.put o.dst v') w') :
    if Region.wanted o (yielded ops a.tmps) = true then Oper.wp P o a w K Q else E := by
  have hw : Region.wanted o (yielded ops a.tmps) = true := by simp [Region.wanted, hgd]
  rw [if_pos hw]
  obtain ⟨v', w', hr, h2, h3, h4⟩ := run_append_string_at (P := P) w base t u o.type e i ht hu hi hz hsize hby v n xs hown s h63 hbytes hbase
  unfold Oper.wp execOp
  simp only [ho, resolve, invoke, builtin, Sem.run_bind, Sem.run_pure, Result.andThen_ok, List.map_toArray, List.map_cons, List.map_nil, hs, hx, hr]
  exact h v' w' h2 h3 h4
end
set_option maxHeartbeats 1000000 in
theorem kid_no (k : Int) (op : ByteArray) (vk vn : Int) (vs va f : ByteArray) (K : Value) (w : World) (v : Value) (B m : Nat) (l p : List UInt8) (hO : OwnB w B v l) (hb : B ≤ w.heap.size) (hl : l.length ≤ m)
    (HL : ∀ W v' l', Below B w W → OwnB W B v' l' → l'.length ≤ m → Calls Tryd.prog 66 #[v', ev k op vk vn vs va f K] W fun e w' => LayT W v' B (l' ++ p) e w') (hK : ∃ A n c, K = .slice A n c) :
    Calls Tryd.prog 79 #[v, ev k op vk vn vs va f K, .bool false] w fun e w' => LayT w v B (l ++ p) e w' := by
  obtain ⟨KA, Kn, Kc, rfl⟩ := hK
  obtain ⟨A, n, c, rfl⟩ := own_shape hO
  have bb := ba w (.cells #[.int .i64 k, .string op, .int .i64 vk, .int .i64 vn, .string vs, .string va, .string f, .slice KA Kn Kc] 42)
  have C := HL _ (.slice A n c) l (bb.mono hb) (hO.later bb) hl
  have H := Lib.hid (And.intro bb C); clear bb C hO HL
  go_enter Tryd.func79, Tryd.ntmps79
  go_wp2_with (go_at_call 66; refine (H.out.2).mono ?_; rintro e w1 ⟨A6, n6, c6, rfl, hO6, hW6⟩; have Z := Lib.hid (And.intro hO6 hW6); clear hO6 hW6)
  go_ret
  exact ⟨_, _, _, rfl, Z.out.1, Wr.pre H.out.1 Z.out.2⟩
/-- layKid, with brackets or without. -/
theorem kid_any (k : Int) (op : ByteArray) (vk vn : Int) (vs va f : ByteArray) (K : Value) (br : Bool) (w : World) (v : Value) (B m : Nat) (l p : List UInt8) (hO : OwnB w B v l) (hb : B ≤ w.heap.size) (hl : l.length + 1 ≤ m) (hlp : l.length + p.length + 2 ≤ 1000000000)
    (HL : ∀ W v' l', Below B w W → OwnB W B v' l' → l'.length ≤ m → Calls Tryd.prog 66 #[v', ev k op vk vn vs va f K] W fun e w' => LayT W v' B (l' ++ p) e w') (hK : ∃ A n c, K = .slice A n c) :
    Calls Tryd.prog 79 #[v, ev k op vk vn vs va f K, .bool br] w fun e w' => LayT w v B (l ++ brk br p) e w' := by
  cases br
  · exact kid_no k op vk vn vs va f K w v B m l p hO hb (by omega) HL hK
  · exact kid_br k op vk vn vs va f K w v B m l p hO hb hl hlp HL hK
set_option maxRecDepth 20000 in
set_option maxHeartbeats 4000000 in
/-- An operation of one. -/
theorem lay_un (op : ByteArray) (a : Addr) (c1 : Nat) (k' : Int) (op' : ByteArray) (vk' vn' : Int) (vs' va' f' : ByteArray) (K' : Value) (w0 w : World) (v : Value) (m : Nat) (l p : List UInt8)
    (hR : Row8 w0 a k' op' vk' vn' vs' va' f' K') (hw : Below w0.heap.size w0 w) (hO : OwnB w w0.heap.size v l) (hlp : l.length + op.size + p.length + 2 ≤ 1000000000) (hm : l.length + op.size + 1 ≤ m) (hc1 : 1 ≤ c1)
    (HL : ∀ W v' l', Below w0.heap.size w0 W → OwnB W w0.heap.size v' l' → l'.length ≤ m → Calls Tryd.prog 66 #[v', ev k' op' vk' vn' vs' va' f' K'] W fun e w' => LayT W v' w0.heap.size (l' ++ p) e w') (hK : ∃ A n c, K' = .slice A n c) :
    Calls Tryd.prog 66 #[v, ev 3 op 0 0 e0 e0 e0 (.slice (some a) 1 c1)] w fun e w' => LayT w v w0.heap.size (l ++ (op.toList ++ brk (k' == 4) p)) e w' := by
  obtain ⟨i0, hi, hz0, hz1, hz2⟩ := info_parts Tryd.infoU8
  obtain ⟨KA, Kn, Kc, rfl⟩ := hK
  obtain ⟨A, n, c, rfl⟩ := own_shape hO
  have bb := ba w (.cells #[.int .i64 3, .string op, .int .i64 0, .int .i64 0, .string e0, .string e0, .string e0, .slice (some a) 1 c1] 42)
  have hB := Blk.new w 42 #[.int .i64 3, .string op, .int .i64 0, .int .i64 0, .string e0, .string e0, .string e0, .slice (some a) 1 c1]
  have H0 := Lib.hid (And.intro hO (And.intro bb (And.intro hB HL))); clear hO bb hB HL
  go_enter Tryd.func66, Tryd.ntmps66
  go_wp2_with fail
  have hO1 := Own.later H0.out.1 H0.out.2.1
  have hB1 := H0.out.2.2.1
  have hb1 : Below w.heap.size w _ := H0.out.2.1
  generalize w.alloc _ = w1 at *
  have hW1 : Below w0.heap.size w0 w1 := bt hw hb1
  have hR1 := hR.later hW1
  have H1 := Lib.hid (And.intro hO1 (And.intro hB1 (And.intro hb1 (And.intro hW1 hR)))); clear hO1 hB1 hb1 hW1 hw hR
  have hbs : w0.heap.size ≤ w1.heap.size := H1.out.2.2.2.1.size
  generalize hbx : w.heap.size = b at *
  have hb0 : Hid (Below w.heap.size w w1) := Lib.hid (by rw [hbx]; exact H1.out.2.2.1)
  have HX := Lib.hid hbx; clear hbx
  have hR1' : Row8 w1.drew a k' op' vk' vn' vs' va' f' (.slice KA Kn Kc) := H1.out.2.2.2.2.later (below_drew H1.out.2.2.2.1)
  have HR := Lib.hid (And.intro hR1 hR1'); clear hR1 hR1'
  go_region_held3 (fun w' => (∀ j, w'.cell? ⟨b, j, none⟩ = (#[.int .i64 3, .string op, .int .i64 0, .int .i64 0, .string e0, .string e0, .string e0, .slice (some a) 1 c1] : Array Value)[j]?) ∧ w'.cell? a = some (.int .i64 k') ∧ w'.cell? ⟨a.block, a.off + 1, none⟩ = some (.string op') ∧ w'.cell? ⟨a.block, a.off + 2, none⟩ = some (.int .i64 vk') ∧ w'.cell? ⟨a.block, a.off + 3, none⟩ = some (.int .i64 vn') ∧ w'.cell? ⟨a.block, a.off + 4, none⟩ = some (.string vs') ∧ w'.cell? ⟨a.block, a.off + 5, none⟩ = some (.string va') ∧ w'.cell? ⟨a.block, a.off + 6, none⟩ = some (.string f') ∧ w'.cell? ⟨a.block, a.off + 7, none⟩ = some (.slice KA Kn Kc)) (first | exact ⟨H1.out.2.1.cell, HR.out.1⟩ | exact ⟨(blk_drew H1.out.2.1).cell, HR.out.2⟩ | exact ⟨E5.out.1.cell, E5.out.2⟩ | exact ⟨E6.out.1.cell, E6.out.2⟩ | go_keep) (first
    | ((refine step_append_string_at (by rfl) (.tmp 36) (.tmp 38) 22 9 (by rfl) w0.heap.size 5 i0 Tryd.underlying22 Tryd.underlying9 hi hz0 hz1 hz2 (.slice A n c) l.length (l.flatMap byF) (by rfl) (World.ownsRow.drew H1.out.1) op (by rfl) (by unfold maxLen; omega) (by omega) (by simp only [World.size_drew]; exact hbs) ?_; intro v5 w5 h5 hg5 ho5; obtain ⟨A5, n5, c5, rfl⟩ := own_shape h5; have W5 := Lib.hid (And.intro (OwnB.str h5) (Wr.pre (w := w1) (v := .slice A n c) (below_drew (Below.refl _ _)) ⟨hg5, ho5.imp id (fun e => ⟨_, e, Nat.le_refl _⟩)⟩)); have B5 := Lib.hid (H1.out.2.2.2.1.trans (wr_below W5.out.2 H1.out.1 hbs)); have E5 := Lib.hid (And.intro (blk_wr W5.out.2 H1.out.2.1 (own_nb H1.out.1 H1.out.2.1 (by decide))) (H1.out.2.2.2.2.later B5.out)); clear h5 hg5 ho5))
    | (go_at_call 79; refine (kid_any k' op' vk' vn' vs' va' f' (.slice KA Kn Kc) (k' == 4) w5 _ w0.heap.size m (l ++ op.data.toList) p W5.out.1 B5.out.size (by simp; omega) (by simp; omega) (fun W v' l' h1 h2 h3 => H0.out.2.2.2 W v' l' (B5.out.trans h1) h2 h3) ⟨_, _, _, rfl⟩).mono ?_; rintro e w6 ⟨A6, n6, c6, rfl, hO6, hW6⟩; have W6 := Lib.hid (And.intro hO6 (W5.out.2.trans hW6)); have E6 := Lib.hid (And.intro (blk_wr hW6 E5.out.1 (own_nb W5.out.1 E5.out.1 (by decide))) (H1.out.2.2.2.2.later (B5.out.trans (wr_below hW6 W5.out.1 B5.out.size)))); clear hO6 hW6))
  all_goals
    go_wp2_with fail
    go_ret
    exact ⟨_, _, _, rfl, by have h := W6.out.1; rw [List.append_assoc, ← Lib.toList_data] at h; exact h, Wr.pre hb0.out W6.out.2⟩
end Go.Proofs.YtenmbahfgfmjjaaDoor
