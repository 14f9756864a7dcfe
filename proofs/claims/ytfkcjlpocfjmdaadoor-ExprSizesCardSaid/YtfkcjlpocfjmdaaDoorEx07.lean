/- The chapter's examples of expr hold. -/
import Derived.Test.YtfkcjlpocfjmdaaDoorExpE
import Derived.Deep.RegionHeld3
namespace Go.Proofs.YtfkcjlpocfjmdaaDoor
open Go.ChangeShapes Go.WideShapes Go.ChangeAt Go.RowKit
open Rk (inR)
set_option linter.unusedVariables false
set_option linter.unusedSimpArgs false

abbrev bMin : ByteArray := ⟨#[45]⟩
abbrev bLess : ByteArray := ⟨#[60]⟩
abbrev bBan : ByteArray := ⟨#[33]⟩
abbrev nmA : ByteArray := ⟨#[97]⟩
abbrev nmB : ByteArray := ⟨#[98]⟩
abbrev nmX : ByteArray := ⟨#[120]⟩
abbrev C1 : Array Value := #[.int .i64 1, .string ⟨#[]⟩, .int .i64 0, .int .i64 0, .string ⟨#[]⟩, .string ⟨#[97]⟩, .string ⟨#[120]⟩, .slice none 0 0]
abbrev C2 : Array Value := #[.int .i64 2, .string ⟨#[]⟩, .int .i64 0, .int .i64 0, .string ⟨#[]⟩, .string ⟨#[98]⟩, .string ⟨#[]⟩, .slice none 0 0]
abbrev NC (op : ByteArray) (A : Option Addr) (n c : Nat) : Array Value := #[.int .i64 4, .string op, .int .i64 0, .int .i64 0, .string ⟨#[]⟩, .string ⟨#[]⟩, .string ⟨#[]⟩, .slice A n c]
abbrev tRef : Tr := .ref nmA nmX
abbrev tCnt : Tr := .cnt nmB
abbrev tOne : Tr := .lit 1 1 e0
abbrev tIn : Tr := .bin bMin tCnt tOne
abbrev tE : Tr := .bin bMin tRef tIn
abbrev tG : Tr := .bin bMin tRef tCnt
abbrev tF : Tr := .bin bMin tG tOne
abbrev tL : Tr := .bin bLess tRef tCnt
abbrev tNot : Tr := .un bBan tL
theorem Keep.putA {w W : World} {N : Nat} {l2 : List RowB} {P : World → Prop} {g : Nat} {t : TypeId} {a b c d e f i j : Value} (h : Keep w W N ((g, t, #[a, b, c, d, e, f, i, j]) :: l2) P) (a' b' c' d' : Value) :
    Keep w ((((W.setCell ⟨g, 0, none⟩ a').setCell ⟨g, 1, none⟩ b').setCell ⟨g, 2, none⟩ c').setCell ⟨g, 3, none⟩ d') N ((g, t, #[a', b', c', d', e, f, i, j]) :: l2) P := by
  have h1 : Keep w (W.setCell ⟨g, 0, none⟩ a') N ((g, t, #[a', b, c, d, e, f, i, j]) :: l2) P := h.put (l1 := []) 0 a'
  have h2 : Keep w ((W.setCell ⟨g, 0, none⟩ a').setCell ⟨g, 1, none⟩ b') N ((g, t, #[a', b', c, d, e, f, i, j]) :: l2) P := h1.put (l1 := []) 1 b'
  have h3 : Keep w (((W.setCell ⟨g, 0, none⟩ a').setCell ⟨g, 1, none⟩ b').setCell ⟨g, 2, none⟩ c') N ((g, t, #[a', b', c', d, e, f, i, j]) :: l2) P := h2.put (l1 := []) 2 c'
  exact h3.put (l1 := []) 3 d'
theorem Keep.putB {w W : World} {N : Nat} {l2 : List RowB} {P : World → Prop} {g : Nat} {t : TypeId} {a b c d e f i j : Value} (h : Keep w W N ((g, t, #[a, b, c, d, e, f, i, j]) :: l2) P) (a' b' c' d' : Value) :
    Keep w ((((W.setCell ⟨g, 4, none⟩ a').setCell ⟨g, 5, none⟩ b').setCell ⟨g, 6, none⟩ c').setCell ⟨g, 7, none⟩ d') N ((g, t, #[a, b, c, d, a', b', c', d']) :: l2) P := by
  have h1 : Keep w (W.setCell ⟨g, 4, none⟩ a') N ((g, t, #[a, b, c, d, a', f, i, j]) :: l2) P := h.put (l1 := []) 4 a'
  have h2 : Keep w ((W.setCell ⟨g, 4, none⟩ a').setCell ⟨g, 5, none⟩ b') N ((g, t, #[a, b, c, d, a', b', i, j]) :: l2) P := h1.put (l1 := []) 5 b'
  have h3 : Keep w (((W.setCell ⟨g, 4, none⟩ a').setCell ⟨g, 5, none⟩ b').setCell ⟨g, 6, none⟩ c') N ((g, t, #[a, b, c, d, a', b', c', j]) :: l2) P := h2.put (l1 := []) 6 c'
  exact h3.put (l1 := []) 7 d'
theorem Keep.put8_ {w W : World} {N : Nat} {l2 : List RowB} {P : World → Prop} {g : Nat} {t : TypeId} {a b c d e f i j : Value} (h : Keep w W N ((g, t, #[a, b, c, d, e, f, i, j]) :: l2) P) (a' b' c' d' e' f' i' j' : Value) :
    Keep w ((((((((W.setCell ⟨g, 0, none⟩ a').setCell ⟨g, 1, none⟩ b').setCell ⟨g, 2, none⟩ c').setCell ⟨g, 3, none⟩ d').setCell ⟨g, 4, none⟩ e').setCell ⟨g, 5, none⟩ f').setCell ⟨g, 6, none⟩ i').setCell ⟨g, 7, none⟩ j') N ((g, t, #[a', b', c', d', e', f', i', j']) :: l2) P :=
  (h.putA a' b' c' d').putB e' f' i' j'
theorem Keep.got {w W W1 : World} {N : Nat} {bs : List RowB} {P : World → Prop} {g : Nat} {t : TypeId} {c : Array Value} (h : Keep w W N bs P) (hb : Below W.heap.size W W1) (hB : Blk W1 g t c) (hg : W.heap.size ≤ g) : Keep w W1 N ((g, t, c) :: bs) P := by
  have h1 := h.go hb
  refine ⟨h1.bel, h1.low, fun b hm => ?_, List.Pairwise.cons (fun b hb => Nat.lt_of_lt_of_le (h.rows b hb).1.lt hg) h.apart, h1.was, h1.stays⟩
  rcases List.mem_cons.1 hm with rfl | hm
  · exact ⟨hB, Nat.le_trans h.size hg⟩
  · exact h1.rows b hm
/-- The eight cells of a row that lies below younger ones. -/
theorem Keep.put8 {w W : World} {N : Nat} (l1 : List RowB) {l2 : List RowB} {P : World → Prop} {g : Nat} {t : TypeId} {a b c d e f i j : Value} (h : Keep w W N (l1 ++ (g, t, #[a, b, c, d, e, f, i, j]) :: l2) P) (a' b' c' d' e' f' i' j' : Value) :
    Keep w ((((((((W.setCell ⟨g, 0, none⟩ a').setCell ⟨g, 1, none⟩ b').setCell ⟨g, 2, none⟩ c').setCell ⟨g, 3, none⟩ d').setCell ⟨g, 4, none⟩ e').setCell ⟨g, 5, none⟩ f').setCell ⟨g, 6, none⟩ i').setCell ⟨g, 7, none⟩ j') N (l1 ++ (g, t, #[a', b', c', d', e', f', i', j']) :: l2) P := by
  have h1 : Keep w (W.setCell ⟨g, 0, none⟩ a') N (l1 ++ (g, t, #[a', b, c, d, e, f, i, j]) :: l2) P := h.put 0 a'
  have h2 : Keep w _ N (l1 ++ (g, t, #[a', b', c, d, e, f, i, j]) :: l2) P := h1.put 1 b'
  have h3 : Keep w _ N (l1 ++ (g, t, #[a', b', c', d, e, f, i, j]) :: l2) P := h2.put 2 c'
  have h4 : Keep w _ N (l1 ++ (g, t, #[a', b', c', d', e, f, i, j]) :: l2) P := h3.put 3 d'
  have h5 : Keep w _ N (l1 ++ (g, t, #[a', b', c', d', e', f, i, j]) :: l2) P := h4.put 4 e'
  have h6 : Keep w _ N (l1 ++ (g, t, #[a', b', c', d', e', f', i, j]) :: l2) P := h5.put 5 f'
  have h7 : Keep w _ N (l1 ++ (g, t, #[a', b', c', d', e', f', i', j]) :: l2) P := h6.put 6 i'
  exact h7.put 7 j'
theorem Keep.put8_1 {w W : World} {N : Nat} {x : RowB} {l2 : List RowB} {P : World → Prop} {g : Nat} {t : TypeId} {a b c d e f i j : Value} (h : Keep w W N (x :: (g, t, #[a, b, c, d, e, f, i, j]) :: l2) P) (a' b' c' d' e' f' i' j' : Value) :
    Keep w ((((((((W.setCell ⟨g, 0, none⟩ a').setCell ⟨g, 1, none⟩ b').setCell ⟨g, 2, none⟩ c').setCell ⟨g, 3, none⟩ d').setCell ⟨g, 4, none⟩ e').setCell ⟨g, 5, none⟩ f').setCell ⟨g, 6, none⟩ i').setCell ⟨g, 7, none⟩ j') N (x :: (g, t, #[a', b', c', d', e', f', i', j']) :: l2) P := Keep.put8 [x] h a' b' c' d' e' f' i' j'
theorem Keep.put8_2 {w W : World} {N : Nat} {x y : RowB} {l2 : List RowB} {P : World → Prop} {g : Nat} {t : TypeId} {a b c d e f i j : Value} (h : Keep w W N (x :: y :: (g, t, #[a, b, c, d, e, f, i, j]) :: l2) P) (a' b' c' d' e' f' i' j' : Value) :
    Keep w ((((((((W.setCell ⟨g, 0, none⟩ a').setCell ⟨g, 1, none⟩ b').setCell ⟨g, 2, none⟩ c').setCell ⟨g, 3, none⟩ d').setCell ⟨g, 4, none⟩ e').setCell ⟨g, 5, none⟩ f').setCell ⟨g, 6, none⟩ i').setCell ⟨g, 7, none⟩ j') N (x :: y :: (g, t, #[a', b', c', d', e', f', i', j']) :: l2) P := Keep.put8 [x, y] h a' b' c' d' e' f' i' j'
abbrev zeroC : Array Value := #[.int .i64 0, .string ⟨#[]⟩, .int .i64 0, .int .i64 0, .string ⟨#[]⟩, .string ⟨#[]⟩, .string ⟨#[]⟩, .slice none 0 0]
abbrev row1 : Array Value := #[.int .i64 2, .string e0, .int .i64 0, .int .i64 0, .string e0, .string nmB, .string e0, nilk, .int .i64 0, .string e0, .int .i64 1, .int .i64 1, .string e0, .string e0, .string e0, nilk]
abbrev row2 (g1 : Nat) : Array Value := #[.int .i64 1, .string e0, .int .i64 0, .int .i64 0, .string e0, .string nmA, .string nmX, nilk, .int .i64 4, .string bMin, .int .i64 0, .int .i64 0, .string e0, .string e0, .string e0, .slice (some ⟨g1, 0, none⟩) 2 2]
theorem tE_at {W : World} {g1 g2 : Nat} (h1 : Blk W g1 26 row1) (h2 : Blk W g2 26 (row2 g1)) : TrAt W tE (.slice (some ⟨g2, 0, none⟩) 2 2) :=
  ⟨_, 2, rfl, by decide, by decide, ⟨nilk, rfl, row_lo h2⟩, .slice (some ⟨g1, 0, none⟩) 2 2, ⟨_, 2, rfl, by decide, by decide, ⟨nilk, rfl, row_lo h1⟩, nilk, rfl, row_hi h1⟩, row_hi h2⟩
/-- two: where the new row lies. -/
def TwoAt (op : ByteArray) (cs : Array Value) (X : World) (e : Ending) (w' : World) : Prop := ∃ g, X.heap.size ≤ g ∧ e = .returned (ev 4 op 0 0 e0 e0 e0 (.slice (some ⟨g, 0, none⟩) 2 2)) ∧ Below X.heap.size X w' ∧ Blk w' g 26 cs
theorem two_at1 (w : World) : Calls Tryd.prog 26 #[.string ⟨#[45]⟩, ev 2 e0 0 0 e0 nmB e0 nilk, ev 0 e0 1 1 e0 e0 e0 nilk] w fun e w' => TwoAt bMin row1 w e w' := by
  refine (two_ev bMin 2 e0 0 0 e0 nmB e0 none 0 0 0 e0 1 1 e0 e0 e0 none 0 0 w).mono ?_
  rintro e w' ⟨rfl, hb, hB⟩
  exact ⟨_, by omega, rfl, hb, hB⟩
theorem two_at2 (b : Nat) (w : World) : Calls Tryd.prog 26 #[.string ⟨#[45]⟩, ev 1 e0 0 0 e0 nmA nmX nilk, ev 4 ⟨#[45]⟩ 0 0 e0 e0 e0 (.slice (some ⟨b, 0, none⟩) 2 2)] w fun e w' => TwoAt bMin (row2 b) w e w' := by
  refine (two_ev bMin 1 e0 0 0 e0 nmA nmX none 0 0 4 bMin 0 0 e0 e0 e0 (some ⟨b, 0, none⟩) 2 2 w).mono ?_
  rintro e w' ⟨rfl, hb, hB⟩
  exact ⟨_, by omega, rfl, hb, hB⟩
theorem fin3 {w wx : World} {N : Nat} {bs : List RowB} {P : World → Prop} {b1 b2 h : Nat} (K2 : Keep w wx N bs P) (h1 : (b1, 26, row1) ∈ bs) (h2 : (b2, 26, row2 b1) ∈ bs) (h3 : (h, 26, NC bMin (some ⟨b2, 0, none⟩) 2 2) ∈ bs) :
    (Blk wx b1 26 row1 ∧ Blk wx b2 26 (row2 b1)) ∧ Keep w wx wx.heap.size [] (fun X => P X ∧ Blk X h 26 (NC bMin (some ⟨b2, 0, none⟩) 2 2)) := ⟨⟨K2.blk h1, K2.blk h2⟩, K2.keepRow h3⟩
theorem two_in (w : World) : Calls Tryd.prog 26 #[.string ⟨#[45]⟩, ev 2 e0 0 0 e0 nmB e0 nilk, ev 0 e0 1 1 e0 e0 e0 nilk] w fun e w' => IsN bMin tIn e w' ∧ Below w.heap.size w w' :=
  two_isN bMin tCnt tOne _ _ nilk nilk w rfl rfl rfl rfl
theorem two_e (A : Option Addr) (n c : Nat) (w : World) (h : TrAt w tIn (.slice A n c)) : Calls Tryd.prog 26 #[.string ⟨#[45]⟩, ev 1 e0 0 0 e0 nmA nmX nilk, ev 4 bMin 0 0 e0 e0 e0 (.slice A n c)] w fun e w' => IsN bMin tE e w' ∧ Below w.heap.size w w' :=
  two_isN bMin tRef tIn _ _ nilk _ w rfl rfl rfl h
theorem two_g (w : World) : Calls Tryd.prog 26 #[.string ⟨#[45]⟩, ev 1 e0 0 0 e0 nmA nmX nilk, ev 2 e0 0 0 e0 nmB e0 nilk] w fun e w' => IsN bMin tG e w' ∧ Below w.heap.size w w' :=
  two_isN bMin tRef tCnt _ _ nilk nilk w rfl rfl rfl rfl
theorem two_f (A : Option Addr) (n c : Nat) (w : World) (h : TrAt w tG (.slice A n c)) : Calls Tryd.prog 26 #[.string ⟨#[45]⟩, ev 4 bMin 0 0 e0 e0 e0 (.slice A n c), ev 0 e0 1 1 e0 e0 e0 nilk] w fun e w' => IsN bMin tF e w' ∧ Below w.heap.size w w' :=
  two_isN bMin tG tOne _ _ _ nilk w rfl rfl h rfl
theorem two_l (w : World) : Calls Tryd.prog 26 #[.string ⟨#[60]⟩, ev 1 e0 0 0 e0 nmA nmX nilk, ev 2 e0 0 0 e0 nmB e0 nilk] w fun e w' => IsN bLess tL e w' ∧ Below w.heap.size w w' :=
  two_isN bLess tRef tCnt _ _ nilk nilk w rfl rfl rfl rfl
theorem okE : tE.ok = true := by kernel_rfl
theorem okF : tF.ok = true := by kernel_rfl
theorem okNot : tNot.ok = true := by kernel_rfl
theorem smE : tE.small := ⟨trivial, trivial, by show inR 1; decide⟩
theorem smF : tF.small := ⟨⟨trivial, trivial⟩, by show inR 1; decide⟩
theorem smNot : tNot.small := ⟨trivial, trivial⟩
theorem lenE : tE.len ≤ 900000000 := by show (tE.len : Nat) ≤ 900000000; decide +kernel
theorem lenF : tF.len ≤ 900000000 := by decide +kernel
theorem lenNot : tNot.len ≤ 900000000 := by decide +kernel
theorem putE : (⟨(putT tE).toArray⟩ : ByteArray) = ⟨#[97, 46, 120, 32, 45, 32, 40, 35, 98, 32, 45, 32, 49, 41]⟩ := by kernel_rfl
theorem putF : (⟨(putT tF).toArray⟩ : ByteArray) = ⟨#[97, 46, 120, 32, 45, 32, 35, 98, 32, 45, 32, 49]⟩ := by kernel_rfl
theorem putNot : (⟨(putT tNot).toArray⟩ : ByteArray) = ⟨#[33, 40, 97, 46, 120, 32, 60, 32, 35, 98, 41]⟩ := by kernel_rfl
theorem sameEF : sameT tE tF = false := by kernel_rfl
theorem two_names {r : List ByteArray} (h : Sorted1 tE.vars r) : r.length = 2 :=
  sorted1_two (a := nmA) (b := nmB) h (by decide) (fun s => by show s ∈ [nmA, nmB] ↔ _; simp)
theorem lvl_mul : lvl ⟨#[42]⟩ = 6 := by kernel_rfl
theorem lvl_ban : lvl ⟨#[33]⟩ = 0 := by kernel_rfl
theorem Level_mul (w : World) : Calls Tryd.prog 19 #[.string ⟨#[42]⟩] w fun e w' => e = .returned (.int .i64 6) ∧ w = w' := by have := Level_any ⟨#[42]⟩ w; rwa [lvl_mul] at this
theorem Level_ban (w : World) : Calls Tryd.prog 19 #[.string ⟨#[33]⟩] w fun e w' => e = .returned (.int .i64 0) ∧ w = w' := by have := Level_any ⟨#[33]⟩ w; rwa [lvl_ban] at this
theorem alone_neg : aloneB 0 e0 1 (-1) e0 e0 e0 0 = false := by kernel_rfl
theorem alone_zero : aloneB 0 e0 0 0 e0 e0 e0 0 = false := by kernel_rfl
theorem Right_neg (w : World) : Calls Tryd.prog 12 #[ev 0 e0 1 (-1) e0 e0 e0 nilk] w fun e w' => e = .returned (.bool false) ∧ Below w.heap.size w w' := by
  have := Right_leaf 0 e0 1 (-1) e0 e0 e0 w (by decide) (by decide) (by decide); rwa [alone_neg] at this
theorem Right_zero (w : World) : Calls Tryd.prog 12 #[ev 0 e0 0 0 e0 e0 e0 nilk] w fun e w' => e = .returned (.bool false) ∧ Below w.heap.size w w' := by
  have := Right_leaf 0 e0 0 0 e0 e0 e0 w (by decide) (by decide) (by decide); rwa [alone_zero] at this
abbrev NN (b : Nat) : Array Value := #[.int .i64 3, .string ⟨#[33]⟩, .int .i64 0, .int .i64 0, .string ⟨#[]⟩, .string ⟨#[]⟩, .string ⟨#[]⟩, .slice (some ⟨b, 0, none⟩) 1 1]
/-- What holds before the examples are asked. -/
structure EP (g3 g4 g5 g6 b2 : Nat) (A2 : Option Addr) (n2 c2 : Nat) (X : World) : Prop where
  tab : Tab X
  r3 : Blk X g3 26 (NC bMin (some ⟨b2, 0, none⟩) 2 2)
  t3 : TrAt X tE (.slice (some ⟨b2, 0, none⟩) 2 2)
  t4 : TrAt X tF (.slice A2 n2 c2)
  r4 : Blk X g4 26 (NC bMin A2 n2 c2)
  r5 : Blk X g5 26 (NN g6)
  t5 : TrAt X tNot (.slice (some ⟨g6, 0, none⟩) 1 1)
theorem EP.later {g3 g4 g5 g6 b2 : Nat} {A2 : Option Addr} {n2 c2 : Nat} {X Y : World} (h : EP g3 g4 g5 g6 b2 A2 n2 c2 X) (hb : Below X.heap.size X Y) : EP g3 g4 g5 g6 b2 A2 n2 c2 Y :=
  ⟨h.tab.later hb, h.r3.later hb, h.t3.later hb, h.t4.later hb, h.r4.later hb, h.r5.later hb, h.t5.later hb⟩
theorem EP.cells {g3 g4 g5 g6 b2 : Nat} {A2 : Option Addr} {n2 c2 : Nat} {X : World} (h : EP g3 g4 g5 g6 b2 A2 n2 c2 X) :
    (∀ j, X.cell? ⟨g3, j, none⟩ = (NC bMin (some ⟨b2, 0, none⟩) 2 2 : Array Value)[j]?) ∧ (∀ j, X.cell? ⟨g4, j, none⟩ = (NC bMin A2 n2 c2 : Array Value)[j]?) ∧ (∀ j, X.cell? ⟨g5, j, none⟩ = (NN g6 : Array Value)[j]?) := ⟨h.r3.cell, h.r4.cell, h.r5.cell⟩
theorem not_at {X : World} {A : Option Addr} {n c g : Nat} (h : TrAt X tL (.slice A n c)) (hB : Blk X g 26 (NC bLess A n c)) : TrAt X tNot (.slice (some ⟨g, 0, none⟩) 1 1) :=
  ⟨_, 1, rfl, by decide, by decide, _, h, hB.cell 0, hB.cell 1, hB.cell 2, hB.cell 3, hB.cell 4, hB.cell 5, hB.cell 6, hB.cell 7⟩
set_option maxRecDepth 20000 in
set_option maxHeartbeats 4000000 in
theorem ex3 (u0 u3 u4 u5 u6 u7 u8 u9 u10 u11 u12 u13 u14 u15 u16 u17 u18 u19 u20 u21 u22 u23 u24 u25 u26 u27 u28 u29 u30 u31 u32 u33 u34 u35 u36 u37 u38 u39 u40 u41 u42 u43 u44 u45 u46 u47 u48 u49 u50 u51 u52 u53 u54 u55 u56 u57 u58 u59 u60 u61 u62 u63 u64 u65 u66 u67 u68 u69 u70 u71 u72 u73 u74 u75 u76 u77 u78 u79 : Value) {w W : World} {N : Nat} {P : World → Prop} {g g2 : Nat}
    (hK : Keep w W N [] P) (hg : ∀ X, P X → Blk X g 26 C1) (hg2 : ∀ X, P X → Blk X g2 26 C2) {Q : Exit → Act → World → Prop}
    (hQ : ∀ (x8 x9 x10 : Value) (b1 b2 h : Nat) (wx : World), (Blk wx b1 26 row1 ∧ Blk wx b2 26 (row2 b1)) ∧ Keep w wx wx.heap.size [] (fun X => P X ∧ Blk X h 26 (NC bMin (some ⟨b2, 0, none⟩) 2 2)) → Q .normal ⟨#[u0, .pointer (some ⟨g, 0, none⟩), .pointer (some ⟨g2, 0, none⟩), .pointer (some ⟨h, 0, none⟩), u4, u5, u6, u7, x8, x9, x10, ev 4 ⟨#[45]⟩ 0 0 e0 e0 e0 (.slice (some ⟨b1, 0, none⟩) 2 2), ev 4 ⟨#[45]⟩ 0 0 e0 e0 e0 (.slice (some ⟨b2, 0, none⟩) 2 2), u13, u14, u15, u16, u17, u18, u19, u20, u21, u22, u23, u24, u25, u26, u27, u28, u29, u30, u31, u32, u33, u34, u35, u36, u37, u38, u39, u40, u41, u42, u43, u44, u45, u46, u47, u48, u49, u50, u51, u52, u53, u54, u55, u56, u57, u58, u59, u60, u61, u62, u63, u64, u65, u66, u67, u68, u69, u70, u71, u72, u73, u74, u75, u76, u77, u78, u79], []⟩ wx) :
    Code.wp Tryd.prog ((Tryd.f9.body.bind (regionN 3)).getD .skip) Q ⟨#[u0, .pointer (some ⟨g, 0, none⟩), .pointer (some ⟨g2, 0, none⟩), u3, u4, u5, u6, u7, u8, u9, u10, u11, u12, u13, u14, u15, u16, u17, u18, u19, u20, u21, u22, u23, u24, u25, u26, u27, u28, u29, u30, u31, u32, u33, u34, u35, u36, u37, u38, u39, u40, u41, u42, u43, u44, u45, u46, u47, u48, u49, u50, u51, u52, u53, u54, u55, u56, u57, u58, u59, u60, u61, u62, u63, u64, u65, u66, u67, u68, u69, u70, u71, u72, u73, u74, u75, u76, u77, u78, u79], []⟩ W := by
  have HQ := Lib.hid hQ; clear hQ
  conv => arg 2; whnf
  have C := Lib.hid (And.intro hg hg2); clear hg hg2
  have K := Lib.hid hK; clear hK
  have p0 := (C.out.1 _ K.out.p).cell
  have p1 := (C.out.2 _ K.out.p).cell
  refine wp_region_noPanic ?_
  go_region_held3 (fun w' => (∀ j, w'.cell? ⟨g, j, none⟩ = (C1 : Array Value)[j]?) ∧ (∀ j, w'.cell? ⟨g2, j, none⟩ = (C2 : Array Value)[j]?)) (exact ⟨(C.out.1 _ (by first | with_reducible exact K.out.p | with_reducible exact K.out.drw.p | with_reducible exact (K.out.more _ _).p | with_reducible exact (K.out.dmore _ _).p | with_reducible exact (K.out.more _ _).drw.p | with_reducible exact (K.out.dmore _ _).drw.p | with_reducible exact (K.out.put8_ _ _ _ _ _ _ _ _).p | with_reducible exact (K.out.put8_1 _ _ _ _ _ _ _ _).p | with_reducible exact (K.out.put8_2 _ _ _ _ _ _ _ _).p)).cell, (C.out.2 _ (by first | with_reducible exact K.out.p | with_reducible exact K.out.drw.p | with_reducible exact (K.out.more _ _).p | with_reducible exact (K.out.dmore _ _).p | with_reducible exact (K.out.more _ _).drw.p | with_reducible exact (K.out.dmore _ _).drw.p | with_reducible exact (K.out.put8_ _ _ _ _ _ _ _ _).p | with_reducible exact (K.out.put8_1 _ _ _ _ _ _ _ _).p | with_reducible exact (K.out.put8_2 _ _ _ _ _ _ _ _).p)).cell⟩) (first
    | (go_at_call 28; ((with_reducible refine (lit_any _ _).mono ?_); rintro e w1 ⟨rfl, hb⟩; (first | replace K := Lib.hid (K.out.go hb) | replace K := Lib.hid (K.out.drw.go hb) | replace K := Lib.hid ((K.out.more _ _).go hb) | replace K := Lib.hid ((K.out.dmore _ _).go hb) | replace K := Lib.hid ((K.out.more _ _).drw.go hb) | replace K := Lib.hid ((K.out.dmore _ _).drw.go hb)); (try clear q0 q1 q2); (first | obtain ⟨q0, q1, q2⟩ := K.out.cells (c := zeroC) (List.Mem.head _) | obtain ⟨q0, q1, q2⟩ := K.out.cells (c := zeroC) (List.Mem.tail _ (List.Mem.head _)) | obtain ⟨q0, q1, q2⟩ := K.out.cells (c := zeroC) (List.Mem.tail _ (List.Mem.tail _ (List.Mem.head _))) | skip); clear hb))
    | (go_at_call 26; ((with_reducible refine (two_at1 _).mono ?_); rintro e w1 ⟨g', hg, rfl, hb, hB⟩; (first | replace K := Lib.hid (K.out.got hb hB hg) | replace K := Lib.hid (K.out.drw.got hb hB hg) | replace K := Lib.hid ((K.out.more _ _).got hb hB hg) | replace K := Lib.hid ((K.out.dmore _ _).got hb hB hg) | replace K := Lib.hid ((K.out.more _ _).drw.got hb hB hg) | replace K := Lib.hid ((K.out.dmore _ _).drw.got hb hB hg)); (try clear q0 q1 q2); (first | obtain ⟨q0, q1, q2⟩ := K.out.cells (c := zeroC) (List.Mem.head _) | obtain ⟨q0, q1, q2⟩ := K.out.cells (c := zeroC) (List.Mem.tail _ (List.Mem.head _)) | obtain ⟨q0, q1, q2⟩ := K.out.cells (c := zeroC) (List.Mem.tail _ (List.Mem.tail _ (List.Mem.head _))) | skip); clear hb hB hg))
    | (go_at_call 26; ((with_reducible refine (two_at2 _ _).mono ?_); rintro e w1 ⟨g'', hg, rfl, hb, hB⟩; (first | replace K := Lib.hid (K.out.got hb hB hg) | replace K := Lib.hid (K.out.drw.got hb hB hg) | replace K := Lib.hid ((K.out.more _ _).got hb hB hg) | replace K := Lib.hid ((K.out.dmore _ _).got hb hB hg) | replace K := Lib.hid ((K.out.more _ _).drw.got hb hB hg) | replace K := Lib.hid ((K.out.dmore _ _).drw.got hb hB hg)); (try clear q0 q1 q2); (first | obtain ⟨q0, q1, q2⟩ := K.out.cells (c := zeroC) (List.Mem.head _) | obtain ⟨q0, q1, q2⟩ := K.out.cells (c := zeroC) (List.Mem.tail _ (List.Mem.head _)) | obtain ⟨q0, q1, q2⟩ := K.out.cells (c := zeroC) (List.Mem.tail _ (List.Mem.tail _ (List.Mem.head _))) | skip); clear hb hB hg)))
  · refine NoPanic.normal (HQ.out _ _ _ _ _ _ _ ?_)
    refine fin3 (K.out.more _ _) ?_ ?_ ?_
    · exact List.Mem.tail _ (List.Mem.tail _ (List.Mem.head _))
    · exact List.Mem.tail _ (List.Mem.head _)
    · exact List.Mem.head _
  · refine NoPanic.normal (HQ.out _ _ _ _ _ _ _ ?_)
    refine fin3 (K.out.put8_1 _ _ _ _ _ _ _ _) ?_ ?_ ?_
    · exact List.Mem.tail _ (List.Mem.tail _ (List.Mem.head _))
    · exact List.Mem.head _
    · exact List.Mem.tail _ (List.Mem.head _)
  · refine NoPanic.normal (HQ.out _ _ _ _ _ _ _ ?_)
    refine fin3 (K.out.put8_2 _ _ _ _ _ _ _ _) ?_ ?_ ?_
    · exact List.Mem.tail _ (List.Mem.head _)
    · exact List.Mem.head _
    · exact List.Mem.tail _ (List.Mem.tail _ (List.Mem.head _))
  · refine NoPanic.normal (HQ.out _ _ _ _ _ _ _ ?_)
    refine fin3 (K.out.put8_2 _ _ _ _ _ _ _ _) ?_ ?_ ?_
    · exact List.Mem.tail _ (List.Mem.head _)
    · exact List.Mem.head _
    · exact List.Mem.tail _ (List.Mem.tail _ (List.Mem.head _))
  
set_option maxHeartbeats 4000000 in
theorem examples_any (w : World) (hT : Tab w) : Calls Tryd.prog 9 #[] w fun e w' => e = .returned (.bool true) ∧ Below w.heap.size w w' := by
  have K := Lib.hid (((((Keep.start w (fun X => Tab X) hT (fun _ _ hb h => h.later hb)).more 26 C1).keepRow (List.mem_cons_self ..)).more 26 C2).keepRow (List.mem_cons_self ..))
  clear hT
  go_enter Tryd.func9, Tryd.ntmps9
  go_wp2_with fail
  simp only [World.size_alloc] at K
  generalize (w.alloc (.cells C1 26)).alloc (.cells C2 26) = W at *
  generalize hg2 : w.heap.size + 1 = g2 at *
  have hgw : w.heap.size ≤ w.heap.size := Nat.le_refl _
  generalize hg1 : w.heap.size = g1 at *
  clear hgw
  refine wp_of_eq (c' := ((Tryd.f9.body.bind (regionN 3)).getD .skip)) ?_ (by kernel_rfl)
  refine ex3 _ _ _ _ _ _ _ _ _ _ _ _ _ _ _ _ _ _ _ _ _ _ _ _ _ _ _ _ _ _ _ _ _ _ _ _ _ _ _ _ _ _ _ _ _ _ _ _ _ _ _ _ _ _ _ _ _ _ _ _ _ _ _ _ _ _ _ _ _ _ _ _ _ _ _ _ _ _ K.out (fun X h => h.1.2) (fun X h => h.2) (fun _ _ _ b1 b2 g3 w1 hK1 => ?_)
  replace K := Lib.hid ((hK1.2.and (Q := fun X => TrAt X tE (.slice (some ⟨b2, 0, none⟩) 2 2)) (tE_at hK1.1.1 hK1.1.2) (fun _ _ hb h => h.later hb)))
  clear hK1
  have p1 : ∀ j, w1.cell? ⟨g1, j, none⟩ = (C1 : Array Value)[j]? := K.out.p.1.1.1.2.cell
  have p2 : ∀ j, w1.cell? ⟨g2, j, none⟩ = (C2 : Array Value)[j]? := K.out.p.1.1.2.cell
  go_wp2_with fail
  go_at_call 26
  refine (two_g _).mono ?_
  rintro e w2 ⟨⟨A1, n1, c1, rfl, hT⟩, hb⟩
  replace K := Lib.hid ((K.out.go hb).and (Q := fun X => TrAt X tG (.slice A1 n1 c1)) hT (fun _ _ hb h => h.later hb)); clear hb hT p1 p2
  go_wp2_with fail
  go_at_call 28
  refine (lit_any _ _).mono ?_
  rintro e w3 ⟨rfl, hb⟩
  replace K := Lib.hid (K.out.go hb); clear hb
  go_wp2_with fail
  go_at_call 26
  refine (two_f _ _ _ _ K.out.p.2).mono ?_
  rintro e w4 ⟨⟨A2, n2, c2, rfl, hT⟩, hb⟩
  replace K := Lib.hid ((((K.out.go hb).and (Q := fun X => TrAt X tF (.slice A2 n2 c2)) hT (fun _ _ hb h => h.later hb)).more 26 (NC bMin A2 n2 c2)).keepRow (List.mem_cons_self ..)); clear hb hT
  have p1 : ∀ j, (w4.alloc (.cells (NC bMin A2 n2 c2) 26)).cell? ⟨g1, j, none⟩ = (C1 : Array Value)[j]? := K.out.p.1.1.1.1.1.1.2.cell
  have p2 : ∀ j, (w4.alloc (.cells (NC bMin A2 n2 c2) 26)).cell? ⟨g2, j, none⟩ = (C2 : Array Value)[j]? := K.out.p.1.1.1.1.1.2.cell
  go_wp2_with fail
  generalize w4.alloc _ = w5 at *
  generalize w4.heap.size = g4 at *
  clear p1 p2
  go_at_call 26
  refine (two_l _).mono ?_
  rintro e w6 ⟨⟨A3, n3, c3, rfl, hT⟩, hb⟩
  replace K := Lib.hid ((((((K.out.go hb).and (Q := fun X => TrAt X tL (.slice A3 n3 c3)) hT (fun _ _ hb h => h.later hb)).more 26 (NC bLess A3 n3 c3)).keepRow (List.mem_cons_self ..)).more 26 (NN (w6.heap.size))).keepRow (List.mem_cons_self ..)); clear hb hT
  simp only [World.size_alloc] at K
  replace K := Lib.hid (K.out.weak (Q := EP g3 g4 (w6.heap.size + 1) (w6.heap.size) b2 A2 n2 c2) (fun X h => ⟨h.1.1.1.1.1.1.1.1.1.1, h.1.1.1.1.1.1.1.2, h.1.1.1.1.1.1.2, h.1.1.1.1.2, h.1.1.1.2, h.2, not_at h.1.1.2 h.1.2⟩) (fun _ _ hb h => h.later hb))
  have q0 := K.out.p.cells
  go_wp2_with fail
  generalize World.alloc _ _ = w7 at *
  generalize hg5 : w6.heap.size = g6 at *
  generalize hg7 : g6 + 1 = g5 at *
  obtain ⟨q3, q4, q5⟩ := q0
  go_wp2_with fail
  go_at_call 12
  refine (Right_v (t := tE) rfl _ K.out.p.t3 okE).mono ?_
  rintro e w8 ⟨rfl, hb⟩
  replace K := Lib.hid (K.out.go hb); clear hb q3 q4 q5
  obtain ⟨q3, q4, q5⟩ := K.out.p.cells
  generalize w8 = w7 at *
  go_wp2_with fail
  go_at_call 13
  refine (Put_v (t := tE) rfl putE _ K.out.p.t3 okE smE lenE K.out.p.tab).mono ?_
  rintro e w8 ⟨rfl, hb⟩
  replace K := Lib.hid (K.out.go hb); clear hb q3 q4 q5
  obtain ⟨q3, q4, q5⟩ := K.out.p.cells
  generalize w8 = w7 at *
  go_wp2_with fail
  go_at_call 13
  refine (Put_v (t := tF) rfl putF _ K.out.p.t4 okF smF lenF K.out.p.tab).mono ?_
  rintro e w8 ⟨rfl, hb⟩
  replace K := Lib.hid (K.out.go hb); clear hb q3 q4 q5
  obtain ⟨q3, q4, q5⟩ := K.out.p.cells
  generalize w8 = w7 at *
  go_wp2_with fail
  go_at_call 13
  refine (Put_v (t := tNot) rfl putNot _ K.out.p.t5 okNot smNot lenNot K.out.p.tab).mono ?_
  rintro e w8 ⟨rfl, hb⟩
  replace K := Lib.hid (K.out.go hb); clear hb q3 q4 q5
  obtain ⟨q3, q4, q5⟩ := K.out.p.cells
  generalize w8 = w7 at *
  go_wp2_with fail
  go_at_call 24
  refine (Size_v (t := tE) (n := 5) rfl (by kernel_rfl) _ K.out.p.t3).mono ?_
  rintro e w8 ⟨rfl, hb⟩
  replace K := Lib.hid (K.out.go hb); clear hb q3 q4 q5
  obtain ⟨q3, q4, q5⟩ := K.out.p.cells
  generalize w8 = w7 at *
  go_wp2_with fail
  go_at_call 15
  refine (Vars_v (t := tE) rfl _ K.out.p.t3 (ok_fits _ okE) (by decide)).mono ?_
  rintro e w8 ⟨⟨v, r, rfl, hO, hs⟩, hb⟩
  replace K := Lib.hid (K.out.go hb); clear hb q3 q4 q5
  obtain ⟨q3, q4, q5⟩ := K.out.p.cells
  obtain ⟨VA, Vc, rfl, _⟩ := hO.shape
  rw [two_names hs] at *
  clear hO hs
  generalize w8 = w7 at *
  go_wp2_with fail
  go_at_call 17
  refine (Ops_any _).mono ?_
  rintro e w8 ⟨rfl, hw8⟩
  replace K := Lib.hid (K.out.go (show Below w7.heap.size w7 w8 by rw [hw8]; exact ba _ _)); clear hw8 q3 q4 q5
  obtain ⟨q3, q4, q5⟩ := K.out.p.cells
  generalize w8 = w7 at *
  go_wp2_with fail
  go_at_call 19
  refine (Level_mul _).mono ?_
  rintro e _ ⟨rfl, rfl⟩
  go_wp2_with fail
  go_at_call 19
  refine (Level_ban _).mono ?_
  rintro e _ ⟨rfl, rfl⟩
  go_wp2_with fail
  go_at_call 22
  refine (Same_v (t := tE) (u := tF) rfl rfl sameEF _ K.out.p.t3 K.out.p.t4).mono ?_
  rintro e w8 ⟨rfl, hb⟩
  replace K := Lib.hid (K.out.go hb); clear hb q3 q4 q5
  obtain ⟨q3, q4, q5⟩ := K.out.p.cells
  generalize w8 = w7 at *
  go_wp2_with fail
  go_at_call 28
  refine (lit_any _ _).mono ?_
  rintro e w8 ⟨rfl, hb⟩
  replace K := Lib.hid (K.out.go hb); clear hb q3 q4 q5
  obtain ⟨q3, q4, q5⟩ := K.out.p.cells
  generalize w8 = w7 at *
  go_wp2_with fail
  go_at_call 12
  refine (Right_neg _).mono ?_
  rintro e w8 ⟨rfl, hb⟩
  replace K := Lib.hid (K.out.go hb); clear hb q3 q4 q5
  obtain ⟨q3, q4, q5⟩ := K.out.p.cells
  generalize w8 = w7 at *
  go_wp2_with fail
  go_at_call 12
  refine (Right_zero _).mono ?_
  rintro e w8 ⟨rfl, hb⟩
  replace K := Lib.hid (K.out.go hb); clear hb q3 q4 q5
  obtain ⟨q3, q4, q5⟩ := K.out.p.cells
  generalize w8 = w7 at *
  go_wp2_with fail
  go_ret
  exact ⟨rfl, K.out.bel⟩

end Go.Proofs.YtfkcjlpocfjmdaaDoor
