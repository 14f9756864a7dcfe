/- Texts that several proofs stand on, part 16. -/
import Derived.Test.YtenmbahfgfmjjaaDoorQ15
import Derived.Deep.RegionHeld3
namespace Go.Proofs.YtenmbahfgfmjjaaDoor
open Go.ChangeShapes Go.WideShapes Go.ChangeAt Go.RowKit
open Rk (inR)
set_option linter.unusedVariables false
set_option linter.unusedSimpArgs false

/-- The rows of a call that makes an expression. -/
def KN (w0 : World) (g : Nat) (oo : Oo) (lv : Value) (L : List UInt8) (w W : World) : Prop :=
  FD w0 g oo lv L W ∧ GB g w W ∧ Blk W w.heap.size 54 #[.string oo.nm, .slice oo.A oo.n oo.c] ∧ Blk W (w.heap.size + 1) 42 z8 ∧ g < w.heap.size ∧ FD w0 g oo lv L w
section
variable {w0 w W W1 : World} {g : Nat} {oo : Oo} {lv : Value} {L : List UInt8}
theorem KN.step (h : KN w0 g oo lv L w W) (hb : Below W.heap.size W W1) : KN w0 g oo lv L w W1 :=
  ⟨h.1.go hb, gb_trans h.2.1 (gb_of hb), h.2.2.1.later hb, h.2.2.2.1.later hb, h.2.2.2.2⟩
theorem KN.grow (h : KN w0 g oo lv L w W) (hF : FD w0 g oo lv L W1) (hb : GB g W W1) : KN w0 g oo lv L w W1 :=
  ⟨hF, gb_trans h.2.1 hb, h.2.2.1.grown hb (fun e => by have := Option.some.inj e; have := h.2.2.2.2.1; omega), h.2.2.2.1.grown hb (fun e => by have := Option.some.inj e; have := h.2.2.2.2.1; omega), h.2.2.2.2⟩
theorem KN.facts (h : KN w0 g oo lv L w W) : (∀ j, W.cell? ⟨w.heap.size, j, none⟩ = #[Value.string oo.nm, .slice oo.A oo.n oo.c][j]?) ∧ (∀ j, W.cell? ⟨w.heap.size + 1, j, none⟩ = z8[j]?) ∧ (∀ j, W.frozen? ⟨w.heap.size + 1, j, none⟩ = false) :=
  ⟨fun j => h.2.2.1.cell j, fun j => h.2.2.2.1.cell j, fun j => h.2.2.2.1.frozen j⟩
theorem KN.fd (h : KN w0 g oo lv L w W) : FD w0 g oo lv L W := h.1
theorem KN.new (h : FD w0 g oo lv L w) : KN w0 g oo lv L w ((w.alloc (.cells #[.string oo.nm, .slice oo.A oo.n oo.c] 54)).alloc (.cells z8 42)) := by
  have hgl : g < w.heap.size := by obtain ⟨_, _, h2⟩ := h.2.2.2.1; exact h2.lt
  have b0 := bt (ba w (.cells #[.string oo.nm, .slice oo.A oo.n oo.c] 54)) (ba _ (.cells z8 42))
  refine ⟨h.go b0, gb_of b0, (Blk.new w _ _).alloc _, ?_, hgl, h⟩
  have := Blk.new (w.alloc (.cells #[.string oo.nm, .slice oo.A oo.n oo.c] 54)) 42 z8
  simpa using this
theorem KN.lt (h : KN w0 g oo lv L w W) : w.heap.size < W.heap.size := h.2.2.1.lt
/-- What is left when the result is stored. -/
theorem KN.out (h : KN w0 g oo lv L w W) (x0 x1 x2 x3 x4 x5 x6 x7 : Value) : FD w0 g oo lv L (set8 W (w.heap.size + 1) x0 x1 x2 x3 x4 x5 x6 x7) ∧ GB g w (set8 W (w.heap.size + 1) x0 x1 x2 x3 x4 x5 x6 x7) :=
  ⟨fd_put8 h.1 h.2.1 h.2.2.2.2.2 (by omega) _ _ _ _ _ _ _ _, gb_put8 h.2.1 (by omega) _ _ _ _ _ _ _ _⟩
theorem set8_gb (W : World) (b : Nat) (x0 x1 x2 x3 x4 x5 x6 x7 : Value) : GB b W (set8 W b x0 x1 x2 x3 x4 x5 x6 x7) :=
  gb_trans (gb_trans (gb_trans (gb_trans (gb_trans (gb_trans (gb_trans (gb_set W 0 x0) (gb_set _ 1 x1)) (gb_set _ 2 x2)) (gb_set _ 3 x3)) (gb_set _ 4 x4)) (gb_set _ 5 x5)) (gb_set _ 6 x6)) (gb_set _ 7 x7)
/-- A tree's node, its kids as a slice. -/
theorem TrF.sl {B : Nat} {t : Tr} {v : Value} (h : TrF B W t v) : ∃ A n c, v = .slice A n c := h.at_.sl
/-- An operation of one, of a new row. -/
theorem Made.un {D D' B b gN : Nat} {op : ByteArray} {x : Tr} {kx : Value} {T : TypeId} (hD : D + 1 ≤ D') (hop : unB op = true) (hB : B ≤ b) (hbW : b < gN) (hx : TrF B W x kx) (ho : x.ok = true) (hs : x.smd D)
    (hN : Blk W gN T #[.int .i64 (x.node kx).1, .string (x.node kx).2.1, .int .i64 (x.node kx).2.2.1, .int .i64 (x.node kx).2.2.2.1, .string (x.node kx).2.2.2.2.1, .string (x.node kx).2.2.2.2.2.1, .string (x.node kx).2.2.2.2.2.2.1, (x.node kx).2.2.2.2.2.2.2])
    (hxb : TrF (b + 1) W x kx) (x0 x1 x2 x3 x4 x5 x6 x7 : Value) :
    Made D' B (.returned (ev 3 op 0 0 e0 e0 e0 (.slice (some ⟨gN, 0, none⟩) 1 1))) (set8 W b x0 x1 x2 x3 x4 x5 x6 x7) := by
  have hg := set8_gb W b x0 x1 x2 x3 x4 x5 x6 x7
  have hN' := hN.grown hg (fun e => by have := Option.some.inj e; omega)
  refine ⟨.un op x, .slice (some ⟨gN, 0, none⟩) 1 1, rfl, ⟨⟨gN, 0, none⟩, 1, rfl, Nat.le_refl _, by decide, by show B ≤ gN; omega, kx, (hxb.grown hg (Nat.lt_succ_self _)).mono (by omega), ?_⟩, ?_, hs.1, by have := hs.2; show x.dep + 1 ≤ D'; omega⟩
  · exact ⟨hN'.cell 0, hN'.cell 1, hN'.cell 2, hN'.cell 3, hN'.cell 4, hN'.cell 5, hN'.cell 6, hN'.cell 7⟩
  · show (unB op && x.ok) = true
    rw [hop, ho]; rfl
theorem Made.bin {D D' B b gN : Nat} {op : ByteArray} {x y : Tr} {kx ky : Value} {T : TypeId} (hD : D + 1 ≤ D') (hop : 0 < lvl op) (hB : B ≤ b) (hbW : b < gN) (hxb : TrF (b + 1) W x kx) (hyb : TrF (b + 1) W y ky) (ho : x.ok = true) (hs : x.smd D) (ho' : y.ok = true) (hs' : y.smd D)
    (hN : Blk W gN T #[.int .i64 (x.node kx).1, .string (x.node kx).2.1, .int .i64 (x.node kx).2.2.1, .int .i64 (x.node kx).2.2.2.1, .string (x.node kx).2.2.2.2.1, .string (x.node kx).2.2.2.2.2.1, .string (x.node kx).2.2.2.2.2.2.1, (x.node kx).2.2.2.2.2.2.2, .int .i64 (y.node ky).1, .string (y.node ky).2.1, .int .i64 (y.node ky).2.2.1, .int .i64 (y.node ky).2.2.2.1, .string (y.node ky).2.2.2.2.1, .string (y.node ky).2.2.2.2.2.1, .string (y.node ky).2.2.2.2.2.2.1, (y.node ky).2.2.2.2.2.2.2])
    (x0 x1 x2 x3 x4 x5 x6 x7 : Value) :
    Made D' B (.returned (ev 4 op 0 0 e0 e0 e0 (.slice (some ⟨gN, 0, none⟩) 2 2))) (set8 W b x0 x1 x2 x3 x4 x5 x6 x7) := by
  have hg := set8_gb W b x0 x1 x2 x3 x4 x5 x6 x7
  have hN' := hN.grown hg (fun e => by have := Option.some.inj e; omega)
  refine ⟨.bin op x y, .slice (some ⟨gN, 0, none⟩) 2 2, rfl, ⟨⟨gN, 0, none⟩, 2, rfl, Nat.le_refl _, by decide, by show B ≤ gN; omega, ⟨kx, (hxb.grown hg (Nat.lt_succ_self _)).mono (by omega), ?_⟩, ky, (hyb.grown hg (Nat.lt_succ_self _)).mono (by omega), ?_⟩, ?_, ⟨hs.1, hs'.1⟩, by have := hs.2; have := hs'.2; show max x.dep y.dep + 1 ≤ D'; omega⟩
  · exact ⟨hN'.cell 0, hN'.cell 1, hN'.cell 2, hN'.cell 3, hN'.cell 4, hN'.cell 5, hN'.cell 6, hN'.cell 7⟩
  · exact ⟨hN'.cell 8, hN'.cell 9, hN'.cell 10, hN'.cell 11, hN'.cell 12, hN'.cell 13, hN'.cell 14, hN'.cell 15⟩
  · show (decide (0 < lvl op) && x.ok && y.ok) = true
    rw [ho, ho', decide_eq_true hop]; rfl
/-- What is made, taken apart. -/
theorem Made.open_ {D B : Nat} {e : Ending} (h : Made D B e W) : ∃ (t : Tr) (K : Value) (k : Int) (op : ByteArray) (vk vn : Int) (vs va f : ByteArray) (A : Option Addr) (n c : Nat), e = .returned (ev k op vk vn vs va f (.slice A n c)) ∧ TrF B W t K ∧ t.ok = true ∧ t.smd D ∧ t.node K = (k, op, vk, vn, vs, va, f, .slice A n c) := by
  obtain ⟨t, K, rfl, h1, h2, h3⟩ := h
  obtain ⟨A, n, c, rfl⟩ := h1.sl
  obtain ⟨k, op, vk, vn, vs, va, f, A', n', c', e1, e2⟩ := Tr.val_ev t A n c W h1.at_
  exact ⟨t, _, k, op, vk, vn, vs, va, f, A', n', c', by rw [e1], h1, h2, h3, e2⟩
theorem Made.back {D B B' b : Nat} {x : Tr} {kx : Value} {k : Int} {op : ByteArray} {vk vn : Int} {vs va f : ByteArray} {A : Option Addr} {n c : Nat} (hx : TrF B' W x kx) (hn : x.node kx = (k, op, vk, vn, vs, va, f, .slice A n c)) (ho : x.ok = true) (hs : x.smd D) (hb : b < B') (hB : B ≤ B') (x0 x1 x2 x3 x4 x5 x6 x7 : Value) :
    Made D B (.returned (ev k op vk vn vs va f (.slice A n c))) (set8 W b x0 x1 x2 x3 x4 x5 x6 x7) :=
  ⟨x, kx, by unfold Tr.val; rw [hn], (hx.grown (set8_gb W b x0 x1 x2 x3 x4 x5 x6 x7) hb).mono hB, ho, hs⟩
theorem KN.lt2 (h : KN w0 g oo lv L w W) : w.heap.size + 1 < W.heap.size := h.2.2.2.1.lt
end
/-- What a region leaves that makes an operation of two: the row that is told. -/
def Fin (D : Nat) (w0 : World) (g : Nat) (oo : Oo) (lv : Value) (L : List UInt8) (w W : World) : Prop := ∃ (op : ByteArray) (gN : Nat), (∀ j, W.cell? ⟨w.heap.size + 1, j, none⟩ = #[Value.int .i64 4, .string op, .int .i64 0, .int .i64 0, .string e0, .string e0, .string e0, .slice (some ⟨gN, 0, none⟩) 2 2][j]?) ∧ Made D w.heap.size (.returned (ev 4 op 0 0 e0 e0 e0 (.slice (some ⟨gN, 0, none⟩) 2 2))) W ∧ FD w0 g oo lv L W ∧ GB g w W
/-- Two rows of expressions that are read. -/
def Two8 (W : World) (g8 g9 : Nat) (c d : Array Value) : Prop := Blk W g8 42 c ∧ Blk W g9 42 d
theorem Two8.al {W : World} {g8 g9 : Nat} {c d : Array Value} (h : Two8 W g8 g9 c d) (o : Obj) : Two8 (W.alloc o) g8 g9 c d := ⟨h.1.alloc o, h.2.alloc o⟩
theorem Two8.dr {W : World} {g8 g9 : Nat} {c d : Array Value} (h : Two8 W g8 g9 c d) : Two8 W.drew g8 g9 c d := h
theorem Two8.held {W : World} {g8 g9 : Nat} {c d : Array Value} (h : Two8 W g8 g9 c d) : (∀ j, W.cell? ⟨g8, j, none⟩ = c[j]?) ∧ (∀ j, W.cell? ⟨g9, j, none⟩ = d[j]?) := ⟨fun j => h.1.cell j, fun j => h.2.cell j⟩
theorem Two8.set_ {W : World} {g8 g9 b : Nat} {c d : Array Value} (h : Two8 W g8 g9 c d) (h8 : g8 ≠ b) (h9 : g9 ≠ b) (x0 x1 x2 x3 x4 x5 x6 x7 : Value) : Two8 (set8 W b x0 x1 x2 x3 x4 x5 x6 x7) g8 g9 c d :=
  ⟨h.1.grown (set8_gb W b x0 x1 x2 x3 x4 x5 x6 x7) (fun e => h8 (Option.some.inj e)), h.2.grown (set8_gb W b x0 x1 x2 x3 x4 x5 x6 x7) (fun e => h9 (Option.some.inj e))⟩
theorem KN.set_ {w0 w W : World} {g : Nat} {oo : Oo} {lv : Value} {L : List UInt8} (h : KN w0 g oo lv L w W) (x0 x1 x2 x3 x4 x5 x6 x7 : Value) (j : Nat) : (set8 W (w.heap.size + 1) x0 x1 x2 x3 x4 x5 x6 x7).cell? ⟨w.heap.size + 1, j, none⟩ = #[x0, x1, x2, x3, x4, x5, x6, x7][j]? := by
  have h2 := (((((((h.2.2.2.1.set_ 0 x0).set_ 1 x1).set_ 2 x2).set_ 3 x3).set_ 4 x4).set_ 5 x5).set_ 6 x6).set_ 7 x7
  have e : (((((((z8.setIfInBounds 0 x0).setIfInBounds 1 x1).setIfInBounds 2 x2).setIfInBounds 3 x3).setIfInBounds 4 x4).setIfInBounds 5 x5).setIfInBounds 6 x6).setIfInBounds 7 x7 = #[x0, x1, x2, x3, x4, x5, x6, x7] := by simp [z8]
  rw [e] at h2
  exact h2.cell j
theorem fin_dr {D : Nat} {w0 w W : World} {g : Nat} {oo : Oo} {lv : Value} {L : List UInt8} (h : Fin D w0 g oo lv L w W) : Fin D w0 g oo lv L w W.drew := by
  obtain ⟨op, gN, h1, ⟨t, K, e, h2, h3, h4⟩, h5, h6⟩ := h
  have hb := below_drew (Below.refl W.heap.size W)
  exact ⟨op, gN, h1, ⟨t, K, e, h2.later hb, h3, h4⟩, h5.go hb, gb_trans h6 (gb_of hb)⟩
theorem Fin.mk {D : Nat} {w0 w W : World} {g gN : Nat} {oo : Oo} {lv : Value} {L : List UInt8} {op : ByteArray} {x y : Tr} {kx ky : Value} (h : KN w0 g oo lv L w W) (hop : 0 < lvl op) (hg : w.heap.size + 1 < gN) (hxb : TrF (w.heap.size + 1 + 1) W x kx) (hyb : TrF (w.heap.size + 1 + 1) W y ky) (ho : x.ok = true) (hs : x.smd D) (ho' : y.ok = true) (hs' : y.smd D)
    (hN : Blk W gN 42 #[.int .i64 (x.node kx).1, .string (x.node kx).2.1, .int .i64 (x.node kx).2.2.1, .int .i64 (x.node kx).2.2.2.1, .string (x.node kx).2.2.2.2.1, .string (x.node kx).2.2.2.2.2.1, .string (x.node kx).2.2.2.2.2.2.1, (x.node kx).2.2.2.2.2.2.2, .int .i64 (y.node ky).1, .string (y.node ky).2.1, .int .i64 (y.node ky).2.2.1, .int .i64 (y.node ky).2.2.2.1, .string (y.node ky).2.2.2.2.1, .string (y.node ky).2.2.2.2.2.1, .string (y.node ky).2.2.2.2.2.2.1, (y.node ky).2.2.2.2.2.2.2]) :
    Fin (D + 1) w0 g oo lv L w (set8 W (w.heap.size + 1) (.int .i64 4) (.string op) (.int .i64 0) (.int .i64 0) (.string e0) (.string e0) (.string e0) (.slice (some ⟨gN, 0, none⟩) 2 2)) :=
  ⟨op, gN, h.set_ _ _ _ _ _ _ _ _, Made.bin (Nat.le_refl _) hop (Nat.le_succ _) hg hxb hyb ho hs ho' hs' hN _ _ _ _ _ _ _ _, (h.out _ _ _ _ _ _ _ _).1, (h.out _ _ _ _ _ _ _ _).2⟩
set_option maxRecDepth 20000 in
set_option maxHeartbeats 4000000 in
theorem num_pick (u0 u1 u2 u3 u4 u5 u10 u11 u12 u13 u14 u15 u16 u17 u18 u19 u20 u21 u22 u23 u24 u25 u26 u27 u28 u29 u30 u31 u32 u33 u34 u35 u36 u37 u38 u39 u40 u41 u42 u43 u44 u45 u46 u47 u48 u49 u50 u51 u52 u53 u54 u55 u56 u57 u58 u59 u60 u61 u62 u63 u64 u65 u66 u67 u68 u69 u70 u71 u72 u73 : Value) {w0 u w : World} {D g g8 g9 b : Nat} {oo : Oo} {lv : Value} {L : List UInt8} {x y : Tr} {kx ky : Value} {k1 : Int} {o1 : ByteArray} {a1 b1 : Int} {s1 v1 f1 : ByteArray} {A1 : Option Addr} {n1 c1 : Nat} {k2 : Int} {o2 : ByteArray} {a2 b2 : Int} {s2 v2 f2 : ByteArray} {A2 : Option Addr} {n2 c2 : Nat} (hK : KN w0 g oo lv L u w) (h2 : Two8 w g8 g9 #[.int .i64 k1, .string o1, .int .i64 a1, .int .i64 b1, .string s1, .string v1, .string f1, .slice A1 n1 c1] #[.int .i64 k2, .string o2, .int .i64 a2, .int .i64 b2, .string s2, .string v2, .string f2, .slice A2 n2 c2]) (h8 : g8 ≠ u.heap.size + 1) (h9 : g9 ≠ u.heap.size + 1) (hx : TrF (u.heap.size + 1 + 1) w x kx) (hy : TrF (u.heap.size + 1 + 1) w y ky) (ho : x.ok = true) (hs : x.smd D) (ho' : y.ok = true) (hs' : y.smd D) (hnx : x.node kx = (k1, o1, a1, b1, s1, v1, f1, .slice A1 n1 c1)) (hny : y.node ky = (k2, o2, a2, b2, s2, v2, f2, .slice A2 n2 c2)) (hb255 : b ≤ 255) {Q : Exit → Act → World → Prop}
    (hQ : ∀ (x64 x65 x66 x67 x68 x69 x70 x71 x72 x73 : Value)  (wx : World), Fin (D + 1) w0 g oo lv L u wx → Q .normal ⟨#[u0, u1, u2, u3, u4, u5, .pointer (some ⟨u.heap.size + 1, 0, none⟩), .int .i64 (b : Nat), .pointer (some ⟨g8, 0, none⟩), .pointer (some ⟨g9, 0, none⟩), u10, u11, u12, u13, u14, u15, u16, u17, u18, u19, u20, u21, u22, u23, u24, u25, u26, u27, u28, u29, u30, u31, u32, u33, u34, u35, u36, u37, u38, u39, u40, u41, u42, u43, u44, u45, u46, u47, u48, u49, u50, u51, u52, u53, u54, u55, u56, u57, u58, u59, u60, u61, u62, u63, x64, x65, x66, x67, x68, x69, x70, x71, x72, x73], []⟩ wx) :
    Code.wp Tryd.prog ((Tryd.f17.body.bind (regionN 12)).getD .skip) Q ⟨#[u0, u1, u2, u3, u4, u5, .pointer (some ⟨u.heap.size + 1, 0, none⟩), .int .i64 (b : Nat), .pointer (some ⟨g8, 0, none⟩), .pointer (some ⟨g9, 0, none⟩), u10, u11, u12, u13, u14, u15, u16, u17, u18, u19, u20, u21, u22, u23, u24, u25, u26, u27, u28, u29, u30, u31, u32, u33, u34, u35, u36, u37, u38, u39, u40, u41, u42, u43, u44, u45, u46, u47, u48, u49, u50, u51, u52, u53, u54, u55, u56, u57, u58, u59, u60, u61, u62, u63, u64, u65, u66, u67, u68, u69, u70, u71, u72, u73], []⟩ w := by
  have HQ := Lib.hid hQ; clear hQ
  conv => arg 2; whnf
  have ea := bt (ba w (.cells #[.string ⟨#[43]⟩, .string ⟨#[45]⟩, .string ⟨#[42]⟩, .string ⟨#[47]⟩, .string ⟨#[37]⟩] 9)) (ba _ (.cells #[.int .i64 k1, .string o1, .int .i64 a1, .int .i64 b1, .string s1, .string v1, .string f1, .slice A1 n1 c1, .int .i64 k2, .string o2, .int .i64 a2, .int .i64 b2, .string s2, .string v2, .string f2, .slice A2 n2 c2] 42))
  have eb := bt (ba w (.cells #[.int .i64 k1, .string o1, .int .i64 a1, .int .i64 b1, .string s1, .string v1, .string f1, .slice A1 n1 c1, .int .i64 k2, .string o2, .int .i64 a2, .int .i64 b2, .string s2, .string v2, .string f2, .slice A2 n2 c2] 42)) (ba _ (.cells #[.string ⟨#[43]⟩, .string ⟨#[45]⟩, .string ⟨#[42]⟩, .string ⟨#[47]⟩, .string ⟨#[37]⟩] 9))
  have na : Blk ((w.alloc (.cells #[.string ⟨#[43]⟩, .string ⟨#[45]⟩, .string ⟨#[42]⟩, .string ⟨#[47]⟩, .string ⟨#[37]⟩] 9)).alloc (.cells #[.int .i64 k1, .string o1, .int .i64 a1, .int .i64 b1, .string s1, .string v1, .string f1, .slice A1 n1 c1, .int .i64 k2, .string o2, .int .i64 a2, .int .i64 b2, .string s2, .string v2, .string f2, .slice A2 n2 c2] 42)) (w.heap.size + 1) 42 #[.int .i64 k1, .string o1, .int .i64 a1, .int .i64 b1, .string s1, .string v1, .string f1, .slice A1 n1 c1, .int .i64 k2, .string o2, .int .i64 a2, .int .i64 b2, .string s2, .string v2, .string f2, .slice A2 n2 c2] := by have := Blk.new (w.alloc (.cells #[.string ⟨#[43]⟩, .string ⟨#[45]⟩, .string ⟨#[42]⟩, .string ⟨#[47]⟩, .string ⟨#[37]⟩] 9)) 42 #[.int .i64 k1, .string o1, .int .i64 a1, .int .i64 b1, .string s1, .string v1, .string f1, .slice A1 n1 c1, .int .i64 k2, .string o2, .int .i64 a2, .int .i64 b2, .string s2, .string v2, .string f2, .slice A2 n2 c2]; simpa using this
  have nb : Blk ((w.alloc (.cells #[.int .i64 k1, .string o1, .int .i64 a1, .int .i64 b1, .string s1, .string v1, .string f1, .slice A1 n1 c1, .int .i64 k2, .string o2, .int .i64 a2, .int .i64 b2, .string s2, .string v2, .string f2, .slice A2 n2 c2] 42)).alloc (.cells #[.string ⟨#[43]⟩, .string ⟨#[45]⟩, .string ⟨#[42]⟩, .string ⟨#[47]⟩, .string ⟨#[37]⟩] 9)) w.heap.size 42 #[.int .i64 k1, .string o1, .int .i64 a1, .int .i64 b1, .string s1, .string v1, .string f1, .slice A1 n1 c1, .int .i64 k2, .string o2, .int .i64 a2, .int .i64 b2, .string s2, .string v2, .string f2, .slice A2 n2 c2] := (Blk.new w _ _).alloc _
  have hl := hK.lt2
  have KA := hK.step ea
  have KB := hK.step eb
  obtain ⟨_, q1, q2⟩ := KA.facts
  obtain ⟨_, r1, r2⟩ := KB.facts
  have fa : ∀ op, 0 < lvl op → Fin (D + 1) w0 g oo lv L u (set8 ((w.alloc (.cells #[.string ⟨#[43]⟩, .string ⟨#[45]⟩, .string ⟨#[42]⟩, .string ⟨#[47]⟩, .string ⟨#[37]⟩] 9)).alloc (.cells #[.int .i64 k1, .string o1, .int .i64 a1, .int .i64 b1, .string s1, .string v1, .string f1, .slice A1 n1 c1, .int .i64 k2, .string o2, .int .i64 a2, .int .i64 b2, .string s2, .string v2, .string f2, .slice A2 n2 c2] 42)) (u.heap.size + 1) (.int .i64 4) (.string op) (.int .i64 0) (.int .i64 0) (.string e0) (.string e0) (.string e0) (.slice (some ⟨w.heap.size + 1, 0, none⟩) 2 2)) := fun op hop => Fin.mk KA hop (by omega) (hx.later ea) (hy.later ea) ho hs ho' hs' (by rw [hnx, hny]; exact na)
  have fb : ∀ op, 0 < lvl op → Fin (D + 1) w0 g oo lv L u (set8 ((w.alloc (.cells #[.int .i64 k1, .string o1, .int .i64 a1, .int .i64 b1, .string s1, .string v1, .string f1, .slice A1 n1 c1, .int .i64 k2, .string o2, .int .i64 a2, .int .i64 b2, .string s2, .string v2, .string f2, .slice A2 n2 c2] 42)).alloc (.cells #[.string ⟨#[43]⟩, .string ⟨#[45]⟩, .string ⟨#[42]⟩, .string ⟨#[47]⟩, .string ⟨#[37]⟩] 9)) (u.heap.size + 1) (.int .i64 4) (.string op) (.int .i64 0) (.int .i64 0) (.string e0) (.string e0) (.string e0) (.slice (some ⟨w.heap.size, 0, none⟩) 2 2)) := fun op hop => Fin.mk KB hop (by omega) (hx.later eb) (hy.later eb) ho hs ho' hs' (by rw [hnx, hny]; exact nb)
  have t0 := h2.dr.held
  have ta := (h2.al (.cells #[.string ⟨#[43]⟩, .string ⟨#[45]⟩, .string ⟨#[42]⟩, .string ⟨#[47]⟩, .string ⟨#[37]⟩] 9)).dr.held
  have tb := (h2.al (.cells #[.int .i64 k1, .string o1, .int .i64 a1, .int .i64 b1, .string s1, .string v1, .string f1, .slice A1 n1 c1, .int .i64 k2, .string o2, .int .i64 a2, .int .i64 b2, .string s2, .string v2, .string f2, .slice A2 n2 c2] 42)).dr.held
  have tab := ((h2.al (.cells #[.string ⟨#[43]⟩, .string ⟨#[45]⟩, .string ⟨#[42]⟩, .string ⟨#[47]⟩, .string ⟨#[37]⟩] 9)).al (.cells #[.int .i64 k1, .string o1, .int .i64 a1, .int .i64 b1, .string s1, .string v1, .string f1, .slice A1 n1 c1, .int .i64 k2, .string o2, .int .i64 a2, .int .i64 b2, .string s2, .string v2, .string f2, .slice A2 n2 c2] 42)).dr.held
  have tba := ((h2.al (.cells #[.int .i64 k1, .string o1, .int .i64 a1, .int .i64 b1, .string s1, .string v1, .string f1, .slice A1 n1 c1, .int .i64 k2, .string o2, .int .i64 a2, .int .i64 b2, .string s2, .string v2, .string f2, .slice A2 n2 c2] 42)).al (.cells #[.string ⟨#[43]⟩, .string ⟨#[45]⟩, .string ⟨#[42]⟩, .string ⟨#[47]⟩, .string ⟨#[37]⟩] 9)).dr.held
  have tsa := fun op => (((h2.al (.cells #[.string ⟨#[43]⟩, .string ⟨#[45]⟩, .string ⟨#[42]⟩, .string ⟨#[47]⟩, .string ⟨#[37]⟩] 9)).al (.cells #[.int .i64 k1, .string o1, .int .i64 a1, .int .i64 b1, .string s1, .string v1, .string f1, .slice A1 n1 c1, .int .i64 k2, .string o2, .int .i64 a2, .int .i64 b2, .string s2, .string v2, .string f2, .slice A2 n2 c2] 42)).set_ h8 h9 (.int .i64 4) (.string op) (.int .i64 0) (.int .i64 0) (.string e0) (.string e0) (.string e0) (.slice (some ⟨w.heap.size + 1, 0, none⟩) 2 2)).dr.held
  have tsb := fun op => (((h2.al (.cells #[.int .i64 k1, .string o1, .int .i64 a1, .int .i64 b1, .string s1, .string v1, .string f1, .slice A1 n1 c1, .int .i64 k2, .string o2, .int .i64 a2, .int .i64 b2, .string s2, .string v2, .string f2, .slice A2 n2 c2] 42)).al (.cells #[.string ⟨#[43]⟩, .string ⟨#[45]⟩, .string ⟨#[42]⟩, .string ⟨#[47]⟩, .string ⟨#[37]⟩] 9)).set_ h8 h9 (.int .i64 4) (.string op) (.int .i64 0) (.int .i64 0) (.string e0) (.string e0) (.string e0) (.slice (some ⟨w.heap.size, 0, none⟩) 2 2)).dr.held
  have T3 := Lib.hid (And.intro t0 (And.intro ta (And.intro tb (And.intro tab (And.intro tba (And.intro tsa tsb))))))
  have T2 := Lib.hid (And.intro fa fb); clear h2 fa fb na nb ea eb KA KB hK hx hy ho hs ho' hs' hnx hny t0 ta tb tab tba tsa tsb
  rcases (by omega : (b : Int) / 8 % 5 = 0 ∨ (b : Int) / 8 % 5 = 1 ∨ (b : Int) / 8 % 5 = 2 ∨ (b : Int) / 8 % 5 = 3 ∨ (b : Int) / 8 % 5 = 4) with hqe | hqe | hqe | hqe | hqe
  · have hqf : (IntKind.i64.wrap ((b : Int) / 8)).tmod 5 = (b : Int) / 8 % 5 := by rw [IntWalk.i64_in _ (by omega), Int.tmod_eq_emod_of_nonneg (by omega)]
    rw [hqe] at hqf
    go_wp2_with fail
    refine wp_region_noPanic ?_
    refine wp_region_held_drew (S := (fun w' => (∀ j, w'.cell? ⟨g8, j, none⟩ = #[Value.int .i64 k1, .string o1, .int .i64 a1, .int .i64 b1, .string s1, .string v1, .string f1, .slice A1 n1 c1][j]?) ∧ (∀ j, w'.cell? ⟨g9, j, none⟩ = #[Value.int .i64 k2, .string o2, .int .i64 a2, .int .i64 b2, .string s2, .string v2, .string f2, .slice A2 n2 c2][j]?))) (by kernel_rfl) T3.out.1 (fun hHeld => ?_)
    refine wpAnyH_take (i := 1) (v := ?_) rfl (by kernel_rfl) (by kernel_rfl) (by kernel_rfl) (fun _ _ _ h => h) (Or.inl ⟨by rfl, ?_⟩) (by assumption) ?_
    rotate_left
    · (intro w hSw; (try dsimp only at hSw); go_simp; try with_reducible rfl)
    try simp only [Act.put, List.setIfInBounds_toArray, List.set_cons_zero, List.set_cons_succ]
    refine wpAnyH_take (i := 2) (v := ?_) rfl (by kernel_rfl) (by kernel_rfl) (by kernel_rfl) (fun _ _ _ h => h) (Or.inl ⟨by rfl, ?_⟩) (by assumption) ?_
    rotate_left
    · (intro w hSw; (try dsimp only at hSw); go_simp; try with_reducible rfl)
    try simp only [Act.put, List.setIfInBounds_toArray, List.set_cons_zero, List.set_cons_succ]
    refine wpAnyH_take (i := 3) (v := ?_) rfl (by kernel_rfl) (by kernel_rfl) (by kernel_rfl) (fun _ _ _ h => h) (Or.inl ⟨by rfl, ?_⟩) (by assumption) ?_
    rotate_left
    · (intro w hSw; (try dsimp only at hSw); go_simp; try with_reducible rfl)
    try simp only [Act.put, List.setIfInBounds_toArray, List.set_cons_zero, List.set_cons_succ]
    refine wpAnyH_take (i := 6) (v := ?_) rfl (by kernel_rfl) (by kernel_rfl) (by kernel_rfl) (fun _ _ _ h => h) (Or.inl ⟨by rfl, ?_⟩) (by assumption) ?_
    rotate_left
    · (intro w hSw; (try dsimp only at hSw); go_simp; try with_reducible rfl)
    try simp only [Act.put, List.setIfInBounds_toArray, List.set_cons_zero, List.set_cons_succ]
    refine wpAnyH_take (i := 7) (v := ?_) rfl (by kernel_rfl) (by kernel_rfl) (by kernel_rfl) (fun _ _ _ h => h) (Or.inl ⟨by rfl, ?_⟩) (by assumption) ?_
    rotate_left
    · (intro w hSw; (try dsimp only at hSw); go_simp; try with_reducible rfl)
    try simp only [Act.put, List.setIfInBounds_toArray, List.set_cons_zero, List.set_cons_succ]
    refine wpAnyH_ready (rs := [0, 8]) (by kernel_rfl) (by simp) ?_
    refine AllReadyH.cons rfl (fun K' hK => ?_) ?_
    · go_simp
      refine hK.out _ _ ?_ (fun hHeld2 => ?_)
      · first | with_reducible exact T3.out.1 | with_reducible exact T3.out.2.1 | with_reducible exact T3.out.2.2.1 | with_reducible exact T3.out.2.2.2.1 | with_reducible exact T3.out.2.2.2.2.1 | with_reducible exact T3.out.2.2.2.2.2.1 _ | with_reducible exact T3.out.2.2.2.2.2.2 _
      clear hK K' hHeld
      have hHeld := hHeld2
      clear hHeld2
      try simp only [Act.put, List.setIfInBounds_toArray, List.set_cons_zero, List.set_cons_succ]
      refine wpAnyH_take (i := 4) (v := ?_) rfl (by kernel_rfl) (by kernel_rfl) (by kernel_rfl) (fun _ _ _ h => h) (Or.inl ⟨by rfl, ?_⟩) (by assumption) ?_
      rotate_left
      · (intro w hSw; (try dsimp only at hSw); go_simp; try with_reducible rfl)
      try simp only [Act.put, List.setIfInBounds_toArray, List.set_cons_zero, List.set_cons_succ]
      refine wpAnyH_ready (rs := [5, 8]) (by kernel_rfl) (by simp) ?_
      refine AllReadyH.cons rfl (fun K' hK => ?_) ?_
      · go_simp
        refine hK.out _ _ ?_ (fun hHeld2 => ?_)
        · first | with_reducible exact T3.out.1 | with_reducible exact T3.out.2.1 | with_reducible exact T3.out.2.2.1 | with_reducible exact T3.out.2.2.2.1 | with_reducible exact T3.out.2.2.2.2.1 | with_reducible exact T3.out.2.2.2.2.2.1 _ | with_reducible exact T3.out.2.2.2.2.2.2 _
        clear hK K' hHeld
        have hHeld := hHeld2
        clear hHeld2
        try simp only [Act.put, List.setIfInBounds_toArray, List.set_cons_zero, List.set_cons_succ]
        refine wpAnyH_ready (rs := [8]) (by kernel_rfl) (by simp) ?_
        refine AllReadyH.cons rfl (fun K' hK => ?_) ?_
        · go_simp
          refine hK.out _ _ ?_ (fun hHeld2 => ?_)
          · first | with_reducible exact T3.out.1 | with_reducible exact T3.out.2.1 | with_reducible exact T3.out.2.2.1 | with_reducible exact T3.out.2.2.2.1 | with_reducible exact T3.out.2.2.2.2.1 | with_reducible exact T3.out.2.2.2.2.2.1 _ | with_reducible exact T3.out.2.2.2.2.2.2 _
          clear hK K' hHeld
          have hHeld := hHeld2
          clear hHeld2
          try simp only [Act.put, List.setIfInBounds_toArray, List.set_cons_zero, List.set_cons_succ]
          refine wpAnyH_take (i := 9) (v := ?_) rfl (by kernel_rfl) (by kernel_rfl) (by kernel_rfl) (fun _ _ _ h => h) (Or.inl ⟨by rfl, ?_⟩) (by assumption) ?_
          rotate_left
          · (intro w hSw; (try dsimp only at hSw); go_simp; try with_reducible rfl)
          try simp only [Act.put, List.setIfInBounds_toArray, List.set_cons_zero, List.set_cons_succ]
          refine wpAnyH_ready (rs := [10]) (by kernel_rfl) (by simp) ?_
          refine AllReadyH.cons rfl (fun K' hK => ?_) ?_
          · go_simp
            refine hK.out _ _ ?_ (fun hHeld2 => ?_)
            · first | with_reducible exact T3.out.1 | with_reducible exact T3.out.2.1 | with_reducible exact T3.out.2.2.1 | with_reducible exact T3.out.2.2.2.1 | with_reducible exact T3.out.2.2.2.2.1 | with_reducible exact T3.out.2.2.2.2.2.1 _ | with_reducible exact T3.out.2.2.2.2.2.2 _
            clear hK K' hHeld
            have hHeld := hHeld2
            clear hHeld2
            try simp only [Act.put, List.setIfInBounds_toArray, List.set_cons_zero, List.set_cons_succ]
            refine wpAnyH_done (by kernel_rfl) ?_ _
            have hfin := fin_dr (T2.out.1 ⟨#[43]⟩ (of_decide_eq_true (by kernel_rfl)))
            exact NoPanic.normal (HQ.out _ _ _ _ _ _ _ _ _ _ _ hfin)
          exact AllReadyH.nil
        exact AllReadyH.nil
      refine AllReadyH.cons rfl (fun K' hK => ?_) ?_
      · go_simp
        refine hK.out _ _ ?_ (fun hHeld2 => ?_)
        · first | with_reducible exact T3.out.1 | with_reducible exact T3.out.2.1 | with_reducible exact T3.out.2.2.1 | with_reducible exact T3.out.2.2.2.1 | with_reducible exact T3.out.2.2.2.2.1 | with_reducible exact T3.out.2.2.2.2.2.1 _ | with_reducible exact T3.out.2.2.2.2.2.2 _
        clear hK K' hHeld
        have hHeld := hHeld2
        clear hHeld2
        try simp only [Act.put, List.setIfInBounds_toArray, List.set_cons_zero, List.set_cons_succ]
        refine wpAnyH_ready (rs := [5]) (by kernel_rfl) (by simp) ?_
        refine AllReadyH.cons rfl (fun K' hK => ?_) ?_
        · go_simp
          refine hK.out _ _ ?_ (fun hHeld2 => ?_)
          · first | with_reducible exact T3.out.1 | with_reducible exact T3.out.2.1 | with_reducible exact T3.out.2.2.1 | with_reducible exact T3.out.2.2.2.1 | with_reducible exact T3.out.2.2.2.2.1 | with_reducible exact T3.out.2.2.2.2.2.1 _ | with_reducible exact T3.out.2.2.2.2.2.2 _
          clear hK K' hHeld
          have hHeld := hHeld2
          clear hHeld2
          try simp only [Act.put, List.setIfInBounds_toArray, List.set_cons_zero, List.set_cons_succ]
          refine wpAnyH_take (i := 9) (v := ?_) rfl (by kernel_rfl) (by kernel_rfl) (by kernel_rfl) (fun _ _ _ h => h) (Or.inl ⟨by rfl, ?_⟩) (by assumption) ?_
          rotate_left
          · (intro w hSw; (try dsimp only at hSw); go_simp; try with_reducible rfl)
          try simp only [Act.put, List.setIfInBounds_toArray, List.set_cons_zero, List.set_cons_succ]
          refine wpAnyH_ready (rs := [10]) (by kernel_rfl) (by simp) ?_
          refine AllReadyH.cons rfl (fun K' hK => ?_) ?_
          · go_simp
            refine hK.out _ _ ?_ (fun hHeld2 => ?_)
            · first | with_reducible exact T3.out.1 | with_reducible exact T3.out.2.1 | with_reducible exact T3.out.2.2.1 | with_reducible exact T3.out.2.2.2.1 | with_reducible exact T3.out.2.2.2.2.1 | with_reducible exact T3.out.2.2.2.2.2.1 _ | with_reducible exact T3.out.2.2.2.2.2.2 _
            clear hK K' hHeld
            have hHeld := hHeld2
            clear hHeld2
            try simp only [Act.put, List.setIfInBounds_toArray, List.set_cons_zero, List.set_cons_succ]
            refine wpAnyH_done (by kernel_rfl) ?_ _
            have hfin := fin_dr (T2.out.1 ⟨#[43]⟩ (of_decide_eq_true (by kernel_rfl)))
            exact NoPanic.normal (HQ.out _ _ _ _ _ _ _ _ _ _ _ hfin)
          exact AllReadyH.nil
        exact AllReadyH.nil
      exact AllReadyH.nil
    refine AllReadyH.cons rfl (fun K' hK => ?_) ?_
    · go_simp
      refine hK.out _ _ ?_ (fun hHeld2 => ?_)
      · first | with_reducible exact T3.out.1 | with_reducible exact T3.out.2.1 | with_reducible exact T3.out.2.2.1 | with_reducible exact T3.out.2.2.2.1 | with_reducible exact T3.out.2.2.2.2.1 | with_reducible exact T3.out.2.2.2.2.2.1 _ | with_reducible exact T3.out.2.2.2.2.2.2 _
      clear hK K' hHeld
      have hHeld := hHeld2
      clear hHeld2
      try simp only [Act.put, List.setIfInBounds_toArray, List.set_cons_zero, List.set_cons_succ]
      refine wpAnyH_ready (rs := [0]) (by kernel_rfl) (by simp) ?_
      refine AllReadyH.cons rfl (fun K' hK => ?_) ?_
      · go_simp
        refine hK.out _ _ ?_ (fun hHeld2 => ?_)
        · first | with_reducible exact T3.out.1 | with_reducible exact T3.out.2.1 | with_reducible exact T3.out.2.2.1 | with_reducible exact T3.out.2.2.2.1 | with_reducible exact T3.out.2.2.2.2.1 | with_reducible exact T3.out.2.2.2.2.2.1 _ | with_reducible exact T3.out.2.2.2.2.2.2 _
        clear hK K' hHeld
        have hHeld := hHeld2
        clear hHeld2
        try simp only [Act.put, List.setIfInBounds_toArray, List.set_cons_zero, List.set_cons_succ]
        refine wpAnyH_take (i := 4) (v := ?_) rfl (by kernel_rfl) (by kernel_rfl) (by kernel_rfl) (fun _ _ _ h => h) (Or.inl ⟨by rfl, ?_⟩) (by assumption) ?_
        rotate_left
        · (intro w hSw; (try dsimp only at hSw); go_simp; try with_reducible rfl)
        try simp only [Act.put, List.setIfInBounds_toArray, List.set_cons_zero, List.set_cons_succ]
        refine wpAnyH_ready (rs := [5]) (by kernel_rfl) (by simp) ?_
        refine AllReadyH.cons rfl (fun K' hK => ?_) ?_
        · go_simp
          refine hK.out _ _ ?_ (fun hHeld2 => ?_)
          · first | with_reducible exact T3.out.1 | with_reducible exact T3.out.2.1 | with_reducible exact T3.out.2.2.1 | with_reducible exact T3.out.2.2.2.1 | with_reducible exact T3.out.2.2.2.2.1 | with_reducible exact T3.out.2.2.2.2.2.1 _ | with_reducible exact T3.out.2.2.2.2.2.2 _
          clear hK K' hHeld
          have hHeld := hHeld2
          clear hHeld2
          try simp only [Act.put, List.setIfInBounds_toArray, List.set_cons_zero, List.set_cons_succ]
          refine wpAnyH_take (i := 9) (v := ?_) rfl (by kernel_rfl) (by kernel_rfl) (by kernel_rfl) (fun _ _ _ h => h) (Or.inl ⟨by rfl, ?_⟩) (by assumption) ?_
          rotate_left
          · (intro w hSw; (try dsimp only at hSw); go_simp; try with_reducible rfl)
          try simp only [Act.put, List.setIfInBounds_toArray, List.set_cons_zero, List.set_cons_succ]
          refine wpAnyH_ready (rs := [10]) (by kernel_rfl) (by simp) ?_
          refine AllReadyH.cons rfl (fun K' hK => ?_) ?_
          · go_simp
            refine hK.out _ _ ?_ (fun hHeld2 => ?_)
            · first | with_reducible exact T3.out.1 | with_reducible exact T3.out.2.1 | with_reducible exact T3.out.2.2.1 | with_reducible exact T3.out.2.2.2.1 | with_reducible exact T3.out.2.2.2.2.1 | with_reducible exact T3.out.2.2.2.2.2.1 _ | with_reducible exact T3.out.2.2.2.2.2.2 _
            clear hK K' hHeld
            have hHeld := hHeld2
            clear hHeld2
            try simp only [Act.put, List.setIfInBounds_toArray, List.set_cons_zero, List.set_cons_succ]
            refine wpAnyH_done (by kernel_rfl) ?_ _
            have hfin := fin_dr (T2.out.2 ⟨#[43]⟩ (of_decide_eq_true (by kernel_rfl)))
            exact NoPanic.normal (HQ.out _ _ _ _ _ _ _ _ _ _ _ hfin)
          exact AllReadyH.nil
        exact AllReadyH.nil
      exact AllReadyH.nil
    exact AllReadyH.nil
  · have hqf : (IntKind.i64.wrap ((b : Int) / 8)).tmod 5 = (b : Int) / 8 % 5 := by rw [IntWalk.i64_in _ (by omega), Int.tmod_eq_emod_of_nonneg (by omega)]
    rw [hqe] at hqf
    go_wp2_with fail
    refine wp_region_noPanic ?_
    refine wp_region_held_drew (S := (fun w' => (∀ j, w'.cell? ⟨g8, j, none⟩ = #[Value.int .i64 k1, .string o1, .int .i64 a1, .int .i64 b1, .string s1, .string v1, .string f1, .slice A1 n1 c1][j]?) ∧ (∀ j, w'.cell? ⟨g9, j, none⟩ = #[Value.int .i64 k2, .string o2, .int .i64 a2, .int .i64 b2, .string s2, .string v2, .string f2, .slice A2 n2 c2][j]?))) (by kernel_rfl) T3.out.1 (fun hHeld => ?_)
    refine wpAnyH_take (i := 1) (v := ?_) rfl (by kernel_rfl) (by kernel_rfl) (by kernel_rfl) (fun _ _ _ h => h) (Or.inl ⟨by rfl, ?_⟩) (by assumption) ?_
    rotate_left
    · (intro w hSw; (try dsimp only at hSw); go_simp; try with_reducible rfl)
    try simp only [Act.put, List.setIfInBounds_toArray, List.set_cons_zero, List.set_cons_succ]
    refine wpAnyH_take (i := 2) (v := ?_) rfl (by kernel_rfl) (by kernel_rfl) (by kernel_rfl) (fun _ _ _ h => h) (Or.inl ⟨by rfl, ?_⟩) (by assumption) ?_
    rotate_left
    · (intro w hSw; (try dsimp only at hSw); go_simp; try with_reducible rfl)
    try simp only [Act.put, List.setIfInBounds_toArray, List.set_cons_zero, List.set_cons_succ]
    refine wpAnyH_take (i := 3) (v := ?_) rfl (by kernel_rfl) (by kernel_rfl) (by kernel_rfl) (fun _ _ _ h => h) (Or.inl ⟨by rfl, ?_⟩) (by assumption) ?_
    rotate_left
    · (intro w hSw; (try dsimp only at hSw); go_simp; try with_reducible rfl)
    try simp only [Act.put, List.setIfInBounds_toArray, List.set_cons_zero, List.set_cons_succ]
    refine wpAnyH_take (i := 6) (v := ?_) rfl (by kernel_rfl) (by kernel_rfl) (by kernel_rfl) (fun _ _ _ h => h) (Or.inl ⟨by rfl, ?_⟩) (by assumption) ?_
    rotate_left
    · (intro w hSw; (try dsimp only at hSw); go_simp; try with_reducible rfl)
    try simp only [Act.put, List.setIfInBounds_toArray, List.set_cons_zero, List.set_cons_succ]
    refine wpAnyH_take (i := 7) (v := ?_) rfl (by kernel_rfl) (by kernel_rfl) (by kernel_rfl) (fun _ _ _ h => h) (Or.inl ⟨by rfl, ?_⟩) (by assumption) ?_
    rotate_left
    · (intro w hSw; (try dsimp only at hSw); go_simp; try with_reducible rfl)
    try simp only [Act.put, List.setIfInBounds_toArray, List.set_cons_zero, List.set_cons_succ]
    refine wpAnyH_ready (rs := [0, 8]) (by kernel_rfl) (by simp) ?_
    refine AllReadyH.cons rfl (fun K' hK => ?_) ?_
    · go_simp
      refine hK.out _ _ ?_ (fun hHeld2 => ?_)
      · first | with_reducible exact T3.out.1 | with_reducible exact T3.out.2.1 | with_reducible exact T3.out.2.2.1 | with_reducible exact T3.out.2.2.2.1 | with_reducible exact T3.out.2.2.2.2.1 | with_reducible exact T3.out.2.2.2.2.2.1 _ | with_reducible exact T3.out.2.2.2.2.2.2 _
      clear hK K' hHeld
      have hHeld := hHeld2
      clear hHeld2
      try simp only [Act.put, List.setIfInBounds_toArray, List.set_cons_zero, List.set_cons_succ]
      refine wpAnyH_take (i := 4) (v := ?_) rfl (by kernel_rfl) (by kernel_rfl) (by kernel_rfl) (fun _ _ _ h => h) (Or.inl ⟨by rfl, ?_⟩) (by assumption) ?_
      rotate_left
      · (intro w hSw; (try dsimp only at hSw); go_simp; try with_reducible rfl)
      try simp only [Act.put, List.setIfInBounds_toArray, List.set_cons_zero, List.set_cons_succ]
      refine wpAnyH_ready (rs := [5, 8]) (by kernel_rfl) (by simp) ?_
      refine AllReadyH.cons rfl (fun K' hK => ?_) ?_
      · go_simp
        refine hK.out _ _ ?_ (fun hHeld2 => ?_)
        · first | with_reducible exact T3.out.1 | with_reducible exact T3.out.2.1 | with_reducible exact T3.out.2.2.1 | with_reducible exact T3.out.2.2.2.1 | with_reducible exact T3.out.2.2.2.2.1 | with_reducible exact T3.out.2.2.2.2.2.1 _ | with_reducible exact T3.out.2.2.2.2.2.2 _
        clear hK K' hHeld
        have hHeld := hHeld2
        clear hHeld2
        try simp only [Act.put, List.setIfInBounds_toArray, List.set_cons_zero, List.set_cons_succ]
        refine wpAnyH_ready (rs := [8]) (by kernel_rfl) (by simp) ?_
        refine AllReadyH.cons rfl (fun K' hK => ?_) ?_
        · go_simp
          refine hK.out _ _ ?_ (fun hHeld2 => ?_)
          · first | with_reducible exact T3.out.1 | with_reducible exact T3.out.2.1 | with_reducible exact T3.out.2.2.1 | with_reducible exact T3.out.2.2.2.1 | with_reducible exact T3.out.2.2.2.2.1 | with_reducible exact T3.out.2.2.2.2.2.1 _ | with_reducible exact T3.out.2.2.2.2.2.2 _
          clear hK K' hHeld
          have hHeld := hHeld2
          clear hHeld2
          try simp only [Act.put, List.setIfInBounds_toArray, List.set_cons_zero, List.set_cons_succ]
          refine wpAnyH_take (i := 9) (v := ?_) rfl (by kernel_rfl) (by kernel_rfl) (by kernel_rfl) (fun _ _ _ h => h) (Or.inl ⟨by rfl, ?_⟩) (by assumption) ?_
          rotate_left
          · (intro w hSw; (try dsimp only at hSw); go_simp; try with_reducible rfl)
          try simp only [Act.put, List.setIfInBounds_toArray, List.set_cons_zero, List.set_cons_succ]
          refine wpAnyH_ready (rs := [10]) (by kernel_rfl) (by simp) ?_
          refine AllReadyH.cons rfl (fun K' hK => ?_) ?_
          · go_simp
            refine hK.out _ _ ?_ (fun hHeld2 => ?_)
            · first | with_reducible exact T3.out.1 | with_reducible exact T3.out.2.1 | with_reducible exact T3.out.2.2.1 | with_reducible exact T3.out.2.2.2.1 | with_reducible exact T3.out.2.2.2.2.1 | with_reducible exact T3.out.2.2.2.2.2.1 _ | with_reducible exact T3.out.2.2.2.2.2.2 _
            clear hK K' hHeld
            have hHeld := hHeld2
            clear hHeld2
            try simp only [Act.put, List.setIfInBounds_toArray, List.set_cons_zero, List.set_cons_succ]
            refine wpAnyH_done (by kernel_rfl) ?_ _
            have hfin := fin_dr (T2.out.1 ⟨#[45]⟩ (of_decide_eq_true (by kernel_rfl)))
            exact NoPanic.normal (HQ.out _ _ _ _ _ _ _ _ _ _ _ hfin)
          exact AllReadyH.nil
        exact AllReadyH.nil
      refine AllReadyH.cons rfl (fun K' hK => ?_) ?_
      · go_simp
        refine hK.out _ _ ?_ (fun hHeld2 => ?_)
        · first | with_reducible exact T3.out.1 | with_reducible exact T3.out.2.1 | with_reducible exact T3.out.2.2.1 | with_reducible exact T3.out.2.2.2.1 | with_reducible exact T3.out.2.2.2.2.1 | with_reducible exact T3.out.2.2.2.2.2.1 _ | with_reducible exact T3.out.2.2.2.2.2.2 _
        clear hK K' hHeld
        have hHeld := hHeld2
        clear hHeld2
        try simp only [Act.put, List.setIfInBounds_toArray, List.set_cons_zero, List.set_cons_succ]
        refine wpAnyH_ready (rs := [5]) (by kernel_rfl) (by simp) ?_
        refine AllReadyH.cons rfl (fun K' hK => ?_) ?_
        · go_simp
          refine hK.out _ _ ?_ (fun hHeld2 => ?_)
          · first | with_reducible exact T3.out.1 | with_reducible exact T3.out.2.1 | with_reducible exact T3.out.2.2.1 | with_reducible exact T3.out.2.2.2.1 | with_reducible exact T3.out.2.2.2.2.1 | with_reducible exact T3.out.2.2.2.2.2.1 _ | with_reducible exact T3.out.2.2.2.2.2.2 _
          clear hK K' hHeld
          have hHeld := hHeld2
          clear hHeld2
          try simp only [Act.put, List.setIfInBounds_toArray, List.set_cons_zero, List.set_cons_succ]
          refine wpAnyH_take (i := 9) (v := ?_) rfl (by kernel_rfl) (by kernel_rfl) (by kernel_rfl) (fun _ _ _ h => h) (Or.inl ⟨by rfl, ?_⟩) (by assumption) ?_
          rotate_left
          · (intro w hSw; (try dsimp only at hSw); go_simp; try with_reducible rfl)
          try simp only [Act.put, List.setIfInBounds_toArray, List.set_cons_zero, List.set_cons_succ]
          refine wpAnyH_ready (rs := [10]) (by kernel_rfl) (by simp) ?_
          refine AllReadyH.cons rfl (fun K' hK => ?_) ?_
          · go_simp
            refine hK.out _ _ ?_ (fun hHeld2 => ?_)
            · first | with_reducible exact T3.out.1 | with_reducible exact T3.out.2.1 | with_reducible exact T3.out.2.2.1 | with_reducible exact T3.out.2.2.2.1 | with_reducible exact T3.out.2.2.2.2.1 | with_reducible exact T3.out.2.2.2.2.2.1 _ | with_reducible exact T3.out.2.2.2.2.2.2 _
            clear hK K' hHeld
            have hHeld := hHeld2
            clear hHeld2
            try simp only [Act.put, List.setIfInBounds_toArray, List.set_cons_zero, List.set_cons_succ]
            refine wpAnyH_done (by kernel_rfl) ?_ _
            have hfin := fin_dr (T2.out.1 ⟨#[45]⟩ (of_decide_eq_true (by kernel_rfl)))
            exact NoPanic.normal (HQ.out _ _ _ _ _ _ _ _ _ _ _ hfin)
          exact AllReadyH.nil
        exact AllReadyH.nil
      exact AllReadyH.nil
    refine AllReadyH.cons rfl (fun K' hK => ?_) ?_
    · go_simp
      refine hK.out _ _ ?_ (fun hHeld2 => ?_)
      · first | with_reducible exact T3.out.1 | with_reducible exact T3.out.2.1 | with_reducible exact T3.out.2.2.1 | with_reducible exact T3.out.2.2.2.1 | with_reducible exact T3.out.2.2.2.2.1 | with_reducible exact T3.out.2.2.2.2.2.1 _ | with_reducible exact T3.out.2.2.2.2.2.2 _
      clear hK K' hHeld
      have hHeld := hHeld2
      clear hHeld2
      try simp only [Act.put, List.setIfInBounds_toArray, List.set_cons_zero, List.set_cons_succ]
      refine wpAnyH_ready (rs := [0]) (by kernel_rfl) (by simp) ?_
      refine AllReadyH.cons rfl (fun K' hK => ?_) ?_
      · go_simp
        refine hK.out _ _ ?_ (fun hHeld2 => ?_)
        · first | with_reducible exact T3.out.1 | with_reducible exact T3.out.2.1 | with_reducible exact T3.out.2.2.1 | with_reducible exact T3.out.2.2.2.1 | with_reducible exact T3.out.2.2.2.2.1 | with_reducible exact T3.out.2.2.2.2.2.1 _ | with_reducible exact T3.out.2.2.2.2.2.2 _
        clear hK K' hHeld
        have hHeld := hHeld2
        clear hHeld2
        try simp only [Act.put, List.setIfInBounds_toArray, List.set_cons_zero, List.set_cons_succ]
        refine wpAnyH_take (i := 4) (v := ?_) rfl (by kernel_rfl) (by kernel_rfl) (by kernel_rfl) (fun _ _ _ h => h) (Or.inl ⟨by rfl, ?_⟩) (by assumption) ?_
        rotate_left
        · (intro w hSw; (try dsimp only at hSw); go_simp; try with_reducible rfl)
        try simp only [Act.put, List.setIfInBounds_toArray, List.set_cons_zero, List.set_cons_succ]
        refine wpAnyH_ready (rs := [5]) (by kernel_rfl) (by simp) ?_
        refine AllReadyH.cons rfl (fun K' hK => ?_) ?_
        · go_simp
          refine hK.out _ _ ?_ (fun hHeld2 => ?_)
          · first | with_reducible exact T3.out.1 | with_reducible exact T3.out.2.1 | with_reducible exact T3.out.2.2.1 | with_reducible exact T3.out.2.2.2.1 | with_reducible exact T3.out.2.2.2.2.1 | with_reducible exact T3.out.2.2.2.2.2.1 _ | with_reducible exact T3.out.2.2.2.2.2.2 _
          clear hK K' hHeld
          have hHeld := hHeld2
          clear hHeld2
          try simp only [Act.put, List.setIfInBounds_toArray, List.set_cons_zero, List.set_cons_succ]
          refine wpAnyH_take (i := 9) (v := ?_) rfl (by kernel_rfl) (by kernel_rfl) (by kernel_rfl) (fun _ _ _ h => h) (Or.inl ⟨by rfl, ?_⟩) (by assumption) ?_
          rotate_left
          · (intro w hSw; (try dsimp only at hSw); go_simp; try with_reducible rfl)
          try simp only [Act.put, List.setIfInBounds_toArray, List.set_cons_zero, List.set_cons_succ]
          refine wpAnyH_ready (rs := [10]) (by kernel_rfl) (by simp) ?_
          refine AllReadyH.cons rfl (fun K' hK => ?_) ?_
          · go_simp
            refine hK.out _ _ ?_ (fun hHeld2 => ?_)
            · first | with_reducible exact T3.out.1 | with_reducible exact T3.out.2.1 | with_reducible exact T3.out.2.2.1 | with_reducible exact T3.out.2.2.2.1 | with_reducible exact T3.out.2.2.2.2.1 | with_reducible exact T3.out.2.2.2.2.2.1 _ | with_reducible exact T3.out.2.2.2.2.2.2 _
            clear hK K' hHeld
            have hHeld := hHeld2
            clear hHeld2
            try simp only [Act.put, List.setIfInBounds_toArray, List.set_cons_zero, List.set_cons_succ]
            refine wpAnyH_done (by kernel_rfl) ?_ _
            have hfin := fin_dr (T2.out.2 ⟨#[45]⟩ (of_decide_eq_true (by kernel_rfl)))
            exact NoPanic.normal (HQ.out _ _ _ _ _ _ _ _ _ _ _ hfin)
          exact AllReadyH.nil
        exact AllReadyH.nil
      exact AllReadyH.nil
    exact AllReadyH.nil
  · have hqf : (IntKind.i64.wrap ((b : Int) / 8)).tmod 5 = (b : Int) / 8 % 5 := by rw [IntWalk.i64_in _ (by omega), Int.tmod_eq_emod_of_nonneg (by omega)]
    rw [hqe] at hqf
    go_wp2_with fail
    refine wp_region_noPanic ?_
    refine wp_region_held_drew (S := (fun w' => (∀ j, w'.cell? ⟨g8, j, none⟩ = #[Value.int .i64 k1, .string o1, .int .i64 a1, .int .i64 b1, .string s1, .string v1, .string f1, .slice A1 n1 c1][j]?) ∧ (∀ j, w'.cell? ⟨g9, j, none⟩ = #[Value.int .i64 k2, .string o2, .int .i64 a2, .int .i64 b2, .string s2, .string v2, .string f2, .slice A2 n2 c2][j]?))) (by kernel_rfl) T3.out.1 (fun hHeld => ?_)
    refine wpAnyH_take (i := 1) (v := ?_) rfl (by kernel_rfl) (by kernel_rfl) (by kernel_rfl) (fun _ _ _ h => h) (Or.inl ⟨by rfl, ?_⟩) (by assumption) ?_
    rotate_left
    · (intro w hSw; (try dsimp only at hSw); go_simp; try with_reducible rfl)
    try simp only [Act.put, List.setIfInBounds_toArray, List.set_cons_zero, List.set_cons_succ]
    refine wpAnyH_take (i := 2) (v := ?_) rfl (by kernel_rfl) (by kernel_rfl) (by kernel_rfl) (fun _ _ _ h => h) (Or.inl ⟨by rfl, ?_⟩) (by assumption) ?_
    rotate_left
    · (intro w hSw; (try dsimp only at hSw); go_simp; try with_reducible rfl)
    try simp only [Act.put, List.setIfInBounds_toArray, List.set_cons_zero, List.set_cons_succ]
    refine wpAnyH_take (i := 3) (v := ?_) rfl (by kernel_rfl) (by kernel_rfl) (by kernel_rfl) (fun _ _ _ h => h) (Or.inl ⟨by rfl, ?_⟩) (by assumption) ?_
    rotate_left
    · (intro w hSw; (try dsimp only at hSw); go_simp; try with_reducible rfl)
    try simp only [Act.put, List.setIfInBounds_toArray, List.set_cons_zero, List.set_cons_succ]
    refine wpAnyH_take (i := 6) (v := ?_) rfl (by kernel_rfl) (by kernel_rfl) (by kernel_rfl) (fun _ _ _ h => h) (Or.inl ⟨by rfl, ?_⟩) (by assumption) ?_
    rotate_left
    · (intro w hSw; (try dsimp only at hSw); go_simp; try with_reducible rfl)
    try simp only [Act.put, List.setIfInBounds_toArray, List.set_cons_zero, List.set_cons_succ]
    refine wpAnyH_take (i := 7) (v := ?_) rfl (by kernel_rfl) (by kernel_rfl) (by kernel_rfl) (fun _ _ _ h => h) (Or.inl ⟨by rfl, ?_⟩) (by assumption) ?_
    rotate_left
    · (intro w hSw; (try dsimp only at hSw); go_simp; try with_reducible rfl)
    try simp only [Act.put, List.setIfInBounds_toArray, List.set_cons_zero, List.set_cons_succ]
    refine wpAnyH_ready (rs := [0, 8]) (by kernel_rfl) (by simp) ?_
    refine AllReadyH.cons rfl (fun K' hK => ?_) ?_
    · go_simp
      refine hK.out _ _ ?_ (fun hHeld2 => ?_)
      · first | with_reducible exact T3.out.1 | with_reducible exact T3.out.2.1 | with_reducible exact T3.out.2.2.1 | with_reducible exact T3.out.2.2.2.1 | with_reducible exact T3.out.2.2.2.2.1 | with_reducible exact T3.out.2.2.2.2.2.1 _ | with_reducible exact T3.out.2.2.2.2.2.2 _
      clear hK K' hHeld
      have hHeld := hHeld2
      clear hHeld2
      try simp only [Act.put, List.setIfInBounds_toArray, List.set_cons_zero, List.set_cons_succ]
      refine wpAnyH_take (i := 4) (v := ?_) rfl (by kernel_rfl) (by kernel_rfl) (by kernel_rfl) (fun _ _ _ h => h) (Or.inl ⟨by rfl, ?_⟩) (by assumption) ?_
      rotate_left
      · (intro w hSw; (try dsimp only at hSw); go_simp; try with_reducible rfl)
      try simp only [Act.put, List.setIfInBounds_toArray, List.set_cons_zero, List.set_cons_succ]
      refine wpAnyH_ready (rs := [5, 8]) (by kernel_rfl) (by simp) ?_
      refine AllReadyH.cons rfl (fun K' hK => ?_) ?_
      · go_simp
        refine hK.out _ _ ?_ (fun hHeld2 => ?_)
        · first | with_reducible exact T3.out.1 | with_reducible exact T3.out.2.1 | with_reducible exact T3.out.2.2.1 | with_reducible exact T3.out.2.2.2.1 | with_reducible exact T3.out.2.2.2.2.1 | with_reducible exact T3.out.2.2.2.2.2.1 _ | with_reducible exact T3.out.2.2.2.2.2.2 _
        clear hK K' hHeld
        have hHeld := hHeld2
        clear hHeld2
        try simp only [Act.put, List.setIfInBounds_toArray, List.set_cons_zero, List.set_cons_succ]
        refine wpAnyH_ready (rs := [8]) (by kernel_rfl) (by simp) ?_
        refine AllReadyH.cons rfl (fun K' hK => ?_) ?_
        · go_simp
          refine hK.out _ _ ?_ (fun hHeld2 => ?_)
          · first | with_reducible exact T3.out.1 | with_reducible exact T3.out.2.1 | with_reducible exact T3.out.2.2.1 | with_reducible exact T3.out.2.2.2.1 | with_reducible exact T3.out.2.2.2.2.1 | with_reducible exact T3.out.2.2.2.2.2.1 _ | with_reducible exact T3.out.2.2.2.2.2.2 _
          clear hK K' hHeld
          have hHeld := hHeld2
          clear hHeld2
          try simp only [Act.put, List.setIfInBounds_toArray, List.set_cons_zero, List.set_cons_succ]
          refine wpAnyH_take (i := 9) (v := ?_) rfl (by kernel_rfl) (by kernel_rfl) (by kernel_rfl) (fun _ _ _ h => h) (Or.inl ⟨by rfl, ?_⟩) (by assumption) ?_
          rotate_left
          · (intro w hSw; (try dsimp only at hSw); go_simp; try with_reducible rfl)
          try simp only [Act.put, List.setIfInBounds_toArray, List.set_cons_zero, List.set_cons_succ]
          refine wpAnyH_ready (rs := [10]) (by kernel_rfl) (by simp) ?_
          refine AllReadyH.cons rfl (fun K' hK => ?_) ?_
          · go_simp
            refine hK.out _ _ ?_ (fun hHeld2 => ?_)
            · first | with_reducible exact T3.out.1 | with_reducible exact T3.out.2.1 | with_reducible exact T3.out.2.2.1 | with_reducible exact T3.out.2.2.2.1 | with_reducible exact T3.out.2.2.2.2.1 | with_reducible exact T3.out.2.2.2.2.2.1 _ | with_reducible exact T3.out.2.2.2.2.2.2 _
            clear hK K' hHeld
            have hHeld := hHeld2
            clear hHeld2
            try simp only [Act.put, List.setIfInBounds_toArray, List.set_cons_zero, List.set_cons_succ]
            refine wpAnyH_done (by kernel_rfl) ?_ _
            have hfin := fin_dr (T2.out.1 ⟨#[42]⟩ (of_decide_eq_true (by kernel_rfl)))
            exact NoPanic.normal (HQ.out _ _ _ _ _ _ _ _ _ _ _ hfin)
          exact AllReadyH.nil
        exact AllReadyH.nil
      refine AllReadyH.cons rfl (fun K' hK => ?_) ?_
      · go_simp
        refine hK.out _ _ ?_ (fun hHeld2 => ?_)
        · first | with_reducible exact T3.out.1 | with_reducible exact T3.out.2.1 | with_reducible exact T3.out.2.2.1 | with_reducible exact T3.out.2.2.2.1 | with_reducible exact T3.out.2.2.2.2.1 | with_reducible exact T3.out.2.2.2.2.2.1 _ | with_reducible exact T3.out.2.2.2.2.2.2 _
        clear hK K' hHeld
        have hHeld := hHeld2
        clear hHeld2
        try simp only [Act.put, List.setIfInBounds_toArray, List.set_cons_zero, List.set_cons_succ]
        refine wpAnyH_ready (rs := [5]) (by kernel_rfl) (by simp) ?_
        refine AllReadyH.cons rfl (fun K' hK => ?_) ?_
        · go_simp
          refine hK.out _ _ ?_ (fun hHeld2 => ?_)
          · first | with_reducible exact T3.out.1 | with_reducible exact T3.out.2.1 | with_reducible exact T3.out.2.2.1 | with_reducible exact T3.out.2.2.2.1 | with_reducible exact T3.out.2.2.2.2.1 | with_reducible exact T3.out.2.2.2.2.2.1 _ | with_reducible exact T3.out.2.2.2.2.2.2 _
          clear hK K' hHeld
          have hHeld := hHeld2
          clear hHeld2
          try simp only [Act.put, List.setIfInBounds_toArray, List.set_cons_zero, List.set_cons_succ]
          refine wpAnyH_take (i := 9) (v := ?_) rfl (by kernel_rfl) (by kernel_rfl) (by kernel_rfl) (fun _ _ _ h => h) (Or.inl ⟨by rfl, ?_⟩) (by assumption) ?_
          rotate_left
          · (intro w hSw; (try dsimp only at hSw); go_simp; try with_reducible rfl)
          try simp only [Act.put, List.setIfInBounds_toArray, List.set_cons_zero, List.set_cons_succ]
          refine wpAnyH_ready (rs := [10]) (by kernel_rfl) (by simp) ?_
          refine AllReadyH.cons rfl (fun K' hK => ?_) ?_
          · go_simp
            refine hK.out _ _ ?_ (fun hHeld2 => ?_)
            · first | with_reducible exact T3.out.1 | with_reducible exact T3.out.2.1 | with_reducible exact T3.out.2.2.1 | with_reducible exact T3.out.2.2.2.1 | with_reducible exact T3.out.2.2.2.2.1 | with_reducible exact T3.out.2.2.2.2.2.1 _ | with_reducible exact T3.out.2.2.2.2.2.2 _
            clear hK K' hHeld
            have hHeld := hHeld2
            clear hHeld2
            try simp only [Act.put, List.setIfInBounds_toArray, List.set_cons_zero, List.set_cons_succ]
            refine wpAnyH_done (by kernel_rfl) ?_ _
            have hfin := fin_dr (T2.out.1 ⟨#[42]⟩ (of_decide_eq_true (by kernel_rfl)))
            exact NoPanic.normal (HQ.out _ _ _ _ _ _ _ _ _ _ _ hfin)
          exact AllReadyH.nil
        exact AllReadyH.nil
      exact AllReadyH.nil
    refine AllReadyH.cons rfl (fun K' hK => ?_) ?_
    · go_simp
      refine hK.out _ _ ?_ (fun hHeld2 => ?_)
      · first | with_reducible exact T3.out.1 | with_reducible exact T3.out.2.1 | with_reducible exact T3.out.2.2.1 | with_reducible exact T3.out.2.2.2.1 | with_reducible exact T3.out.2.2.2.2.1 | with_reducible exact T3.out.2.2.2.2.2.1 _ | with_reducible exact T3.out.2.2.2.2.2.2 _
      clear hK K' hHeld
      have hHeld := hHeld2
      clear hHeld2
      try simp only [Act.put, List.setIfInBounds_toArray, List.set_cons_zero, List.set_cons_succ]
      refine wpAnyH_ready (rs := [0]) (by kernel_rfl) (by simp) ?_
      refine AllReadyH.cons rfl (fun K' hK => ?_) ?_
      · go_simp
        refine hK.out _ _ ?_ (fun hHeld2 => ?_)
        · first | with_reducible exact T3.out.1 | with_reducible exact T3.out.2.1 | with_reducible exact T3.out.2.2.1 | with_reducible exact T3.out.2.2.2.1 | with_reducible exact T3.out.2.2.2.2.1 | with_reducible exact T3.out.2.2.2.2.2.1 _ | with_reducible exact T3.out.2.2.2.2.2.2 _
        clear hK K' hHeld
        have hHeld := hHeld2
        clear hHeld2
        try simp only [Act.put, List.setIfInBounds_toArray, List.set_cons_zero, List.set_cons_succ]
        refine wpAnyH_take (i := 4) (v := ?_) rfl (by kernel_rfl) (by kernel_rfl) (by kernel_rfl) (fun _ _ _ h => h) (Or.inl ⟨by rfl, ?_⟩) (by assumption) ?_
        rotate_left
        · (intro w hSw; (try dsimp only at hSw); go_simp; try with_reducible rfl)
        try simp only [Act.put, List.setIfInBounds_toArray, List.set_cons_zero, List.set_cons_succ]
        refine wpAnyH_ready (rs := [5]) (by kernel_rfl) (by simp) ?_
        refine AllReadyH.cons rfl (fun K' hK => ?_) ?_
        · go_simp
          refine hK.out _ _ ?_ (fun hHeld2 => ?_)
          · first | with_reducible exact T3.out.1 | with_reducible exact T3.out.2.1 | with_reducible exact T3.out.2.2.1 | with_reducible exact T3.out.2.2.2.1 | with_reducible exact T3.out.2.2.2.2.1 | with_reducible exact T3.out.2.2.2.2.2.1 _ | with_reducible exact T3.out.2.2.2.2.2.2 _
          clear hK K' hHeld
          have hHeld := hHeld2
          clear hHeld2
          try simp only [Act.put, List.setIfInBounds_toArray, List.set_cons_zero, List.set_cons_succ]
          refine wpAnyH_take (i := 9) (v := ?_) rfl (by kernel_rfl) (by kernel_rfl) (by kernel_rfl) (fun _ _ _ h => h) (Or.inl ⟨by rfl, ?_⟩) (by assumption) ?_
          rotate_left
          · (intro w hSw; (try dsimp only at hSw); go_simp; try with_reducible rfl)
          try simp only [Act.put, List.setIfInBounds_toArray, List.set_cons_zero, List.set_cons_succ]
          refine wpAnyH_ready (rs := [10]) (by kernel_rfl) (by simp) ?_
          refine AllReadyH.cons rfl (fun K' hK => ?_) ?_
          · go_simp
            refine hK.out _ _ ?_ (fun hHeld2 => ?_)
            · first | with_reducible exact T3.out.1 | with_reducible exact T3.out.2.1 | with_reducible exact T3.out.2.2.1 | with_reducible exact T3.out.2.2.2.1 | with_reducible exact T3.out.2.2.2.2.1 | with_reducible exact T3.out.2.2.2.2.2.1 _ | with_reducible exact T3.out.2.2.2.2.2.2 _
            clear hK K' hHeld
            have hHeld := hHeld2
            clear hHeld2
            try simp only [Act.put, List.setIfInBounds_toArray, List.set_cons_zero, List.set_cons_succ]
            refine wpAnyH_done (by kernel_rfl) ?_ _
            have hfin := fin_dr (T2.out.2 ⟨#[42]⟩ (of_decide_eq_true (by kernel_rfl)))
            exact NoPanic.normal (HQ.out _ _ _ _ _ _ _ _ _ _ _ hfin)
          exact AllReadyH.nil
        exact AllReadyH.nil
      exact AllReadyH.nil
    exact AllReadyH.nil
  · have hqf : (IntKind.i64.wrap ((b : Int) / 8)).tmod 5 = (b : Int) / 8 % 5 := by rw [IntWalk.i64_in _ (by omega), Int.tmod_eq_emod_of_nonneg (by omega)]
    rw [hqe] at hqf
    go_wp2_with fail
    refine wp_region_noPanic ?_
    refine wp_region_held_drew (S := (fun w' => (∀ j, w'.cell? ⟨g8, j, none⟩ = #[Value.int .i64 k1, .string o1, .int .i64 a1, .int .i64 b1, .string s1, .string v1, .string f1, .slice A1 n1 c1][j]?) ∧ (∀ j, w'.cell? ⟨g9, j, none⟩ = #[Value.int .i64 k2, .string o2, .int .i64 a2, .int .i64 b2, .string s2, .string v2, .string f2, .slice A2 n2 c2][j]?))) (by kernel_rfl) T3.out.1 (fun hHeld => ?_)
    refine wpAnyH_take (i := 1) (v := ?_) rfl (by kernel_rfl) (by kernel_rfl) (by kernel_rfl) (fun _ _ _ h => h) (Or.inl ⟨by rfl, ?_⟩) (by assumption) ?_
    rotate_left
    · (intro w hSw; (try dsimp only at hSw); go_simp; try with_reducible rfl)
    try simp only [Act.put, List.setIfInBounds_toArray, List.set_cons_zero, List.set_cons_succ]
    refine wpAnyH_take (i := 2) (v := ?_) rfl (by kernel_rfl) (by kernel_rfl) (by kernel_rfl) (fun _ _ _ h => h) (Or.inl ⟨by rfl, ?_⟩) (by assumption) ?_
    rotate_left
    · (intro w hSw; (try dsimp only at hSw); go_simp; try with_reducible rfl)
    try simp only [Act.put, List.setIfInBounds_toArray, List.set_cons_zero, List.set_cons_succ]
    refine wpAnyH_take (i := 3) (v := ?_) rfl (by kernel_rfl) (by kernel_rfl) (by kernel_rfl) (fun _ _ _ h => h) (Or.inl ⟨by rfl, ?_⟩) (by assumption) ?_
    rotate_left
    · (intro w hSw; (try dsimp only at hSw); go_simp; try with_reducible rfl)
    try simp only [Act.put, List.setIfInBounds_toArray, List.set_cons_zero, List.set_cons_succ]
    refine wpAnyH_take (i := 6) (v := ?_) rfl (by kernel_rfl) (by kernel_rfl) (by kernel_rfl) (fun _ _ _ h => h) (Or.inl ⟨by rfl, ?_⟩) (by assumption) ?_
    rotate_left
    · (intro w hSw; (try dsimp only at hSw); go_simp; try with_reducible rfl)
    try simp only [Act.put, List.setIfInBounds_toArray, List.set_cons_zero, List.set_cons_succ]
    refine wpAnyH_take (i := 7) (v := ?_) rfl (by kernel_rfl) (by kernel_rfl) (by kernel_rfl) (fun _ _ _ h => h) (Or.inl ⟨by rfl, ?_⟩) (by assumption) ?_
    rotate_left
    · (intro w hSw; (try dsimp only at hSw); go_simp; try with_reducible rfl)
    try simp only [Act.put, List.setIfInBounds_toArray, List.set_cons_zero, List.set_cons_succ]
    refine wpAnyH_ready (rs := [0, 8]) (by kernel_rfl) (by simp) ?_
    refine AllReadyH.cons rfl (fun K' hK => ?_) ?_
    · go_simp
      refine hK.out _ _ ?_ (fun hHeld2 => ?_)
      · first | with_reducible exact T3.out.1 | with_reducible exact T3.out.2.1 | with_reducible exact T3.out.2.2.1 | with_reducible exact T3.out.2.2.2.1 | with_reducible exact T3.out.2.2.2.2.1 | with_reducible exact T3.out.2.2.2.2.2.1 _ | with_reducible exact T3.out.2.2.2.2.2.2 _
      clear hK K' hHeld
      have hHeld := hHeld2
      clear hHeld2
      try simp only [Act.put, List.setIfInBounds_toArray, List.set_cons_zero, List.set_cons_succ]
      refine wpAnyH_take (i := 4) (v := ?_) rfl (by kernel_rfl) (by kernel_rfl) (by kernel_rfl) (fun _ _ _ h => h) (Or.inl ⟨by rfl, ?_⟩) (by assumption) ?_
      rotate_left
      · (intro w hSw; (try dsimp only at hSw); go_simp; try with_reducible rfl)
      try simp only [Act.put, List.setIfInBounds_toArray, List.set_cons_zero, List.set_cons_succ]
      refine wpAnyH_ready (rs := [5, 8]) (by kernel_rfl) (by simp) ?_
      refine AllReadyH.cons rfl (fun K' hK => ?_) ?_
      · go_simp
        refine hK.out _ _ ?_ (fun hHeld2 => ?_)
        · first | with_reducible exact T3.out.1 | with_reducible exact T3.out.2.1 | with_reducible exact T3.out.2.2.1 | with_reducible exact T3.out.2.2.2.1 | with_reducible exact T3.out.2.2.2.2.1 | with_reducible exact T3.out.2.2.2.2.2.1 _ | with_reducible exact T3.out.2.2.2.2.2.2 _
        clear hK K' hHeld
        have hHeld := hHeld2
        clear hHeld2
        try simp only [Act.put, List.setIfInBounds_toArray, List.set_cons_zero, List.set_cons_succ]
        refine wpAnyH_ready (rs := [8]) (by kernel_rfl) (by simp) ?_
        refine AllReadyH.cons rfl (fun K' hK => ?_) ?_
        · go_simp
          refine hK.out _ _ ?_ (fun hHeld2 => ?_)
          · first | with_reducible exact T3.out.1 | with_reducible exact T3.out.2.1 | with_reducible exact T3.out.2.2.1 | with_reducible exact T3.out.2.2.2.1 | with_reducible exact T3.out.2.2.2.2.1 | with_reducible exact T3.out.2.2.2.2.2.1 _ | with_reducible exact T3.out.2.2.2.2.2.2 _
          clear hK K' hHeld
          have hHeld := hHeld2
          clear hHeld2
          try simp only [Act.put, List.setIfInBounds_toArray, List.set_cons_zero, List.set_cons_succ]
          refine wpAnyH_take (i := 9) (v := ?_) rfl (by kernel_rfl) (by kernel_rfl) (by kernel_rfl) (fun _ _ _ h => h) (Or.inl ⟨by rfl, ?_⟩) (by assumption) ?_
          rotate_left
          · (intro w hSw; (try dsimp only at hSw); go_simp; try with_reducible rfl)
          try simp only [Act.put, List.setIfInBounds_toArray, List.set_cons_zero, List.set_cons_succ]
          refine wpAnyH_ready (rs := [10]) (by kernel_rfl) (by simp) ?_
          refine AllReadyH.cons rfl (fun K' hK => ?_) ?_
          · go_simp
            refine hK.out _ _ ?_ (fun hHeld2 => ?_)
            · first | with_reducible exact T3.out.1 | with_reducible exact T3.out.2.1 | with_reducible exact T3.out.2.2.1 | with_reducible exact T3.out.2.2.2.1 | with_reducible exact T3.out.2.2.2.2.1 | with_reducible exact T3.out.2.2.2.2.2.1 _ | with_reducible exact T3.out.2.2.2.2.2.2 _
            clear hK K' hHeld
            have hHeld := hHeld2
            clear hHeld2
            try simp only [Act.put, List.setIfInBounds_toArray, List.set_cons_zero, List.set_cons_succ]
            refine wpAnyH_done (by kernel_rfl) ?_ _
            have hfin := fin_dr (T2.out.1 ⟨#[47]⟩ (of_decide_eq_true (by kernel_rfl)))
            exact NoPanic.normal (HQ.out _ _ _ _ _ _ _ _ _ _ _ hfin)
          exact AllReadyH.nil
        exact AllReadyH.nil
      refine AllReadyH.cons rfl (fun K' hK => ?_) ?_
      · go_simp
        refine hK.out _ _ ?_ (fun hHeld2 => ?_)
        · first | with_reducible exact T3.out.1 | with_reducible exact T3.out.2.1 | with_reducible exact T3.out.2.2.1 | with_reducible exact T3.out.2.2.2.1 | with_reducible exact T3.out.2.2.2.2.1 | with_reducible exact T3.out.2.2.2.2.2.1 _ | with_reducible exact T3.out.2.2.2.2.2.2 _
        clear hK K' hHeld
        have hHeld := hHeld2
        clear hHeld2
        try simp only [Act.put, List.setIfInBounds_toArray, List.set_cons_zero, List.set_cons_succ]
        refine wpAnyH_ready (rs := [5]) (by kernel_rfl) (by simp) ?_
        refine AllReadyH.cons rfl (fun K' hK => ?_) ?_
        · go_simp
          refine hK.out _ _ ?_ (fun hHeld2 => ?_)
          · first | with_reducible exact T3.out.1 | with_reducible exact T3.out.2.1 | with_reducible exact T3.out.2.2.1 | with_reducible exact T3.out.2.2.2.1 | with_reducible exact T3.out.2.2.2.2.1 | with_reducible exact T3.out.2.2.2.2.2.1 _ | with_reducible exact T3.out.2.2.2.2.2.2 _
          clear hK K' hHeld
          have hHeld := hHeld2
          clear hHeld2
          try simp only [Act.put, List.setIfInBounds_toArray, List.set_cons_zero, List.set_cons_succ]
          refine wpAnyH_take (i := 9) (v := ?_) rfl (by kernel_rfl) (by kernel_rfl) (by kernel_rfl) (fun _ _ _ h => h) (Or.inl ⟨by rfl, ?_⟩) (by assumption) ?_
          rotate_left
          · (intro w hSw; (try dsimp only at hSw); go_simp; try with_reducible rfl)
          try simp only [Act.put, List.setIfInBounds_toArray, List.set_cons_zero, List.set_cons_succ]
          refine wpAnyH_ready (rs := [10]) (by kernel_rfl) (by simp) ?_
          refine AllReadyH.cons rfl (fun K' hK => ?_) ?_
          · go_simp
            refine hK.out _ _ ?_ (fun hHeld2 => ?_)
            · first | with_reducible exact T3.out.1 | with_reducible exact T3.out.2.1 | with_reducible exact T3.out.2.2.1 | with_reducible exact T3.out.2.2.2.1 | with_reducible exact T3.out.2.2.2.2.1 | with_reducible exact T3.out.2.2.2.2.2.1 _ | with_reducible exact T3.out.2.2.2.2.2.2 _
            clear hK K' hHeld
            have hHeld := hHeld2
            clear hHeld2
            try simp only [Act.put, List.setIfInBounds_toArray, List.set_cons_zero, List.set_cons_succ]
            refine wpAnyH_done (by kernel_rfl) ?_ _
            have hfin := fin_dr (T2.out.1 ⟨#[47]⟩ (of_decide_eq_true (by kernel_rfl)))
            exact NoPanic.normal (HQ.out _ _ _ _ _ _ _ _ _ _ _ hfin)
          exact AllReadyH.nil
        exact AllReadyH.nil
      exact AllReadyH.nil
    refine AllReadyH.cons rfl (fun K' hK => ?_) ?_
    · go_simp
      refine hK.out _ _ ?_ (fun hHeld2 => ?_)
      · first | with_reducible exact T3.out.1 | with_reducible exact T3.out.2.1 | with_reducible exact T3.out.2.2.1 | with_reducible exact T3.out.2.2.2.1 | with_reducible exact T3.out.2.2.2.2.1 | with_reducible exact T3.out.2.2.2.2.2.1 _ | with_reducible exact T3.out.2.2.2.2.2.2 _
      clear hK K' hHeld
      have hHeld := hHeld2
      clear hHeld2
      try simp only [Act.put, List.setIfInBounds_toArray, List.set_cons_zero, List.set_cons_succ]
      refine wpAnyH_ready (rs := [0]) (by kernel_rfl) (by simp) ?_
      refine AllReadyH.cons rfl (fun K' hK => ?_) ?_
      · go_simp
        refine hK.out _ _ ?_ (fun hHeld2 => ?_)
        · first | with_reducible exact T3.out.1 | with_reducible exact T3.out.2.1 | with_reducible exact T3.out.2.2.1 | with_reducible exact T3.out.2.2.2.1 | with_reducible exact T3.out.2.2.2.2.1 | with_reducible exact T3.out.2.2.2.2.2.1 _ | with_reducible exact T3.out.2.2.2.2.2.2 _
        clear hK K' hHeld
        have hHeld := hHeld2
        clear hHeld2
        try simp only [Act.put, List.setIfInBounds_toArray, List.set_cons_zero, List.set_cons_succ]
        refine wpAnyH_take (i := 4) (v := ?_) rfl (by kernel_rfl) (by kernel_rfl) (by kernel_rfl) (fun _ _ _ h => h) (Or.inl ⟨by rfl, ?_⟩) (by assumption) ?_
        rotate_left
        · (intro w hSw; (try dsimp only at hSw); go_simp; try with_reducible rfl)
        try simp only [Act.put, List.setIfInBounds_toArray, List.set_cons_zero, List.set_cons_succ]
        refine wpAnyH_ready (rs := [5]) (by kernel_rfl) (by simp) ?_
        refine AllReadyH.cons rfl (fun K' hK => ?_) ?_
        · go_simp
          refine hK.out _ _ ?_ (fun hHeld2 => ?_)
          · first | with_reducible exact T3.out.1 | with_reducible exact T3.out.2.1 | with_reducible exact T3.out.2.2.1 | with_reducible exact T3.out.2.2.2.1 | with_reducible exact T3.out.2.2.2.2.1 | with_reducible exact T3.out.2.2.2.2.2.1 _ | with_reducible exact T3.out.2.2.2.2.2.2 _
          clear hK K' hHeld
          have hHeld := hHeld2
          clear hHeld2
          try simp only [Act.put, List.setIfInBounds_toArray, List.set_cons_zero, List.set_cons_succ]
          refine wpAnyH_take (i := 9) (v := ?_) rfl (by kernel_rfl) (by kernel_rfl) (by kernel_rfl) (fun _ _ _ h => h) (Or.inl ⟨by rfl, ?_⟩) (by assumption) ?_
          rotate_left
          · (intro w hSw; (try dsimp only at hSw); go_simp; try with_reducible rfl)
          try simp only [Act.put, List.setIfInBounds_toArray, List.set_cons_zero, List.set_cons_succ]
          refine wpAnyH_ready (rs := [10]) (by kernel_rfl) (by simp) ?_
          refine AllReadyH.cons rfl (fun K' hK => ?_) ?_
          · go_simp
            refine hK.out _ _ ?_ (fun hHeld2 => ?_)
            · first | with_reducible exact T3.out.1 | with_reducible exact T3.out.2.1 | with_reducible exact T3.out.2.2.1 | with_reducible exact T3.out.2.2.2.1 | with_reducible exact T3.out.2.2.2.2.1 | with_reducible exact T3.out.2.2.2.2.2.1 _ | with_reducible exact T3.out.2.2.2.2.2.2 _
            clear hK K' hHeld
            have hHeld := hHeld2
            clear hHeld2
            try simp only [Act.put, List.setIfInBounds_toArray, List.set_cons_zero, List.set_cons_succ]
            refine wpAnyH_done (by kernel_rfl) ?_ _
            have hfin := fin_dr (T2.out.2 ⟨#[47]⟩ (of_decide_eq_true (by kernel_rfl)))
            exact NoPanic.normal (HQ.out _ _ _ _ _ _ _ _ _ _ _ hfin)
          exact AllReadyH.nil
        exact AllReadyH.nil
      exact AllReadyH.nil
    exact AllReadyH.nil
  · have hqf : (IntKind.i64.wrap ((b : Int) / 8)).tmod 5 = (b : Int) / 8 % 5 := by rw [IntWalk.i64_in _ (by omega), Int.tmod_eq_emod_of_nonneg (by omega)]
    rw [hqe] at hqf
    go_wp2_with fail
    refine wp_region_noPanic ?_
    refine wp_region_held_drew (S := (fun w' => (∀ j, w'.cell? ⟨g8, j, none⟩ = #[Value.int .i64 k1, .string o1, .int .i64 a1, .int .i64 b1, .string s1, .string v1, .string f1, .slice A1 n1 c1][j]?) ∧ (∀ j, w'.cell? ⟨g9, j, none⟩ = #[Value.int .i64 k2, .string o2, .int .i64 a2, .int .i64 b2, .string s2, .string v2, .string f2, .slice A2 n2 c2][j]?))) (by kernel_rfl) T3.out.1 (fun hHeld => ?_)
    refine wpAnyH_take (i := 1) (v := ?_) rfl (by kernel_rfl) (by kernel_rfl) (by kernel_rfl) (fun _ _ _ h => h) (Or.inl ⟨by rfl, ?_⟩) (by assumption) ?_
    rotate_left
    · (intro w hSw; (try dsimp only at hSw); go_simp; try with_reducible rfl)
    try simp only [Act.put, List.setIfInBounds_toArray, List.set_cons_zero, List.set_cons_succ]
    refine wpAnyH_take (i := 2) (v := ?_) rfl (by kernel_rfl) (by kernel_rfl) (by kernel_rfl) (fun _ _ _ h => h) (Or.inl ⟨by rfl, ?_⟩) (by assumption) ?_
    rotate_left
    · (intro w hSw; (try dsimp only at hSw); go_simp; try with_reducible rfl)
    try simp only [Act.put, List.setIfInBounds_toArray, List.set_cons_zero, List.set_cons_succ]
    refine wpAnyH_take (i := 3) (v := ?_) rfl (by kernel_rfl) (by kernel_rfl) (by kernel_rfl) (fun _ _ _ h => h) (Or.inl ⟨by rfl, ?_⟩) (by assumption) ?_
    rotate_left
    · (intro w hSw; (try dsimp only at hSw); go_simp; try with_reducible rfl)
    try simp only [Act.put, List.setIfInBounds_toArray, List.set_cons_zero, List.set_cons_succ]
    refine wpAnyH_take (i := 6) (v := ?_) rfl (by kernel_rfl) (by kernel_rfl) (by kernel_rfl) (fun _ _ _ h => h) (Or.inl ⟨by rfl, ?_⟩) (by assumption) ?_
    rotate_left
    · (intro w hSw; (try dsimp only at hSw); go_simp; try with_reducible rfl)
    try simp only [Act.put, List.setIfInBounds_toArray, List.set_cons_zero, List.set_cons_succ]
    refine wpAnyH_take (i := 7) (v := ?_) rfl (by kernel_rfl) (by kernel_rfl) (by kernel_rfl) (fun _ _ _ h => h) (Or.inl ⟨by rfl, ?_⟩) (by assumption) ?_
    rotate_left
    · (intro w hSw; (try dsimp only at hSw); go_simp; try with_reducible rfl)
    try simp only [Act.put, List.setIfInBounds_toArray, List.set_cons_zero, List.set_cons_succ]
    refine wpAnyH_ready (rs := [0, 8]) (by kernel_rfl) (by simp) ?_
    refine AllReadyH.cons rfl (fun K' hK => ?_) ?_
    · go_simp
      refine hK.out _ _ ?_ (fun hHeld2 => ?_)
      · first | with_reducible exact T3.out.1 | with_reducible exact T3.out.2.1 | with_reducible exact T3.out.2.2.1 | with_reducible exact T3.out.2.2.2.1 | with_reducible exact T3.out.2.2.2.2.1 | with_reducible exact T3.out.2.2.2.2.2.1 _ | with_reducible exact T3.out.2.2.2.2.2.2 _
      clear hK K' hHeld
      have hHeld := hHeld2
      clear hHeld2
      try simp only [Act.put, List.setIfInBounds_toArray, List.set_cons_zero, List.set_cons_succ]
      refine wpAnyH_take (i := 4) (v := ?_) rfl (by kernel_rfl) (by kernel_rfl) (by kernel_rfl) (fun _ _ _ h => h) (Or.inl ⟨by rfl, ?_⟩) (by assumption) ?_
      rotate_left
      · (intro w hSw; (try dsimp only at hSw); go_simp; try with_reducible rfl)
      try simp only [Act.put, List.setIfInBounds_toArray, List.set_cons_zero, List.set_cons_succ]
      refine wpAnyH_ready (rs := [5, 8]) (by kernel_rfl) (by simp) ?_
      refine AllReadyH.cons rfl (fun K' hK => ?_) ?_
      · go_simp
        refine hK.out _ _ ?_ (fun hHeld2 => ?_)
        · first | with_reducible exact T3.out.1 | with_reducible exact T3.out.2.1 | with_reducible exact T3.out.2.2.1 | with_reducible exact T3.out.2.2.2.1 | with_reducible exact T3.out.2.2.2.2.1 | with_reducible exact T3.out.2.2.2.2.2.1 _ | with_reducible exact T3.out.2.2.2.2.2.2 _
        clear hK K' hHeld
        have hHeld := hHeld2
        clear hHeld2
        try simp only [Act.put, List.setIfInBounds_toArray, List.set_cons_zero, List.set_cons_succ]
        refine wpAnyH_ready (rs := [8]) (by kernel_rfl) (by simp) ?_
        refine AllReadyH.cons rfl (fun K' hK => ?_) ?_
        · go_simp
          refine hK.out _ _ ?_ (fun hHeld2 => ?_)
          · first | with_reducible exact T3.out.1 | with_reducible exact T3.out.2.1 | with_reducible exact T3.out.2.2.1 | with_reducible exact T3.out.2.2.2.1 | with_reducible exact T3.out.2.2.2.2.1 | with_reducible exact T3.out.2.2.2.2.2.1 _ | with_reducible exact T3.out.2.2.2.2.2.2 _
          clear hK K' hHeld
          have hHeld := hHeld2
          clear hHeld2
          try simp only [Act.put, List.setIfInBounds_toArray, List.set_cons_zero, List.set_cons_succ]
          refine wpAnyH_take (i := 9) (v := ?_) rfl (by kernel_rfl) (by kernel_rfl) (by kernel_rfl) (fun _ _ _ h => h) (Or.inl ⟨by rfl, ?_⟩) (by assumption) ?_
          rotate_left
          · (intro w hSw; (try dsimp only at hSw); go_simp; try with_reducible rfl)
          try simp only [Act.put, List.setIfInBounds_toArray, List.set_cons_zero, List.set_cons_succ]
          refine wpAnyH_ready (rs := [10]) (by kernel_rfl) (by simp) ?_
          refine AllReadyH.cons rfl (fun K' hK => ?_) ?_
          · go_simp
            refine hK.out _ _ ?_ (fun hHeld2 => ?_)
            · first | with_reducible exact T3.out.1 | with_reducible exact T3.out.2.1 | with_reducible exact T3.out.2.2.1 | with_reducible exact T3.out.2.2.2.1 | with_reducible exact T3.out.2.2.2.2.1 | with_reducible exact T3.out.2.2.2.2.2.1 _ | with_reducible exact T3.out.2.2.2.2.2.2 _
            clear hK K' hHeld
            have hHeld := hHeld2
            clear hHeld2
            try simp only [Act.put, List.setIfInBounds_toArray, List.set_cons_zero, List.set_cons_succ]
            refine wpAnyH_done (by kernel_rfl) ?_ _
            have hfin := fin_dr (T2.out.1 ⟨#[37]⟩ (of_decide_eq_true (by kernel_rfl)))
            exact NoPanic.normal (HQ.out _ _ _ _ _ _ _ _ _ _ _ hfin)
          exact AllReadyH.nil
        exact AllReadyH.nil
      refine AllReadyH.cons rfl (fun K' hK => ?_) ?_
      · go_simp
        refine hK.out _ _ ?_ (fun hHeld2 => ?_)
        · first | with_reducible exact T3.out.1 | with_reducible exact T3.out.2.1 | with_reducible exact T3.out.2.2.1 | with_reducible exact T3.out.2.2.2.1 | with_reducible exact T3.out.2.2.2.2.1 | with_reducible exact T3.out.2.2.2.2.2.1 _ | with_reducible exact T3.out.2.2.2.2.2.2 _
        clear hK K' hHeld
        have hHeld := hHeld2
        clear hHeld2
        try simp only [Act.put, List.setIfInBounds_toArray, List.set_cons_zero, List.set_cons_succ]
        refine wpAnyH_ready (rs := [5]) (by kernel_rfl) (by simp) ?_
        refine AllReadyH.cons rfl (fun K' hK => ?_) ?_
        · go_simp
          refine hK.out _ _ ?_ (fun hHeld2 => ?_)
          · first | with_reducible exact T3.out.1 | with_reducible exact T3.out.2.1 | with_reducible exact T3.out.2.2.1 | with_reducible exact T3.out.2.2.2.1 | with_reducible exact T3.out.2.2.2.2.1 | with_reducible exact T3.out.2.2.2.2.2.1 _ | with_reducible exact T3.out.2.2.2.2.2.2 _
          clear hK K' hHeld
          have hHeld := hHeld2
          clear hHeld2
          try simp only [Act.put, List.setIfInBounds_toArray, List.set_cons_zero, List.set_cons_succ]
          refine wpAnyH_take (i := 9) (v := ?_) rfl (by kernel_rfl) (by kernel_rfl) (by kernel_rfl) (fun _ _ _ h => h) (Or.inl ⟨by rfl, ?_⟩) (by assumption) ?_
          rotate_left
          · (intro w hSw; (try dsimp only at hSw); go_simp; try with_reducible rfl)
          try simp only [Act.put, List.setIfInBounds_toArray, List.set_cons_zero, List.set_cons_succ]
          refine wpAnyH_ready (rs := [10]) (by kernel_rfl) (by simp) ?_
          refine AllReadyH.cons rfl (fun K' hK => ?_) ?_
          · go_simp
            refine hK.out _ _ ?_ (fun hHeld2 => ?_)
            · first | with_reducible exact T3.out.1 | with_reducible exact T3.out.2.1 | with_reducible exact T3.out.2.2.1 | with_reducible exact T3.out.2.2.2.1 | with_reducible exact T3.out.2.2.2.2.1 | with_reducible exact T3.out.2.2.2.2.2.1 _ | with_reducible exact T3.out.2.2.2.2.2.2 _
            clear hK K' hHeld
            have hHeld := hHeld2
            clear hHeld2
            try simp only [Act.put, List.setIfInBounds_toArray, List.set_cons_zero, List.set_cons_succ]
            refine wpAnyH_done (by kernel_rfl) ?_ _
            have hfin := fin_dr (T2.out.1 ⟨#[37]⟩ (of_decide_eq_true (by kernel_rfl)))
            exact NoPanic.normal (HQ.out _ _ _ _ _ _ _ _ _ _ _ hfin)
          exact AllReadyH.nil
        exact AllReadyH.nil
      exact AllReadyH.nil
    refine AllReadyH.cons rfl (fun K' hK => ?_) ?_
    · go_simp
      refine hK.out _ _ ?_ (fun hHeld2 => ?_)
      · first | with_reducible exact T3.out.1 | with_reducible exact T3.out.2.1 | with_reducible exact T3.out.2.2.1 | with_reducible exact T3.out.2.2.2.1 | with_reducible exact T3.out.2.2.2.2.1 | with_reducible exact T3.out.2.2.2.2.2.1 _ | with_reducible exact T3.out.2.2.2.2.2.2 _
      clear hK K' hHeld
      have hHeld := hHeld2
      clear hHeld2
      try simp only [Act.put, List.setIfInBounds_toArray, List.set_cons_zero, List.set_cons_succ]
      refine wpAnyH_ready (rs := [0]) (by kernel_rfl) (by simp) ?_
      refine AllReadyH.cons rfl (fun K' hK => ?_) ?_
      · go_simp
        refine hK.out _ _ ?_ (fun hHeld2 => ?_)
        · first | with_reducible exact T3.out.1 | with_reducible exact T3.out.2.1 | with_reducible exact T3.out.2.2.1 | with_reducible exact T3.out.2.2.2.1 | with_reducible exact T3.out.2.2.2.2.1 | with_reducible exact T3.out.2.2.2.2.2.1 _ | with_reducible exact T3.out.2.2.2.2.2.2 _
        clear hK K' hHeld
        have hHeld := hHeld2
        clear hHeld2
        try simp only [Act.put, List.setIfInBounds_toArray, List.set_cons_zero, List.set_cons_succ]
        refine wpAnyH_take (i := 4) (v := ?_) rfl (by kernel_rfl) (by kernel_rfl) (by kernel_rfl) (fun _ _ _ h => h) (Or.inl ⟨by rfl, ?_⟩) (by assumption) ?_
        rotate_left
        · (intro w hSw; (try dsimp only at hSw); go_simp; try with_reducible rfl)
        try simp only [Act.put, List.setIfInBounds_toArray, List.set_cons_zero, List.set_cons_succ]
        refine wpAnyH_ready (rs := [5]) (by kernel_rfl) (by simp) ?_
        refine AllReadyH.cons rfl (fun K' hK => ?_) ?_
        · go_simp
          refine hK.out _ _ ?_ (fun hHeld2 => ?_)
          · first | with_reducible exact T3.out.1 | with_reducible exact T3.out.2.1 | with_reducible exact T3.out.2.2.1 | with_reducible exact T3.out.2.2.2.1 | with_reducible exact T3.out.2.2.2.2.1 | with_reducible exact T3.out.2.2.2.2.2.1 _ | with_reducible exact T3.out.2.2.2.2.2.2 _
          clear hK K' hHeld
          have hHeld := hHeld2
          clear hHeld2
          try simp only [Act.put, List.setIfInBounds_toArray, List.set_cons_zero, List.set_cons_succ]
          refine wpAnyH_take (i := 9) (v := ?_) rfl (by kernel_rfl) (by kernel_rfl) (by kernel_rfl) (fun _ _ _ h => h) (Or.inl ⟨by rfl, ?_⟩) (by assumption) ?_
          rotate_left
          · (intro w hSw; (try dsimp only at hSw); go_simp; try with_reducible rfl)
          try simp only [Act.put, List.setIfInBounds_toArray, List.set_cons_zero, List.set_cons_succ]
          refine wpAnyH_ready (rs := [10]) (by kernel_rfl) (by simp) ?_
          refine AllReadyH.cons rfl (fun K' hK => ?_) ?_
          · go_simp
            refine hK.out _ _ ?_ (fun hHeld2 => ?_)
            · first | with_reducible exact T3.out.1 | with_reducible exact T3.out.2.1 | with_reducible exact T3.out.2.2.1 | with_reducible exact T3.out.2.2.2.1 | with_reducible exact T3.out.2.2.2.2.1 | with_reducible exact T3.out.2.2.2.2.2.1 _ | with_reducible exact T3.out.2.2.2.2.2.2 _
            clear hK K' hHeld
            have hHeld := hHeld2
            clear hHeld2
            try simp only [Act.put, List.setIfInBounds_toArray, List.set_cons_zero, List.set_cons_succ]
            refine wpAnyH_done (by kernel_rfl) ?_ _
            have hfin := fin_dr (T2.out.2 ⟨#[37]⟩ (of_decide_eq_true (by kernel_rfl)))
            exact NoPanic.normal (HQ.out _ _ _ _ _ _ _ _ _ _ _ hfin)
          exact AllReadyH.nil
        exact AllReadyH.nil
      exact AllReadyH.nil
    exact AllReadyH.nil
end Go.Proofs.YtenmbahfgfmjjaaDoor
