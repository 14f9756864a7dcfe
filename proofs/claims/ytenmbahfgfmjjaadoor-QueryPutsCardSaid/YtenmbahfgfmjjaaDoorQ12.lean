/- Texts that several proofs stand on, part 12. -/
import Derived.Test.YtenmbahfgfmjjaaDoorQ11
namespace Go.Proofs.YtenmbahfgfmjjaaDoor
open Go.ChangeShapes Go.WideShapes Go.ChangeAt Go.RowKit
set_option linter.unusedVariables false
set_option linter.unusedSimpArgs false

set_option maxRecDepth 20000 in
set_option maxHeartbeats 4000000 in
theorem lay_bin (op : ByteArray) (a : Addr) (cc : Nat) (k1 : Int) (o1 : ByteArray) (a1 b1 : Int) (s1 v1 f1 : ByteArray) (A1 : Option Addr) (n1 c1 : Nat) (k2 : Int) (o2 : ByteArray) (a2 b2 : Int) (s2 v2 f2 : ByteArray) (A2 : Option Addr) (n2 c2 : Nat) (w0 w : World) (v : Value) (m : Nat) (l p q : List UInt8)
    (hR1 : Row8 w0 a k1 o1 a1 b1 s1 v1 f1 (.slice A1 n1 c1)) (hR2 : Row8 w0 (a.add 8) k2 o2 a2 b2 s2 v2 f2 (.slice A2 n2 c2)) (hcc : 2 ≤ cc) (hw : Below w0.heap.size w0 w) (hO : OwnB w w0.heap.size v l)
    (hlp : l.length + op.size + p.length + q.length + 10 ≤ 1000000000) (hm : l.length + op.size + p.length + 6 ≤ m)
    (HL1 : ∀ W v' l', Below w0.heap.size w0 W → OwnB W w0.heap.size v' l' → l'.length ≤ m → Calls Tryd.prog 66 #[v', ev k1 o1 a1 b1 s1 v1 f1 (.slice A1 n1 c1)] W fun e w' => LayT W v' w0.heap.size (l' ++ p) e w')
    (HL2 : ∀ W v' l', Below w0.heap.size w0 W → OwnB W w0.heap.size v' l' → l'.length ≤ m → Calls Tryd.prog 66 #[v', ev k2 o2 a2 b2 s2 v2 f2 (.slice A2 n2 c2)] W fun e w' => LayT W v' w0.heap.size (l' ++ q) e w') :
    Calls Tryd.prog 66 #[v, ev 4 op 0 0 e0 e0 e0 (.slice (some a) 2 cc)] w fun e w' => LayT w v w0.heap.size (l ++ (brk ((k1 == 4) && decide (lvl o1 < lvl op)) p ++ (32 :: (op.toList ++ [32])) ++ brk ((k2 == 4) && decide (lvl o2 ≤ lvl op)) q)) e w' := by
  obtain ⟨i0, hi, hz0, hz1, hz2⟩ := info_parts Tryd.infoU8
  obtain ⟨A, n, c, rfl⟩ := own_shape hO
  have bb := ba w (.cells #[.int .i64 4, .string op, .int .i64 0, .int .i64 0, .string e0, .string e0, .string e0, .slice (some a) 2 cc] 42)
  have hB := Blk.new w 42 #[.int .i64 4, .string op, .int .i64 0, .int .i64 0, .string e0, .string e0, .string e0, .slice (some a) 2 cc]
  have H0 := Lib.hid (And.intro hO (And.intro bb (And.intro hB (And.intro HL1 HL2)))); clear hO bb hB HL1 HL2
  have HR := Lib.hid (And.intro hw (And.intro hR1 hR2)); clear hw hR1 hR2
  go_enter Tryd.func66, Tryd.ntmps66
  go_wp2_with fail
  have hO1 := Own.later H0.out.1 H0.out.2.1
  have hB1 := H0.out.2.2.1
  have hb1 : Below w.heap.size w _ := H0.out.2.1
  generalize w.alloc _ = w1 at *
  have hW1 : Below w0.heap.size w0 w1 := bt HR.out.1 hb1
  have H1 := Lib.hid (And.intro hO1 (And.intro hb1 hW1)); clear hO1 hb1 hW1
  refine wp_of_eq (c' := ((Tryd.f66.body.bind (regionN 10)).getD .skip)) ?_ (by kernel_rfl)
  refine lay10 _ _ _ _ _ _ _ _ _ _ _ _ _ _ _ _ _ _ _ _ _ _ _ _ _ _ _ _ _ _ _ _ _ _ _ _ _ _ _ _ _ _ _ _ _ _ _ _ _ _ _ _ _ _ _ _ _ _ _ _ _ _ _ _ _ _ _ _ _ _ _ _ _ _ _ _ _ _ _ _ _ _ _ _ _ _ _ _ _ _ _ _ _ hB1 (HR.out.2.1.later H1.out.2.2) (HR.out.2.2.later H1.out.2.2) hcc (fun _ _ _ _ _ _ _ _ _ _ _ g1 g2 w2 hq => ?_)
  obtain ⟨b2, hg1, hg2⟩ := hq
  have H2 := Lib.hid (And.intro (Own.later H1.out.1 b2) (And.intro (bt H1.out.2.1 b2) (And.intro (bt H1.out.2.2 b2) (And.intro hg1 (And.intro hg2 (hB1.later b2)))))); clear b2 hg1 hg2 hB1
  go_wp2_with fail
  refine wp_of_eq (c' := ((Tryd.f66.body.bind (regionN 11)).getD .skip)) ?_ (by kernel_rfl)
  refine lay11 _ _ _ _ _ _ _ _ _ _ _ _ _ _ _ _ _ _ _ _ _ _ _ _ _ _ _ _ _ _ _ _ _ _ _ _ _ _ _ _ _ _ _ _ _ _ _ _ _ _ _ _ _ _ _ _ _ _ _ _ _ _ _ _ _ _ _ _ _ _ _ _ _ _ _ _ _ _ H2.out.1 H2.out.2.2.1.size (by omega : l.length + 1 ≤ m) (by omega) H2.out.2.2.2.1 (fun W v' l' h1 h2 h3 => H0.out.2.2.2.1 W v' l' (H2.out.2.2.1.trans h1) h2 h3) (fun _ _ _ _ _ _ _ _ _ _ _ _ _ A3 n3 c3 w3 hq => ?_)
  have b23 := wr_below hq.2 H2.out.1 H2.out.2.2.1.size
  have B3 := Lib.hid (blk_wr hq.2 H2.out.2.2.2.2.2 (own_nb H2.out.1 H2.out.2.2.2.2.2 (by decide)))
  have G3 := Lib.hid (blk_wr hq.2 H2.out.2.2.2.2.1 (own_nb H2.out.1 H2.out.2.2.2.2.1 (by decide)))
  have H3 := Lib.hid (And.intro hq.1 (And.intro (H2.out.2.2.1.trans b23) (Wr.pre (w := w) H2.out.2.1 hq.2))); clear hq b23
  have hbl := brk_len ((k1 == 4) && decide (lvl o1 < lvl op)) p
  obtain ⟨P1, hP1⟩ : ∃ P : List UInt8, l ++ brk ((k1 == 4) && decide (lvl o1 < lvl op)) p = P := ⟨_, rfl⟩
  have hP2 : P1.length ≤ l.length + p.length + 2 := by rw [← hP1]; simp; omega
  have HP := Lib.hid hP1
  rw [hP1] at H3
  clear hP1 hbl
  have p3 := B3.out.cell
  have e1 : 1 + op.size ≤ 9223372036854775807 := by omega
  have e2 : 1 + op.size + 1 ≤ 9223372036854775807 := by omega
  have e3 : (⟨#[32]⟩ ++ op ++ ⟨#[32]⟩ : ByteArray).size = 1 + op.size + 1 := by rw [ByteArray.size_append, ByteArray.size_append]; rfl
  have E3 := Lib.hid e3; clear e3
  go_wp2_with (at_builtin; refine wpList_append_string_at _ rfl (.tmp 75) (.tmp 79) 22 9 rfl w0.heap.size 5 i0 Tryd.underlying22 Tryd.underlying9 hi hz0 hz1 hz2 (.slice A3 n3 c3) P1.length _ rfl H3.out.1 (⟨#[32]⟩ ++ op ++ ⟨#[32]⟩) rfl (by rw [E3.out]; unfold maxLen; omega) (by rw [E3.out]; omega) H3.out.2.1.size ?_; intro v' w4 hO4 hg4 ho4; obtain ⟨A4, n4, c4, rfl⟩ := own_shape hO4; have Z := Lib.hid (And.intro hO4 (And.intro hg4 ho4)); clear hO4 hg4 ho4)
  have W4 : Wr w3 (.slice A3 n3 c3) w4 (.slice A4 n4 c4) := ⟨Z.out.2.1, Z.out.2.2.imp id (fun e => ⟨_, e, Nat.le_refl _⟩)⟩
  have O4 := OwnB.str Z.out.1
  rw [show (⟨#[32]⟩ ++ op ++ ⟨#[32]⟩ : ByteArray).data.toList = 32 :: (op.toList ++ [32]) by simp [Lib.toList_data]] at O4
  have b34 := wr_below W4 H3.out.1 H3.out.2.1.size
  have G4 := Lib.hid (blk_wr W4 G3.out (own_nb H3.out.1 G3.out (by decide)))
  have H4 := Lib.hid (And.intro O4 (And.intro (H3.out.2.1.trans b34) (H3.out.2.2.trans W4))); clear O4 b34 W4 p3
  have hos : op.toList.length = op.size := by rw [Lib.toList_data]; simp
  refine wp_of_eq (c' := ((Tryd.f66.body.bind (regionN 13)).getD .skip)) ?_ (by kernel_rfl)
  refine lay13 _ _ _ _ _ _ _ _ _ _ _ _ _ _ _ _ _ _ _ _ _ _ _ _ _ _ _ _ _ _ _ _ _ _ _ _ _ _ _ _ _ _ _ _ _ _ _ _ _ _ _ _ _ _ _ _ _ _ _ _ _ _ _ _ _ _ _ _ _ _ _ _ _ _ _ _ _ _ H4.out.1 H4.out.2.1.size (by simp; omega : _ + 1 ≤ m) (by simp; omega) G4.out (fun W v' l' h1 h2 h3 => H0.out.2.2.2.2 W v' l' (H4.out.2.1.trans h1) h2 h3) (fun _ _ _ _ _ _ _ _ _ _ _ _ _ A5 n5 c5 w5 hq => ?_)
  have H5 := Lib.hid (And.intro hq.1 (H4.out.2.2.trans hq.2)); clear hq
  go_wp2_with fail
  go_ret
  exact ⟨_, _, _, rfl, by have h := H5.out.1; rw [← HP.out] at h; simpa using h, H5.out.2⟩
end Go.Proofs.YtenmbahfgfmjjaaDoor
namespace Go.Proofs.YtenmbahfgfmjjaaDoor
open Go.ChangeShapes Go.WideShapes Go.ChangeAt Go.RowKit
open Rk (inR)
set_option linter.unusedVariables false
set_option linter.unusedSimpArgs false

/-- The numbers in a tree are of 64 bits. -/
def Tr.small : Tr → Prop
  | .lit k n s => inR n
  | .ref v f => True
  | .cnt v => True
  | .un op x => x.small
  | .bin op x y => x.small ∧ y.small
/-- A bound of a tree's text. -/
def Tr.len : Tr → Nat
  | .lit k n s => (Val.showL k n s).length
  | .ref v f => v.size + (f.size + 1)
  | .cnt v => v.size + 1
  | .un op x => op.size + x.len + 2
  | .bin op x y => op.size + 2 * (x.len + y.len) + 12
theorem list_size (s : ByteArray) : s.toList.length = s.size := by rw [Lib.toList_data]; simp
theorem putT_len : ∀ t : Tr, (putT t).length ≤ t.len
  | .lit k n s => by rw [putT, Tr.len]; omega
  | .ref v f => by rw [putT, Tr.len]; simp [list_size]
  | .cnt v => by rw [putT, Tr.len]; simp [list_size]
  | .un op x => by
    have h1 := putT_len x
    have h2 := brk_len x.isBin (putT x)
    rw [putT, Tr.len, List.length_append, list_size]; omega
  | .bin op x y => by
    have h1 := putT_len x
    have h2 := putT_len y
    have h3 := brk_len (x.isBin && decide (lvl x.opOf < lvl op)) (putT x)
    have h4 := brk_len (y.isBin && decide (lvl y.opOf ≤ lvl op)) (putT y)
    rw [putT, Tr.len, List.length_append, List.length_append, List.length_cons, List.length_append, list_size, List.length_singleton]
    omega
theorem node_bin (x : Tr) (K : Value) : ((x.node K).1 == 4) = x.isBin := by cases x <;> rfl
theorem node_op (x : Tr) (K : Value) (h : x.isBin = true) : (x.node K).2.1 = x.opOf := by cases x <;> first | rfl | exact absurd h (by decide)
theorem bin_br (x : Tr) (K : Value) (p : Int → Bool) : (((x.node K).1 == 4) && p (lvl (x.node K).2.1)) = (x.isBin && p (lvl x.opOf)) := by
  rw [node_bin]
  cases h : x.isBin
  · rfl
  · rw [node_op x K h]
theorem node_sl {w : World} {x : Tr} {K : Value} (h : TrAt w x K) : ∃ A n c, (x.node K).2.2.2.2.2.2.2 = .slice A n c := by
  cases x with
  | lit => exact ⟨_, _, _, rfl⟩
  | ref => exact ⟨_, _, _, rfl⟩
  | cnt => exact ⟨_, _, _, rfl⟩
  | un => obtain ⟨a, c, rfl, _⟩ := h; exact ⟨_, _, _, rfl⟩
  | bin => obtain ⟨a, c, rfl, _⟩ := h; exact ⟨_, _, _, rfl⟩
/-- lay at whatever right tree. -/
theorem lay_tr (w0 : World) (hT : Tab w0) : ∀ (t : Tr) (K : Value), TrAt w0 t K → t.ok = true → t.small → ∀ (w : World) (v : Value) (l : List UInt8), Below w0.heap.size w0 w → OwnB w w0.heap.size v l → l.length + t.len ≤ 900000000 →
    Calls Tryd.prog 66 #[v, t.val K] w fun e w' => LayT w v w0.heap.size (l ++ putT t) e w'
  | .lit k n s, K, h, ho, hs, w, v, l, hb, hO, hl => by
    obtain rfl : K = nilk := h
    unfold Tr.ok at ho
    simp only [Bool.and_eq_true] at ho
    exact lay_lit k n s w v w0.heap.size l hO hb.size (hT.later hb) (right_size ho.1.1) hs (by rw [Tr.len] at hl; omega)
  | .ref x f, K, h, ho, hs, w, v, l, hb, hO, hl => by
    obtain rfl : K = nilk := h
    exact lay_ref x f w v w0.heap.size l hO hb.size (by rw [Tr.len] at hl; omega)
  | .cnt x, K, h, ho, hs, w, v, l, hb, hO, hl => by
    obtain rfl : K = nilk := h
    exact lay_cnt x w v w0.heap.size l hO hb.size (by rw [Tr.len] at hl; omega)
  | .un op x, K, h, ho, hs, w, v, l, hb, hO, hl => by
    obtain ⟨a, c, rfl, h1, h2, kx, hx, hr⟩ := h
    unfold Tr.ok at ho
    simp only [Bool.and_eq_true] at ho
    rw [Tr.len] at hl
    have hp := putT_len x
    have IH := lay_tr w0 hT x kx hx ho.2 hs
    have := lay_un op a c _ _ _ _ _ _ _ _ w0 w v (900000000 - x.len) l (putT x) hr hb hO (by omega) (by omega) h1 (fun W v' l' g1 g2 g3 => IH W v' l' g1 g2 (by omega)) (node_sl hx)
    rw [node_bin] at this
    rw [putT]
    exact this
  | .bin op x y, K, h, ho, hs, w, v, l, hb, hO, hl => by
    obtain ⟨a, c, rfl, h1, h2, ⟨kx, hx, hr⟩, ky, hy, hq⟩ := h
    unfold Tr.ok at ho
    simp only [Bool.and_eq_true] at ho
    rw [Tr.len] at hl
    have hp := putT_len x
    have hp2 := putT_len y
    have IH := lay_tr w0 hT x kx hx ho.1.2 hs.1
    have IH2 := lay_tr w0 hT y ky hy ho.2 hs.2
    obtain ⟨A1, n1, c1, e1⟩ := node_sl hx
    obtain ⟨A2, n2, c2, e2⟩ := node_sl hy
    unfold Tr.val at IH IH2
    rw [e1] at hr IH
    rw [e2] at hq IH2
    have := lay_bin op a c _ _ _ _ _ _ _ _ _ _ _ _ _ _ _ _ _ _ _ _ w0 w v (900000000 - (x.len + y.len)) l (putT x) (putT y) hr hq h1 hb hO (by omega) (by omega) (fun W v' l' g1 g2 g3 => IH W v' l' g1 g2 (by omega)) (fun W v' l' g1 g2 g3 => IH2 W v' l' g1 g2 (by omega))
    rw [bin_br x kx (fun z => decide (z < lvl op)), bin_br y ky (fun z => decide (z ≤ lvl op))] at this
    rw [putT]
    exact this
end Go.Proofs.YtenmbahfgfmjjaaDoor
namespace Go.Proofs.YtenmbahfgfmjjaaDoor
open Go.ChangeShapes Go.WideShapes Go.ChangeAt Go.RowKit
set_option linter.unusedVariables false
set_option linter.unusedSimpArgs false
abbrev mt : ByteArray := ⟨#[]⟩
abbrev V3 := Int × Int × ByteArray
theorem Tr.val_ev (t : Tr) (A : Option Addr) (n c : Nat) (w : World) (h : TrAt w t (.slice A n c)) :
    ∃ k op vk vn vs va f A' n' c', t.val (.slice A n c) = ev k op vk vn vs va f (.slice A' n' c') ∧ t.node (.slice A n c) = (k, op, vk, vn, vs, va, f, .slice A' n' c') := by
  cases t <;> exact ⟨_, _, _, _, _, _, _, _, _, _, rfl, rfl⟩
theorem lit_any (n : Int) (w : World) : Calls Tryd.prog 14 #[.int .i64 n] w fun e w' => e = .returned (ev 0 e0 1 n e0 e0 e0 nilk) ∧ Below w.heap.size w w' := by
  go_enter Tryd.func14, Tryd.ntmps14
  go_wp2
  exact bodyPost_ret (v := ev 0 e0 1 n e0 e0 e0 nilk) (by simp [results, Tryd.results14, go_sem]) rfl ⟨rfl, ba _ _⟩
def IsTr (t : Tr) (e : Ending) (w : World) : Prop := ∃ K, e = .returned (t.val K) ∧ TrAt w t K
theorem row_lo {w : World} {g : Nat} {t : TypeId} {k1 : Int} {o1 : ByteArray} {a1 b1 : Int} {s1 v1 f1 : ByteArray} {K1 c0 c1 c2 c3 c4 c5 c6 c7 : Value} (h : Blk w g t #[.int .i64 k1, .string o1, .int .i64 a1, .int .i64 b1, .string s1, .string v1, .string f1, K1, c0, c1, c2, c3, c4, c5, c6, c7]) :
    Row8 w ⟨g, 0, none⟩ k1 o1 a1 b1 s1 v1 f1 K1 := ⟨h.cell 0, h.cell 1, h.cell 2, h.cell 3, h.cell 4, h.cell 5, h.cell 6, h.cell 7⟩
theorem row_hi {w : World} {g : Nat} {t : TypeId} {k1 : Int} {o1 : ByteArray} {a1 b1 : Int} {s1 v1 f1 : ByteArray} {K1 c0 c1 c2 c3 c4 c5 c6 c7 : Value} (h : Blk w g t #[c0, c1, c2, c3, c4, c5, c6, c7, .int .i64 k1, .string o1, .int .i64 a1, .int .i64 b1, .string s1, .string v1, .string f1, K1]) :
    Row8 w ((⟨g, 0, none⟩ : Addr).add 8) k1 o1 a1 b1 s1 v1 f1 K1 := ⟨h.cell 8, h.cell 9, h.cell 10, h.cell 11, h.cell 12, h.cell 13, h.cell 14, h.cell 15⟩
end Go.Proofs.YtenmbahfgfmjjaaDoor
