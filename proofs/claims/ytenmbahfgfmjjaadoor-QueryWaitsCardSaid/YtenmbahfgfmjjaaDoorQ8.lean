/- Texts that several proofs stand on, part 8. -/
import Derived.Test.YtenmbahfgfmjjaaDoorQ1
import Derived.Laws.Bits64b
import Derived.RowKit
import Derived.Lib.AppendStr
import Derived.Maps.AppendAt
import Derived.OwnWalk
import Derived.Test.YtenmbahfgfmjjaaDoorQ7
namespace Go.Proofs.YtenmbahfgfmjjaaDoor.Rk
open Go.RowKit
set_option linter.unusedVariables false

def inR (n : Int) : Prop := -9223372036854775808 ≤ n ∧ n ≤ 9223372036854775807
instance (n : Int) : Decidable (inR n) := by unfold inR; infer_instance

theorem wrap_in {n : Int} (h : inR n) : wrap64 n = n := by
  unfold inR at h; unfold wrap64; omega
theorem wrap_mem (n : Int) : inR (wrap64 n) := by
  unfold inR wrap64; omega
theorem wrap_off (n : Int) : ∃ k : Int, wrap64 n = n + k * 18446744073709551616 := by
  unfold wrap64
  exact ⟨-((n + 9223372036854775808) / 18446744073709551616), by omega⟩
theorem msb_of {a : Int} (h : inR a) : (BitVec.ofInt 64 a).msb = decide (a < 0) := by
  unfold inR at h
  rw [BitVec.msb_eq_toInt, BitVec.toInt_ofInt]
  have : a.bmod (2 ^ 64) = a := by
    rw [Int.bmod]; split <;> omega
  rw [this]
theorem wrap_neg (x : BitVec 64) : (IntKind.i64.wrap (x.toNat : Int) < 0) ↔ x.msb = true := by
  have hx := x.isLt
  rw [BitVec.msb_eq_decide, IntKind.wrap_i64]
  simp only [decide_eq_true_eq]
  omega
theorem ofInt_wrap (x : BitVec 64) : BitVec.ofInt 64 (IntKind.i64.wrap (x.toNat : Int)) = x := by
  apply BitVec.eq_of_toNat_eq
  have hx := x.isLt
  rw [BitVec.toNat_ofInt, IntKind.wrap_i64]
  omega
theorem and_xor_neg {a b c d : Int} (ha : inR a) (hb : inR b) (hc : inR c) (hd : inR d) :
    (bits .and .i64 (bits .xor .i64 a b) (bits .xor .i64 c d) < 0) ↔ ((a < 0 ↔ ¬ b < 0) ∧ (c < 0 ↔ ¬ d < 0)) := by
  have e : bits .and .i64 (bits .xor .i64 a b) (bits .xor .i64 c d) = IntKind.i64.wrap (((BitVec.ofInt 64 a ^^^ BitVec.ofInt 64 b) &&& (BitVec.ofInt 64 c ^^^ BitVec.ofInt 64 d)).toNat : Int) := by
    show IntKind.i64.wrap ((BitVec.ofInt 64 (IntKind.i64.wrap ((BitVec.ofInt 64 a ^^^ BitVec.ofInt 64 b).toNat : Int)) &&& BitVec.ofInt 64 (IntKind.i64.wrap ((BitVec.ofInt 64 c ^^^ BitVec.ofInt 64 d).toNat : Int))).toNat : Int) = _
    rw [ofInt_wrap, ofInt_wrap]
  rw [e, wrap_neg, BitVec.msb_and, BitVec.msb_xor, BitVec.msb_xor, msb_of ha, msb_of hb, msb_of hc, msb_of hd]
  simp only [Bool.and_eq_true, bne_iff_ne, ne_eq, decide_eq_decide]
  omega
theorem add_sign {a b : Int} (ha : inR a) (hb : inR b) :
    (bits .and .i64 (bits .xor .i64 a (wrap64 (a + b))) (bits .xor .i64 b (wrap64 (a + b))) < 0) ↔ ¬ inR (a + b) := by
  rw [and_xor_neg ha (wrap_mem _) hb (wrap_mem _)]
  unfold inR wrap64 at *
  omega
theorem sub_sign {a b : Int} (ha : inR a) (hb : inR b) :
    (bits .and .i64 (bits .xor .i64 a b) (bits .xor .i64 a (wrap64 (a - b))) < 0) ↔ ¬ inR (a - b) := by
  rw [and_xor_neg ha hb ha (wrap_mem _)]
  unfold inR wrap64 at *
  omega
theorem mul_back {a b : Int} (hb : b ≠ 0) : (a * b).tdiv b = a := Int.mul_tdiv_cancel _ hb
/-- What wrapped is not divided back. -/
theorem mul_out {a b : Int} (ha : inR a) (hb : inR b) (hb0 : b ≠ 0) (ho : ¬ inR (a * b)) : (wrap64 (a * b)).tdiv b ≠ a := by
  intro h
  have h1 := Int.mul_tdiv_add_tmod (wrap64 (a * b)) b
  have h2 := Int.natAbs_tmod (wrap64 (a * b)) b
  have h3 : (wrap64 (a * b)).natAbs % b.natAbs < b.natAbs := Nat.mod_lt _ (by omega)
  obtain ⟨k, hk⟩ := wrap_off (a * b)
  have hm := wrap_mem (a * b)
  rw [h, Int.mul_comm] at h1
  rw [← h2] at h3
  unfold inR at *
  omega
theorem mul_quo {a b : Int} (ha : inR a) (hb : inR b) (hb0 : b ≠ 0) (hx : ¬ (a = -9223372036854775808 ∧ b = -1)) : inR ((wrap64 (a * b)).tdiv b) := by
  by_cases hb1 : b = -1
  · subst hb1
    have : wrap64 (a * -1) = -a := by rw [wrap_in]; · omega
                                      · unfold inR at *; omega
    rw [this, Int.tdiv_neg, Int.tdiv_one]
    unfold inR at *; omega
  · have hm := wrap_mem (a * b)
    have h1 : ((wrap64 (a * b)).tdiv b).natAbs ≤ (wrap64 (a * b)).natAbs := by
      rw [Int.natAbs_tdiv]; exact Nat.div_le_self _ _
    by_cases hb2 : b = 1
    · subst hb2; rw [Int.tdiv_one]; exact hm
    have h2 : ((wrap64 (a * b)).tdiv b).natAbs ≤ (wrap64 (a * b)).natAbs / 2 := by
      rw [Int.natAbs_tdiv]; exact Nat.div_le_div_left (by omega) (by omega)
    unfold inR at *; omega
end Go.Proofs.YtenmbahfgfmjjaaDoor.Rk
namespace Go.Proofs.YtenmbahfgfmjjaaDoor
open Go.ChangeShapes Go.WideShapes Go.ChangeAt Go.RowKit
set_option linter.unusedVariables false

section
variable {P : Program}
theorem run_append_string_at (w : World) (base : Nat) (t u ty e : TypeId) (i : TypeInfo) (ht : P.underlying t = some (.slice e)) (hu : P.underlying u = some .string) (hi : P.info? e = some i) (hz : i.zero = some (.int .u8 0))
    (hsize : i.size = 1) (hby : i.bytes = 1) (v : Value) (n : Nat) (xs : List Value) (hown : w.ownsRow base e 1 v n xs) (s : ByteArray)
    (h63 : n + s.size ≤ maxLen) (hbytes : n + s.size ≤ 140737488355328) (hbase : base ≤ w.heap.size) :
    ∃ v' w', (Builtin.append_ #[t, u] ty #[v, .string s]).run P w = .ok v' w' ∧ w'.ownsRow base e 1 v' (n + s.size) (xs ++ Lib.strCells s) ∧ w.grownBy w' v.ownBlock ∧
      (v'.ownBlock = v.ownBlock ∨ v'.ownBlock = some w.heap.size) := by
  obtain ⟨v', w', hr, h2, h3, h4⟩ := Lib.run_append_own_string (P := P) w base t u ty e i ht hu hi hz hsize hby v n xs hown s h63 hbytes hbase
  refine ⟨v', w', hr, h2, h3, ?_⟩
  rcases hown.2 with ⟨rfl, rfl⟩ | ⟨g, cap, cur, rfl, hbg, hg, hnc, hcm, hcs, htake⟩
  · by_cases hm : s.size = 0
    · rw [h4.2 ⟨rfl, hm⟩]; exact Or.inl rfl
    · have hr2 := run_append_nil_string (P := P) w t u ty e i (.int .u8 0) ht hu hi hz s (by omega) (by omega) (by rw [hby]; omega)
      rw [hr] at hr2
      injection hr2 with a1 a2
      rw [a1]; exact Or.inr rfl
  · by_cases hroom : n + s.size ≤ cap
    · have hcs' : cur.size = cap := by simpa using hcs
      have hr2 := Lib.run_append_room_string (P := P) w t u ty e i ht hu hi hsize g n cap cur hg s hroom (by omega)
      rw [hr] at hr2
      injection hr2 with a1 a2
      rw [a1]; exact Or.inl rfl
    · have hxl : xs.length = n := by simpa using hown.1
      have holds : ∀ j u, xs[j]? = some u → w.cell? ((⟨g, 0, none⟩ : Addr).add j) = some u := hown.cells (g := g) rfl
      have hr2 := Lib.run_append_grow_string (P := P) w t u ty e i (.int .u8 0) ht hu hi hz ⟨g, 0, none⟩ n cap xs (by rw [hsize]; simpa using hxl) holds s (by omega) (by omega) (by rw [hby]; exact growslice_fits (by omega) (by omega))
      rw [hr] at hr2
      injection hr2 with a1 a2
      rw [a1]; exact Or.inr rfl
theorem wpList_append_string_at (w : World) {ops : Array Oper} {rest : List Oper} {o : Oper} {a : Act} {Q : Exit → Act → World → Prop} (hgd : o.guard = none) (sl x : Operand) (t u : TypeId)
    (ho : o.op = .call { callee := .builtin .append, args := #[sl, x], argTypes := #[t, u] })
    (base : Nat) (e : TypeId) (i : TypeInfo) (ht : P.underlying t = some (.slice e)) (hu : P.underlying u = some .string) (hi : P.info? e = some i) (hz : i.zero = some (.int .u8 0))
    (hsize : i.size = 1) (hby : i.bytes = 1)
    (v : Value) (n : Nat) (xs : List Value) (hs : a.eval sl = v) (hown : w.ownsRow base e 1 v n xs) (s : ByteArray) (hx : a.eval x = .string s)
    (h63 : n + s.size ≤ maxLen) (hbytes : n + s.size ≤ 140737488355328) (hbase : base ≤ w.heap.size)
    (h : ∀ v' w', w'.ownsRow base e 1 v' (n + s.size) (xs ++ Lib.strCells s) → w.grownBy w' v.ownBlock → (v'.ownBlock = v.ownBlock ∨ v'.ownBlock = some w.heap.size) → wpList P ops Q rest (a.put o.dst v') w') : wpList P ops Q (o :: rest) a w := by
  refine wpList_plain hgd fun K hK => ?_
  obtain ⟨v', w', hr, h2, h3, h4⟩ := run_append_string_at (P := P) w base t u o.type e i ht hu hi hz hsize hby v n xs hown s h63 hbytes hbase
  unfold Oper.wp execOp
  simp only [ho, resolve, invoke, builtin, Sem.run_bind, Sem.run_pure, Result.andThen_ok, List.map_toArray, List.map_cons, List.map_nil, hs, hx, hr]
  exact hK _ _ (h v' w' h2 h3 h4)
end
/-- A writer's step: the world is as it was but for the row of v and new blocks; the new row is that one, or new. -/
structure Wr (w : World) (v : Value) (w' : World) (v' : Value) : Prop where
  grown : w.grownBy w' v.ownBlock
  own : v'.ownBlock = v.ownBlock ∨ ∃ g, v'.ownBlock = some g ∧ w.heap.size ≤ g
theorem grownBy_more {w w1 w2 : World} {r r' : Option Nat} (h : w.grownBy w1 r) (h' : w1.grownBy w2 r') (hr : r' = r ∨ ∃ g, r' = some g ∧ w.heap.size ≤ g) : w.grownBy w2 r := by
  refine ⟨h'.os.trans h.os, h'.tape.trans h.tape, h'.output.trans h.output, Nat.le_trans h.size h'.size, fun k hk hne => ?_⟩
  refine (h'.block k (Nat.lt_of_lt_of_le hk h.size) ?_).trans (h.block k hk hne)
  rcases hr with rfl | ⟨g, rfl, hg⟩
  · exact hne
  · intro e; have := Option.some.inj e; omega
theorem Wr.trans {w w1 w2 : World} {v v1 v2 : Value} (h : Wr w v w1 v1) (h' : Wr w1 v1 w2 v2) : Wr w v w2 v2 := by
  refine ⟨grownBy_more h.grown h'.grown h.own, ?_⟩
  rcases h'.own with e | ⟨g, e, hg⟩
  · rw [e]; exact h.own
  · exact Or.inr ⟨g, e, Nat.le_trans h.grown.size hg⟩
theorem Wr.refl (w : World) (v : Value) : Wr w v w v := ⟨⟨rfl, rfl, rfl, Nat.le_refl _, fun _ _ _ => rfl⟩, Or.inl rfl⟩
theorem Wr.pre {w w1 w2 : World} {v v' : Value} (hb : Below w.heap.size w w1) (h : Wr w1 v w2 v') : Wr w v w2 v' :=
  ⟨⟨h.grown.os.trans hb.os, h.grown.tape.trans hb.tape, h.grown.output.trans hb.output, Nat.le_trans hb.size h.grown.size, fun k hk hne => (h.grown.block k (Nat.lt_of_lt_of_le hk hb.size) hne).trans (hb.block k hk)⟩,
    h.own.imp id (fun ⟨g, e, hg⟩ => ⟨g, e, Nat.le_trans hb.size hg⟩)⟩
theorem Wr.post {w w1 w2 : World} {v v' : Value} (h : Wr w v w1 v') (hb : Below w1.heap.size w1 w2) : Wr w v w2 v' :=
  ⟨⟨hb.os.trans h.grown.os, hb.tape.trans h.grown.tape, hb.output.trans h.grown.output, Nat.le_trans h.grown.size hb.size, fun k hk hne => (hb.block k (Nat.lt_of_lt_of_le hk h.grown.size)).trans (h.grown.block k hk hne)⟩, h.own⟩
end Go.Proofs.YtenmbahfgfmjjaaDoor
namespace Go.Proofs.YtenmbahfgfmjjaaDoor
open Go.ChangeShapes Go.WideShapes Go.ChangeAt Go.RowKit
open Rk (inR)
set_option linter.unusedVariables false
set_option linter.unusedSimpArgs false

theorem Tryd.infoU8 : (Tryd.prog.info? 5).map (fun i => (i.zero, i.size, i.bytes)) = some (some (.int .u8 0), 1, 1) := by kernel_rfl
def byF (c : UInt8) : List Value := [.int .u8 (c.toNat : Int)]
theorem flat_by (l : List UInt8) : l.flatMap byF = l.map (fun c : UInt8 => Value.int .u8 (c.toNat : Int)) := by
  induction l with
  | nil => rfl
  | cons a l ih => simp [byF, ih]
/-- The call's own bytes. -/
abbrev OwnB (w : World) (B : Nat) (v : Value) (l : List UInt8) : Prop := Own w B 5 1 byF v l
theorem OwnB.str {w : World} {B : Nat} {v : Value} {l : List UInt8} {s : ByteArray} (h : w.ownsRow B 5 1 v (l.length + s.size) (l.flatMap byF ++ Lib.strCells s)) : OwnB w B v (l ++ s.data.toList) := by
  unfold OwnB Own
  rw [List.flatMap_append, show (l ++ s.data.toList).length = l.length + s.size by simp]
  rw [flat_by s.data.toList]
  exact h
/-- What lay tells: the bytes, and more. -/
def LayT (w : World) (v : Value) (B : Nat) (l : List UInt8) (e : Ending) (w' : World) : Prop := ∃ A n c, e = .returned (.slice A n c) ∧ OwnB w' B (.slice A n c) l ∧ Wr w v w' (.slice A n c)
theorem lay_end {w w1 w2 : World} {B : Nat} {l : List UInt8} {s : ByteArray} {v : Value} {A' : Option Addr} {n' c' : Nat} (hb : Below w.heap.size w w1) (h : w2.ownsRow B 5 1 (.slice A' n' c') (l.length + s.size) (l.flatMap byF ++ Lib.strCells s)) (hg : w1.grownBy w2 v.ownBlock)
    (ho : (Value.slice A' n' c').ownBlock = v.ownBlock ∨ (Value.slice A' n' c').ownBlock = some w1.heap.size) : LayT w v B (l ++ s.data.toList) (.returned (.slice A' n' c')) w2 :=
  ⟨A', n', c', rfl, OwnB.str h, Wr.pre hb ⟨hg, ho.imp id (fun e => ⟨_, e, Nat.le_refl _⟩)⟩⟩
set_option maxHeartbeats 1000000 in
theorem lay_lit (k n : Int) (s : ByteArray) (w : World) (v : Value) (B : Nat) (l : List UInt8) (hO : OwnB w B v l) (hb : B ≤ w.heap.size) (hT : Tab w) (hs : s.size ≤ 64) (hn : inR n) (hl : l.length + (Val.showL k n s).length ≤ 1000000000) :
    Calls Tryd.prog 66 #[v, ev 0 e0 k n s e0 e0 nilk] w fun e w' => LayT w v B (l ++ putT (.lit k n s)) e w' := by
  obtain ⟨i0, hi, hz0, hz1, hz2⟩ := info_parts Tryd.infoU8
  obtain ⟨A, m, c, rfl⟩ := own_shape hO
  have bb := ba w (.cells #[.int .i64 0, .string e0, .int .i64 k, .int .i64 n, .string s, .string e0, .string e0, .slice none 0 0] 42)
  have cS := Show_v k n s _ (by unfold maxLen; omega) hn.1 hn.2 (hT.later bb)
  rw [putT]
  generalize Val.showL k n s = x at *
  have H := Lib.hid (And.intro hO (And.intro hb (And.intro bb cS))); clear hO hb bb cS hT hn hs
  go_enter Tryd.func66, Tryd.ntmps66
  go_wp2_with (first
    | (go_at_call 78; refine (H.out.2.2.2).mono ?_; rintro e w1 ⟨rfl, hb1⟩; have B1 := Lib.hid hb1; clear hb1)
    | (at_builtin; refine wpList_append_string_at _ rfl (.tmp 12) (.tmp 15) 22 9 rfl B 5 i0 Tryd.underlying22 Tryd.underlying9 hi hz0 hz1 hz2 (.slice A m c) l.length _ rfl (Own.later (Own.later H.out.1 H.out.2.2.1) B1.out) ⟨x.toArray⟩ rfl (by show _ + x.toArray.size ≤ _; unfold maxLen; simp; omega) (by show _ + x.toArray.size ≤ _; simp; omega) (Nat.le_trans H.out.2.1 (bt H.out.2.2.1 B1.out).size) ?_; intro v' w2 hO2 hg2 ho2; obtain ⟨A2, n2, c2, rfl⟩ := own_shape hO2; have Z := Lib.hid (And.intro hO2 (And.intro hg2 ho2)); clear hO2 hg2 ho2))
  go_ret
  have := lay_end (v := .slice A m c) (bt H.out.2.2.1 B1.out) Z.out.1 Z.out.2.1 Z.out.2.2
  simpa using this
end Go.Proofs.YtenmbahfgfmjjaaDoor
namespace Go.Proofs.YtenmbahfgfmjjaaDoor
open Go.ChangeShapes Go.WideShapes Go.ChangeAt Go.RowKit
open Rk (inR)
set_option linter.unusedVariables false
set_option linter.unusedSimpArgs false

set_option maxHeartbeats 1000000 in
theorem lay_ref (x f : ByteArray) (w : World) (v : Value) (B : Nat) (l : List UInt8) (hO : OwnB w B v l) (hb : B ≤ w.heap.size) (hl : l.length + (x.size + (f.size + 1)) ≤ 1000000000) :
    Calls Tryd.prog 66 #[v, ev 1 e0 0 0 e0 x f nilk] w fun e w' => LayT w v B (l ++ putT (.ref x f)) e w' := by
  obtain ⟨i0, hi, hz0, hz1, hz2⟩ := info_parts Tryd.infoU8
  obtain ⟨A, m, c, rfl⟩ := own_shape hO
  have bb := ba w (.cells #[.int .i64 1, .string e0, .int .i64 0, .int .i64 0, .string e0, .string x, .string f, .slice none 0 0] 42)
  have h1 : x.size + 1 ≤ 9223372036854775807 := by omega
  have h2 : x.size + 1 + f.size ≤ 9223372036854775807 := by omega
  have h3 : (x ++ ⟨#[46]⟩ ++ f : ByteArray).size = x.size + 1 + f.size := by rw [ByteArray.size_append, ByteArray.size_append]; rfl
  have H := Lib.hid (And.intro hO (And.intro hb (And.intro bb h3))); clear hO hb bb h3
  go_enter Tryd.func66, Tryd.ntmps66
  go_wp2_with (at_builtin; refine wpList_append_string_at _ rfl (.tmp 19) (.tmp 25) 22 9 rfl B 5 i0 Tryd.underlying22 Tryd.underlying9 hi hz0 hz1 hz2 (.slice A m c) l.length _ rfl (Own.later H.out.1 H.out.2.2.1) (x ++ ⟨#[46]⟩ ++ f) rfl (by rw [H.out.2.2.2]; unfold maxLen; omega) (by rw [H.out.2.2.2]; omega) (Nat.le_trans H.out.2.1 H.out.2.2.1.size) ?_; intro v' w2 hO2 hg2 ho2; obtain ⟨A2, n2, c2, rfl⟩ := own_shape hO2; have Z := Lib.hid (And.intro hO2 (And.intro hg2 ho2)); clear hO2 hg2 ho2)
  go_ret
  have := lay_end (v := .slice A m c) H.out.2.2.1 Z.out.1 Z.out.2.1 Z.out.2.2
  rw [show (x ++ ⟨#[46]⟩ ++ f : ByteArray).data.toList = x.toList ++ (46 :: f.toList) by simp [Lib.toList_data]] at this
  exact this
set_option maxHeartbeats 1000000 in
theorem lay_cnt (x : ByteArray) (w : World) (v : Value) (B : Nat) (l : List UInt8) (hO : OwnB w B v l) (hb : B ≤ w.heap.size) (hl : l.length + (x.size + 1) ≤ 1000000000) :
    Calls Tryd.prog 66 #[v, ev 2 e0 0 0 e0 x e0 nilk] w fun e w' => LayT w v B (l ++ putT (.cnt x)) e w' := by
  obtain ⟨i0, hi, hz0, hz1, hz2⟩ := info_parts Tryd.infoU8
  obtain ⟨A, m, c, rfl⟩ := own_shape hO
  have bb := ba w (.cells #[.int .i64 2, .string e0, .int .i64 0, .int .i64 0, .string e0, .string x, .string e0, .slice none 0 0] 42)
  have h1 : 1 + x.size ≤ 9223372036854775807 := by omega
  have h3 : (⟨#[35]⟩ ++ x : ByteArray).size = 1 + x.size := by rw [ByteArray.size_append]; rfl
  have H := Lib.hid (And.intro hO (And.intro hb (And.intro bb h3))); clear hO hb bb h3
  go_enter Tryd.func66, Tryd.ntmps66
  go_wp2_with (at_builtin; refine wpList_append_string_at _ rfl (.tmp 29) (.tmp 32) 22 9 rfl B 5 i0 Tryd.underlying22 Tryd.underlying9 hi hz0 hz1 hz2 (.slice A m c) l.length _ rfl (Own.later H.out.1 H.out.2.2.1) (⟨#[35]⟩ ++ x) rfl (by rw [H.out.2.2.2]; unfold maxLen; omega) (by rw [H.out.2.2.2]; omega) (Nat.le_trans H.out.2.1 H.out.2.2.1.size) ?_; intro v' w2 hO2 hg2 ho2; obtain ⟨A2, n2, c2, rfl⟩ := own_shape hO2; have Z := Lib.hid (And.intro hO2 (And.intro hg2 ho2)); clear hO2 hg2 ho2)
  go_ret
  have := lay_end (v := .slice A m c) H.out.2.2.1 Z.out.1 Z.out.2.1 Z.out.2.2
  rw [show (⟨#[35]⟩ ++ x : ByteArray).data.toList = 35 :: x.toList by simp [Lib.toList_data]] at this
  exact this
end Go.Proofs.YtenmbahfgfmjjaaDoor
