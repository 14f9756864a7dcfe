/- Texts that several proofs stand on, part 32. -/
import Derived.Test.YtenmbahfgfmjjaaDoorQ20
import Derived.Test.YtenmbahfgfmjjaaDoorQ27
import Derived.Test.YtenmbahfgfmjjaaDoorQ30
import Derived.Test.YtenmbahfgfmjjaaDoorQ31
import Derived.Deep.DeepCutAuto
import Derived.Deep.CutBlock
import Derived.Maps.AppendAt
namespace Go.Proofs.YtenmbahfgfmjjaaDoor
open Go.ChangeShapes Go.WideShapes Go.ChangeAt Go.RowKit
set_option linter.unusedVariables false
set_option linter.unusedSimpArgs false

/-- Two blocks may change: g, and o. -/
def GB2 (g : Nat) (o : Option Nat) (w w' : World) : Prop :=
  w'.os = w.os ∧ w'.tape = w.tape ∧ w'.output = w.output ∧ w.heap.size ≤ w'.heap.size ∧ ∀ k, k < w.heap.size → k ≠ g → o ≠ some k → w'.heap[k]? = w.heap[k]?
theorem GB2.of {g : Nat} {o : Option Nat} {w w' : World} (h : GB g w w') : GB2 g o w w' :=
  ⟨h.os, h.tape, h.output, h.size, fun k hk hn _ => h.block k hk (fun e => hn (Option.some.inj e))⟩
theorem GB2.own {g : Nat} {o : Option Nat} {w w' : World} (h : w.grownBy w' o) : GB2 g o w w' :=
  ⟨h.os, h.tape, h.output, h.size, fun k hk _ hn => h.block k hk (fun e => hn e.symm)⟩
theorem GB2.trans {g : Nat} {o o' : Option Nat} {a b c : World} (h : GB2 g o a b) (k : GB2 g o' b c) (ho : ∀ j, j < a.heap.size → o' = some j → o = some j) : GB2 g o a c :=
  ⟨k.1.trans h.1, k.2.1.trans h.2.1, k.2.2.1.trans h.2.2.1, Nat.le_trans h.2.2.2.1 k.2.2.2.1, fun j hj hn hm => (k.2.2.2.2 j (Nat.lt_of_lt_of_le hj h.2.2.2.1) hn (fun e => hm (ho j hj e))).trans (h.2.2.2.2 j hj hn hm)⟩
/-- What reads blocks B to N alone. -/
def Inn (B N : Nat) (w : World) (p : World → Prop) : Prop := ∀ W, (∀ k, B ≤ k → k < N → W.heap[k]? = w.heap[k]?) → p W
theorem Inn.on {B N B' N' : Nat} {w w' : World} {p : World → Prop} (h : Inn B N w p) (hB : B' ≤ B) (hN : N ≤ N') (hw : ∀ k, B ≤ k → k < N → w'.heap[k]? = w.heap[k]?) : Inn B' N' w' p :=
  fun W hW => h W (fun k h1 h2 => (hW k (by omega) (by omega)).trans (hw k h1 h2))
theorem Inn.here {B N : Nat} {w : World} {p : World → Prop} (h : Inn B N w p) : p w := h w (fun _ _ _ => rfl)
theorem Row8.alike {w W : World} {a : Addr} {k : Int} {op : ByteArray} {vk vn : Int} {vs va f : ByteArray} {kids : Value} (h : Row8 w a k op vk vn vs va f kids) (e : W.heap[a.block]? = w.heap[a.block]?) : Row8 W a k op vk vn vs va f kids := by
  obtain ⟨h0, h1, h2, h3, h4, h5, h6, h7⟩ := h
  exact ⟨(World.cell?_of_block e).trans h0, (World.cell?_of_block (a := ⟨a.block, a.off + 1, none⟩) e).trans h1, (World.cell?_of_block (a := ⟨a.block, a.off + 2, none⟩) e).trans h2, (World.cell?_of_block (a := ⟨a.block, a.off + 3, none⟩) e).trans h3, (World.cell?_of_block (a := ⟨a.block, a.off + 4, none⟩) e).trans h4, (World.cell?_of_block (a := ⟨a.block, a.off + 5, none⟩) e).trans h5, (World.cell?_of_block (a := ⟨a.block, a.off + 6, none⟩) e).trans h6, (World.cell?_of_block (a := ⟨a.block, a.off + 7, none⟩) e).trans h7⟩
theorem Row8.lt {w : World} {a : Addr} {k : Int} {op : ByteArray} {vk vn : Int} {vs va f : ByteArray} {kids : Value} (h : Row8 w a k op vk vn vs va f kids) : a.block < w.heap.size := World.block_lt_of_cell? w _ h.1
theorem TrF.alike {B : Nat} {w W : World} (e : ∀ k, B ≤ k → k < w.heap.size → W.heap[k]? = w.heap[k]?) : ∀ {t : Tr} {v : Value}, TrF B w t v → TrF B W t v
  | .lit .., _, h => h
  | .ref .., _, h => h
  | .cnt .., _, h => h
  | .un .., _, ⟨a, c, h0, h1, h2, hl, kx, h3, h4⟩ => ⟨a, c, h0, h1, h2, hl, kx, h3.alike e, h4.alike (e _ hl h4.lt)⟩
  | .bin .., _, ⟨a, c, h0, h1, h2, hl, ⟨kx, h3, h4⟩, ky, h5, h6⟩ => ⟨a, c, h0, h1, h2, hl, ⟨kx, h3.alike e, h4.alike (e _ hl h4.lt)⟩, ky, h5.alike e, h6.alike (e _ (by rw [addr_blk]; exact hl) h6.lt)⟩
theorem Blk.alike {w W : World} {b : Nat} {t : TypeId} {cs : Array Value} (h : Blk w b t cs) (e : W.heap[b]? = w.heap[b]?) : Blk W b t cs := by
  unfold Blk at *; rw [e]; exact h
abbrev nms8 : List ByteArray := [⟨#[97]⟩, ⟨#[98]⟩, ⟨#[99]⟩, ⟨#[100]⟩, ⟨#[101]⟩, ⟨#[102]⟩, ⟨#[103]⟩, ⟨#[104]⟩]
def nm8 (i : Nat) : ByteArray := nms8.getD i ⟨#[]⟩
theorem nm8_ok : ∀ s ∈ nms8, nameB s = true := by decide +kernel
theorem nm8_mem (i : Nat) (h : i < 8) : nm8 i ∈ nms8 := by
  rcases (by omega : i = 0 ∨ i = 1 ∨ i = 2 ∨ i = 3 ∨ i = 4 ∨ i = 5 ∨ i = 6 ∨ i = 7) with rfl | rfl | rfl | rfl | rfl | rfl | rfl | rfl <;> simp [nm8]
theorem nm8_name (i : Nat) (h : i < 8) : nameB (nm8 i) = true := nm8_ok _ (nm8_mem i h)
theorem nm8_inj {i j : Nat} (hi : i < 8) (hj : j < 8) (h : nm8 i = nm8 j) : i = j := by
  rcases (by omega : i = 0 ∨ i = 1 ∨ i = 2 ∨ i = 3 ∨ i = 4 ∨ i = 5 ∨ i = 6 ∨ i = 7) with rfl | rfl | rfl | rfl | rfl | rfl | rfl | rfl <;>
  rcases (by omega : j = 0 ∨ j = 1 ∨ j = 2 ∨ j = 3 ∨ j = 4 ∨ j = 5 ∨ j = 6 ∨ j = 7) with rfl | rfl | rfl | rfl | rfl | rfl | rfl | rfl <;> first | rfl | (simp [nm8] at h)
abbrev n8c : Array Value := #[.string ⟨#[97]⟩, .string ⟨#[98]⟩, .string ⟨#[99]⟩, .string ⟨#[100]⟩, .string ⟨#[101]⟩, .string ⟨#[102]⟩, .string ⟨#[103]⟩, .string ⟨#[104]⟩]
theorem nm8_cell {w : World} {b : Nat} {t : TypeId} (h : Blk w b t n8c) (i : Nat) (hi : i < 8) : w.cell? ⟨b, i, none⟩ = some (.string (nm8 i)) := by
  rw [h.cell i]
  rcases (by omega : i = 0 ∨ i = 1 ∨ i = 2 ∨ i = 3 ∨ i = 4 ∨ i = 5 ∨ i = 6 ∨ i = 7) with rfl | rfl | rfl | rfl | rfl | rfl | rfl | rfl <;> rfl
abbrev zP : Array Value := #[.bool false, .bool false, .slice none 0 0, .string ⟨#[]⟩, .slice none 0 0]
/-- What a feed keeps, when one more was told of. -/
theorem FV.more {w0 : World} {g : Nat} {vl : List Sl} {vv : Value} {many : Nat} {lv : Value} {L : List UInt8} {w w' : World} (h : FV w0 g vl vv many lv L w) (hb : GB g w w') (many' : Nat) (at_ : Nat) (ha : at_ ≤ L.length) (hg : Blk w' g 50 (fV lv at_ vv many')) : FV w0 g vl vv many' lv L w' := by
  obtain ⟨_, _, hg0⟩ := h.2.2.2.1
  exact ⟨h.1.trans (gb_below hb h.1.size h.2.1), h.2.1, h.2.2.1, ⟨at_, ha, hg⟩, ⟨h.2.2.2.2.1.1.grown hb (fun b hb' e => own_off h.2.2.2.2.1.1 hg0 (by rw [e, ← hb'])), h.2.2.2.2.1.2⟩, fun x hx => (h.2.2.2.2.2 x hx).grown hb⟩

theorem step_append_loc {α : Type} {P : Program} {ops : Array Oper} {o : Oper} {a : Act} {w : World} {K : Act → World → Prop} {Q : Exit → Act → World → Prop} {E : Prop} (hgd : o.guard = none) (s x : Operand) (t : TypeId)
    (ho : o.op = .call { callee := .builtin .append, args := #[s, x], argTypes := #[t, t] })
    (base : Nat) (e : TypeId) (i : TypeInfo) (z : Value) (size bytes : Nat) (ht : P.underlying t = some (.slice e)) (hi : P.info? e = some i) (hz : i.zero = some z)
    (hsize : i.size = size) (hby : i.bytes = bytes) (hzs : z.cells.size = size) (hsz : 0 < size)
    {f : α → List Value} (hf : ∀ x, (f x).length = size) (h1 : ∀ x, ∀ u ∈ f x, u.oneCell' = true)
    (v : Value) (l : List α) (hs : a.eval s = v) (hown : Own w base e size f v l)
    (ad : Addr) (c : Nat) (y : α) (hx : a.eval x = .slice (some ad) 1 c) (hat : At w size f (.slice (some ad) 1 c) [y])
    (h63 : l.length + 1 ≤ maxLen) (hbytes : (l.length + 1) * bytes ≤ 140737488355328) (hbase : base ≤ w.heap.size)
    (h : ∀ v' w', Own w' base e size f v' (l ++ [y]) → w.grownBy w' v.ownBlock → (v'.ownBlock = v.ownBlock ∨ v'.ownBlock = some w.heap.size) → K (a.put o.dst v') w') : if Region.wanted o (yielded ops a.tmps) = true then Oper.wp P o a w K Q else E := by
  rw [if_pos (by simp [Region.wanted, hgd])]
  obtain ⟨A4, c4, hv, _, _, _, h4⟩ := hat
  simp only [Value.slice.injEq] at hv
  obtain ⟨hv1, _, _⟩ := hv
  obtain ⟨v', w', hr, h2, h3, _, h5⟩ := run_append_own_at (P := P) w base t o.type e i z size bytes ht hi hz hsize hby hzs hsz v l.length (l.flatMap f) hown ad 1 c (f y) (by rw [hf]; omega) (fun j u hu => by
    have := h4 ad hv1.symm 0 (by simp) j u (by simpa using hu)
    simpa using this) (h1 y) h63 hbytes hbase
  unfold Oper.wp
  simp [execOp, ho, resolve, invoke, builtin, hs, hx, hr, Result.andThen]
  refine h v' w' ?_ h3 h5
  unfold Own
  rw [List.length_append, List.flatMap_append]
  simpa using h2

theorem SlotR.grown2 {w w' : World} {g B : Nat} {x : Sl} {vv : Value} {l : List (ByteArray × SV)} (h : SlotR w g x) (hO : Own w B 54 2 slF vv l) (hb : GB2 g vv.ownBlock w w') : SlotR w' g x := by
  obtain ⟨h1, b, h2, h3, h4, h5⟩ := h
  refine ⟨h1, b, h2, h3, h4.alike (hb.2.2.2.2 b h4.lt h2 (fun e => ?_)), h5⟩
  rcases hO.2 with ⟨rfl, _⟩ | ⟨g', cap, cur, rfl, q1, q2, _⟩
  · simp [Value.ownBlock] at e
  · simp [Value.ownBlock] at e
    subst e
    have h' : w.heap[g']? = some (.cells (strsC x.2) 9 (0, 0)) := h4
    rw [q2] at h'
    simp at h'
theorem part_own_end {w0 w wb w7 : World} {g many at_ : Nat} {vl : List Sl} {vv v7 lv : Value} {L : List UInt8} {nm : ByteArray} {K : SV} {fs : List ByteArray} (hF : FV w0 g vl vv many lv L w) (hg7 : wb.grownBy w7 vv.ownBlock)
    (hO7 : Own w7 w0.heap.size 54 2 slF v7 (vl.map (·.1) ++ [(nm, K)])) (hl7 : v7.ownBlock = vv.ownBlock ∨ v7.ownBlock = some wb.heap.size) (hb : Below w.heap.size w wb) (x1 : Blk w7 g 50 (fV lv at_ vv many)) (ha : at_ ≤ L.length)
    (hR : SlotR w g ((nm, K), fs)) (hvl : vl.length < 8) :
    FV w0 g (vl ++ [((nm, K), fs)]) v7 many lv L (w7.setCell ⟨g, 2, none⟩ v7) ∧ GB2 g vv.ownBlock w (w7.setCell ⟨g, 2, none⟩ v7) ∧ (∀ k, v7.ownBlock = some k → vv.ownBlock = some k ∨ w.heap.size ≤ k) := by
  have hO := hF.2.2.2.2.1.1
  have hG : GB2 g vv.ownBlock w (w7.setCell ⟨g, 2, none⟩ v7) := ((GB2.of (gb_of hb)).trans (GB2.own hg7) (fun _ _ e => e)).trans (GB2.of (gb_set w7 2 v7)) (fun _ _ e => e)
  have hb7 : Below w0.heap.size w0 w7 := (bt hF.1 hb).trans (grownBy_below hg7 (bt hF.1 hb).size (fun x hx => ownB hO hx))
  refine ⟨⟨hb7.setCell (p := ⟨g, 2, none⟩) hF.2.1 _, hF.2.1, hF.2.2.1, ⟨at_, ha, ?_⟩, ⟨?_, ?_⟩, ?_⟩, hG, fun k hk => ?_⟩
  · have := x1.set_ 2 v7
    simpa using this
  · have := hO7.grown (gb_set (g := g) w7 2 v7) (fun b hb' e => own_off hO7 x1 (by rw [e, ← hb']))
    simpa using this
  · rw [List.length_append]; simp; omega
  · intro x hx
    rw [List.mem_append] at hx
    rcases hx with hx | hx
    · exact (hF.2.2.2.2.2 x hx).grown2 hO hG
    · obtain rfl : x = ((nm, K), fs) := by simpa using hx
      exact hR.grown2 hO hG
  · rcases hl7 with h | h
    · exact Or.inl (h ▸ hk)
    · right
      rw [h] at hk
      obtain rfl := Option.some.inj hk
      exact hb.size
set_option maxRecDepth 20000 in
set_option maxHeartbeats 4000000 in
theorem part_own (u1 u2 u3 u4 u5 u7 u8 u9 u10 u11 u12 u13 u14 u15 u16 u17 u18 u19 u20 u21 u22 u23 u24 u25 u26 u27 u28 u29 u30 u31 u32 u33 u34 u35 u36 u37 u38 u39 u40 u41 u42 u43 u44 u45 u46 u47 u48 u49 u50 u51 u52 u53 u54 u55 u56 u57 u58 u59 u60 u61 u62 u63 u64 u65 u66 u67 u68 u69 u70 u71 u72 u73 u74 u75 u76 u77 u78 u79 u80 u81 u82 u83 u84 u85 u86 u87 u88 u89 u90 u91 u92 u93 u94 u95 u96 u97 u98 u99 u100 u101 u102 u103 u104 : Value) {w0 w : World} {g so many : Nat} {vl : List Sl} {vv lv : Value} {L : List UInt8} {nm : ByteArray} {K : SV} {fs : List ByteArray} (hF : FV w0 g vl vv many lv L w) (hS : Blk w so 54 #[.string nm, sl K]) (hsO : vv.ownBlock ≠ some so) (hvl : vl.length < 8) (hR : SlotR w g ((nm, K), fs)) {Q : Exit → Act → World → Prop}
    (hQ : ∀ (x94 x95 x96 x97 x98 x99 x100 x101 x102 x103 : Value) (v : Value) (wx : World), FV w0 g (vl ++ [((nm, K), fs)]) v many lv L wx ∧ GB2 g vv.ownBlock w wx ∧ (∀ k, v.ownBlock = some k → vv.ownBlock = some k ∨ w.heap.size ≤ k) → Q .normal ⟨#[.pointer (some ⟨g, 0, none⟩), u1, u2, u3, u4, u5, .pointer (some ⟨so, 0, none⟩), u7, u8, u9, u10, u11, u12, u13, u14, u15, u16, u17, u18, u19, u20, u21, u22, u23, u24, u25, u26, u27, u28, u29, u30, u31, u32, u33, u34, u35, u36, u37, u38, u39, u40, u41, u42, u43, u44, u45, u46, u47, u48, u49, u50, u51, u52, u53, u54, u55, u56, u57, u58, u59, u60, u61, u62, u63, u64, u65, u66, u67, u68, u69, u70, u71, u72, u73, u74, u75, u76, u77, u78, u79, u80, u81, u82, u83, u84, u85, u86, u87, u88, u89, u90, u91, u92, u93, x94, x95, x96, x97, x98, x99, x100, x101, x102, x103, u104], []⟩ wx) :
    Code.wp Tryd.prog ((Tryd.f16.body.bind (regionN 29)).getD .skip) Q ⟨#[.pointer (some ⟨g, 0, none⟩), u1, u2, u3, u4, u5, .pointer (some ⟨so, 0, none⟩), u7, u8, u9, u10, u11, u12, u13, u14, u15, u16, u17, u18, u19, u20, u21, u22, u23, u24, u25, u26, u27, u28, u29, u30, u31, u32, u33, u34, u35, u36, u37, u38, u39, u40, u41, u42, u43, u44, u45, u46, u47, u48, u49, u50, u51, u52, u53, u54, u55, u56, u57, u58, u59, u60, u61, u62, u63, u64, u65, u66, u67, u68, u69, u70, u71, u72, u73, u74, u75, u76, u77, u78, u79, u80, u81, u82, u83, u84, u85, u86, u87, u88, u89, u90, u91, u92, u93, u94, u95, u96, u97, u98, u99, u100, u101, u102, u103, u104], []⟩ w := by
  have HQ := Lib.hid hQ; clear hQ
  conv => arg 2; whnf
  obtain ⟨js, sj, sy0, sy1, sy2⟩ := info_parts (P := Tryd.prog) (e := 54) (z := .agg #[.string ⟨#[]⟩, .slice none 0 0]) (size := 2) (bytes := 40) (by kernel_rfl)
  obtain ⟨at_, ha, hg⟩ := hF.2.2.2.1
  obtain ⟨vA, vn, vc, hvv⟩ := own_shape hF.2.2.2.2.1.1
  subst hvv
  have hgl := hg.lt
  have hsl := hS.lt
  have c2 := hg.cell 2
  have d0 := hS.cell 0
  have d1 := hS.cell 1
  simp only [fV, List.getElem?_toArray, List.getElem?_cons_succ, List.getElem?_cons_zero] at c2 d0 d1
  have keepS : ∀ X, Below w.heap.size w X → X.cell? ⟨g, 2, none⟩ = some (.slice vA vn vc) ∧ X.cell? ⟨so, 0, none⟩ = some (.string nm) ∧ X.cell? ⟨so, 1, none⟩ = some (sl K) := fun X hX => ⟨by rw [hX.cell hgl]; exact c2, by rw [hX.cell hsl]; exact d0, by rw [hX.cell hsl]; exact d1⟩
  have hO := hF.2.2.2.2.1.1
  have hw0 := hF.1.size
  have hgo := own_off hO hg
  have H := Lib.hid (And.intro hF (And.intro hS (And.intro hO (And.intro hg (And.intro ha (And.intro hgo hsO)))))); clear hF hS hO hg ha hgo hsO
  have HS := Lib.hid hR; clear hR
  have HV := Lib.hid hvl; clear hvl
  refine wp_region_noPanic ?_
  refine HeldLast.wp_region_last_drew 10 (S := (fun w' => w'.cell? ⟨g, 2, none⟩ = some (.slice vA vn vc) ∧ w'.cell? ⟨so, 0, none⟩ = some (.string nm) ∧ w'.cell? ⟨so, 1, none⟩ = some (sl K))) (by kernel_rfl) ?_ (fun hHeld => ?_)
  · exact ⟨c2, d0, d1⟩
  refine HeldLast.wpAnyL_take (i := 0) (v := ?v0) [0, 8, 9, 10] rfl (by kernel_rfl) (by kernel_rfl) (by kernel_rfl) (by kernel_rfl) (fun _ _ _ h => h) (Or.inl ⟨by rfl, ?hy0⟩) (by assumption) ?rest0
  case hy0 => (intro w hSw; (try dsimp only at hSw); go_simp; try with_reducible rfl)
  try simp only [Act.put, List.setIfInBounds_toArray, List.set_cons_zero, List.set_cons_succ]
  refine HeldLast.wpAnyL_take (i := 1) (v := ?v1) [1, 2, 3, 4, 7, 10] rfl (by kernel_rfl) (by kernel_rfl) (by kernel_rfl) (by kernel_rfl) (fun _ _ _ h => h) (Or.inl ⟨by rfl, ?hy1⟩) (by assumption) ?rest1
  case hy1 => (intro w hSw; (try dsimp only at hSw); go_simp; try with_reducible rfl)
  try simp only [Act.put, List.setIfInBounds_toArray, List.set_cons_zero, List.set_cons_succ]
  refine HeldLast.wpAnyL_take (i := 2) (v := ?v2) [2, 3, 4, 7, 10] rfl (by kernel_rfl) (by kernel_rfl) (by kernel_rfl) (by kernel_rfl) (fun _ _ _ h => h) (Or.inl ⟨by rfl, ?hy2⟩) (by assumption) ?rest2
  case hy2 => (intro w hSw; (try dsimp only at hSw); go_simp; try with_reducible rfl)
  try simp only [Act.put, List.setIfInBounds_toArray, List.set_cons_zero, List.set_cons_succ]
  refine HeldLast.wpAnyL_take (i := 3) (v := ?v3) [3, 4, 7, 10] rfl (by kernel_rfl) (by kernel_rfl) (by kernel_rfl) (by kernel_rfl) (fun _ _ _ h => h) (Or.inl ⟨by rfl, ?hy3⟩) (by assumption) ?rest3
  case hy3 => (intro w hSw; (try dsimp only at hSw); go_simp; try with_reducible rfl)
  try simp only [Act.put, List.setIfInBounds_toArray, List.set_cons_zero, List.set_cons_succ]
  refine HeldLast.wpAnyL_take (i := 4) (v := ?v4) [4, 7, 10] rfl (by kernel_rfl) (by kernel_rfl) (by kernel_rfl) (by kernel_rfl) (fun _ _ _ h => h) (Or.inl ⟨by rfl, ?hy4⟩) (by assumption) ?rest4
  case hy4 => (intro w hSw; (try dsimp only at hSw); go_simp; try with_reducible rfl)
  try simp only [Act.put, List.setIfInBounds_toArray, List.set_cons_zero, List.set_cons_succ]
  refine HeldLast.wpAnyL_take (i := 5) (v := ?v5) [5, 6, 7, 10] rfl (by kernel_rfl) (by kernel_rfl) (by kernel_rfl) (by kernel_rfl) (fun _ _ _ h => h) (Or.inl ⟨by rfl, ?hy5⟩) (by assumption) ?rest5
  case hy5 => (intro w hSw; (try dsimp only at hSw); go_simp; try with_reducible rfl)
  try simp only [Act.put, List.setIfInBounds_toArray, List.set_cons_zero, List.set_cons_succ]
  refine HeldLast.wpAnyL_ready (rs := [6]) (by kernel_rfl) (by simp) ?_
  refine HeldLast.AllReadyL.cons rfl (fun K' hK => ?_) HeldLast.AllReadyL.nil
  go_simp
  refine hK.out _ _ ?_ (fun hHeld => ?_)
  · exact keepS _ (bt (below_drew (Below.refl _ _)) (ba _ _))
  clear hK K'
  try simp only [Act.put, List.setIfInBounds_toArray, List.set_cons_zero, List.set_cons_succ]
  refine HeldLast.wpAnyL_ready (rs := [7]) (by kernel_rfl) (by simp) ?_
  refine HeldLast.AllReadyL.cons rfl (fun K' hK => ?_) HeldLast.AllReadyL.nil
  refine step_append_loc rfl (.tmp 98) (.tmp 100) 48 rfl w0.heap.size 54 js (.agg #[.string ⟨#[]⟩, .slice none 0 0]) 2 40 Tryd.underlying48 sj sy0 sy1 sy2 rfl (by decide) (f := slF) (fun _ => rfl) slF_one (.slice vA vn vc) (vl.map (·.1)) rfl (H.out.2.2.1.later (below_drew (ba w (.cells #[.string nm, sl K] 54)))) ⟨w.heap.size, 0, none⟩ 1 (nm, K) rfl (show At (World.drew _) _ _ _ _ from at_newL w (nm, K)) (by rw [List.length_map]; have := HV.out; unfold maxLen; omega) (by rw [List.length_map]; have := HV.out; omega) (by simp only [World.size_alloc, World.size_drew]; omega) ?_
  intro v7 w7 hO7 hg7 hl7
  obtain ⟨xA, xn, xc, rfl⟩ := own_shape hO7
  have x1 : Blk w7 g 50 (fV lv at_ (.slice vA vn vc) many) := Blk.grown (H.out.2.2.2.1.later (below_drew (ba w (.cells #[.string nm, sl K] 54)))) hg7 (fun e => H.out.2.2.2.2.2.1 e.symm)
  have x2 : Blk w7 so 54 #[.string nm, sl K] := Blk.grown (H.out.2.1.later (below_drew (ba w (.cells #[.string nm, sl K] 54)))) hg7 (fun e => H.out.2.2.2.2.2.2 e.symm)
  have y1 : w7.cell? ⟨g, 2, none⟩ = some (.slice vA vn vc) := x1.cell 2
  have y2 := x1.lt
  have y3 := x1.frozen
  have y4 : w7.cell? ⟨so, 0, none⟩ = some (.string nm) := x2.cell 0
  have y5 : w7.cell? ⟨so, 1, none⟩ = some (sl K) := x2.cell 1
  refine hK.out _ _ ?_ (fun hHeld => ?_)
  · exact ⟨y1, y4, y5⟩
  clear hK K'
  try simp only [Act.put, List.setIfInBounds_toArray, List.set_cons_zero, List.set_cons_succ]
  refine HeldLast.wpAnyL_take (i := 8) (v := ?v8) [8, 9, 10] rfl (by kernel_rfl) (by kernel_rfl) (by kernel_rfl) (by kernel_rfl) (fun _ _ _ h => h) (Or.inl ⟨by rfl, ?hy8⟩) (by assumption) ?rest8
  case hy8 => (intro w hSw; (try dsimp only at hSw); go_simp; try with_reducible rfl)
  try simp only [Act.put, List.setIfInBounds_toArray, List.set_cons_zero, List.set_cons_succ]
  refine HeldLast.wpAnyL_take (i := 9) (v := ?v9) [9, 10] rfl (by kernel_rfl) (by kernel_rfl) (by kernel_rfl) (by kernel_rfl) (fun _ _ _ h => h) (Or.inl ⟨by rfl, ?hy9⟩) (by assumption) ?rest9
  case hy9 => (intro w hSw; (try dsimp only at hSw); go_simp; try with_reducible rfl)
  try simp only [Act.put, List.setIfInBounds_toArray, List.set_cons_zero, List.set_cons_succ]
  refine HeldLast.wpAnyL_ready (rs := [10]) (by kernel_rfl) (by simp) ?_
  refine HeldLast.AllReadyL.last rfl (fun K' hK => ?_)
  go_simp
  refine hK.out _ _ ?_
  clear hK K'
  try simp only [Act.put, List.setIfInBounds_toArray, List.set_cons_zero, List.set_cons_succ]
  refine HeldLast.wpAnyL_done (by kernel_rfl) ?_ _
  refine NoPanic.normal ?_
  refine HQ.out _ _ _ _ _ _ _ _ _ _ (.slice xA xn xc) _ (part_own_end H.out.1 hg7 hO7 hl7 (below_drew (ba w (.cells #[.string nm, sl K] 54))) x1 H.out.2.2.2.2.1 HS.out HV.out)

abbrev qA : ByteArray := ⟨#[65]⟩
abbrev qB : ByteArray := ⟨#[66]⟩
abbrev qC : ByteArray := ⟨#[67]⟩
abbrev q3 : List ByteArray := [qA, qB, qC]
/-- What 'part' tells. -/
def PartR (w0 : World) (g : Nat) (vl : List Sl) (vv : Value) (many : Nat) (lv : Value) (L : List UInt8) (nt : Bool) (w : World) (e : Ending) (w' : World) : Prop :=
  ∃ (x : Px) (N : Nat) (vl' : List Sl) (vv' : Value), e = .returned (ptV x) ∧ w.heap.size ≤ N ∧ N ≤ w'.heap.size ∧ Inn w.heap.size N w' (fun W => PxAt W x) ∧
    (vl'.length = vl.length + if x.1.nt then 0 else 1) ∧ (∀ k, vv'.ownBlock = some k → vv.ownBlock = some k ∨ N ≤ k) ∧ FV w0 g vl' vv' (many + 1) lv L w' ∧ GB2 g vv.ownBlock w w' ∧
    x.1.v = nm8 many ∧ partB x.1 = true ∧ (x.1.nt = true → nt = true) ∧ (∀ s ∈ x.1.ss, s ∈ q3) ∧ ∀ t ∈ x.1.pd, Sm t
theorem fv_put {w0 : World} {g : Nat} {vl : List Sl} {vv : Value} {many : Nat} {lv : Value} {L : List UInt8} {w W : World} (h : FV w0 g vl vv many lv L W) (hgw : GB g w W) (hw : FV w0 g vl vv many lv L w) (p : Addr) (hp : w.heap.size ≤ p.block) (x : Value) : FV w0 g vl vv many lv L (W.setCell p x) := by
  obtain ⟨at_, ha, hg⟩ := h.2.2.2.1
  obtain ⟨_, _, hg0⟩ := hw.2.2.2.1
  have hl := hg0.lt
  exact hw.grown (gb_put hgw p hp x) at_ ha (hg.far (by show g ≠ p.block; omega) x)
/-- The rows of a call of 'part': n: where its own begin; wS: the world there. -/
def KT (w0 : World) (g : Nat) (vl : List Sl) (vv : Value) (many : Nat) (lv : Value) (L : List UInt8) (wS : World) (n : Nat) (nt pl : Bool) (ss fs : List ByteArray) (sb fb : Nat) (pv : Value) (W : World) : Prop :=
  (wS.heap.size = n ∧ FV w0 g vl vv (many + 1) lv L wS ∧ g < n) ∧ (n + 1 + 1 < sb ∧ n + 1 + 1 < fb) ∧ FV w0 g vl vv (many + 1) lv L W ∧ GB g wS W ∧
  Blk W (n + 1) 54 #[.string (nm8 many), .slice (some ⟨fb, 0, none⟩) fs.length fs.length] ∧
  Blk W (n + 1 + 1) 37 #[.bool nt, .bool pl, .slice (some ⟨sb, 0, none⟩) ss.length ss.length, .string (nm8 many), pv] ∧
  Blk W sb 9 (strsC ss) ∧ Blk W fb 9 (strsC fs)
section
variable {w0 : World} {g : Nat} {vl : List Sl} {vv : Value} {many : Nat} {lv : Value} {L : List UInt8} {wS W W1 : World} {n : Nat} {nt pl : Bool} {ss fs : List ByteArray} {sb fb : Nat} {pv : Value}
theorem KT.go (h : KT w0 g vl vv many lv L wS n nt pl ss fs sb fb pv W) (hb : Below W.heap.size W W1) : KT w0 g vl vv many lv L wS n nt pl ss fs sb fb pv W1 :=
  ⟨h.1, h.2.1, h.2.2.1.go hb, gb_trans h.2.2.2.1 (gb_of hb), h.2.2.2.2.1.later hb, h.2.2.2.2.2.1.later hb, h.2.2.2.2.2.2.1.later hb, h.2.2.2.2.2.2.2.later hb⟩
theorem KT.gb (h : KT w0 g vl vv many lv L wS n nt pl ss fs sb fb pv W) (hF : FV w0 g vl vv (many + 1) lv L W1) (hb : GB g W W1) : KT w0 g vl vv many lv L wS n nt pl ss fs sb fb pv W1 := by
  have hl := h.1.2.2
  have h1 := h.2.1
  exact ⟨h.1, h.2.1, hF, gb_trans h.2.2.2.1 hb, h.2.2.2.2.1.grown hb (fun e => by have := Option.some.inj e; omega), h.2.2.2.2.2.1.grown hb (fun e => by have := Option.some.inj e; omega), h.2.2.2.2.2.2.1.grown hb (fun e => by have := Option.some.inj e; omega), h.2.2.2.2.2.2.2.grown hb (fun e => by have := Option.some.inj e; omega)⟩
theorem KT.put (h : KT w0 g vl vv many lv L wS n nt pl ss fs sb fb pv W) (j : Nat) (v : Value) (nt' pl' : Bool) (pv' : Value)
    (he : (#[.bool nt, .bool pl, .slice (some ⟨sb, 0, none⟩) ss.length ss.length, .string (nm8 many), pv] : Array Value).setIfInBounds j v = #[.bool nt', .bool pl', .slice (some ⟨sb, 0, none⟩) ss.length ss.length, .string (nm8 many), pv']) :
    KT w0 g vl vv many lv L wS n nt' pl' ss fs sb fb pv' (W.setCell ⟨n + 1 + 1, j, none⟩ v) := by
  have hl := h.1.2.2
  have h1 := h.2.1
  have h2 := h.1.1
  have hb := gb_set (g := n + 1 + 1) W j v
  refine ⟨h.1, h.2.1, fv_put h.2.2.1 h.2.2.2.1 h.1.2.1 ⟨n + 1 + 1, j, none⟩ (by show wS.heap.size ≤ n + 1 + 1; omega) v, gb_put h.2.2.2.1 ⟨n + 1 + 1, j, none⟩ (by show wS.heap.size ≤ n + 1 + 1; omega) v, h.2.2.2.2.1.grown hb (fun e => by have := Option.some.inj e; omega), ?_, h.2.2.2.2.2.2.1.grown hb (fun e => by have := Option.some.inj e; omega), h.2.2.2.2.2.2.2.grown hb (fun e => by have := Option.some.inj e; omega)⟩
  rw [← he]
  exact h.2.2.2.2.2.1.set_ j v
theorem KT.put0 (h : KT w0 g vl vv many lv L wS n nt pl ss fs sb fb pv W) (b : Bool) : KT w0 g vl vv many lv L wS n b pl ss fs sb fb pv (W.setCell ⟨n + 1 + 1, 0, none⟩ (.bool b)) := h.put 0 _ _ _ _ rfl
theorem KT.put1 (h : KT w0 g vl vv many lv L wS n nt pl ss fs sb fb pv W) (b : Bool) : KT w0 g vl vv many lv L wS n nt b ss fs sb fb pv (W.setCell ⟨n + 1 + 1, 1, none⟩ (.bool b)) := h.put 1 _ _ _ _ rfl
theorem KT.put4 (h : KT w0 g vl vv many lv L wS n nt pl ss fs sb fb pv W) (v : Value) : KT w0 g vl vv many lv L wS n nt pl ss fs sb fb v (W.setCell ⟨n + 1 + 1, 4, none⟩ v) := h.put 4 _ _ _ _ rfl
theorem KT.facts (h : KT w0 g vl vv many lv L wS n nt pl ss fs sb fb pv W) : (∀ j, W.cell? ⟨n + 1, j, none⟩ = (#[.string (nm8 many), .slice (some ⟨fb, 0, none⟩) fs.length fs.length] : Array Value)[j]?) ∧ (∀ j, W.cell? ⟨n + 1 + 1, j, none⟩ = (#[.bool nt, .bool pl, .slice (some ⟨sb, 0, none⟩) ss.length ss.length, .string (nm8 many), pv] : Array Value)[j]?) ∧ (∀ j, W.frozen? ⟨n + 1 + 1, j, none⟩ = false) :=
  ⟨fun j => h.2.2.2.2.1.cell j, fun j => h.2.2.2.2.2.1.cell j, fun j => h.2.2.2.2.2.1.frozen j⟩
theorem KT.lt (h : KT w0 g vl vv many lv L wS n nt pl ss fs sb fb pv W) : n + 1 + 1 < W.heap.size := h.2.2.2.2.2.1.lt
theorem KT.leaf (ss fs : List ByteArray) (h1 : wS.heap.size = n ∧ FV w0 g vl vv (many + 1) lv L wS ∧ g < n) (hF : FV w0 g vl vv (many + 1) lv L W) (hG : GB g wS W) (hso : Blk W (n + 1) 54 #[.string (nm8 many), .slice none 0 0])
    (hpb : Blk W (n + 1 + 1) 37 #[.bool false, .bool false, .slice none 0 0, .string (nm8 many), .slice none 0 0]) (hsz : W.heap.size = n + 1 + 1 + 1) :
    KT w0 g vl vv many lv L wS n false false ss fs W.heap.size (W.heap.size + 1) (.slice none 0 0) ((((W.setCell ⟨n + 1 + 1, 2, none⟩ (.slice (some ⟨W.heap.size, 0, none⟩) ss.length ss.length)).setCell ⟨n + 1, 1, none⟩ (.slice (some ⟨W.heap.size + 1, 0, none⟩) fs.length fs.length)).alloc (.cells (strsC ss) 9)).alloc (.cells (strsC fs) 9)) := by
  obtain ⟨hn, hFS, hgn⟩ := h1
  have hFa := fv_put hF hG hFS ⟨n + 1 + 1, 2, none⟩ (by show wS.heap.size ≤ n + 1 + 1; omega) (.slice (some ⟨W.heap.size, 0, none⟩) ss.length ss.length)
  have hGa := gb_put hG ⟨n + 1 + 1, 2, none⟩ (by show wS.heap.size ≤ n + 1 + 1; omega) (.slice (some ⟨W.heap.size, 0, none⟩) ss.length ss.length)
  have hFb := fv_put hFa hGa hFS ⟨n + 1, 1, none⟩ (by show wS.heap.size ≤ n + 1; omega) (.slice (some ⟨W.heap.size + 1, 0, none⟩) fs.length fs.length)
  have hGb := gb_put hGa ⟨n + 1, 1, none⟩ (by show wS.heap.size ≤ n + 1; omega) (.slice (some ⟨W.heap.size + 1, 0, none⟩) fs.length fs.length)
  have B1 : Blk ((W.setCell ⟨n + 1 + 1, 2, none⟩ (.slice (some ⟨W.heap.size, 0, none⟩) ss.length ss.length)).setCell ⟨n + 1, 1, none⟩ (.slice (some ⟨W.heap.size + 1, 0, none⟩) fs.length fs.length)) (n + 1) 54 #[.string (nm8 many), .slice (some ⟨W.heap.size + 1, 0, none⟩) fs.length fs.length] := (hso.far (p := ⟨n + 1 + 1, 2, none⟩) (by show n + 1 ≠ n + 1 + 1; omega) _).set_ 1 _
  have B2 : Blk ((W.setCell ⟨n + 1 + 1, 2, none⟩ (.slice (some ⟨W.heap.size, 0, none⟩) ss.length ss.length)).setCell ⟨n + 1, 1, none⟩ (.slice (some ⟨W.heap.size + 1, 0, none⟩) fs.length fs.length)) (n + 1 + 1) 37 #[.bool false, .bool false, .slice (some ⟨W.heap.size, 0, none⟩) ss.length ss.length, .string (nm8 many), .slice none 0 0] := (hpb.set_ 2 _).far (p := ⟨n + 1, 1, none⟩) (by show n + 1 + 1 ≠ n + 1; omega) _
  refine ⟨⟨hn, hFS, hgn⟩, ⟨by omega, by omega⟩, hFb.go (bt (ba _ _) (ba _ _)), gb_trans hGb (gb_of (bt (ba _ _) (ba _ _))), (B1.alloc _).alloc _, (B2.alloc _).alloc _, ?_, ?_⟩
  · have := (Blk.new ((W.setCell ⟨n + 1 + 1, 2, none⟩ (.slice (some ⟨W.heap.size, 0, none⟩) ss.length ss.length)).setCell ⟨n + 1, 1, none⟩ (.slice (some ⟨W.heap.size + 1, 0, none⟩) fs.length fs.length)) 9 (strsC ss)).alloc (.cells (strsC fs) 9)
    simpa using this
  · have := Blk.new (((W.setCell ⟨n + 1 + 1, 2, none⟩ (.slice (some ⟨W.heap.size, 0, none⟩) ss.length ss.length)).setCell ⟨n + 1, 1, none⟩ (.slice (some ⟨W.heap.size + 1, 0, none⟩) fs.length fs.length)).alloc (.cells (strsC ss) 9)) 9 (strsC fs)
    simpa using this
end
def FsOk (fs : List ByteArray) : Prop := 0 < fs.length ∧ fs.length ≤ 4 ∧ ∀ f ∈ fs, nameB f = true
def SsOk (ss : List ByteArray) : Prop := 1 ≤ ss.length ∧ ss.length ≤ 3 ∧ namesB ss = true ∧ ∀ s ∈ ss, s ∈ q3
theorem fs_ok {fs : List ByteArray} (h : fs ∈ [[nK, nX], [nK, nY, nS], [nK, nX, nT], [nK]]) : FsOk fs := by
  have h1 : ∀ fs ∈ [[nK, nX], [nK, nY, nS], [nK, nX, nT], [nK]], ∀ f ∈ fs, nameB f = true := by decide +kernel
  refine ⟨?_, ?_, h1 fs h⟩ <;> (simp at h; rcases h with rfl | rfl | rfl | rfl <;> decide)
theorem q3_size {s : ByteArray} (h : s ∈ q3) : s.size ≤ 1 := by
  simp only [List.mem_cons, List.not_mem_nil, or_false] at h
  rcases h with rfl | rfl | rfl <;> decide
theorem ss_ok {ss : List ByteArray} (h : ss ∈ [[qA], [qB], [qC], [qC, qA], [qA, qB, qC]]) : SsOk ss := by
  have h1 : ∀ ss ∈ [[qA], [qB], [qC], [qC, qA], [qA, qB, qC]], ∀ s ∈ ss, nameB s = true := by decide +kernel
  have h2 : ∀ s ∈ ss, s ∈ q3 := by
    simp only [List.mem_cons, List.not_mem_nil, or_false] at h
    rcases h with rfl | rfl | rfl | rfl | rfl <;> intro s hs <;> simp only [List.mem_cons, List.not_mem_nil, or_false] at hs ⊢ <;> first | exact hs | exact Or.inl hs | exact Or.inr (Or.inl hs) | exact Or.inr (Or.inr hs) | exact hs.elim (fun h => Or.inr (Or.inr h)) Or.inl
  refine ⟨?_, ?_, namesB_iff.2 ⟨h1 ss h, ?_⟩, h2⟩ <;> (simp at h; rcases h with rfl | rfl | rfl | rfl | rfl <;> simp)
theorem at_of_blk {α : Type} {w : World} {g : Nat} {t : TypeId} {cs : Array Value} {k n : Nat} {f : α → List Value} (hf : ∀ x, (f x).length = k) (l : List α) (h : Blk w g t cs) (hn : n = l.length) (hm : n ≤ maxLen) (hcs : l.flatMap f = cs.toList) : At w k f (.slice (some ⟨g, 0, none⟩) n n) l := by
  subst hn
  refine ⟨some ⟨g, 0, none⟩, l.length, rfl, Nat.le_refl _, hm, fun h => by simp at h, fun b hb j hj i u hu => ?_⟩
  obtain rfl : (⟨g, 0, none⟩ : Addr) = b := by simpa using hb
  have hi : i < k := by
    have := (List.getElem?_eq_some_iff.1 hu).1
    rw [hf] at this; exact this
  have e := flat_get hf l j i hj hi
  rw [hcs] at e
  rw [addr_pl, Nat.zero_add, h.cell (j * k + i)]
  rw [← Array.getElem?_toList, e]; exact hu
theorem own_ltP {α : Type} {w : World} {b : Nat} {e : TypeId} {k : Nat} {f : α → List Value} {v : Value} {l : List α} (h : Own w b e k f v l) {g : Nat} (hg : v.ownBlock = some g) : g < w.heap.size := by
  rcases h.2 with ⟨rfl, _⟩ | ⟨g', cap, cur, rfl, h1, h2, _⟩
  · simp [Value.ownBlock] at hg
  · simp [Value.ownBlock] at hg
    subst hg
    exact (Array.getElem?_eq_some_iff.1 h2).1
theorem KT.slot {w0 : World} {g : Nat} {vl : List Sl} {vv : Value} {many : Nat} {lv : Value} {L : List UInt8} {wS W : World} {n : Nat} {nt pl : Bool} {ss fs : List ByteArray} {sb fb : Nat} {pv : Value} (h : KT w0 g vl vv many lv L wS n nt pl ss fs sb fb pv W) (hf : FsOk fs) (hm : many < 8) : SlotR W g ((nm8 many, (some ⟨fb, 0, none⟩, fs.length, fs.length)), fs) := by
  have hl := h.1.2.2
  have h1 := h.2.1
  exact ⟨nm8_name many hm, fb, by omega, rfl, h.2.2.2.2.2.2.2, hf.1, hf.2.1, hf.2.2⟩
theorem KT.pred {w0 : World} {g : Nat} {vl : List Sl} {vv : Value} {many : Nat} {lv : Value} {L : List UInt8} {wS W : World} {n : Nat} {nt pl : Bool} {ss fs : List ByteArray} {sb fb : Nat} {pv : Value} (h : KT w0 g vl vv many lv L wS n nt pl ss fs sb fb pv W) {t : Tr} {K : Value} {B : Nat} (hT : TrF B W t K) (hB : n + 1 + 1 < B)
    {k : Int} {op : ByteArray} {vk vn : Int} {vs va f : ByteArray} {kd : Value} (hnd : t.node K = (k, op, vk, vn, vs, va, f, kd)) :
    KT w0 g vl vv many lv L wS n nt pl ss fs sb fb (.slice (some ⟨W.heap.size, 0, none⟩) 1 1) ((W.setCell ⟨n + 1 + 1, 4, none⟩ (.slice (some ⟨W.heap.size, 0, none⟩) 1 1)).alloc (.cells #[.int .i64 k, .string op, .int .i64 vk, .int .i64 vn, .string vs, .string va, .string f, kd] 42)) ∧
    Inn n ((W.setCell ⟨n + 1 + 1, 4, none⟩ (.slice (some ⟨W.heap.size, 0, none⟩) 1 1)).alloc (.cells #[.int .i64 k, .string op, .int .i64 vk, .int .i64 vn, .string vs, .string va, .string f, kd] 42)).heap.size ((W.setCell ⟨n + 1 + 1, 4, none⟩ (.slice (some ⟨W.heap.size, 0, none⟩) 1 1)).alloc (.cells #[.int .i64 k, .string op, .int .i64 vk, .int .i64 vn, .string vs, .string va, .string f, kd] 42)) (fun X => ExsAt X (.slice (some ⟨W.heap.size, 0, none⟩) 1 1) [t]) := by
  have hlt := h.lt
  refine ⟨(h.put4 _).go (ba _ _), fun X hX => ?_⟩
  have hn : Blk ((W.setCell ⟨n + 1 + 1, 4, none⟩ (.slice (some ⟨W.heap.size, 0, none⟩) 1 1)).alloc (.cells #[.int .i64 k, .string op, .int .i64 vk, .int .i64 vn, .string vs, .string va, .string f, kd] 42)) W.heap.size 42 #[.int .i64 k, .string op, .int .i64 vk, .int .i64 vn, .string vs, .string va, .string f, kd] := by
    have := Blk.new (W.setCell ⟨n + 1 + 1, 4, none⟩ (.slice (some ⟨W.heap.size, 0, none⟩) 1 1)) 42 #[.int .i64 k, .string op, .int .i64 vk, .int .i64 vn, .string vs, .string va, .string f, kd]
    simpa using this
  have hT2 := (hT.grown (gb_set (g := n + 1 + 1) W 4 (.slice (some ⟨W.heap.size, 0, none⟩) 1 1)) hB).later (ba _ (.cells #[.int .i64 k, .string op, .int .i64 vk, .int .i64 vn, .string vs, .string va, .string f, kd] 42))
  refine ⟨[(t, K)], at_of_blk (k := 8) (f := exF) (fun _ => rfl) [(t, K)] (hn.alike (hX _ (by omega) hn.lt)) rfl (by unfold maxLen; omega) ?_, rfl, fun x hx => ?_⟩
  · simp [hnd]
  · obtain rfl : x = (t, K) := by simpa using hx
    exact (hT2.alike (fun k hk hk2 => hX k (by omega) hk2)).at_
/-- A change of a block that is of another type than all that a feed keeps. -/
theorem fv_off {w0 : World} {g r : Nat} {vl : List Sl} {vv : Value} {many : Nat} {lv : Value} {L : List UInt8} {W W' : World} {cs : Array Value} (h : FV w0 g vl vv many lv L W) (hr : Blk W r 37 cs) (hr0 : w0.heap.size ≤ r) (hb : GB r W W') : FV w0 g vl vv many lv L W' := by
  have hr' : W.heap[r]? = some (.cells cs 37 (0, 0)) := hr
  obtain ⟨at_, ha, hg⟩ := h.2.2.2.1
  refine ⟨h.1.trans (gb_below hb h.1.size hr0), h.2.1, h.2.2.1, ⟨at_, ha, hg.grown hb (fun e => ?_)⟩, ⟨h.2.2.2.2.1.1.grown hb (fun b hb' e => ?_), h.2.2.2.2.1.2⟩, fun x hx => ?_⟩
  · have e' := Option.some.inj e
    have h' : W.heap[g]? = some (.cells (fV lv at_ vv many) 50 (0, 0)) := hg
    first | rw [e'] at hr' | rw [← e'] at hr'
    rw [hr'] at h'; simp at h'
  · obtain rfl := Option.some.inj hb'
    rcases h.2.2.2.2.1.1.2 with ⟨h0, _⟩ | ⟨g', cap, cur, h0, q1, q2, _⟩
    · rw [h0] at e; simp [Value.ownBlock] at e
    · rw [h0] at e
      simp [Value.ownBlock] at e
      subst e
      rw [hr'] at q2; simp at q2
  · obtain ⟨h1, b, h2, h3, h4, h5⟩ := h.2.2.2.2.2 x hx
    refine ⟨h1, b, h2, h3, h4.grown hb (fun e => ?_), h5⟩
    have e' := Option.some.inj e
    have h' : W.heap[b]? = some (.cells (strsC x.2) 9 (0, 0)) := h4
    first | rw [e'] at hr' | rw [← e'] at hr'
    rw [hr'] at h'; simp at h'
theorem GB2.put {g : Nat} {o : Option Nat} {w W : World} (h : GB2 g o w W) (p : Addr) (hp : w.heap.size ≤ p.block) (x : Value) : GB2 g o w (W.setCell p x) :=
  ⟨h.1, h.2.1, h.2.2.1, by simpa using h.2.2.2.1, fun k hk hn hm => by
    rw [Below.heap_setCell W p x k (by omega)]; exact h.2.2.2.2 k hk hn hm⟩
abbrev set5 (W : World) (b : Nat) (x0 x1 x2 x3 x4 : Value) : World := ((((W.setCell ⟨b, 0, none⟩ x0).setCell ⟨b, 1, none⟩ x1).setCell ⟨b, 2, none⟩ x2).setCell ⟨b, 3, none⟩ x3).setCell ⟨b, 4, none⟩ x4
theorem set5_gb (W : World) (b : Nat) (x0 x1 x2 x3 x4 : Value) : GB b W (set5 W b x0 x1 x2 x3 x4) :=
  gb_trans (gb_trans (gb_trans (gb_trans (gb_set W 0 x0) (gb_set _ 1 x1)) (gb_set _ 2 x2)) (gb_set _ 3 x3)) (gb_set _ 4 x4)
theorem part_end {w0 : World} {g : Nat} {vl vl' : List Sl} {vv vv' : Value} {many : Nat} {lv : Value} {L : List UInt8} {w wS wc w9 : World} {n : Nat} {nt nt' pl : Bool} {ss fs : List ByteArray} {sb fb : Nat} {pK : SV} {pd : List Tr} (hK : KT w0 g vl vv many lv L wS n nt' pl ss fs sb fb (sl pK) wc)
    (hX : Inn n wc.heap.size wc (fun W => ExsAt W (sl pK) pd)) (hpd : pd.length ≤ 1) (hsm : ∀ t ∈ pd, Sm t) (hss : SsOk ss) (hnt : nt' = true → nt = true) (hnp : (nt' && pl) = false) (hm : many < 8) (hgw : g < w.heap.size) (hw0 : w0.heap.size ≤ w.heap.size) (hwn : w.heap.size < n) (hvo : ∀ k, vv.ownBlock = some k → k < w.heap.size)
    (hGS : GB2 g vv.ownBlock w wS) (hr : Blk wS w.heap.size 37 zP) (hF9 : FV w0 g vl' vv' (many + 1) lv L w9) (hG9 : GB2 g vv.ownBlock wc w9) (hl : vl'.length = vl.length + if nt' then 0 else 1) (hloc : ∀ k, vv'.ownBlock = some k → vv.ownBlock = some k ∨ wc.heap.size ≤ k) (x0 x1 x2 x3 x4 : Value) :
    PartR w0 g vl vv many lv L nt w (.returned (.agg #[.bool nt', .bool pl, .slice (some ⟨sb, 0, none⟩) ss.length ss.length, .string (nm8 many), sl pK])) (set5 w9 w.heap.size x0 x1 x2 x3 x4) := by
  have hlt := hK.lt
  have h1 := hK.2.1
  have hrS := hr.lt
  have hrc : Blk wc w.heap.size 37 zP := hr.grown hK.2.2.2.1 (fun e => by have := Option.some.inj e; omega)
  have hr9 : Blk w9 w.heap.size 37 zP := hrc.alike (hG9.2.2.2.2 _ hrc.lt (by omega) (fun e => by have := hvo _ e; omega))
  have e0 : ∀ W : World, (∀ k, w.heap.size ≤ k → k < wc.heap.size → W.heap[k]? = (set5 w9 w.heap.size x0 x1 x2 x3 x4).heap[k]?) → ∀ k, n ≤ k → k < wc.heap.size → W.heap[k]? = wc.heap[k]? := fun W hW k hk hk2 => by
    rw [hW k (by omega) hk2, (set5_gb w9 w.heap.size x0 x1 x2 x3 x4).block k (by have := hG9.2.2.2.1; omega) (fun e => by have := Option.some.inj e; omega)]
    exact hG9.2.2.2.2 k hk2 (by have := hK.1.2.2; omega) (fun e => by have := hvo _ e; omega)
  have hGw : GB2 g vv.ownBlock w w9 := (hGS.trans (GB2.of hK.2.2.2.1) (fun _ _ e => e)).trans hG9 (fun _ _ e => e)
  have hp : partB (⟨nt', pl, ss, nm8 many, pd⟩ : Pt) = true := by
    have a3 : pd.all Tr.ok = true := List.all_eq_true.2 (fun t ht => (hsm t ht).1)
    unfold partB
    simp only
    rw [a3, hss.2.2.1, decide_eq_true hss.1, decide_eq_true (show ss.length ≤ 4 by have := hss.2.1; omega), decide_eq_true hpd, hnp]
    rfl
  refine ⟨(⟨nt', pl, ss, nm8 many, pd⟩, (some ⟨sb, 0, none⟩, ss.length, ss.length), pK), wc.heap.size, vl', vv', rfl, ?_, ?_, fun W hW => ⟨?_, ?_, ?_, ?_⟩, hl, hloc, fv_off hF9 hr9 hw0 (set5_gb _ _ _ _ _ _ _), ((((hGw.put ⟨w.heap.size, 0, none⟩ (Nat.le_refl _) _).put ⟨w.heap.size, 1, none⟩ (Nat.le_refl _) _).put ⟨w.heap.size, 2, none⟩ (Nat.le_refl _) _).put ⟨w.heap.size, 3, none⟩ (Nat.le_refl _) _).put ⟨w.heap.size, 4, none⟩ (Nat.le_refl _) _, rfl, hp, hnt, hss.2.2.2, hsm⟩
  · omega
  · have := hG9.2.2.2.1; have := (set5_gb w9 w.heap.size x0 x1 x2 x3 x4).size; omega
  · exact at_of_blk (k := 1) (f := scV) (fun _ => rfl) ss (hK.2.2.2.2.2.2.1.alike (e0 W hW sb (by omega) hK.2.2.2.2.2.2.1.lt)) rfl (show ss.length ≤ maxLen by have := hss.2.1; unfold maxLen; omega) (by show List.flatMap scV ss = (List.map Value.string ss).toArray.toList; rw [List.map_eq_flatMap])
  · exact hX W (e0 W hW)
  · exact nameB_size (nm8_name many hm)
  · exact fun s hs => by have := q3_size (hss.2.2.2 s hs); unfold maxLen; omega
set_option maxRecDepth 20000 in
set_option maxHeartbeats 8000000 in
theorem part_any (w0 : World) (g : Nat) (vl : List Sl) (vv : Value) (many : Nat) (lv : Value) (L : List UInt8) (w : World) (nt : Bool) (hL : L.length ≤ 140737488351232) (hm : many < 8) (hvl : vl.length < 8) (h : FV w0 g vl vv many lv L w) :
    Calls Tryd.prog 16 #[.pointer (some ⟨g, 0, none⟩), .bool nt] w (PartR w0 g vl vv many lv L nt w) := by
  have hgl : g < w.heap.size := by obtain ⟨_, _, hg⟩ := h.2.2.2.1; exact hg.lt
  have b1 := ba w (.cells zP 37)
  have cN := next_fv w0 g vl vv many lv L (w.alloc (.cells zP 37)) hL (h.go b1)
  have hr := Blk.new w 37 zP
  obtain ⟨w1, hw1⟩ : ∃ w1, w1 = w.alloc (.cells zP 37) := ⟨_, rfl⟩
  rw [← hw1] at b1 cN hr
  have hvo : ∀ k, vv.ownBlock = some k → k < w.heap.size := fun k hk => own_ltP h.2.2.2.2.1.1 hk
  have hw0 : w0.heap.size ≤ w.heap.size := h.1.size
  have HO := Lib.hid (And.intro hvo hw0)
  have G1 := Lib.hid (And.intro hgl (And.intro b1 hr)); clear b1 hr h hvo hw0
  have CN := Lib.hid cN; clear cN
  have HV := Lib.hid hvl; clear hvl
  go_enter Tryd.func16, Tryd.ntmps16
  go_wp2_with fail
  try rw [← hw1]
  try go_at_call 15
  refine CN.out.mono ?_
  rintro e w2 ⟨⟨b, hb255, rfl⟩, hF2, hg2⟩
  obtain ⟨at_, ha, hg⟩ := hF2.2.2.2.1
  have hgl2 := hg.lt
  have c3 := hg.cell 3
  have f3 := hg.frozen 3
  have hN := nm8_cell (Blk.new w2 9 n8c) many hm
  have hmm : Int.tmod (many : Int) 8 = (many : Int) := by rw [Int.tmod_eq_emod_of_nonneg (by omega)]; omega
  have H2 := Lib.hid (And.intro hF2 (And.intro hg2 (And.intro ha hg))); clear hF2 hg2 ha hg CN
  simp only [fV, List.getElem?_toArray, List.getElem?_cons_succ, List.getElem?_cons_zero] at c3
  go_upto_block 0 with fail
  obtain ⟨wS, hwS⟩ : ∃ wS, wS = w2.setCell ⟨g, 3, none⟩ (.int .i64 ((many : Int) + 1)) := ⟨_, rfl⟩
  have hs0 : GB g w2 wS := by rw [hwS]; exact gb_set w2 3 _
  have hf0 : FV w0 g vl vv (many + 1) lv L wS := by
    refine H2.out.1.more hs0 (many + 1) at_ H2.out.2.2.1 ?_
    rw [hwS]; exact H2.out.2.2.2.set_ 3 _
  have hn0 : wS.heap.size = w2.heap.size := by rw [hwS]; simp
  rw [← hwS]
  obtain ⟨W3, hW3⟩ : ∃ W3, W3 = (((wS.alloc (.cells n8c 9)).alloc (.cells #[.string (nm8 many), .slice none 0 0] 54)).alloc (.cells #[.bool false, .bool false, .slice none 0 0, .string (nm8 many), .slice none 0 0] 37)) := ⟨_, rfl⟩
  rw [← hW3]
  have hg3 : GB g wS W3 := by rw [hW3]; exact gb_of (bt (ba _ _) (bt (ba _ _) (ba _ _)))
  have hF3 : FV w0 g vl vv (many + 1) lv L W3 := by rw [hW3]; exact hf0.go (bt (ba _ _) (bt (ba _ _) (ba _ _)))
  have hso : Blk W3 (w2.heap.size + 1) 54 #[.string (nm8 many), .slice none 0 0] := by
    rw [hW3, ← hn0]
    have := (Blk.new (wS.alloc (.cells n8c 9)) 54 #[.string (nm8 many), .slice none 0 0]).alloc (.cells #[.bool false, .bool false, .slice none 0 0, .string (nm8 many), .slice none 0 0] 37)
    simpa using this
  have hpb : Blk W3 (w2.heap.size + 1 + 1) 37 #[.bool false, .bool false, .slice none 0 0, .string (nm8 many), .slice none 0 0] := by
    rw [hW3, ← hn0]
    have := Blk.new ((wS.alloc (.cells n8c 9)).alloc (.cells #[.string (nm8 many), .slice none 0 0] 54)) 37 #[.bool false, .bool false, .slice none 0 0, .string (nm8 many), .slice none 0 0]
    simpa using this
  have hsz : W3.heap.size = w2.heap.size + 1 + 1 + 1 := by rw [hW3, ← hn0]; simp
  obtain ⟨n, hn⟩ : ∃ n, n = w2.heap.size := ⟨_, rfl⟩
  rw [← hn] at hsz hpb hso hn0 hgl2
  have l0 : n < W3.heap.size := by omega
  have l1 : n + 1 < W3.heap.size := by omega
  have l2 : n + 1 + 1 < W3.heap.size := by omega
  have z1 := hso.frozen
  have z2 := hpb.frozen
  have y1 := hso.cell
  have y2 := hpb.cell
  have ne : n + 1 ≠ n + 1 + 1 := by omega
  have hwn : w.heap.size < n := by have := H2.out.2.1.size; have := G1.out.2.2.lt; omega
  have GW := Lib.hid (And.intro G1.out.2.1 (And.intro H2.out.2.1 (And.intro hs0 (And.intro G1.out.2.2 hwn))))
  have hKL := fun (ss fs : List ByteArray) => KT.leaf ss fs ⟨hn0, hf0, hgl2⟩ hF3 hg3 hso hpb hsz
  have H3 := Lib.hid hKL
  rw [← hn]
  clear hs0 hf0 hg3 hF3 hso hpb hsz hW3 c3 f3 hN hwS hKL hwn H2 hn0 hn
  go_cut [] (fun wx => ∃ (ss fs : List ByteArray) (sb fb : Nat), KT w0 g vl vv many lv L wS n false false ss fs sb fb (.slice none 0 0) wx ∧ FsOk fs ∧ SsOk ss)
  case first =>
    rcases (by omega : (b : Int) % 8 = 0 ∨ (b : Int) % 8 = 1 ∨ (b : Int) % 8 = 2 ∨ (b : Int) % 8 = 3 ∨ (b : Int) % 8 = 4 ∨ (b : Int) % 8 = 5 ∨ (b : Int) % 8 = 6 ∨ (b : Int) % 8 = 7) with hq | hq | hq | hq | hq | hq | hq | hq
    · go_wp2_with fail
      go_meet
      exact ⟨[qA], [nK, nX], _, _, H3.out [qA] [nK, nX], fs_ok (by simp), ss_ok (by simp)⟩
    · go_wp2_with fail
      go_meet
      exact ⟨[qA], [nK, nX], _, _, H3.out [qA] [nK, nX], fs_ok (by simp), ss_ok (by simp)⟩
    · go_wp2_with fail
      go_meet
      exact ⟨[qA], [nK, nX], _, _, H3.out [qA] [nK, nX], fs_ok (by simp), ss_ok (by simp)⟩
    · go_wp2_with fail
      go_meet
      exact ⟨[qB], [nK, nY, nS], _, _, H3.out [qB] [nK, nY, nS], fs_ok (by simp), ss_ok (by simp)⟩
    · go_wp2_with fail
      go_meet
      exact ⟨[qB], [nK, nY, nS], _, _, H3.out [qB] [nK, nY, nS], fs_ok (by simp), ss_ok (by simp)⟩
    · go_wp2_with fail
      go_meet
      exact ⟨[qC], [nK, nX, nT], _, _, H3.out [qC] [nK, nX, nT], fs_ok (by simp), ss_ok (by simp)⟩
    · go_wp2_with fail
      go_meet
      exact ⟨[qC, qA], [nK, nX], _, _, H3.out [qC, qA] [nK, nX], fs_ok (by simp), ss_ok (by simp)⟩
    · go_wp2_with fail
      go_meet
      exact ⟨[qA, qB, qC], [nK], _, _, H3.out [qA, qB, qC] [nK], fs_ok (by simp), ss_ok (by simp)⟩
  case rest =>
    obtain ⟨ss, fs, sb, fb, hK, hfs, hss⟩ := hcut
    obtain ⟨p1, p2, p3⟩ := hK.facts
    have hlt := hK.lt
    have HK := Lib.hid (And.intro hK (And.intro hfs hss)); clear hK hfs hss l0 l1 l2 z1 z2 y1 y2 ne H3
    go_upto_region 24 with fail
    go_cut [] (fun wx => ∃ nt', (nt' = true → nt = true) ∧ KT w0 g vl vv many lv L wS n nt' false ss fs sb fb (.slice none 0 0) wx)
    case first =>
      cases nt with
      | false =>
        go_wp2_with fail
        go_meet
        exact ⟨false, by simp, HK.out.1.put0 false⟩
      | true =>
        by_cases hq : (b : Int) / 8 % 4 = 0
        · go_wp2_with fail
          go_meet
          exact ⟨true, by simp, HK.out.1.put0 true⟩
        · have hq' : ((b : Int) / 8 % 4 == 0) = false := by simpa using hq
          go_wp2_with fail
          go_meet
          exact ⟨false, by simp, HK.out.1.put0 false⟩
    case rest =>
      obtain ⟨nt', hnt, hK⟩ := hcut
      obtain ⟨p1', p2', p3'⟩ := hK.facts
      have hlt' := hK.lt
      have HK2 := Lib.hid (And.intro hK (And.intro HK.out.2 hnt)); clear hK hnt p1 p2 p3 hlt HK
      go_upto_region 25 with fail
      go_cut [] (fun wx => ∃ pl', (nt' && pl') = false ∧ KT w0 g vl vv many lv L wS n nt' pl' ss fs sb fb (.slice none 0 0) wx)
      case first =>
        cases nt' with
        | true =>
          go_wp2_with fail
          go_meet
          exact ⟨false, by simp, HK2.out.1.put1 false⟩
        | false =>
          by_cases hq : (b : Int) / 8 % 4 = 1
          · go_wp2_with fail
            go_meet
            exact ⟨true, by simp, HK2.out.1.put1 true⟩
          · have hq' : ((b : Int) / 8 % 4 == 1) = false := by simpa using hq
            go_wp2_with fail
            go_meet
            exact ⟨false, by simp, HK2.out.1.put1 false⟩
      case rest =>
        obtain ⟨pl', hpl, hK⟩ := hcut
        have cN2 := next_fv w0 g vl vv (many + 1) lv L wc hL hK.2.2.1
        have HK3 := Lib.hid (And.intro hK (And.intro HK2.out.2.1 (And.intro HK2.out.2.2 hpl))); clear hK hpl p1' p2' p3' hlt' HK2
        have CN2 := Lib.hid cN2; clear cN2
        go_wp2_with fail
        try go_at_call 15
        refine CN2.out.mono ?_
        rintro e w5 ⟨⟨b2, hb2, rfl⟩, hF5, hg5⟩
        have hK5 := HK3.out.1.gb hF5 hg5
        obtain ⟨p1, p2, p3⟩ := hK5.facts
        have hlt := hK5.lt
        have HK5 := Lib.hid (And.intro hK5 HK3.out.2); clear hK5 hF5 hg5 CN2 HK3
        go_upto_if 85 with fail
        go_cut [] (fun wx => ∃ (pd : List Tr) (pK : SV), KT w0 g vl vv many lv L wS n nt' pl' ss fs sb fb (sl pK) wx ∧ Inn n wx.heap.size wx (fun W => ExsAt W (sl pK) pd) ∧ pd.length ≤ 1 ∧ ∀ t ∈ pd, Sm t)
        case first =>
          by_cases hq : (b2 : Int) % 3 = 0
          · have FDx := FV.fd (oo := ⟨vl, vv, many + 1, nm8 many, some ⟨fb, 0, none⟩, fs.length, fs.length, fs⟩) HK5.out.1.2.2.1 (HK5.out.1.slot HK5.out.2.1.1 hm)
            have cT := truF_any w0 g _ lv L hL 1 (by omega) w5 FDx
            have CT := Lib.hid cT; clear cT FDx
            go_wp2_with fail
            try go_at_call 31
            refine CT.out.mono ?_
            rintro e w6 ⟨hM, hF6, hg6⟩
            obtain ⟨t, K, k, op, vk, vn, vs, va, f, A, m, c, rfl, hT, ho, hs, hnd⟩ := hM.open_
            have hK6 := HK5.out.1.gb hF6.fv hg6
            obtain ⟨q1, q2, q3⟩ := hK6.facts
            have hlt6 := hK6.lt
            have hR := hK6.pred hT hlt hnd
            have H6 := Lib.hid (And.intro hR (sm_of (by omega) ho hs)); clear hR hK6 hT ho hs hnd hF6 hg6 CT hM p1 p2 p3 hlt
            go_wp2_with fail
            go_meet
            exact ⟨[t], (some ⟨w6.heap.size, 0, none⟩, 1, 1), H6.out.1.1, H6.out.1.2, by simp, fun t' ht' => by rw [List.mem_singleton.1 ht']; exact H6.out.2⟩
          · have hq' : ((b2 : Int) % 3 == 0) = false := by simpa using hq
            go_wp2_with fail
            go_meet
            exact ⟨[], (none, 0, 0), HK5.out.1, fun W _ => ⟨[], At.nil _ _ _, rfl, fun x hx => by simp at hx⟩, by simp, fun t ht => by simp at ht⟩
        case rest =>
          obtain ⟨pd, pK, hK, hX, hpd, hsm⟩ := hcut
          clear p1 p2 p3 hlt
          obtain ⟨p1, p2, p3⟩ := hK.facts
          have hlt := hK.lt
          have hwn := GW.out.2.2.2.2
          have hS0 := gb_trans GW.out.2.1 GW.out.2.2.1
          have hrS : Blk wS w.heap.size 37 zP := GW.out.2.2.2.1.grown hS0 (fun e => by have := Option.some.inj e; omega)
          have hGS : GB2 g vv.ownBlock w wS := (GB2.of (gb_of GW.out.1)).trans (GB2.of (o := vv.ownBlock) hS0) (fun _ _ e => e)
          have hrc : Blk wc w.heap.size 37 zP := hrS.grown hK.2.2.2.1 (fun e => by have := Option.some.inj e; omega)
          have HE := Lib.hid (And.intro hK (And.intro hX (And.intro hpd (And.intro hsm (And.intro HK5.out.2.1 (And.intro HK5.out.2.2.1 (And.intro HK5.out.2.2.2 (And.intro hGS hrS))))))))
          cases nt' with
          | true =>
            have r1 := hrc.cell
            have r2 := hrc.frozen
            have rl := hrc.lt
            have hE := fun (x0 x1 x2 x3 x4 : Value) => part_end hK hX hpd hsm HK5.out.2.1.2 HK5.out.2.2.1 HK5.out.2.2.2 hm hgl HO.out.2 hwn HO.out.1 hGS hrS hK.2.2.1 ⟨rfl, rfl, rfl, Nat.le_refl _, fun _ _ _ _ => rfl⟩ (by simp) (fun k hk => Or.inl hk) x0 x1 x2 x3 x4
            have HEE := Lib.hid hE; clear hE hK hX hpd hsm hwn hS0 hrS hGS hrc HK5 HE
            go_wp2_with fail
            exact bodyPost_ret (v := .agg #[.bool true, .bool pl', .slice (some ⟨sb, 0, none⟩) ss.length ss.length, .string (nm8 many), sl pK]) (by simp [results, Tryd.results16, go_sem, r1]) rfl (HEE.out _ _ _ _ _)
          | false =>
            go_upto_region 29 with fail
            clear p1 p2 p3 hlt
            refine wp_of_eq (c' := ((Tryd.f16.body.bind (regionN 29)).getD .skip)) ?_ (by kernel_rfl)
            refine part_own _ _ _ _ _ _ _ _ _ _ _ _ _ _ _ _ _ _ _ _ _ _ _ _ _ _ _ _ _ _ _ _ _ _ _ _ _ _ _ _ _ _ _ _ _ _ _ _ _ _ _ _ _ _ _ _ _ _ _ _ _ _ _ _ _ _ _ _ _ _ _ _ _ _ _ _ _ _ _ _ _ _ _ _ _ _ _ _ _ _ _ _ _ _ _ _ _ _ _ _ _ _ _ (K := (some ⟨fb, 0, none⟩, fs.length, fs.length)) (fs := fs) HE.out.1.2.2.1 HE.out.1.2.2.2.2.1 (fun e => by have := HO.out.1 _ e; omega) HV.out (HE.out.1.slot HK5.out.2.1.1 hm) (fun y0 y1 y2 y3 y4 y5 y6 y7 y8 y9 v9 w9 hR => ?_)
            have hoff : ∀ k, k < wc.heap.size → w.heap.size ≤ k → w9.heap[k]? = wc.heap[k]? := fun k hk hk2 => hR.2.1.2.2.2.2 k hk (by omega) (fun e => by have := HO.out.1 _ e; omega)
            have hrc9 := hrc.alike (hoff _ hrc.lt (Nat.le_refl _))
            have hp9 := HE.out.1.2.2.2.2.2.1.alike (hoff (n + 1 + 1) HE.out.1.lt (by omega))
            have r1 := hrc9.cell
            have r2 := hrc9.frozen
            have rl := hrc9.lt
            have p2 := hp9.cell
            have pl2 := hp9.lt
            have hE := fun (x0 x1 x2 x3 x4 : Value) => part_end (vl' := vl ++ [((nm8 many, (some ⟨fb, 0, none⟩, fs.length, fs.length)), fs)]) (vv' := v9) hK hX hpd hsm HK5.out.2.1.2 HK5.out.2.2.1 HK5.out.2.2.2 hm hgl HO.out.2 hwn HO.out.1 hGS hrS hR.1 hR.2.1 (by simp) hR.2.2 x0 x1 x2 x3 x4
            have HEE := Lib.hid hE; clear hE hR hK hX hpd hsm hwn hS0 hrS hGS hrc HK5 HE hoff hrc9 hp9
            go_wp2_with fail
            exact bodyPost_ret (v := .agg #[.bool false, .bool pl', .slice (some ⟨sb, 0, none⟩) ss.length ss.length, .string (nm8 many), sl pK]) (by simp [results, Tryd.results16, go_sem, r1]) rfl (HEE.out _ _ _ _ _)
end Go.Proofs.YtenmbahfgfmjjaaDoor
