/- A feed: the variables of an expression, as a row of two. -/
import Derived.Test.YtfkcjlpocfjmdaaDoorFeed
import Derived.Test.YtfkcjlpocfjmdaaDoorFdK7
import Derived.Deep.RegionLaw
import Derived.Deep.RegionHeld3
import Derived.OwnWalk
namespace Go.Proofs.YtfkcjlpocfjmdaaDoor
open Go.ChangeShapes Go.WideShapes Go.ChangeAt Go.RowKit
set_option linter.unusedVariables false
set_option linter.unusedSimpArgs false

theorem Tryd.infoSlot : (Tryd.prog.info? 59).map (fun i => (i.zero, i.size, i.bytes)) = some (some (.agg #[.string ⟨#[]⟩, .slice none 0 0]), 2, 40) := by kernel_rfl
/-- A slot, as a row has it. -/
abbrev slF (x : ByteArray × SV) : List Value := [.string x.1, sl x.2]
theorem ap_below {w wd w5 : World} (h : Below w.heap.size w wd) (hg : wd.grownBy w5 (Value.ownBlock (.slice none 0 0))) : Below w.heap.size w w5 := bt h (grownBy_below hg (Nat.le_refl _) (fun _ h => by simp [Value.ownBlock] at h))
theorem own_grown {w w5 w5' w6 : World} {e : TypeId} {v : Value} {n : Nat} {xs : List Value} (h : Below w.heap.size w w5) (k : Below w5.heap.size w5 w5') (hO : w5.ownsRow w.heap.size e 2 v n xs) (hg : w5'.grownBy w6 v.ownBlock) : Below w.heap.size w w6 :=
  (bt h k).trans (grownBy_below hg (by have := (bt h k).size; omega) (fun j hj => by
    rcases hO.2 with ⟨rfl, _⟩ | ⟨g', cap', cur, rfl, hb, _⟩
    · simp [Value.ownBlock] at hj
    · simp [Value.ownBlock] at hj; omega))
theorem of_two {w : World} {base : Nat} {e : TypeId} {v : Value} {gk go : Nat} (h : w.ownsRow base e 2 v (1 + 1) (([] ++ [.string nA, .slice (some ⟨gk, 0, none⟩) 2 2]) ++ [.string nB, .slice (some ⟨go, 0, none⟩) 4 4])) : Own w base e 2 slF v [(nA, some ⟨gk, 0, none⟩, 2, 2), (nB, some ⟨go, 0, none⟩, 4, 4)] := h
theorem new_cells {w : World} {g : Nat} (hg : g = w.heap.size) (t : TypeId) (cs : Array Value) : ∀ j u, cs.toList[j]? = some u → (w.alloc (.cells cs t)).cell? ((⟨g, 0, none⟩ : Addr).add j) = some u := by
  subst hg
  exact blk_cells (Blk.new w t cs)
set_option maxRecDepth 20000 in
set_option maxHeartbeats 4000000 in
theorem of_vars (u1 u2 u3 u4 u6 u7 u8 u9 u10 u11 u12 u13 u14 u15 u16 u17 u18 u19 u20 u21 u22 u23 u24 u25 u26 u27 u28 u29 u30 u31 u32 u33 u34 u35 u36 u37 u38 u39 u40 u41 u42 u43 u44 u45 u46 u47 u48 u49 u50 u51 u52 u53 u54 u55 u56 u57 u58 u59 u60 u61 u62 u63 u64 u65 u66 u67 u68 u69 u70 u71 u72 u73 u74 u75 u76 u77 u78 : Value) {w0 w : World} {g gv gk go p5 : Nat} {lv : Value} {L : List UInt8} (hF : FD w0 g gv gk go lv L w) (hB : Blk w p5 59 #[.string nB, .slice (some ⟨go, 0, none⟩) 4 4]) {Q : Exit → Act → World → Prop}
    (hQ : ∀ (x18 x19 x20 x21 x22 x23 x24 x25 : Value) (vv : Value) (wx : World), Own wx w.heap.size 59 2 slF vv [(nA, some ⟨gk, 0, none⟩, 2, 2), (nB, some ⟨go, 0, none⟩, 4, 4)] ∧ Below w.heap.size w wx → Q .normal ⟨#[.pointer (some ⟨g, 0, none⟩), u1, u2, u3, u4, .pointer (some ⟨p5, 0, none⟩), u6, u7, u8, u9, vv, u11, u12, u13, u14, u15, u16, u17, x18, x19, x20, x21, x22, x23, x24, x25, u26, u27, u28, u29, u30, u31, u32, u33, u34, u35, u36, u37, u38, u39, u40, u41, u42, u43, u44, u45, u46, u47, u48, u49, u50, u51, u52, u53, u54, u55, u56, u57, u58, u59, u60, u61, u62, u63, u64, u65, u66, u67, u68, u69, u70, u71, u72, u73, u74, u75, u76, u77, u78], []⟩ wx) :
    Code.wp Tryd.prog ((Tryd.f47.body.bind (regionN 2)).getD .skip) Q ⟨#[.pointer (some ⟨g, 0, none⟩), u1, u2, u3, u4, .pointer (some ⟨p5, 0, none⟩), u6, u7, u8, u9, u10, u11, u12, u13, u14, u15, u16, u17, u18, u19, u20, u21, u22, u23, u24, u25, u26, u27, u28, u29, u30, u31, u32, u33, u34, u35, u36, u37, u38, u39, u40, u41, u42, u43, u44, u45, u46, u47, u48, u49, u50, u51, u52, u53, u54, u55, u56, u57, u58, u59, u60, u61, u62, u63, u64, u65, u66, u67, u68, u69, u70, u71, u72, u73, u74, u75, u76, u77, u78], []⟩ w := by
  have HQ := Lib.hid hQ; clear hQ
  conv => arg 2; whnf
  obtain ⟨i0, hi, hz0, hz1, hz2⟩ := info_parts Tryd.infoSlot
  have e0 := hF.2.2.2.2.1.2
  obtain ⟨at_, ha, hg⟩ := hF.2.2.2.1
  have c2 := hg.cell 2
  have d0 := hB.cell 0
  have gl := hg.lt
  have pl := hB.lt
  have d1 := hB.cell 1
  have HC := Lib.hid (And.intro hF (And.intro hg (And.intro hB e0))); clear hF hg e0
  go_wp2_with fail
  refine wp_region_noPanic ?_
  go_region_law (first
    | (refine step_append_own rfl (.const (.slice none 0 0)) (.tmp 21) 60 rfl w.heap.size 59 i0 (.agg #[.string ⟨#[]⟩, .slice none 0 0]) 2 40 Tryd.underlying60 hi hz0 hz1 hz2 rfl (by decide) (.slice none 0 0) 0 [] (by simp [Act.eval, Act.put]) (World.ownsRow_nil _ _ _ _) ⟨gv, 0, none⟩ 1 1 [.string nA, .slice (some ⟨gk, 0, none⟩) 2 2] (by simp [Act.eval, Act.put]) rfl (blk_cells (HC.out.2.2.2.later (below_drew (Below.refl w.heap.size w)))) (by simp [Value.oneCell']) (by decide) (by decide) ((below_drew (Below.refl w.heap.size w))).size ?_; intro v5 w5 hO5 hg5 _; obtain ⟨A5, n5, c5, rfl⟩ := own_shape hO5; have b5 := ap_below (below_drew (Below.refl w.heap.size w)) hg5; obtain ⟨q0, q1⟩ := (HC.out.2.2.1.later b5).two)
    | (refine step_append_own rfl (.const (.slice none 0 0)) (.tmp 21) 60 rfl w.heap.size 59 i0 (.agg #[.string ⟨#[]⟩, .slice none 0 0]) 2 40 Tryd.underlying60 hi hz0 hz1 hz2 rfl (by decide) (.slice none 0 0) 0 [] (by simp [Act.eval, Act.put]) (World.ownsRow_nil _ _ _ _) ⟨gv, 0, none⟩ 1 1 [.string nA, .slice (some ⟨gk, 0, none⟩) 2 2] (by simp [Act.eval, Act.put]) rfl (blk_cells (HC.out.2.2.2.later (below_drew (ba w (.cells #[.string nB, .slice (some ⟨go, 0, none⟩) 4 4] 59))))) (by simp [Value.oneCell']) (by decide) (by decide) ((below_drew (ba w (.cells #[.string nB, .slice (some ⟨go, 0, none⟩) 4 4] 59)))).size ?_; intro v5 w5 hO5 hg5 _; obtain ⟨A5, n5, c5, rfl⟩ := own_shape hO5; have b5 := ap_below (below_drew (ba w (.cells #[.string nB, .slice (some ⟨go, 0, none⟩) 4 4] 59))) hg5; obtain ⟨q0, q1⟩ := (HC.out.2.2.1.later b5).two; have n24 := (blk_drew (Blk.new w 59 #[.string nB, .slice (some ⟨go, 0, none⟩) 4 4])).grown hg5 (by simp [Value.ownBlock]))
    | (refine step_append_own rfl (.tmp 22) (.tmp 24) 60 rfl w.heap.size 59 i0 (.agg #[.string ⟨#[]⟩, .slice none 0 0]) 2 40 Tryd.underlying60 hi hz0 hz1 hz2 rfl (by decide) _ 1 _ (by simp [Act.eval, Act.put]) (ownsRow_later hO5 (ba w5 (.cells #[.string nB, .slice (some ⟨go, 0, none⟩) 4 4] 59))) ⟨_, 0, none⟩ 1 1 [.string nB, .slice (some ⟨go, 0, none⟩) 4 4] (by simp [Act.eval, Act.put]) rfl (new_cells rfl _ #[.string nB, .slice (some ⟨go, 0, none⟩) 4 4]) (by simp [Value.oneCell']) (by decide) (by decide) (by have := b5.size; simp only [World.size_alloc]; omega) ?_; intro v6 w6 hO6 hg6 _; obtain ⟨A6, n6, c6, rfl⟩ := own_shape hO6; have b6 := own_grown b5 (ba w5 (.cells #[.string nB, .slice (some ⟨go, 0, none⟩) 4 4] 59)) hO5 hg6)
    | (refine step_append_own rfl (.tmp 22) (.tmp 24) 60 rfl w.heap.size 59 i0 (.agg #[.string ⟨#[]⟩, .slice none 0 0]) 2 40 Tryd.underlying60 hi hz0 hz1 hz2 rfl (by decide) _ 1 _ (by simp [Act.eval, Act.put]) hO5 ⟨_, 0, none⟩ 1 1 [.string nB, .slice (some ⟨go, 0, none⟩) 4 4] (by simp [Act.eval, Act.put]) rfl (blk_cells n24) (by simp [Value.oneCell']) (by decide) (by decide) b5.size ?_; intro v6 w6 hO6 hg6 _; obtain ⟨A6, n6, c6, rfl⟩ := own_shape hO6; have b6 := own_grown b5 (Below.refl _ _) hO5 hg6))
  all_goals
    go_simp
    exact NoPanic.normal (HQ.out _ _ _ _ _ _ _ _ _ _ ⟨of_two hO6, b6⟩)
end Go.Proofs.YtfkcjlpocfjmdaaDoor
