/- Texts that several proofs stand on, part 14. -/
import Derived.Test.YtenmbahfgfmjjaaDoorQ13
import Derived.Test.YtenmbahfgfmjjaaDoorQ12
import Derived.Deep.RegionLaw
import Derived.Deep.RegionHeld3
import Derived.OwnWalk
namespace Go.Proofs.YtenmbahfgfmjjaaDoor
open Go.ChangeShapes Go.WideShapes Go.ChangeAt Go.RowKit
set_option linter.unusedVariables false
set_option linter.unusedSimpArgs false
theorem ap_below {w wd w5 : World} (h : Below w.heap.size w wd) (hg : wd.grownBy w5 (Value.ownBlock (.slice none 0 0))) : Below w.heap.size w w5 := bt h (grownBy_below hg (Nat.le_refl _) (fun _ h => by simp [Value.ownBlock] at h))
theorem ownB {α : Type} {w : World} {b : Nat} {e : TypeId} {k : Nat} {f : α → List Value} {v : Value} {l : List α} (h : Own w b e k f v l) {g : Nat} (hg : v.ownBlock = some g) : b ≤ g := by
  rcases h.2 with ⟨rfl, _⟩ | ⟨g', cap, cur, rfl, h1, h2, _⟩
  · simp [Value.ownBlock] at hg
  · simp [Value.ownBlock] at hg
    subst hg
    exact h1
theorem slF_one (x : ByteArray × SV) : ∀ u ∈ slF x, u.oneCell' = true := fun u hu => by
  simp at hu
  rcases hu with rfl | rfl <;> rfl
theorem new_cells {w : World} {g : Nat} (hg : g = w.heap.size) (t : TypeId) (cs : Array Value) : ∀ j u, cs.toList[j]? = some u → (w.alloc (.cells cs t)).cell? ((⟨g, 0, none⟩ : Addr).add j) = some u := by
  subst hg
  exact blk_cells (Blk.new w t cs)
theorem at_newL (w : World) (y : ByteArray × SV) : At (w.alloc (.cells #[.string y.1, sl y.2] 54)) 2 slF (.slice (some ⟨w.heap.size, 0, none⟩) 1 1) [y] := by
  refine ⟨some ⟨w.heap.size, 0, none⟩, 1, rfl, by simp, by unfold maxLen; omega, fun h => by simp at h, fun b hb j hj i v hv => ?_⟩
  obtain rfl : (⟨w.heap.size, 0, none⟩ : Addr) = b := by simpa using hb
  have hj0 : j = 0 := by simpa using hj
  subst hj0
  simp only [List.getElem_cons_zero] at hv
  rw [Nat.zero_mul, Nat.zero_add]
  exact new_cells rfl 54 _ i v hv
theorem At.grown0 {α : Type} {w w' : World} {k : Nat} {f : α → List Value} {v : Value} {l : List α} (h : At w k f v l) (hg : w.grownBy w' (Value.ownBlock (.slice none 0 0))) : At w' k f v l :=
  h.later (grownBy_below hg (Nat.le_refl _) (fun _ h => by simp [Value.ownBlock] at h))
set_option maxRecDepth 20000 in
set_option maxHeartbeats 4000000 in
theorem of_vars (u1 u2 u3 u4 u6 u7 u8 u9 u10 u11 u12 u13 u14 u15 u16 u17 u18 u19 u20 u21 u22 u23 u24 u25 u26 u27 u28 u29 u30 u31 u32 u33 u34 u35 u36 u37 u38 u39 u40 u41 u42 u43 u44 u45 u46 u47 u48 u49 u50 u51 u52 u53 u54 u55 u56 u57 u58 u59 u60 u61 u62 u63 u64 u65 u66 u67 u68 u69 u70 u71 u72 u73 u74 u75 u76 u77 u78 : Value) {w0 w : World} {g p5 : Nat} {oo : Oo} {lv : Value} {L : List UInt8} (hF : FD w0 g oo lv L w) (hB : Blk w p5 54 #[.string oo.nm, .slice oo.A oo.n oo.c]) {Q : Exit → Act → World → Prop}
    (hQ : ∀ (x18 x19 x20 x21 x22 x23 x24 x25 : Value) (vv : Value) (wx : World), Own wx w.heap.size 54 2 slF vv (oo.vl.map (·.1) ++ [oo.own.1]) ∧ Below w.heap.size w wx → Q .normal ⟨#[.pointer (some ⟨g, 0, none⟩), u1, u2, u3, u4, .pointer (some ⟨p5, 0, none⟩), u6, u7, u8, u9, vv, u11, u12, u13, u14, u15, u16, u17, x18, x19, x20, x21, x22, x23, x24, x25, u26, u27, u28, u29, u30, u31, u32, u33, u34, u35, u36, u37, u38, u39, u40, u41, u42, u43, u44, u45, u46, u47, u48, u49, u50, u51, u52, u53, u54, u55, u56, u57, u58, u59, u60, u61, u62, u63, u64, u65, u66, u67, u68, u69, u70, u71, u72, u73, u74, u75, u76, u77, u78], []⟩ wx) :
    Code.wp Tryd.prog ((Tryd.f32.body.bind (regionN 2)).getD .skip) Q ⟨#[.pointer (some ⟨g, 0, none⟩), u1, u2, u3, u4, .pointer (some ⟨p5, 0, none⟩), u6, u7, u8, u9, u10, u11, u12, u13, u14, u15, u16, u17, u18, u19, u20, u21, u22, u23, u24, u25, u26, u27, u28, u29, u30, u31, u32, u33, u34, u35, u36, u37, u38, u39, u40, u41, u42, u43, u44, u45, u46, u47, u48, u49, u50, u51, u52, u53, u54, u55, u56, u57, u58, u59, u60, u61, u62, u63, u64, u65, u66, u67, u68, u69, u70, u71, u72, u73, u74, u75, u76, u77, u78], []⟩ w := by
  have HQ := Lib.hid hQ; clear hQ
  conv => arg 2; whnf
  obtain ⟨js, sj, sy0, sy1, sy2⟩ := info_parts (P := Tryd.prog) (e := 54) (z := .agg #[.string ⟨#[]⟩, .slice none 0 0]) (size := 2) (bytes := 40) (by kernel_rfl)
  obtain ⟨at_, ha, hg⟩ := hF.2.2.2.1
  obtain ⟨vA, vn, vc, hvv⟩ := own_shape hF.2.2.2.2.1.1
  have hat := (hF.2.2.2.2.1.1).at_ (f := slF) (k := 2) (fun _ => rfl)
  rw [hvv] at hat
  have hvn : vn = (oo.vl.map (·.1)).length := by
    obtain ⟨_, _, e, _⟩ := hat
    simp only [Value.slice.injEq] at e
    exact e.2.1
  have hvn8 : vn ≤ 8 := by rw [hvn, List.length_map]; exact hF.2.2.2.2.1.2
  have hgl := hg.lt
  have hpl := hB.lt
  have c0 := hg.cell 2
  have d0 := hB.cell 0
  have d1 := hB.cell 1
  simp only [fC, List.getElem?_toArray, List.getElem?_cons_succ, List.getElem?_cons_zero] at c0 d0 d1
  rw [hvv] at c0
  have keepS : ∀ X, Below w.heap.size w X → X.cell? ⟨g, 2, none⟩ = some (.slice vA vn vc) ∧ X.cell? ⟨p5, 0, none⟩ = some (.string oo.nm) ∧ X.cell? ⟨p5, 1, none⟩ = some (.slice oo.A oo.n oo.c) := fun X hX => ⟨by rw [hX.cell hgl]; exact c0, by rw [hX.cell hpl]; exact d0, by rw [hX.cell hpl]; exact d1⟩
  have H := Lib.hid (And.intro hvv (And.intro hat (And.intro hvn hF.2.2.2.2.1.2))); clear hvv hat hvn hF hB hg
  refine wp_region_noPanic ?_
  refine wp_region_held_drew (S := (fun w' => w'.cell? ⟨g, 2, none⟩ = some (.slice vA vn vc) ∧ w'.cell? ⟨p5, 0, none⟩ = some (.string oo.nm) ∧ w'.cell? ⟨p5, 1, none⟩ = some (.slice oo.A oo.n oo.c))) (by kernel_rfl) ?_ (fun hHeld => ?_)
  · exact ⟨c0, d0, d1⟩
  refine wpAnyH_take (i := 0) (v := ?v0) rfl (by kernel_rfl) (by kernel_rfl) (by kernel_rfl) (fun _ _ _ h => h) (Or.inl ⟨by rfl, ?hy0⟩) (by assumption) ?rest0
  case hy0 => (intro w hSw; (try dsimp only at hSw); go_simp; try with_reducible rfl)
  try simp only [Act.put, List.setIfInBounds_toArray, List.set_cons_zero, List.set_cons_succ]
  refine wpAnyH_take (i := 1) (v := ?v1) rfl (by kernel_rfl) (by kernel_rfl) (by kernel_rfl) (fun _ _ _ h => h) (Or.inl ⟨by rfl, ?hy1⟩) (by assumption) ?rest1
  case hy1 => (intro w hSw; (try dsimp only at hSw); go_simp; try with_reducible rfl)
  try simp only [Act.put, List.setIfInBounds_toArray, List.set_cons_zero, List.set_cons_succ]
  refine wpAnyH_take (i := 2) (v := ?v2) rfl (by kernel_rfl) (by kernel_rfl) (by kernel_rfl) (fun _ _ _ h => h) (Or.inl ⟨by rfl, ?hy2⟩) (by assumption) ?rest2
  case hy2 => (intro w hSw; (try dsimp only at hSw); go_simp; try with_reducible rfl)
  try simp only [Act.put, List.setIfInBounds_toArray, List.set_cons_zero, List.set_cons_succ]
  refine wpAnyH_take (i := 3) (v := ?v3) rfl (by kernel_rfl) (by kernel_rfl) (by kernel_rfl) (fun _ _ _ h => h) (Or.inl ⟨by rfl, ?hy3⟩) (by assumption) ?rest3
  case hy3 => (intro w hSw; (try dsimp only at hSw); go_simp; try with_reducible rfl)
  try simp only [Act.put, List.setIfInBounds_toArray, List.set_cons_zero, List.set_cons_succ]
  refine wpAnyH_take (i := 5) (v := ?v5) rfl (by kernel_rfl) (by kernel_rfl) (by kernel_rfl) (fun _ _ _ h => h) (Or.inl ⟨by rfl, ?hy5⟩) (by assumption) ?rest5
  case hy5 => (intro w hSw; (try dsimp only at hSw); go_simp; try with_reducible rfl)
  try simp only [Act.put, List.setIfInBounds_toArray, List.set_cons_zero, List.set_cons_succ]
  refine wpAnyH_ready (rs := [4, 6]) (by kernel_rfl) (by simp) ?_
  refine AllReadyH.cons rfl (fun K' hK => ?_) (AllReadyH.cons rfl (fun K' hK => ?_) AllReadyH.nil)
  · refine step_append_at rfl (.const (.slice none 0 0)) (.tmp 21) 48 rfl w.heap.size 54 js (.agg #[.string ⟨#[]⟩, .slice none 0 0]) 2 40 Tryd.underlying48 sj sy0 sy1 sy2 rfl (by decide) (f := slF) (fun _ => rfl) slF_one (.slice none 0 0) [] rfl (Own.nil _ _ _ _ _) vA vn vc (oo.vl.map (fun x : Sl => x.1)) H.out.2.2.1 rfl (H.out.2.1.later ((below_drew (Below.refl _ _)))) (by simp; unfold maxLen; omega) (by simp; omega) (Nat.le_refl _) ?_
    intro v5 w5 hO5 hg5
    rw [List.nil_append] at hO5
    have b5 : Below w.heap.size w w5 := ap_below (below_drew (Below.refl _ _)) hg5
    refine hK.out _ _ ?_ (fun hHeld => ?_)
    · exact keepS _ b5
    clear hK K'
    try simp only [Act.put, List.setIfInBounds_toArray, List.set_cons_zero, List.set_cons_succ]
    refine wpAnyH_ready (rs := [6]) (by kernel_rfl) (by simp) ?_
    refine AllReadyH.cons rfl (fun K' hK => ?_) AllReadyH.nil
    go_simp
    refine hK.out _ _ ?_ (fun hHeld => ?_)
    · exact keepS _ (bt b5 (ba _ _))
    clear hK K'
    try simp only [Act.put, List.setIfInBounds_toArray, List.set_cons_zero, List.set_cons_succ]
    refine wpAnyH_ready (rs := [7]) (by kernel_rfl) (by simp) ?_
    refine AllReadyH.cons rfl (fun K' hK => ?_) AllReadyH.nil
    refine step_append_at rfl (.tmp 22) (.tmp 24) 48 rfl w.heap.size 54 js (.agg #[.string ⟨#[]⟩, .slice none 0 0]) 2 40 Tryd.underlying48 sj sy0 sy1 sy2 rfl (by decide) (f := slF) (fun _ => rfl) slF_one v5 (oo.vl.map (fun x : Sl => x.1)) rfl (hO5.later (ba w5 (.cells #[.string oo.nm, .slice oo.A oo.n oo.c] 54))) (some ⟨w5.heap.size, 0, none⟩) 1 1 [(oo.nm, (oo.A, oo.n, oo.c))] rfl rfl (at_newL w5 (oo.nm, (oo.A, oo.n, oo.c))) (by have := H.out.2.2.2; simp; unfold maxLen; omega) (by have := H.out.2.2.2; simp; omega) ((bt b5 (ba w5 (.cells #[.string oo.nm, .slice oo.A oo.n oo.c] 54)))).size ?_
    intro v6 w6 hO6 hg6
    have b6 : Below w.heap.size w w6 := ((bt b5 (ba w5 (.cells #[.string oo.nm, .slice oo.A oo.n oo.c] 54)))).trans (grownBy_below hg6 ((bt b5 (ba w5 (.cells #[.string oo.nm, .slice oo.A oo.n oo.c] 54)))).size (fun x hx => (ownB ((hO5.later (ba w5 (.cells #[.string oo.nm, .slice oo.A oo.n oo.c] 54)))) hx)))
    refine hK.out _ _ ?_ (fun hHeld => ?_)
    · exact keepS _ b6
    clear hK K'
    try simp only [Act.put, List.setIfInBounds_toArray, List.set_cons_zero, List.set_cons_succ]
    refine wpAnyH_ready (rs := [8]) (by kernel_rfl) (by simp) ?_
    refine AllReadyH.cons rfl (fun K' hK => ?_) AllReadyH.nil
    go_simp
    refine hK.out _ _ ?_ (fun hHeld => ?_)
    · exact keepS _ b6
    clear hK K'
    try simp only [Act.put, List.setIfInBounds_toArray, List.set_cons_zero, List.set_cons_succ]
    refine wpAnyH_done (by kernel_rfl) ?_ _
    refine NoPanic.normal ?_
    exact HQ.out _ _ _ _ _ _ _ _ v6 w6 ⟨hO6, b6⟩
  · go_simp
    refine hK.out _ _ ?_ (fun hHeld => ?_)
    · exact keepS _ (bt (below_drew (Below.refl _ _)) (ba _ _))
    clear hK K'
    try simp only [Act.put, List.setIfInBounds_toArray, List.set_cons_zero, List.set_cons_succ]
    refine wpAnyH_ready (rs := [4]) (by kernel_rfl) (by simp) ?_
    refine AllReadyH.cons rfl (fun K' hK => ?_) AllReadyH.nil
    refine step_append_at rfl (.const (.slice none 0 0)) (.tmp 21) 48 rfl w.heap.size 54 js (.agg #[.string ⟨#[]⟩, .slice none 0 0]) 2 40 Tryd.underlying48 sj sy0 sy1 sy2 rfl (by decide) (f := slF) (fun _ => rfl) slF_one (.slice none 0 0) [] rfl (Own.nil _ _ _ _ _) vA vn vc (oo.vl.map (fun x : Sl => x.1)) H.out.2.2.1 rfl (H.out.2.1.later ((bt (ba w (.cells #[.string oo.nm, .slice oo.A oo.n oo.c] 54)) (below_drew (Below.refl _ _))))) (by simp; unfold maxLen; omega) (by simp; omega) (ba w (.cells #[.string oo.nm, .slice oo.A oo.n oo.c] 54)).size ?_
    intro v5 w5 hO5 hg5
    rw [List.nil_append] at hO5
    have b5 : Below w.heap.size w w5 := ap_below (bt (ba w (.cells #[.string oo.nm, .slice oo.A oo.n oo.c] 54)) (below_drew (Below.refl _ _))) hg5
    refine hK.out _ _ ?_ (fun hHeld => ?_)
    · exact keepS _ b5
    clear hK K'
    try simp only [Act.put, List.setIfInBounds_toArray, List.set_cons_zero, List.set_cons_succ]
    refine wpAnyH_ready (rs := [7]) (by kernel_rfl) (by simp) ?_
    refine AllReadyH.cons rfl (fun K' hK => ?_) AllReadyH.nil
    refine step_append_at rfl (.tmp 22) (.tmp 24) 48 rfl w.heap.size 54 js (.agg #[.string ⟨#[]⟩, .slice none 0 0]) 2 40 Tryd.underlying48 sj sy0 sy1 sy2 rfl (by decide) (f := slF) (fun _ => rfl) slF_one v5 (oo.vl.map (fun x : Sl => x.1)) rfl hO5 (some ⟨w.heap.size, 0, none⟩) 1 1 [(oo.nm, (oo.A, oo.n, oo.c))] rfl rfl (((at_newL w (oo.nm, (oo.A, oo.n, oo.c))).later (below_drew (Below.refl _ _))).grown0 hg5) (by have := H.out.2.2.2; simp; unfold maxLen; omega) (by have := H.out.2.2.2; simp; omega) (b5).size ?_
    intro v6 w6 hO6 hg6
    have b6 : Below w.heap.size w w6 := (b5).trans (grownBy_below hg6 (b5).size (fun x hx => (ownB (hO5) hx)))
    refine hK.out _ _ ?_ (fun hHeld => ?_)
    · exact keepS _ b6
    clear hK K'
    try simp only [Act.put, List.setIfInBounds_toArray, List.set_cons_zero, List.set_cons_succ]
    refine wpAnyH_ready (rs := [8]) (by kernel_rfl) (by simp) ?_
    refine AllReadyH.cons rfl (fun K' hK => ?_) AllReadyH.nil
    go_simp
    refine hK.out _ _ ?_ (fun hHeld => ?_)
    · exact keepS _ b6
    clear hK K'
    try simp only [Act.put, List.setIfInBounds_toArray, List.set_cons_zero, List.set_cons_succ]
    refine wpAnyH_done (by kernel_rfl) ?_ _
    refine NoPanic.normal ?_
    exact HQ.out _ _ _ _ _ _ _ _ v6 w6 ⟨hO6, b6⟩
end Go.Proofs.YtenmbahfgfmjjaaDoor
