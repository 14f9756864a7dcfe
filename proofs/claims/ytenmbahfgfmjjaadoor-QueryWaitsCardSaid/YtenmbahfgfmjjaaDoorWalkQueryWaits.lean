/- The walk of QueryWaits. -/
import Derived.Test.YtenmbahfgfmjjaaDoorWaits9P
import Derived.Test.YtenmbahfgfmjjaaDoorQ39
import Derived.Deep.DeepCutAuto
import Derived.Deep.CutBlock

namespace Go.Proofs.YtenmbahfgfmjjaaDoor
open Go.ChangeShapes Go.WideShapes Go.ChangeAt Go.RowKit Go.Maps
set_option linter.unusedVariables false
set_option linter.unusedSimpArgs false

theorem isq2 : nameB ⟨#[113]⟩ = true := by decide +kernel
theorem szPt (W : World) : (sizeOf (Tryd.prog.elem 24)).run Tryd.prog W = .ok 5 W := by kernel_rfl
theorem undPt : Tryd.prog.underlying 24 = some (.slice (Tryd.prog.elem 24)) := by kernel_rfl
theorem own_down {α : Type} {w : World} {b b' : Nat} {e : TypeId} {k : Nat} {f : α → List Value} {v : Value} {l : List α} (h : Own w b e k f v l) (hb : b' ≤ b) : Own w b' e k f v l := by
  refine ⟨h.1, ?_⟩
  rcases h.2 with h0 | ⟨g, cap, cur, q0, q1, q2, q3⟩
  · exact Or.inl h0
  · exact Or.inr ⟨g, cap, cur, q0, by omega, q2, q3⟩
set_option maxRecDepth 20000 in
set_option maxHeartbeats 8000000 in
theorem walk_QueryWaits (v : Value) (l : List UInt8) (w : World) (hv : BytesAt w v l) (hl : l.length ≤ 140737488351232) (hT : Tab w) :
    Calls Tryd.prog 5 #[v] w fun e w' => e = .returned (.bool true) ∧ Below w.heap.size w w' := by
  obtain ⟨js, sj, sy0, sy1, sy2⟩ := info_parts (P := Tryd.prog) (e := 37) (z := .agg #[.bool false, .bool false, .slice none 0 0, .string ⟨#[]⟩, .slice none 0 0]) (size := 5) (bytes := 72) (by kernel_rfl)
  obtain ⟨VA, Vn, Vc, rfl⟩ : ∃ A n c, v = .slice A n c := by
    rcases hv with ⟨rfl, _⟩ | ⟨a, cap, rfl, _⟩ <;> exact ⟨_, _, _, rfl⟩
  have K0 := Lib.hid (And.intro hT hv); clear hT hv
  go_enter Tryd.func5, Tryd.ntmps5
  go_wp2_with fail
  try go_at_call 7
  refine (examples_any _ K0.out.1).mono ?_
  rintro e w1 ⟨rfl, b1⟩
  have hv1 := K0.out.2.later b1
  have B1 := Lib.hid b1; clear b1
  go_wp2_with fail
  try go_at_call 8
  refine (asked_any ⟨#[113]⟩ _ l 4 _ hl hv1 (by decide) (by omega) (by omega)).mono ?_
  rintro e w2 ⟨q, pv, ov, rfl, hQ, b2, hA⟩
  have B2 := Lib.hid (bt B1.out b2); clear b2 B1 hv1
  obtain ⟨A, c, rfl, a1, a2⟩ := hQ.1.shape
  obtain ⟨O, d, rfl, _, _⟩ := hQ.2.1.shape
  obtain ⟨n, hn⟩ : ∃ n, n = q.ps.length := ⟨_, rfl⟩
  obtain ⟨m, hm⟩ : ∃ m, m = q.os.length := ⟨_, rfl⟩
  have hn4 : n ≤ 4 := by have := hA.2.2.1; omega
  have hn1 : 1 ≤ n := by have := hA.2.1; omega
  rw [← hn, ← hm] at hQ ⊢
  clear a1 a2 hm
  obtain ⟨r, h1, h2, h3⟩ := hQ.1
  have hrl : n = r.length := by rw [hn, ← h2, List.length_map]
  obtain ⟨a, rfl, _⟩ := h1.cells rfl (by omega)
  obtain ⟨A', hsl, hat⟩ := At.full (P := Tryd.prog) undPt szPt h1
  have HR := Lib.hid (And.intro hrl (And.intro h2 (And.intro hA (And.intro hn hQ.2.2)))); 
  have k0 := ((Keep.start w2 (fun X => (At X 5 ptF (.slice (some a) n c) r ∧ At X 5 ptF (.slice A' n n) r ∧ (∀ x ∈ r, PxAt X x) ∧ OtsAt X (.slice O m d) q.os)) ⟨h1, hat, h3, hQ.2.1⟩ (fun _ _ hb h => ⟨h.1.later hb, h.2.1.later hb, fun x hx => (h.2.2.1 x hx).later hb, h.2.2.2.later hb⟩)).more 27 #[.string q.nm, .bool q.st, .slice (some a) n c, .int .i64 q.wi, .string q.by_, .slice O m d]).keepRow (List.mem_cons_self ..)
  have k1 := (k0.more 27 #[.string q.nm, .bool q.st, .slice (some a) n c, .int .i64 q.wi, .string q.by_, .slice O m d]).more 27 #[.string q.nm, .bool q.st, .slice (some a) n c, .int .i64 q.wi, .string q.by_, .slice O m d]
  have kk := k0.p.2.cell
  simp only [World.size_alloc] at k1
  have K1 := Lib.hid k1; clear k0 k1 hrl h1 h2 h3 hat hA hn hQ
  have hn0 : ¬ (n : Int) = 0 := by omega
  have hn0' : ((n : Int) == 0) = false := by simpa using hn0
  have hn0'' : ¬ n = 0 := by omega
  go_upto_region 9 with fail
  obtain ⟨W3, hW3⟩ : ∃ W3, W3 = ((w2.alloc (.cells #[.string q.nm, .bool q.st, .slice (some a) n c, .int .i64 q.wi, .string q.by_, .slice O m d] 27)).alloc (.cells #[.string q.nm, .bool q.st, .slice (some a) n c, .int .i64 q.wi, .string q.by_, .slice O m d] 27)).alloc (.cells #[.string q.nm, .bool q.st, .slice (some a) n c, .int .i64 q.wi, .string q.by_, .slice O m d] 27) := ⟨_, rfl⟩
  rw [← hW3] at K1 ⊢
  have hs3 : W3.heap.size = w2.heap.size + 1 + 1 + 1 := by rw [hW3]; simp
  clear hW3 hn0 hn0' hn0'' kk
  generalize hg : w2.heap.size = g at *
  clear hg
  generalize hg1 : g + 1 = g1 at *
  generalize hg2 : g1 + 1 = g2 at *
  have HG := Lib.hid (And.intro hg1 (And.intro hg2 hs3)); clear hg1 hg2 hs3
  have c0 := K1.out.p.2.cell
  have wn : IntKind.i64.wrap (n : Int) = (n : Int) := IntWalk.i64_in _ (by omega)
  have hc7 : ∀ j u, (ptF (xW true W3.heap.size))[j]? = some u → ((W3.alloc (.cells #[.string ⟨#[90]⟩] 9)).alloc (.cells #[.bool true, .bool false, .slice (some ⟨W3.heap.size, 0, none⟩) 1 1, .string ⟨#[122]⟩, .slice none 0 0] 37)).cell? ((⟨W3.heap.size + 1, 0, none⟩ : Addr).add j) = some u := new_cellsI (by rw [World.size_alloc]) _ #[.bool true, .bool false, .slice (some ⟨W3.heap.size, 0, none⟩) 1 1, .string ⟨#[122]⟩, .slice none 0 0]
  have hat7 : At ((W3.alloc (.cells #[.string ⟨#[90]⟩] 9)).alloc (.cells #[.bool true, .bool false, .slice (some ⟨W3.heap.size, 0, none⟩) 1 1, .string ⟨#[122]⟩, .slice none 0 0] 37)) 5 ptF (.slice A' n n) r := K1.out.p.1.2.1.later (bt (ba _ _) (ba _ _))
  have hS7 : Blk ((W3.alloc (.cells #[.string ⟨#[90]⟩] 9)).alloc (.cells #[.bool true, .bool false, .slice (some ⟨W3.heap.size, 0, none⟩) 1 1, .string ⟨#[122]⟩, .slice none 0 0] 37)) W3.heap.size 9 #[.string qZ] := (Blk.new W3 9 #[.string qZ]).later (ba _ _)
  have hb7 : Below W3.heap.size W3 ((W3.alloc (.cells #[.string ⟨#[90]⟩] 9)).alloc (.cells #[.bool true, .bool false, .slice (some ⟨W3.heap.size, 0, none⟩) 1 1, .string ⟨#[122]⟩, .slice none 0 0] 37)) := bt (ba _ _) (ba _ _)
  have hz7 : W3.heap.size ≤ ((W3.alloc (.cells #[.string ⟨#[90]⟩] 9)).alloc (.cells #[.bool true, .bool false, .slice (some ⟨W3.heap.size, 0, none⟩) 1 1, .string ⟨#[122]⟩, .slice none 0 0] 37)).heap.size := hb7.size
  have HA7 := Lib.hid (And.intro hc7 (And.intro hat7 (And.intro hS7 (And.intro hb7 hz7)))); clear hc7 hat7 hS7 hb7 hz7
  go_upto_region 10 with (at_builtin; go_loud (refine wpList_append_full _ rfl (.tmp 26) (.tmp 29) 24 rfl 37 js (.agg #[.bool false, .bool false, .slice none 0 0, .string ⟨#[]⟩, .slice none 0 0]) 5 72 Tryd.underlying24 sj sy0 sy1 sy2 rfl (by decide) (f := ptF) (fun _ => rfl) ptF_one A' n r HR.out.1 rfl HA7.out.2.1 ⟨W3.heap.size + 1, 0, none⟩ 1 (xW true W3.heap.size) rfl HA7.out.1 (by unfold maxLen; omega) (by omega) (by omega) ?_; intro v7 w7 hO hg; have hg' := grownBy_below hg (Nat.le_refl _) (fun x hx => by cases hx); have hbw : Below W3.heap.size W3 w7 := bt HA7.out.2.2.2.1 hg'; have hS := HA7.out.2.2.1.later hg'; have hO' := own_down hO HA7.out.2.2.2.2; clear hO hg hg'; obtain ⟨VA7, vn7, vc7, rfl⟩ := own_shape hO'; have k7 := K1.out.go hbw; have zz := k7.cells (g := g1) (t := 27) (c := #[.string q.nm, .bool q.st, .slice (some a) n c, .int .i64 q.wi, .string q.by_, .slice O m d]) (by simp); have z1 := zz.1; have z2 := zz.2.1; have z3 := zz.2.2; clear zz; have H7 := Lib.hid (And.intro k7 (And.intro hO' (And.intro hS hbw))); clear k7 hO' hS hbw))
  have k8 := H7.out.1.put (l1 := [(g2, 27, #[.string q.nm, .bool q.st, .slice (some a) n c, .int .i64 q.wi, .string q.by_, .slice O m d])]) (l2 := []) 2 (.slice VA7 vn7 vc7)
  have hO8 := H7.out.2.1.grown (gb_set (g := g1) w7 2 (.slice VA7 vn7 vc7)) (fun b hb' e => by have := Option.some.inj hb'; have := (ownBI H7.out.2.1 e).1; have := HG.out; omega)
  have hS8 := H7.out.2.2.1.grown (gb_set (g := g1) w7 2 (.slice VA7 vn7 vc7)) (fun e => by have := Option.some.inj e; have := HG.out; omega)
  have hs8 := Nat.le_trans H7.out.2.2.2.size (gb_set (g := g1) w7 2 (.slice VA7 vn7 vc7)).size
  obtain ⟨W8, hW8⟩ : ∃ W8, W8 = w7.setCell ⟨g1, 2, none⟩ (.slice VA7 vn7 vc7) := ⟨_, rfl⟩
  rw [← hW8] at k8 hO8 hS8 hs8 ⊢
  clear hW8 z1 z2 z3 c0
  have K8 := Lib.hid k8
  have H8 := Lib.hid (And.intro hO8 (And.intro hS8 hs8)); clear k8 hO8 hS8 hs8 H7
  have c0 := K8.out.p.2.cell
  have hc14 : ∀ j u, (ptF (xW false W8.heap.size))[j]? = some u → ((W8.alloc (.cells #[.string ⟨#[90]⟩] 9)).alloc (.cells #[.bool false, .bool false, .slice (some ⟨W8.heap.size, 0, none⟩) 1 1, .string ⟨#[122]⟩, .slice none 0 0] 37)).cell? ((⟨W8.heap.size + 1, 0, none⟩ : Addr).add j) = some u := new_cellsI (by rw [World.size_alloc]) _ #[.bool false, .bool false, .slice (some ⟨W8.heap.size, 0, none⟩) 1 1, .string ⟨#[122]⟩, .slice none 0 0]
  have hat14 : At ((W8.alloc (.cells #[.string ⟨#[90]⟩] 9)).alloc (.cells #[.bool false, .bool false, .slice (some ⟨W8.heap.size, 0, none⟩) 1 1, .string ⟨#[122]⟩, .slice none 0 0] 37)) 5 ptF (.slice A' n n) r := K8.out.p.1.2.1.later (bt (ba _ _) (ba _ _))
  have hS14 : Blk ((W8.alloc (.cells #[.string ⟨#[90]⟩] 9)).alloc (.cells #[.bool false, .bool false, .slice (some ⟨W8.heap.size, 0, none⟩) 1 1, .string ⟨#[122]⟩, .slice none 0 0] 37)) W8.heap.size 9 #[.string qZ] := (Blk.new W8 9 #[.string qZ]).later (ba _ _)
  have hb14 : Below W8.heap.size W8 ((W8.alloc (.cells #[.string ⟨#[90]⟩] 9)).alloc (.cells #[.bool false, .bool false, .slice (some ⟨W8.heap.size, 0, none⟩) 1 1, .string ⟨#[122]⟩, .slice none 0 0] 37)) := bt (ba _ _) (ba _ _)
  have hz14 : W8.heap.size ≤ ((W8.alloc (.cells #[.string ⟨#[90]⟩] 9)).alloc (.cells #[.bool false, .bool false, .slice (some ⟨W8.heap.size, 0, none⟩) 1 1, .string ⟨#[122]⟩, .slice none 0 0] 37)).heap.size := hb14.size
  have HA14 := Lib.hid (And.intro hc14 (And.intro hat14 (And.intro hS14 (And.intro hb14 hz14)))); clear hc14 hat14 hS14 hb14 hz14
  go_upto_region 11 with (at_builtin; go_loud (refine wpList_append_full _ rfl (.tmp 40) (.tmp 43) 24 rfl 37 js (.agg #[.bool false, .bool false, .slice none 0 0, .string ⟨#[]⟩, .slice none 0 0]) 5 72 Tryd.underlying24 sj sy0 sy1 sy2 rfl (by decide) (f := ptF) (fun _ => rfl) ptF_one A' n r HR.out.1 rfl HA14.out.2.1 ⟨W8.heap.size + 1, 0, none⟩ 1 (xW false W8.heap.size) rfl HA14.out.1 (by unfold maxLen; omega) (by omega) (by omega) ?_; intro v14 w14 hO hg; have hg' := grownBy_below hg (Nat.le_refl _) (fun x hx => by cases hx); have hbw : Below W8.heap.size W8 w14 := bt HA14.out.2.2.2.1 hg'; have hS := HA14.out.2.2.1.later hg'; have hO' := own_down hO HA14.out.2.2.2.2; clear hO hg hg'; obtain ⟨VA14, vn14, vc14, rfl⟩ := own_shape hO'; have k14 := K8.out.go hbw; have zz := k14.cells (g := g2) (t := 27) (c := #[.string q.nm, .bool q.st, .slice (some a) n c, .int .i64 q.wi, .string q.by_, .slice O m d]) (by simp); have z1 := zz.1; have z2 := zz.2.1; have z3 := zz.2.2; clear zz; have H14 := Lib.hid (And.intro k14 (And.intro hO' (And.intro hS hbw))); clear k14 hO' hS hbw))
  have k15 := H14.out.1.put (l1 := []) (l2 := [(g1, 27, #[.string q.nm, .bool q.st, .slice VA7 vn7 vc7, .int .i64 q.wi, .string q.by_, .slice O m d])]) 2 (.slice VA14 vn14 vc14)
  have hO15 := H14.out.2.1.grown (gb_set (g := g2) w14 2 (.slice VA14 vn14 vc14)) (fun b hb' e => by have := Option.some.inj hb'; have := (ownBI H14.out.2.1 e).1; have := HG.out; have := H8.out.2.2; omega)
  have hS15 := H14.out.2.2.1.grown (gb_set (g := g2) w14 2 (.slice VA14 vn14 vc14)) (fun e => by have := Option.some.inj e; have := HG.out; have := H8.out.2.2; omega)
  have hP15 := (H8.out.1.later H14.out.2.2.2).grown (gb_set (g := g2) w14 2 (.slice VA14 vn14 vc14)) (fun b hb' e => by have := Option.some.inj hb'; have := (ownBI H8.out.1 e).1; have := HG.out; omega)
  have hR15 := (H8.out.2.1.later H14.out.2.2.2).grown (gb_set (g := g2) w14 2 (.slice VA14 vn14 vc14)) (fun e => by have := Option.some.inj e; have := HG.out; omega)
  obtain ⟨W15, hW15⟩ : ∃ W15, W15 = w14.setCell ⟨g2, 2, none⟩ (.slice VA14 vn14 vc14) := ⟨_, rfl⟩
  rw [← hW15] at k15 hO15 hS15 hP15 hR15 ⊢
  clear hW15 z1 z2 z3 c0
  have K15 := Lib.hid k15
  have q0 : QyAt W15 (.slice (some a) n c) (.slice O m d) q := ⟨⟨r, K15.out.p.1.1, HR.out.2.1, K15.out.p.1.2.2.1⟩, K15.out.p.1.2.2.2, HR.out.2.2.2.2⟩
  have q1 : QyAt W15 (.slice VA7 vn7 vc7) (.slice O m d) (qW q true) := ⟨pts_more (hP15.at_ (f := ptF) (k := 5) (fun _ => rfl)) HR.out.2.1 K15.out.p.1.2.2.1 hR15, K15.out.p.1.2.2.2, HR.out.2.2.2.2⟩
  have q2 : QyAt W15 (.slice VA14 vn14 vc14) (.slice O m d) (qW q false) := ⟨pts_more (hO15.at_ (f := ptF) (k := 5) (fun _ => rfl)) HR.out.2.1 K15.out.p.1.2.2.1 hS15, K15.out.p.1.2.2.2, HR.out.2.2.2.2⟩
  have e1 : Blk W15 g1 27 #[.string q.nm, .bool q.st, .slice VA7 vn7 vc7, .int .i64 q.wi, .string q.by_, .slice O m d] := K15.out.blk (by simp)
  have e2 : Blk W15 g2 27 #[.string q.nm, .bool q.st, .slice VA14 vn14 vc14, .int .i64 q.wi, .string q.by_, .slice O m d] := K15.out.blk (by simp)
  have QQ := Lib.hid (And.intro q0 (And.intro q1 (And.intro q2 (And.intro e1 e2)))); clear q0 q1 q2 e1 e2 k15 hO15 hS15 hP15 hR15
  refine wp_of_eq (c' := ((Tryd.f5.body.bind (regionN 11)).getD .skip)) ?_ (by kernel_rfl)
  refine waits11 _ _ _ _ _ _ _ _ _ _ _ _ _ _ _ _ _ _ _ _ _ _ _ _ _ _ _ _ _ _ _ _ _ _ _ _ _ _ _ _ _ _ HR.out.2.2.1 isq2 HR.out.2.2.2.1 K15.out.p.2 QQ.out.2.2.2.1 QQ.out.2.2.2.2 QQ.out.1 QQ.out.2.1 QQ.out.2.2.1 (fun _ _ _ _ _ _ _ _ _ _ _ _ _ _ _ _ _ _ _ _ _ _ _ _ _ _ _ _ _ _ _ _ _ _ _ _ _ _ _ _ _ _ _ _ _ _ wx hb => ?_)
  go_wp2_with fail
  go_ret
  exact ⟨rfl, bt (bt B2.out K15.out.bel) hb⟩
end Go.Proofs.YtenmbahfgfmjjaaDoor
