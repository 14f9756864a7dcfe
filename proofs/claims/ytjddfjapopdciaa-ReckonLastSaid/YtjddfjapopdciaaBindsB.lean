/- Binds of bytes: one more event. -/
import Derived.Test.YtjddfjapopdciaaBindsA
import Derived.Deep.RegionLaw
import Derived.Deep.RegionHeld3
import Derived.OwnWalk
namespace Go.Proofs.Ytjddfjapopdciaa
open Go.ChangeShapes Go.WideShapes Go.ChangeAt Go.RowKit
open Rk (inR)
set_option linter.unusedVariables false
set_option linter.unusedSimpArgs false

theorem Try.infoEv : (Try.prog.info? 62).map (fun i => (i.zero, i.size, i.bytes)) = some (some (.agg #[.int .i64 0, .slice none 0 0]), 2, 32) := by kernel_rfl
theorem Own.apart {α β : Type} {w : World} {b c : Nat} {e e' : TypeId} {k k' : Nat} {f : α → List Value} {g : β → List Value} {v u : Value} {l : List α} {m : List β} (h : Own w b e k f v l) (h' : Own w c e' k' g u m) (hne : e ≠ e') (x : Nat) (hx : u.ownBlock = some x) : v.ownBlock ≠ some x := by
  intro hy
  rcases h.2 with ⟨rfl, _⟩ | ⟨i, cap, cur, rfl, h1, h2, _⟩
  · simp [Value.ownBlock] at hy
  · rcases h'.2 with ⟨rfl, _⟩ | ⟨i', cap', cur', rfl, h1', h2', _⟩
    · simp [Value.ownBlock] at hx
    · simp [Value.ownBlock] at hx hy
      subst hx; subst hy
      rw [h2] at h2'
      simp at h2'
      exact hne h2'.2
theorem own_lit {α : Type} {W : World} {e : TypeId} {k : Nat} {f : α → List Value} (l : List α) {cs : Array Value} {g n : Nat} (hg : g = W.heap.size) (hn : n = l.length) (hm : n ≤ maxLen) (hs : cs.size = n * k) (hcs : l.flatMap f = cs.toList) : Own (W.alloc (.cells cs e)) 0 e k f (.slice (some ⟨g, 0, none⟩) n n) l := by
  subst hg; subst hn
  unfold Own
  rw [hcs]
  exact World.ownsRow_lit W cs l.length (Nat.zero_le _) hm hs
/-- One event, as a row has it. -/
def EvRow (w : World) (x : Int × SV) (e : Ev) : Prop := x.1 = e.1 ∧ Own w 0 23 3 vc (sl x.2) e.2
/-- A row of events of the call's own. -/
def EvsO (w : World) (base : Nat) (v : Value) (E : List Ev) : Prop := ∃ M : List (Int × SV), M.length = E.length ∧ Own w base 62 2 ec v M ∧ ∀ i (h : i < M.length) (h' : i < E.length), EvRow w (M[i]'h) (E[i]'h')
theorem EvsO.nil (w : World) (base : Nat) : EvsO w base (.slice none 0 0) [] := ⟨[], rfl, Own.nil _ _ _ _ _, fun i h => absurd h (by simp)⟩
theorem EvsO.later {w w' : World} {base : Nat} {v : Value} {E : List Ev} (h : EvsO w base v E) (hb : Below w.heap.size w w') : EvsO w' base v E := by
  obtain ⟨M, h1, h2, h3⟩ := h
  exact ⟨M, h1, h2.later hb, fun i a b => ⟨(h3 i a b).1, (h3 i a b).2.later hb⟩⟩
/-- Behind an append. -/
theorem EvsO.more {w w' : World} {base : Nat} {v v' : Value} {E : List Ev} {M : List (Int × SV)} {x : Int × SV} {e : Ev} (h1 : M.length = E.length) (h2 : Own w base 62 2 ec v M) (h3 : ∀ i (h : i < M.length) (h' : i < E.length), EvRow w (M[i]'h) (E[i]'h')) (hx : EvRow w x e)
    (hO : w'.ownsRow base 62 2 v' (M.length + 1) (M.flatMap ec ++ ec x)) (hg : w.grownBy w' v.ownBlock) : EvsO w' base v' (E ++ [e]) := by
  have hr : ∀ {y : Int × SV} {u : Ev}, EvRow w y u → EvRow w' y u := fun hy => ⟨hy.1, hy.2.grown hg (fun b hb => hy.2.apart h2 (by decide) b hb)⟩
  refine ⟨M ++ [x], by simp [h1], Own.more rfl hO, fun i a b => ?_⟩
  by_cases hi : i < M.length
  · rw [List.getElem_append_left hi, List.getElem_append_left (by omega)]; exact hr (h3 i hi (by omega))
  · have hi2 : i = M.length := by simp at a; omega
    subst hi2
    simp only [List.getElem_append_right (Nat.le_refl _), Nat.sub_self, List.getElem_cons_zero]
    rw [List.getElem_append_right (by omega)]
    simp only [h1, Nat.sub_self, List.getElem_cons_zero]
    exact hr hx
theorem EvsO.at_ {w : World} {base : Nat} {v : Value} {E : List Ev} (h : EvsO w base v E) : EvsAt w v E := by
  obtain ⟨M, h1, h2, h3⟩ := h
  exact ⟨M, h1, Own.at_ (k := 2) (f := ec) (fun _ => rfl) h2, fun i a b => ⟨(h3 i a b).1, Own.at_ (k := 3) (f := vc) (fun _ => rfl) (h3 i a b).2⟩⟩
theorem own_ne_blk {α : Type} {w : World} {b : Nat} {e t : TypeId} {k : Nat} {f : α → List Value} {v : Value} {l : List α} {g : Nat} {cs : Array Value} (h : Own w b e k f v l) (hB : Blk w g t cs) (hne : e ≠ t) : v.ownBlock ≠ some g := by
  intro hy
  rcases h.2 with ⟨rfl, _⟩ | ⟨i, cap, cur, rfl, h1, h2, _⟩
  · simp [Value.ownBlock] at hy
  · simp [Value.ownBlock] at hy
    subst hy
    unfold Blk at hB
    rw [hB] at h2
    simp at h2
    exact hne h2.2.symm
theorem EvsO.put {w : World} {base g : Nat} {v : Value} {E : List Ev} {cs : Array Value} (h : EvsO w base v E) (hB : Blk w g 59 cs) (hg : g < base) (j : Nat) (x : Value) : EvsO (w.setCell ⟨g, j, none⟩ x) base v E := by
  obtain ⟨M, h1, h2, h3⟩ := h
  exact ⟨M, h1, h2.far (p := ⟨g, j, none⟩) hg x, fun i a b => ⟨(h3 i a b).1, (h3 i a b).2.grown (gb_set w j x) (fun k hk => by obtain rfl := Option.some.inj hk; exact own_ne_blk (h3 i a b).2 hB (by decide))⟩⟩
/-- Behind the store of the longer list. -/
theorem bind_end {w w4 w5 : World} {bA base : Nat} {i : Int} {nm : ByteArray} {fs v v5 : Value} {E : List Ev} {M : List (Int × SV)} {s : SV} {vs : List V3} (h3 : Below w.heap.size w w4) (hM : M.length = E.length) (hO : Own w base 62 2 ec v M) (hr : ∀ k (h : k < M.length) (h' : k < E.length), EvRow w (M[k]'h) (E[k]'h'))
    (hV : Own w4 0 23 3 vc (sl s) vs) (hO5 : w5.ownsRow base 62 2 v5 (M.length + 1) (M.flatMap ec ++ ec (i, s))) (hg5 : w4.drew.grownBy w5 v.ownBlock) (hB5 : Blk w5 bA 59 #[.string nm, fs, v]) (hbA : bA < base) (hb : base ≤ w.heap.size) :
    Blk (w5.setCell ⟨bA, 2, none⟩ v5) bA 59 #[.string nm, fs, v5] ∧ EvsO (w5.setCell ⟨bA, 2, none⟩ v5) base v5 (E ++ [(i, vs)]) ∧ (∀ k, k < w.heap.size → k < base → k ≠ bA → (w5.setCell ⟨bA, 2, none⟩ v5).heap[k]? = w.heap[k]?) ∧ ∀ B, B ≤ w.heap.size → B ≤ bA → Below B w (w5.setCell ⟨bA, 2, none⟩ v5) := by
  have hO4 : Own w4.drew base 62 2 ec v M := hO.later (below_drew h3)
  have hV4 : Own w4.drew 0 23 3 vc (sl s) vs := hV
  have hr4 : ∀ k (h : k < M.length) (h' : k < E.length), EvRow w4.drew (M[k]'h) (E[k]'h') := fun k a b => ⟨(hr k a b).1, (hr k a b).2.later (below_drew h3)⟩
  have hE := EvsO.more (w := w4.drew) hM hO4 hr4 (x := (i, s)) (e := (i, vs)) ⟨rfl, hV4⟩ hO5 hg5
  refine ⟨hB5.set_ 2 v5, hE.put hB5 hbA 2 v5, fun k hk hkb hne => ?_, fun B hB hBb => ?_⟩
  rotate_left
  · have x1 : Below B w w4.drew := (below_drew h3).mono hB
    have x2 : Below B w4.drew w5 := grownBy_below hg5 (Nat.le_trans hB h3.size) (fun j hj => by
      rcases hO.2 with ⟨rfl, _⟩ | ⟨g', cap', cur, rfl, hb', _⟩
      · simp [Value.ownBlock] at hj
      · simp [Value.ownBlock] at hj; omega)
    exact (x1.trans x2).setCell (p := ⟨bA, 2, none⟩) hBb v5
  rw [Below.heap_setCell w5 ⟨bA, 2, none⟩ v5 k hne, hg5.block k (by have := h3.size; show k < w4.heap.size; omega) (own_ne hO hkb)]
  exact h3.block k hk
/-- Values that may be bound. -/
def okEv (e : Ev) : Prop := ∀ v ∈ e.2, inR v.2.1 ∧ v.2.2.size ≤ maxLen
theorem ok2 {i a b : Int} (ha : inR a) (hb : inR b) : okEv (i, [(1, a, mt), (1, b, mt)]) := by
  intro v hv
  simp only [List.mem_cons, List.not_mem_nil, or_false] at hv
  rcases hv with rfl | rfl
  · exact ⟨ha, Nat.zero_le _⟩
  · exact ⟨hb, Nat.zero_le _⟩
set_option maxRecDepth 20000 in
set_option maxHeartbeats 4000000 in
theorem bindA_ev (u0 u1 u2 u3 u4 u8 u9 u10 u11 u12 u13 u14 u15 u16 u17 u18 u19 u20 u21 u22 u23 u24 u25 u26 u27 u28 u29 u30 u31 u32 u33 u34 u35 u36 u37 u38 u39 u40 u41 u42 u43 u44 u45 u46 u47 u48 u49 u50 u51 u52 u53 u54 u55 u56 u57 u58 u59 u60 u61 u62 u63 u64 u65 u66 u67 u68 u69 u70 u71 u72 u73 u74 u75 u76 u77 u78 u79 u80 u81 u82 : Value) {w : World} {bA n base : Nat} {i : Int} {nm : ByteArray} {fs v : Value} {E : List Ev} (hn : n ≤ 255) (hB : Blk w bA 59 #[.string nm, fs, v]) (hE : EvsO w base v E) (hl : E.length ≤ 1000) (hb : base ≤ w.heap.size) (hbA : bA < base) {Q : Exit → Act → World → Prop}
    (hQ : ∀ (x23 x24 x25 x26 x27 x28 x29 x30 x31 x32 x33 x34 x35 x36 x37 x38 x39 x40 x41 x42 x43 x44 : Value) (v' : Value) (vs : List V3) (wx : World), (Blk wx bA 59 #[.string nm, fs, v'] ∧ EvsO wx base v' (E ++ [(i, vs)]) ∧ okEv (i, vs) ∧ (∀ k, k < w.heap.size → k < base → k ≠ bA → wx.heap[k]? = w.heap[k]?) ∧ ∀ B, B ≤ w.heap.size → B ≤ bA → Below B w wx) → Q .normal ⟨#[u0, u1, u2, u3, u4, .pointer (some ⟨bA, 0, none⟩), .int .i64 i, .int .i64 (n : Nat), u8, u9, u10, u11, u12, u13, u14, u15, u16, u17, u18, u19, u20, u21, u22, x23, x24, x25, x26, x27, x28, x29, x30, x31, x32, x33, x34, x35, x36, x37, x38, x39, x40, x41, x42, x43, x44, u45, u46, u47, u48, u49, u50, u51, u52, u53, u54, u55, u56, u57, u58, u59, u60, u61, u62, u63, u64, u65, u66, u67, u68, u69, u70, u71, u72, u73, u74, u75, u76, u77, u78, u79, u80, u81, u82], []⟩ wx) :
    Code.wp Try.prog ((Try.f12.body.bind (regionN 8)).getD .skip) Q ⟨#[u0, u1, u2, u3, u4, .pointer (some ⟨bA, 0, none⟩), .int .i64 i, .int .i64 (n : Nat), u8, u9, u10, u11, u12, u13, u14, u15, u16, u17, u18, u19, u20, u21, u22, u23, u24, u25, u26, u27, u28, u29, u30, u31, u32, u33, u34, u35, u36, u37, u38, u39, u40, u41, u42, u43, u44, u45, u46, u47, u48, u49, u50, u51, u52, u53, u54, u55, u56, u57, u58, u59, u60, u61, u62, u63, u64, u65, u66, u67, u68, u69, u70, u71, u72, u73, u74, u75, u76, u77, u78, u79, u80, u81, u82], []⟩ w := by
  have HQ := Lib.hid hQ; clear hQ
  conv => arg 2; whnf
  obtain ⟨i0, hi, hz0, hz1, hz2⟩ := info_parts Try.infoEv
  obtain ⟨M, m1, m2, m3⟩ := hE
  obtain ⟨V1, V3, rfl, mv, mc, mm⟩ := m2.shape
  have hl2 : M.length ≤ 1000 := by omega
  have M1 := Lib.hid m1; clear m1
  have d2 := hB.cell 2
  have f2 := hB.frozen 2
  have bl := hB.lt
  have bl2 : bA < w.heap.size + 1 := by omega
  have bl3 : bA < w.heap.size + 1 + 1 := by omega
  have H := Lib.hid (And.intro m2 (And.intro m3 hB)); clear m2 m3 hB mv mc mm
  obtain ⟨z1, e1, hzz1⟩ : ∃ z : Int, IntKind.i64.wrap ((n : Int).tmod 7 - 3) = z ∧ inR z := ⟨_, rfl, by rw [IntKind.wrap_i64]; unfold inR; omega⟩
  obtain ⟨z2, e2, hzz2⟩ : ∃ z : Int, IntKind.i64.wrap ((n : Int) / 7) = z ∧ inR z := ⟨_, rfl, by rw [IntKind.wrap_i64]; unfold inR; omega⟩
  obtain ⟨z3, e3, hzz3⟩ : ∃ z : Int, IntKind.i64.wrap (-(n : Int)) = z ∧ inR z := ⟨_, rfl, by rw [IntKind.wrap_i64]; unfold inR; omega⟩
  have e4 : (n : Int).tmod 4 = (n : Int) % 4 := Int.tmod_eq_emod_of_nonneg (by omega)
  have HZ := Lib.hid (And.intro hzz1 (And.intro hzz2 hzz3)); clear hzz1 hzz2 hzz3
  rcases (by omega : (n : Int) % 4 = 0 ∨ (n : Int) % 4 = 1 ∨ (n : Int) % 4 = 2 ∨ (n : Int) % 4 = 3) with hq | hq | hq | hq
  · rw [hq] at e4
    have b3 := Lib.hid (bt (bt (ba w (.cells #[.int .i64 z2, .int .i64 (-9223372036854775808), .int .i64 9223372036854775807, .int .i64 z3] 2)) (ba _ (.cells #[.int .i64 1, .int .i64 z1, .string ⟨#[]⟩, .int .i64 1, .int .i64 z2, .string ⟨#[]⟩] 23))) (ba _ (.cells #[.int .i64 i, .slice (some ⟨w.heap.size + 1, 0, none⟩) 2 2] 62)))
    have hV : Own ((w.alloc (.cells #[.int .i64 z2, .int .i64 (-9223372036854775808), .int .i64 9223372036854775807, .int .i64 z3] 2)).alloc (.cells #[.int .i64 1, .int .i64 z1, .string ⟨#[]⟩, .int .i64 1, .int .i64 z2, .string ⟨#[]⟩] 23)) 0 23 3 vc (.slice (some ⟨w.heap.size + 1, 0, none⟩) 2 2) [(1, z1, mt), (1, z2, mt)] := own_lit (W := (w.alloc (.cells #[.int .i64 z2, .int .i64 (-9223372036854775808), .int .i64 9223372036854775807, .int .i64 z3] 2))) (f := vc) [(1, z1, mt), (1, z2, mt)] (by simp) rfl (by decide) rfl rfl
    have HV := Lib.hid (hV.later (ba _ (.cells #[.int .i64 i, .slice (some ⟨w.heap.size + 1, 0, none⟩) 2 2] 62))); clear hV
    have nE : ∀ j u, (#[Value.int .i64 i, .slice (some ⟨w.heap.size + 1, 0, none⟩) 2 2] : Array Value).toList[j]? = some u → (((w.alloc (.cells #[.int .i64 z2, .int .i64 (-9223372036854775808), .int .i64 9223372036854775807, .int .i64 z3] 2)).alloc (.cells #[.int .i64 1, .int .i64 z1, .string ⟨#[]⟩, .int .i64 1, .int .i64 z2, .string ⟨#[]⟩] 23)).alloc (.cells #[.int .i64 i, .slice (some ⟨w.heap.size + 1, 0, none⟩) 2 2] 62)).cell? ((⟨w.heap.size + 1 + 1, 0, none⟩ : Addr).add j) = some u := blk_cells (by have := Blk.new ((w.alloc (.cells #[.int .i64 z2, .int .i64 (-9223372036854775808), .int .i64 9223372036854775807, .int .i64 z3] 2)).alloc (.cells #[.int .i64 1, .int .i64 z1, .string ⟨#[]⟩, .int .i64 1, .int .i64 z2, .string ⟨#[]⟩] 23)) 62 #[.int .i64 i, .slice (some ⟨w.heap.size + 1, 0, none⟩) 2 2]; simpa using this)
    have NE := Lib.hid nE; clear nE
    go_wp2_with fail
    refine wp_region_noPanic ?_
    go_region_law (refine step_append_own rfl (.tmp 24) (.tmp 42) 57 rfl base 62 i0 (.agg #[.int .i64 0, .slice none 0 0]) 2 32 Try.underlying57 hi hz0 hz1 hz2 rfl (by decide) (.slice V1 M.length V3) M.length (M.flatMap ec) (by simp [Act.eval, Act.put]) (World.ownsRow.drew (Own.later H.out.1 b3.out)) ⟨w.heap.size + 1 + 1, 0, none⟩ 1 1 (ec (i, some ⟨w.heap.size + 1, 0, none⟩, 2, 2)) (by simp [Act.eval, Act.put]) rfl NE.out (by simp [Value.oneCell']) (by unfold maxLen; omega) (by omega) (by have := b3.out.size; simp only [World.size_drew]; omega) ?_; intro v5 w5 hO5 hg5 _; obtain ⟨A5, n5, c5, rfl⟩ := own_shape hO5; have hB5 := (blk_drew (H.out.2.2.later b3.out)).grown hg5 (own_ne H.out.1 hbA); have d5 := hB5.cell 2; have f5 := hB5.frozen 2; have X := Lib.hid (And.intro hO5 (And.intro hg5 hB5)); clear hO5 hg5 hB5)
    all_goals
      go_simp
      have R := bind_end b3.out M1.out H.out.1 H.out.2.1 HV.out X.out.1 X.out.2.1 X.out.2.2 hbA hb
      exact NoPanic.normal (HQ.out _ _ _ _ _ _ _ _ _ _ _ _ _ _ _ _ _ _ _ _ _ _ _ [(1, z1, mt), (1, z2, mt)] _ ⟨R.1, R.2.1, ok2 HZ.out.1 HZ.out.2.1, R.2.2⟩)
  · rw [hq] at e4
    have b3 := Lib.hid (bt (bt (ba w (.cells #[.int .i64 z2, .int .i64 (-9223372036854775808), .int .i64 9223372036854775807, .int .i64 z3] 2)) (ba _ (.cells #[.int .i64 1, .int .i64 z1, .string ⟨#[]⟩, .int .i64 1, .int .i64 (-9223372036854775808), .string ⟨#[]⟩] 23))) (ba _ (.cells #[.int .i64 i, .slice (some ⟨w.heap.size + 1, 0, none⟩) 2 2] 62)))
    have hV : Own ((w.alloc (.cells #[.int .i64 z2, .int .i64 (-9223372036854775808), .int .i64 9223372036854775807, .int .i64 z3] 2)).alloc (.cells #[.int .i64 1, .int .i64 z1, .string ⟨#[]⟩, .int .i64 1, .int .i64 (-9223372036854775808), .string ⟨#[]⟩] 23)) 0 23 3 vc (.slice (some ⟨w.heap.size + 1, 0, none⟩) 2 2) [(1, z1, mt), (1, (-9223372036854775808), mt)] := own_lit (W := (w.alloc (.cells #[.int .i64 z2, .int .i64 (-9223372036854775808), .int .i64 9223372036854775807, .int .i64 z3] 2))) (f := vc) [(1, z1, mt), (1, (-9223372036854775808), mt)] (by simp) rfl (by decide) rfl rfl
    have HV := Lib.hid (hV.later (ba _ (.cells #[.int .i64 i, .slice (some ⟨w.heap.size + 1, 0, none⟩) 2 2] 62))); clear hV
    have nE : ∀ j u, (#[Value.int .i64 i, .slice (some ⟨w.heap.size + 1, 0, none⟩) 2 2] : Array Value).toList[j]? = some u → (((w.alloc (.cells #[.int .i64 z2, .int .i64 (-9223372036854775808), .int .i64 9223372036854775807, .int .i64 z3] 2)).alloc (.cells #[.int .i64 1, .int .i64 z1, .string ⟨#[]⟩, .int .i64 1, .int .i64 (-9223372036854775808), .string ⟨#[]⟩] 23)).alloc (.cells #[.int .i64 i, .slice (some ⟨w.heap.size + 1, 0, none⟩) 2 2] 62)).cell? ((⟨w.heap.size + 1 + 1, 0, none⟩ : Addr).add j) = some u := blk_cells (by have := Blk.new ((w.alloc (.cells #[.int .i64 z2, .int .i64 (-9223372036854775808), .int .i64 9223372036854775807, .int .i64 z3] 2)).alloc (.cells #[.int .i64 1, .int .i64 z1, .string ⟨#[]⟩, .int .i64 1, .int .i64 (-9223372036854775808), .string ⟨#[]⟩] 23)) 62 #[.int .i64 i, .slice (some ⟨w.heap.size + 1, 0, none⟩) 2 2]; simpa using this)
    have NE := Lib.hid nE; clear nE
    go_wp2_with fail
    refine wp_region_noPanic ?_
    go_region_law (refine step_append_own rfl (.tmp 24) (.tmp 42) 57 rfl base 62 i0 (.agg #[.int .i64 0, .slice none 0 0]) 2 32 Try.underlying57 hi hz0 hz1 hz2 rfl (by decide) (.slice V1 M.length V3) M.length (M.flatMap ec) (by simp [Act.eval, Act.put]) (World.ownsRow.drew (Own.later H.out.1 b3.out)) ⟨w.heap.size + 1 + 1, 0, none⟩ 1 1 (ec (i, some ⟨w.heap.size + 1, 0, none⟩, 2, 2)) (by simp [Act.eval, Act.put]) rfl NE.out (by simp [Value.oneCell']) (by unfold maxLen; omega) (by omega) (by have := b3.out.size; simp only [World.size_drew]; omega) ?_; intro v5 w5 hO5 hg5 _; obtain ⟨A5, n5, c5, rfl⟩ := own_shape hO5; have hB5 := (blk_drew (H.out.2.2.later b3.out)).grown hg5 (own_ne H.out.1 hbA); have d5 := hB5.cell 2; have f5 := hB5.frozen 2; have X := Lib.hid (And.intro hO5 (And.intro hg5 hB5)); clear hO5 hg5 hB5)
    all_goals
      go_simp
      have R := bind_end b3.out M1.out H.out.1 H.out.2.1 HV.out X.out.1 X.out.2.1 X.out.2.2 hbA hb
      exact NoPanic.normal (HQ.out _ _ _ _ _ _ _ _ _ _ _ _ _ _ _ _ _ _ _ _ _ _ _ [(1, z1, mt), (1, (-9223372036854775808), mt)] _ ⟨R.1, R.2.1, ok2 HZ.out.1 (by decide), R.2.2⟩)
  · rw [hq] at e4
    have b3 := Lib.hid (bt (bt (ba w (.cells #[.int .i64 z2, .int .i64 (-9223372036854775808), .int .i64 9223372036854775807, .int .i64 z3] 2)) (ba _ (.cells #[.int .i64 1, .int .i64 z1, .string ⟨#[]⟩, .int .i64 1, .int .i64 9223372036854775807, .string ⟨#[]⟩] 23))) (ba _ (.cells #[.int .i64 i, .slice (some ⟨w.heap.size + 1, 0, none⟩) 2 2] 62)))
    have hV : Own ((w.alloc (.cells #[.int .i64 z2, .int .i64 (-9223372036854775808), .int .i64 9223372036854775807, .int .i64 z3] 2)).alloc (.cells #[.int .i64 1, .int .i64 z1, .string ⟨#[]⟩, .int .i64 1, .int .i64 9223372036854775807, .string ⟨#[]⟩] 23)) 0 23 3 vc (.slice (some ⟨w.heap.size + 1, 0, none⟩) 2 2) [(1, z1, mt), (1, 9223372036854775807, mt)] := own_lit (W := (w.alloc (.cells #[.int .i64 z2, .int .i64 (-9223372036854775808), .int .i64 9223372036854775807, .int .i64 z3] 2))) (f := vc) [(1, z1, mt), (1, 9223372036854775807, mt)] (by simp) rfl (by decide) rfl rfl
    have HV := Lib.hid (hV.later (ba _ (.cells #[.int .i64 i, .slice (some ⟨w.heap.size + 1, 0, none⟩) 2 2] 62))); clear hV
    have nE : ∀ j u, (#[Value.int .i64 i, .slice (some ⟨w.heap.size + 1, 0, none⟩) 2 2] : Array Value).toList[j]? = some u → (((w.alloc (.cells #[.int .i64 z2, .int .i64 (-9223372036854775808), .int .i64 9223372036854775807, .int .i64 z3] 2)).alloc (.cells #[.int .i64 1, .int .i64 z1, .string ⟨#[]⟩, .int .i64 1, .int .i64 9223372036854775807, .string ⟨#[]⟩] 23)).alloc (.cells #[.int .i64 i, .slice (some ⟨w.heap.size + 1, 0, none⟩) 2 2] 62)).cell? ((⟨w.heap.size + 1 + 1, 0, none⟩ : Addr).add j) = some u := blk_cells (by have := Blk.new ((w.alloc (.cells #[.int .i64 z2, .int .i64 (-9223372036854775808), .int .i64 9223372036854775807, .int .i64 z3] 2)).alloc (.cells #[.int .i64 1, .int .i64 z1, .string ⟨#[]⟩, .int .i64 1, .int .i64 9223372036854775807, .string ⟨#[]⟩] 23)) 62 #[.int .i64 i, .slice (some ⟨w.heap.size + 1, 0, none⟩) 2 2]; simpa using this)
    have NE := Lib.hid nE; clear nE
    go_wp2_with fail
    refine wp_region_noPanic ?_
    go_region_law (refine step_append_own rfl (.tmp 24) (.tmp 42) 57 rfl base 62 i0 (.agg #[.int .i64 0, .slice none 0 0]) 2 32 Try.underlying57 hi hz0 hz1 hz2 rfl (by decide) (.slice V1 M.length V3) M.length (M.flatMap ec) (by simp [Act.eval, Act.put]) (World.ownsRow.drew (Own.later H.out.1 b3.out)) ⟨w.heap.size + 1 + 1, 0, none⟩ 1 1 (ec (i, some ⟨w.heap.size + 1, 0, none⟩, 2, 2)) (by simp [Act.eval, Act.put]) rfl NE.out (by simp [Value.oneCell']) (by unfold maxLen; omega) (by omega) (by have := b3.out.size; simp only [World.size_drew]; omega) ?_; intro v5 w5 hO5 hg5 _; obtain ⟨A5, n5, c5, rfl⟩ := own_shape hO5; have hB5 := (blk_drew (H.out.2.2.later b3.out)).grown hg5 (own_ne H.out.1 hbA); have d5 := hB5.cell 2; have f5 := hB5.frozen 2; have X := Lib.hid (And.intro hO5 (And.intro hg5 hB5)); clear hO5 hg5 hB5)
    all_goals
      go_simp
      have R := bind_end b3.out M1.out H.out.1 H.out.2.1 HV.out X.out.1 X.out.2.1 X.out.2.2 hbA hb
      exact NoPanic.normal (HQ.out _ _ _ _ _ _ _ _ _ _ _ _ _ _ _ _ _ _ _ _ _ _ _ [(1, z1, mt), (1, 9223372036854775807, mt)] _ ⟨R.1, R.2.1, ok2 HZ.out.1 (by decide), R.2.2⟩)
  · rw [hq] at e4
    have b3 := Lib.hid (bt (bt (ba w (.cells #[.int .i64 z2, .int .i64 (-9223372036854775808), .int .i64 9223372036854775807, .int .i64 z3] 2)) (ba _ (.cells #[.int .i64 1, .int .i64 z1, .string ⟨#[]⟩, .int .i64 1, .int .i64 z3, .string ⟨#[]⟩] 23))) (ba _ (.cells #[.int .i64 i, .slice (some ⟨w.heap.size + 1, 0, none⟩) 2 2] 62)))
    have hV : Own ((w.alloc (.cells #[.int .i64 z2, .int .i64 (-9223372036854775808), .int .i64 9223372036854775807, .int .i64 z3] 2)).alloc (.cells #[.int .i64 1, .int .i64 z1, .string ⟨#[]⟩, .int .i64 1, .int .i64 z3, .string ⟨#[]⟩] 23)) 0 23 3 vc (.slice (some ⟨w.heap.size + 1, 0, none⟩) 2 2) [(1, z1, mt), (1, z3, mt)] := own_lit (W := (w.alloc (.cells #[.int .i64 z2, .int .i64 (-9223372036854775808), .int .i64 9223372036854775807, .int .i64 z3] 2))) (f := vc) [(1, z1, mt), (1, z3, mt)] (by simp) rfl (by decide) rfl rfl
    have HV := Lib.hid (hV.later (ba _ (.cells #[.int .i64 i, .slice (some ⟨w.heap.size + 1, 0, none⟩) 2 2] 62))); clear hV
    have nE : ∀ j u, (#[Value.int .i64 i, .slice (some ⟨w.heap.size + 1, 0, none⟩) 2 2] : Array Value).toList[j]? = some u → (((w.alloc (.cells #[.int .i64 z2, .int .i64 (-9223372036854775808), .int .i64 9223372036854775807, .int .i64 z3] 2)).alloc (.cells #[.int .i64 1, .int .i64 z1, .string ⟨#[]⟩, .int .i64 1, .int .i64 z3, .string ⟨#[]⟩] 23)).alloc (.cells #[.int .i64 i, .slice (some ⟨w.heap.size + 1, 0, none⟩) 2 2] 62)).cell? ((⟨w.heap.size + 1 + 1, 0, none⟩ : Addr).add j) = some u := blk_cells (by have := Blk.new ((w.alloc (.cells #[.int .i64 z2, .int .i64 (-9223372036854775808), .int .i64 9223372036854775807, .int .i64 z3] 2)).alloc (.cells #[.int .i64 1, .int .i64 z1, .string ⟨#[]⟩, .int .i64 1, .int .i64 z3, .string ⟨#[]⟩] 23)) 62 #[.int .i64 i, .slice (some ⟨w.heap.size + 1, 0, none⟩) 2 2]; simpa using this)
    have NE := Lib.hid nE; clear nE
    go_wp2_with fail
    refine wp_region_noPanic ?_
    go_region_law (refine step_append_own rfl (.tmp 24) (.tmp 42) 57 rfl base 62 i0 (.agg #[.int .i64 0, .slice none 0 0]) 2 32 Try.underlying57 hi hz0 hz1 hz2 rfl (by decide) (.slice V1 M.length V3) M.length (M.flatMap ec) (by simp [Act.eval, Act.put]) (World.ownsRow.drew (Own.later H.out.1 b3.out)) ⟨w.heap.size + 1 + 1, 0, none⟩ 1 1 (ec (i, some ⟨w.heap.size + 1, 0, none⟩, 2, 2)) (by simp [Act.eval, Act.put]) rfl NE.out (by simp [Value.oneCell']) (by unfold maxLen; omega) (by omega) (by have := b3.out.size; simp only [World.size_drew]; omega) ?_; intro v5 w5 hO5 hg5 _; obtain ⟨A5, n5, c5, rfl⟩ := own_shape hO5; have hB5 := (blk_drew (H.out.2.2.later b3.out)).grown hg5 (own_ne H.out.1 hbA); have d5 := hB5.cell 2; have f5 := hB5.frozen 2; have X := Lib.hid (And.intro hO5 (And.intro hg5 hB5)); clear hO5 hg5 hB5)
    all_goals
      go_simp
      have R := bind_end b3.out M1.out H.out.1 H.out.2.1 HV.out X.out.1 X.out.2.1 X.out.2.2 hbA hb
      exact NoPanic.normal (HQ.out _ _ _ _ _ _ _ _ _ _ _ _ _ _ _ _ _ _ _ _ _ _ _ [(1, z1, mt), (1, z3, mt)] _ ⟨R.1, R.2.1, ok2 HZ.out.1 HZ.out.2.2, R.2.2⟩)
end Go.Proofs.Ytjddfjapopdciaa
