/- Binds of bytes: one more event of the second. -/
import Derived.Test.YtjddfjapopdciaaBindsB
namespace Go.Proofs.Ytjddfjapopdciaa
open Go.ChangeShapes Go.WideShapes Go.ChangeAt Go.RowKit
open Rk (inR)
set_option linter.unusedVariables false
set_option linter.unusedSimpArgs false

theorem ok4 {i a b c : Int} {s : ByteArray} (ha : inR a) (hb : inR b) (hc : inR c) (hs : s.size ≤ maxLen) : okEv (i, [(1, a, mt), (1, b, mt), (3, 0, s), (2, c, mt)]) := by
  intro v hv
  simp only [List.mem_cons, List.not_mem_nil, or_false] at hv
  rcases hv with rfl | rfl | rfl | rfl
  · exact ⟨ha, Nat.zero_le _⟩
  · exact ⟨hb, Nat.zero_le _⟩
  · exact ⟨by show inR 0; decide, hs⟩
  · exact ⟨hc, Nat.zero_le _⟩
set_option maxRecDepth 20000 in
set_option maxHeartbeats 4000000 in
theorem bindB_ev (u0 u1 u2 u3 u4 u5 u6 u7 u11 u12 u13 u14 u15 u16 u17 u18 u19 u20 u21 u22 u23 u24 u25 u26 u27 u28 u29 u30 u31 u32 u33 u34 u35 u36 u37 u38 u39 u40 u41 u42 u43 u44 u45 u46 u47 u48 u49 u50 u51 u52 u53 u54 u55 u56 u57 u58 u59 u60 u61 u62 u63 u64 u65 u66 u67 u68 u69 u70 u71 u72 u73 u74 u75 u76 u77 u78 u79 u80 u81 u82 : Value) {w : World} {bA n base : Nat} {i : Int} {nm : ByteArray} {fs v : Value} {E : List Ev} (hn : n ≤ 255) (hB : Blk w bA 59 #[.string nm, fs, v]) (hE : EvsO w base v E) (hl : E.length ≤ 1000) (hb : base ≤ w.heap.size) (hbA : bA < base) {Q : Exit → Act → World → Prop}
    (hQ : ∀ (x56 x57 x58 x59 x60 x61 x62 x63 x64 x65 x66 x67 x68 x69 x70 x71 x72 x73 x74 x75 x76 x77 x78 x79 : Value) (v' : Value) (vs : List V3) (wx : World), (Blk wx bA 59 #[.string nm, fs, v'] ∧ EvsO wx base v' (E ++ [(i, vs)]) ∧ okEv (i, vs) ∧ (∀ k, k < w.heap.size → k < base → k ≠ bA → wx.heap[k]? = w.heap[k]?) ∧ ∀ B, B ≤ w.heap.size → B ≤ bA → Below B w wx) → Q .normal ⟨#[u0, u1, u2, u3, u4, u5, u6, u7, .pointer (some ⟨bA, 0, none⟩), .int .i64 i, .int .i64 (n : Nat), u11, u12, u13, u14, u15, u16, u17, u18, u19, u20, u21, u22, u23, u24, u25, u26, u27, u28, u29, u30, u31, u32, u33, u34, u35, u36, u37, u38, u39, u40, u41, u42, u43, u44, u45, u46, u47, u48, u49, u50, u51, u52, u53, u54, u55, x56, x57, x58, x59, x60, x61, x62, x63, x64, x65, x66, x67, x68, x69, x70, x71, x72, x73, x74, x75, x76, x77, x78, x79, u80, u81, u82], []⟩ wx) :
    Code.wp Try.prog ((Try.f12.body.bind (regionN 14)).getD .skip) Q ⟨#[u0, u1, u2, u3, u4, u5, u6, u7, .pointer (some ⟨bA, 0, none⟩), .int .i64 i, .int .i64 (n : Nat), u11, u12, u13, u14, u15, u16, u17, u18, u19, u20, u21, u22, u23, u24, u25, u26, u27, u28, u29, u30, u31, u32, u33, u34, u35, u36, u37, u38, u39, u40, u41, u42, u43, u44, u45, u46, u47, u48, u49, u50, u51, u52, u53, u54, u55, u56, u57, u58, u59, u60, u61, u62, u63, u64, u65, u66, u67, u68, u69, u70, u71, u72, u73, u74, u75, u76, u77, u78, u79, u80, u81, u82], []⟩ w := by
  have HQ := Lib.hid hQ; clear hQ
  conv => arg 2; whnf
  obtain ⟨i0, hi, hz0, hz1, hz2⟩ := info_parts Try.infoEv
  obtain ⟨M, m1, m2, m3⟩ := hE
  obtain ⟨V1, V3, rfl, mv, mc, mm⟩ := m2.shape
  have hl2 : M.length ≤ 1000 := by omega
  have M1 := Lib.hid m1; clear m1
  have d2 := hB.cell 2
  have f2 := hB.frozen 2
  have bl := hB.lt
  have bl2 : bA < w.heap.size + 1 := by omega
  have bl3 : bA < w.heap.size + 1 + 1 := by omega
  have H := Lib.hid (And.intro m2 (And.intro m3 hB)); clear m2 m3 hB mv mc mm
  obtain ⟨z1, e1, hzz1⟩ : ∃ z : Int, (n : Int).tmod 3 = z ∧ inR z := ⟨_, rfl, by rw [Int.tmod_eq_emod_of_nonneg (by omega)]; unfold inR; omega⟩
  obtain ⟨z2, e2, hzz2⟩ : ∃ z : Int, IntKind.i64.wrap (IntKind.i64.wrap ((n : Int) / 3) - 40) = z ∧ inR z := ⟨_, rfl, by rw [IntKind.wrap_i64]; unfold inR; omega⟩
  obtain ⟨z4, e3, hzz3⟩ : ∃ z : Int, (n : Int).tmod 2 = z ∧ inR z := ⟨_, rfl, by rw [Int.tmod_eq_emod_of_nonneg (by omega)]; unfold inR; omega⟩
  have e4 : (n : Int).tmod 4 = (n : Int) % 4 := Int.tmod_eq_emod_of_nonneg (by omega)
  have HZ := Lib.hid (And.intro hzz1 (And.intro hzz2 hzz3)); clear hzz1 hzz2 hzz3
  rcases (by omega : (n : Int) % 4 = 0 ∨ (n : Int) % 4 = 1 ∨ (n : Int) % 4 = 2 ∨ (n : Int) % 4 = 3) with hq | hq | hq | hq
  · rw [hq] at e4
    have b3 := Lib.hid (bt (bt (ba w (.cells #[.string ⟨#[]⟩, .string ⟨#[97]⟩, .string ⟨#[98]⟩, .string ⟨#[97, 98]⟩] 9)) (ba _ (.cells #[.int .i64 1, .int .i64 z1, .string ⟨#[]⟩, .int .i64 1, .int .i64 z2, .string ⟨#[]⟩, .int .i64 3, .int .i64 0, .string ⟨#[]⟩, .int .i64 2, .int .i64 z4, .string ⟨#[]⟩] 23))) (ba _ (.cells #[.int .i64 i, .slice (some ⟨w.heap.size + 1, 0, none⟩) 4 4] 62)))
    have hV : Own ((w.alloc (.cells #[.string ⟨#[]⟩, .string ⟨#[97]⟩, .string ⟨#[98]⟩, .string ⟨#[97, 98]⟩] 9)).alloc (.cells #[.int .i64 1, .int .i64 z1, .string ⟨#[]⟩, .int .i64 1, .int .i64 z2, .string ⟨#[]⟩, .int .i64 3, .int .i64 0, .string ⟨#[]⟩, .int .i64 2, .int .i64 z4, .string ⟨#[]⟩] 23)) 0 23 3 vc (.slice (some ⟨w.heap.size + 1, 0, none⟩) 4 4) [(1, z1, mt), (1, z2, mt), (3, 0, ⟨#[]⟩), (2, z4, mt)] := own_lit (W := (w.alloc (.cells #[.string ⟨#[]⟩, .string ⟨#[97]⟩, .string ⟨#[98]⟩, .string ⟨#[97, 98]⟩] 9))) (f := vc) [(1, z1, mt), (1, z2, mt), (3, 0, ⟨#[]⟩), (2, z4, mt)] (by simp) rfl (by decide) rfl rfl
    have HV := Lib.hid (hV.later (ba _ (.cells #[.int .i64 i, .slice (some ⟨w.heap.size + 1, 0, none⟩) 4 4] 62))); clear hV
    have nE : ∀ j u, (#[Value.int .i64 i, .slice (some ⟨w.heap.size + 1, 0, none⟩) 4 4] : Array Value).toList[j]? = some u → (((w.alloc (.cells #[.string ⟨#[]⟩, .string ⟨#[97]⟩, .string ⟨#[98]⟩, .string ⟨#[97, 98]⟩] 9)).alloc (.cells #[.int .i64 1, .int .i64 z1, .string ⟨#[]⟩, .int .i64 1, .int .i64 z2, .string ⟨#[]⟩, .int .i64 3, .int .i64 0, .string ⟨#[]⟩, .int .i64 2, .int .i64 z4, .string ⟨#[]⟩] 23)).alloc (.cells #[.int .i64 i, .slice (some ⟨w.heap.size + 1, 0, none⟩) 4 4] 62)).cell? ((⟨w.heap.size + 1 + 1, 0, none⟩ : Addr).add j) = some u := blk_cells (by have := Blk.new ((w.alloc (.cells #[.string ⟨#[]⟩, .string ⟨#[97]⟩, .string ⟨#[98]⟩, .string ⟨#[97, 98]⟩] 9)).alloc (.cells #[.int .i64 1, .int .i64 z1, .string ⟨#[]⟩, .int .i64 1, .int .i64 z2, .string ⟨#[]⟩, .int .i64 3, .int .i64 0, .string ⟨#[]⟩, .int .i64 2, .int .i64 z4, .string ⟨#[]⟩] 23)) 62 #[.int .i64 i, .slice (some ⟨w.heap.size + 1, 0, none⟩) 4 4]; simpa using this)
    have NE := Lib.hid nE; clear nE
    go_wp2_with fail
    refine wp_region_noPanic ?_
    go_region_law (refine step_append_own rfl (.tmp 57) (.tmp 77) 57 rfl base 62 i0 (.agg #[.int .i64 0, .slice none 0 0]) 2 32 Try.underlying57 hi hz0 hz1 hz2 rfl (by decide) (.slice V1 M.length V3) M.length (M.flatMap ec) (by simp [Act.eval, Act.put]) (World.ownsRow.drew (Own.later H.out.1 b3.out)) ⟨w.heap.size + 1 + 1, 0, none⟩ 1 1 (ec (i, some ⟨w.heap.size + 1, 0, none⟩, 4, 4)) (by simp [Act.eval, Act.put]) rfl NE.out (by simp [Value.oneCell']) (by unfold maxLen; omega) (by omega) (by have := b3.out.size; simp only [World.size_drew]; omega) ?_; intro v5 w5 hO5 hg5 _; obtain ⟨A5, n5, c5, rfl⟩ := own_shape hO5; have hB5 := (blk_drew (H.out.2.2.later b3.out)).grown hg5 (own_ne H.out.1 hbA); have d5 := hB5.cell 2; have f5 := hB5.frozen 2; have X := Lib.hid (And.intro hO5 (And.intro hg5 hB5)); clear hO5 hg5 hB5)
    all_goals
      go_simp
      have R := bind_end b3.out M1.out H.out.1 H.out.2.1 HV.out X.out.1 X.out.2.1 X.out.2.2 hbA hb
      exact NoPanic.normal (HQ.out _ _ _ _ _ _ _ _ _ _ _ _ _ _ _ _ _ _ _ _ _ _ _ _ _ [(1, z1, mt), (1, z2, mt), (3, 0, ⟨#[]⟩), (2, z4, mt)] _ ⟨R.1, R.2.1, ok4 HZ.out.1 HZ.out.2.1 HZ.out.2.2 (by decide), R.2.2⟩)
  · rw [hq] at e4
    have b3 := Lib.hid (bt (bt (ba w (.cells #[.string ⟨#[]⟩, .string ⟨#[97]⟩, .string ⟨#[98]⟩, .string ⟨#[97, 98]⟩] 9)) (ba _ (.cells #[.int .i64 1, .int .i64 z1, .string ⟨#[]⟩, .int .i64 1, .int .i64 z2, .string ⟨#[]⟩, .int .i64 3, .int .i64 0, .string ⟨#[97]⟩, .int .i64 2, .int .i64 z4, .string ⟨#[]⟩] 23))) (ba _ (.cells #[.int .i64 i, .slice (some ⟨w.heap.size + 1, 0, none⟩) 4 4] 62)))
    have hV : Own ((w.alloc (.cells #[.string ⟨#[]⟩, .string ⟨#[97]⟩, .string ⟨#[98]⟩, .string ⟨#[97, 98]⟩] 9)).alloc (.cells #[.int .i64 1, .int .i64 z1, .string ⟨#[]⟩, .int .i64 1, .int .i64 z2, .string ⟨#[]⟩, .int .i64 3, .int .i64 0, .string ⟨#[97]⟩, .int .i64 2, .int .i64 z4, .string ⟨#[]⟩] 23)) 0 23 3 vc (.slice (some ⟨w.heap.size + 1, 0, none⟩) 4 4) [(1, z1, mt), (1, z2, mt), (3, 0, ⟨#[97]⟩), (2, z4, mt)] := own_lit (W := (w.alloc (.cells #[.string ⟨#[]⟩, .string ⟨#[97]⟩, .string ⟨#[98]⟩, .string ⟨#[97, 98]⟩] 9))) (f := vc) [(1, z1, mt), (1, z2, mt), (3, 0, ⟨#[97]⟩), (2, z4, mt)] (by simp) rfl (by decide) rfl rfl
    have HV := Lib.hid (hV.later (ba _ (.cells #[.int .i64 i, .slice (some ⟨w.heap.size + 1, 0, none⟩) 4 4] 62))); clear hV
    have nE : ∀ j u, (#[Value.int .i64 i, .slice (some ⟨w.heap.size + 1, 0, none⟩) 4 4] : Array Value).toList[j]? = some u → (((w.alloc (.cells #[.string ⟨#[]⟩, .string ⟨#[97]⟩, .string ⟨#[98]⟩, .string ⟨#[97, 98]⟩] 9)).alloc (.cells #[.int .i64 1, .int .i64 z1, .string ⟨#[]⟩, .int .i64 1, .int .i64 z2, .string ⟨#[]⟩, .int .i64 3, .int .i64 0, .string ⟨#[97]⟩, .int .i64 2, .int .i64 z4, .string ⟨#[]⟩] 23)).alloc (.cells #[.int .i64 i, .slice (some ⟨w.heap.size + 1, 0, none⟩) 4 4] 62)).cell? ((⟨w.heap.size + 1 + 1, 0, none⟩ : Addr).add j) = some u := blk_cells (by have := Blk.new ((w.alloc (.cells #[.string ⟨#[]⟩, .string ⟨#[97]⟩, .string ⟨#[98]⟩, .string ⟨#[97, 98]⟩] 9)).alloc (.cells #[.int .i64 1, .int .i64 z1, .string ⟨#[]⟩, .int .i64 1, .int .i64 z2, .string ⟨#[]⟩, .int .i64 3, .int .i64 0, .string ⟨#[97]⟩, .int .i64 2, .int .i64 z4, .string ⟨#[]⟩] 23)) 62 #[.int .i64 i, .slice (some ⟨w.heap.size + 1, 0, none⟩) 4 4]; simpa using this)
    have NE := Lib.hid nE; clear nE
    go_wp2_with fail
    refine wp_region_noPanic ?_
    go_region_law (refine step_append_own rfl (.tmp 57) (.tmp 77) 57 rfl base 62 i0 (.agg #[.int .i64 0, .slice none 0 0]) 2 32 Try.underlying57 hi hz0 hz1 hz2 rfl (by decide) (.slice V1 M.length V3) M.length (M.flatMap ec) (by simp [Act.eval, Act.put]) (World.ownsRow.drew (Own.later H.out.1 b3.out)) ⟨w.heap.size + 1 + 1, 0, none⟩ 1 1 (ec (i, some ⟨w.heap.size + 1, 0, none⟩, 4, 4)) (by simp [Act.eval, Act.put]) rfl NE.out (by simp [Value.oneCell']) (by unfold maxLen; omega) (by omega) (by have := b3.out.size; simp only [World.size_drew]; omega) ?_; intro v5 w5 hO5 hg5 _; obtain ⟨A5, n5, c5, rfl⟩ := own_shape hO5; have hB5 := (blk_drew (H.out.2.2.later b3.out)).grown hg5 (own_ne H.out.1 hbA); have d5 := hB5.cell 2; have f5 := hB5.frozen 2; have X := Lib.hid (And.intro hO5 (And.intro hg5 hB5)); clear hO5 hg5 hB5)
    all_goals
      go_simp
      have R := bind_end b3.out M1.out H.out.1 H.out.2.1 HV.out X.out.1 X.out.2.1 X.out.2.2 hbA hb
      exact NoPanic.normal (HQ.out _ _ _ _ _ _ _ _ _ _ _ _ _ _ _ _ _ _ _ _ _ _ _ _ _ [(1, z1, mt), (1, z2, mt), (3, 0, ⟨#[97]⟩), (2, z4, mt)] _ ⟨R.1, R.2.1, ok4 HZ.out.1 HZ.out.2.1 HZ.out.2.2 (by decide), R.2.2⟩)
  · rw [hq] at e4
    have b3 := Lib.hid (bt (bt (ba w (.cells #[.string ⟨#[]⟩, .string ⟨#[97]⟩, .string ⟨#[98]⟩, .string ⟨#[97, 98]⟩] 9)) (ba _ (.cells #[.int .i64 1, .int .i64 z1, .string ⟨#[]⟩, .int .i64 1, .int .i64 z2, .string ⟨#[]⟩, .int .i64 3, .int .i64 0, .string ⟨#[98]⟩, .int .i64 2, .int .i64 z4, .string ⟨#[]⟩] 23))) (ba _ (.cells #[.int .i64 i, .slice (some ⟨w.heap.size + 1, 0, none⟩) 4 4] 62)))
    have hV : Own ((w.alloc (.cells #[.string ⟨#[]⟩, .string ⟨#[97]⟩, .string ⟨#[98]⟩, .string ⟨#[97, 98]⟩] 9)).alloc (.cells #[.int .i64 1, .int .i64 z1, .string ⟨#[]⟩, .int .i64 1, .int .i64 z2, .string ⟨#[]⟩, .int .i64 3, .int .i64 0, .string ⟨#[98]⟩, .int .i64 2, .int .i64 z4, .string ⟨#[]⟩] 23)) 0 23 3 vc (.slice (some ⟨w.heap.size + 1, 0, none⟩) 4 4) [(1, z1, mt), (1, z2, mt), (3, 0, ⟨#[98]⟩), (2, z4, mt)] := own_lit (W := (w.alloc (.cells #[.string ⟨#[]⟩, .string ⟨#[97]⟩, .string ⟨#[98]⟩, .string ⟨#[97, 98]⟩] 9))) (f := vc) [(1, z1, mt), (1, z2, mt), (3, 0, ⟨#[98]⟩), (2, z4, mt)] (by simp) rfl (by decide) rfl rfl
    have HV := Lib.hid (hV.later (ba _ (.cells #[.int .i64 i, .slice (some ⟨w.heap.size + 1, 0, none⟩) 4 4] 62))); clear hV
    have nE : ∀ j u, (#[Value.int .i64 i, .slice (some ⟨w.heap.size + 1, 0, none⟩) 4 4] : Array Value).toList[j]? = some u → (((w.alloc (.cells #[.string ⟨#[]⟩, .string ⟨#[97]⟩, .string ⟨#[98]⟩, .string ⟨#[97, 98]⟩] 9)).alloc (.cells #[.int .i64 1, .int .i64 z1, .string ⟨#[]⟩, .int .i64 1, .int .i64 z2, .string ⟨#[]⟩, .int .i64 3, .int .i64 0, .string ⟨#[98]⟩, .int .i64 2, .int .i64 z4, .string ⟨#[]⟩] 23)).alloc (.cells #[.int .i64 i, .slice (some ⟨w.heap.size + 1, 0, none⟩) 4 4] 62)).cell? ((⟨w.heap.size + 1 + 1, 0, none⟩ : Addr).add j) = some u := blk_cells (by have := Blk.new ((w.alloc (.cells #[.string ⟨#[]⟩, .string ⟨#[97]⟩, .string ⟨#[98]⟩, .string ⟨#[97, 98]⟩] 9)).alloc (.cells #[.int .i64 1, .int .i64 z1, .string ⟨#[]⟩, .int .i64 1, .int .i64 z2, .string ⟨#[]⟩, .int .i64 3, .int .i64 0, .string ⟨#[98]⟩, .int .i64 2, .int .i64 z4, .string ⟨#[]⟩] 23)) 62 #[.int .i64 i, .slice (some ⟨w.heap.size + 1, 0, none⟩) 4 4]; simpa using this)
    have NE := Lib.hid nE; clear nE
    go_wp2_with fail
    refine wp_region_noPanic ?_
    go_region_law (refine step_append_own rfl (.tmp 57) (.tmp 77) 57 rfl base 62 i0 (.agg #[.int .i64 0, .slice none 0 0]) 2 32 Try.underlying57 hi hz0 hz1 hz2 rfl (by decide) (.slice V1 M.length V3) M.length (M.flatMap ec) (by simp [Act.eval, Act.put]) (World.ownsRow.drew (Own.later H.out.1 b3.out)) ⟨w.heap.size + 1 + 1, 0, none⟩ 1 1 (ec (i, some ⟨w.heap.size + 1, 0, none⟩, 4, 4)) (by simp [Act.eval, Act.put]) rfl NE.out (by simp [Value.oneCell']) (by unfold maxLen; omega) (by omega) (by have := b3.out.size; simp only [World.size_drew]; omega) ?_; intro v5 w5 hO5 hg5 _; obtain ⟨A5, n5, c5, rfl⟩ := own_shape hO5; have hB5 := (blk_drew (H.out.2.2.later b3.out)).grown hg5 (own_ne H.out.1 hbA); have d5 := hB5.cell 2; have f5 := hB5.frozen 2; have X := Lib.hid (And.intro hO5 (And.intro hg5 hB5)); clear hO5 hg5 hB5)
    all_goals
      go_simp
      have R := bind_end b3.out M1.out H.out.1 H.out.2.1 HV.out X.out.1 X.out.2.1 X.out.2.2 hbA hb
      exact NoPanic.normal (HQ.out _ _ _ _ _ _ _ _ _ _ _ _ _ _ _ _ _ _ _ _ _ _ _ _ _ [(1, z1, mt), (1, z2, mt), (3, 0, ⟨#[98]⟩), (2, z4, mt)] _ ⟨R.1, R.2.1, ok4 HZ.out.1 HZ.out.2.1 HZ.out.2.2 (by decide), R.2.2⟩)
  · rw [hq] at e4
    have b3 := Lib.hid (bt (bt (ba w (.cells #[.string ⟨#[]⟩, .string ⟨#[97]⟩, .string ⟨#[98]⟩, .string ⟨#[97, 98]⟩] 9)) (ba _ (.cells #[.int .i64 1, .int .i64 z1, .string ⟨#[]⟩, .int .i64 1, .int .i64 z2, .string ⟨#[]⟩, .int .i64 3, .int .i64 0, .string ⟨#[97, 98]⟩, .int .i64 2, .int .i64 z4, .string ⟨#[]⟩] 23))) (ba _ (.cells #[.int .i64 i, .slice (some ⟨w.heap.size + 1, 0, none⟩) 4 4] 62)))
    have hV : Own ((w.alloc (.cells #[.string ⟨#[]⟩, .string ⟨#[97]⟩, .string ⟨#[98]⟩, .string ⟨#[97, 98]⟩] 9)).alloc (.cells #[.int .i64 1, .int .i64 z1, .string ⟨#[]⟩, .int .i64 1, .int .i64 z2, .string ⟨#[]⟩, .int .i64 3, .int .i64 0, .string ⟨#[97, 98]⟩, .int .i64 2, .int .i64 z4, .string ⟨#[]⟩] 23)) 0 23 3 vc (.slice (some ⟨w.heap.size + 1, 0, none⟩) 4 4) [(1, z1, mt), (1, z2, mt), (3, 0, ⟨#[97, 98]⟩), (2, z4, mt)] := own_lit (W := (w.alloc (.cells #[.string ⟨#[]⟩, .string ⟨#[97]⟩, .string ⟨#[98]⟩, .string ⟨#[97, 98]⟩] 9))) (f := vc) [(1, z1, mt), (1, z2, mt), (3, 0, ⟨#[97, 98]⟩), (2, z4, mt)] (by simp) rfl (by decide) rfl rfl
    have HV := Lib.hid (hV.later (ba _ (.cells #[.int .i64 i, .slice (some ⟨w.heap.size + 1, 0, none⟩) 4 4] 62))); clear hV
    have nE : ∀ j u, (#[Value.int .i64 i, .slice (some ⟨w.heap.size + 1, 0, none⟩) 4 4] : Array Value).toList[j]? = some u → (((w.alloc (.cells #[.string ⟨#[]⟩, .string ⟨#[97]⟩, .string ⟨#[98]⟩, .string ⟨#[97, 98]⟩] 9)).alloc (.cells #[.int .i64 1, .int .i64 z1, .string ⟨#[]⟩, .int .i64 1, .int .i64 z2, .string ⟨#[]⟩, .int .i64 3, .int .i64 0, .string ⟨#[97, 98]⟩, .int .i64 2, .int .i64 z4, .string ⟨#[]⟩] 23)).alloc (.cells #[.int .i64 i, .slice (some ⟨w.heap.size + 1, 0, none⟩) 4 4] 62)).cell? ((⟨w.heap.size + 1 + 1, 0, none⟩ : Addr).add j) = some u := blk_cells (by have := Blk.new ((w.alloc (.cells #[.string ⟨#[]⟩, .string ⟨#[97]⟩, .string ⟨#[98]⟩, .string ⟨#[97, 98]⟩] 9)).alloc (.cells #[.int .i64 1, .int .i64 z1, .string ⟨#[]⟩, .int .i64 1, .int .i64 z2, .string ⟨#[]⟩, .int .i64 3, .int .i64 0, .string ⟨#[97, 98]⟩, .int .i64 2, .int .i64 z4, .string ⟨#[]⟩] 23)) 62 #[.int .i64 i, .slice (some ⟨w.heap.size + 1, 0, none⟩) 4 4]; simpa using this)
    have NE := Lib.hid nE; clear nE
    go_wp2_with fail
    refine wp_region_noPanic ?_
    go_region_law (refine step_append_own rfl (.tmp 57) (.tmp 77) 57 rfl base 62 i0 (.agg #[.int .i64 0, .slice none 0 0]) 2 32 Try.underlying57 hi hz0 hz1 hz2 rfl (by decide) (.slice V1 M.length V3) M.length (M.flatMap ec) (by simp [Act.eval, Act.put]) (World.ownsRow.drew (Own.later H.out.1 b3.out)) ⟨w.heap.size + 1 + 1, 0, none⟩ 1 1 (ec (i, some ⟨w.heap.size + 1, 0, none⟩, 4, 4)) (by simp [Act.eval, Act.put]) rfl NE.out (by simp [Value.oneCell']) (by unfold maxLen; omega) (by omega) (by have := b3.out.size; simp only [World.size_drew]; omega) ?_; intro v5 w5 hO5 hg5 _; obtain ⟨A5, n5, c5, rfl⟩ := own_shape hO5; have hB5 := (blk_drew (H.out.2.2.later b3.out)).grown hg5 (own_ne H.out.1 hbA); have d5 := hB5.cell 2; have f5 := hB5.frozen 2; have X := Lib.hid (And.intro hO5 (And.intro hg5 hB5)); clear hO5 hg5 hB5)
    all_goals
      go_simp
      have R := bind_end b3.out M1.out H.out.1 H.out.2.1 HV.out X.out.1 X.out.2.1 X.out.2.2 hbA hb
      exact NoPanic.normal (HQ.out _ _ _ _ _ _ _ _ _ _ _ _ _ _ _ _ _ _ _ _ _ _ _ _ _ [(1, z1, mt), (1, z2, mt), (3, 0, ⟨#[97, 98]⟩), (2, z4, mt)] _ ⟨R.1, R.2.1, ok4 HZ.out.1 HZ.out.2.1 HZ.out.2.2 (by decide), R.2.2⟩)
end Go.Proofs.Ytjddfjapopdciaa
