/- Texts that several proofs stand on, part 19. -/
import Derived.Test.YtenmbahfgfmjjaaDoorQ16
import Derived.Deep.RegionHeld3
namespace Go.Proofs.YtenmbahfgfmjjaaDoor
open Go.ChangeShapes Go.WideShapes Go.ChangeAt Go.RowKit
open Rk (inR)
set_option linter.unusedVariables false
set_option linter.unusedSimpArgs false

set_option maxRecDepth 20000 in
set_option maxHeartbeats 4000000 in
theorem truth_pick (u0 u1 u2 u3 u4 u5 u8 u11 u12 u13 u14 u15 u16 u17 u18 u19 u20 u21 u22 u23 u24 u25 u26 u27 u28 u29 u30 u31 u32 u33 u34 u35 u36 u37 u38 u39 u40 u41 u42 u43 u44 u45 u46 u47 u48 u49 u50 u51 u52 u53 u54 u55 u56 u57 u58 u59 u60 u61 u62 u63 u64 u65 u66 u67 u68 u69 u70 u71 u72 u73 u74 u75 u76 u77 u78 u79 u80 u81 u82 u83 u84 u85 u86 u87 u88 u89 u90 u91 u92 u93 u94 u95 u96 u97 u98 u99 u100 u101 u102 u103 u104 u105 u106 u107 u108 : Value) {w0 u w : World} {D g g8 g9 b : Nat} {oo : Oo} {lv : Value} {L : List UInt8} {x y : Tr} {kx ky : Value} {k1 : Int} {o1 : ByteArray} {a1 b1 : Int} {s1 v1 f1 : ByteArray} {A1 : Option Addr} {n1 c1 : Nat} {k2 : Int} {o2 : ByteArray} {a2 b2 : Int} {s2 v2 f2 : ByteArray} {A2 : Option Addr} {n2 c2 : Nat} (hK : KN w0 g oo lv L u w) (h2 : Two8 w g8 g9 #[.int .i64 k1, .string o1, .int .i64 a1, .int .i64 b1, .string s1, .string v1, .string f1, .slice A1 n1 c1] #[.int .i64 k2, .string o2, .int .i64 a2, .int .i64 b2, .string s2, .string v2, .string f2, .slice A2 n2 c2]) (h8 : g8 ≠ u.heap.size + 1) (h9 : g9 ≠ u.heap.size + 1) (hx : TrF (u.heap.size + 1 + 1) w x kx) (hy : TrF (u.heap.size + 1 + 1) w y ky) (ho : x.ok = true) (hs : x.smd D) (ho' : y.ok = true) (hs' : y.smd D) (hnx : x.node kx = (k1, o1, a1, b1, s1, v1, f1, .slice A1 n1 c1)) (hny : y.node ky = (k2, o2, a2, b2, s2, v2, f2, .slice A2 n2 c2)) (hb255 : b ≤ 255) {Q : Exit → Act → World → Prop}
    (hQ : ∀ (x73 x74 x75 x76 x77 x78 x79 x80 x81 x82 : Value)  (wx : World), Fin (D + 1) w0 g oo lv L u wx → Q .normal ⟨#[u0, u1, u2, u3, u4, u5, .pointer (some ⟨u.heap.size + 1, 0, none⟩), .int .i64 (b : Nat), u8, .pointer (some ⟨g8, 0, none⟩), .pointer (some ⟨g9, 0, none⟩), u11, u12, u13, u14, u15, u16, u17, u18, u19, u20, u21, u22, u23, u24, u25, u26, u27, u28, u29, u30, u31, u32, u33, u34, u35, u36, u37, u38, u39, u40, u41, u42, u43, u44, u45, u46, u47, u48, u49, u50, u51, u52, u53, u54, u55, u56, u57, u58, u59, u60, u61, u62, u63, u64, u65, u66, u67, u68, u69, u70, u71, u72, x73, x74, x75, x76, x77, x78, x79, x80, x81, x82, u83, u84, u85, u86, u87, u88, u89, u90, u91, u92, u93, u94, u95, u96, u97, u98, u99, u100, u101, u102, u103, u104, u105, u106, u107, u108], []⟩ wx) :
    Code.wp Tryd.prog ((Tryd.f31.body.bind (regionN 12)).getD .skip) Q ⟨#[u0, u1, u2, u3, u4, u5, .pointer (some ⟨u.heap.size + 1, 0, none⟩), .int .i64 (b : Nat), u8, .pointer (some ⟨g8, 0, none⟩), .pointer (some ⟨g9, 0, none⟩), u11, u12, u13, u14, u15, u16, u17, u18, u19, u20, u21, u22, u23, u24, u25, u26, u27, u28, u29, u30, u31, u32, u33, u34, u35, u36, u37, u38, u39, u40, u41, u42, u43, u44, u45, u46, u47, u48, u49, u50, u51, u52, u53, u54, u55, u56, u57, u58, u59, u60, u61, u62, u63, u64, u65, u66, u67, u68, u69, u70, u71, u72, u73, u74, u75, u76, u77, u78, u79, u80, u81, u82, u83, u84, u85, u86, u87, u88, u89, u90, u91, u92, u93, u94, u95, u96, u97, u98, u99, u100, u101, u102, u103, u104, u105, u106, u107, u108], []⟩ w := by
  have HQ := Lib.hid hQ; clear hQ
  conv => arg 2; whnf
  have ea := bt (ba w (.cells #[.string ⟨#[38, 38]⟩, .string ⟨#[124, 124]⟩] 9)) (ba _ (.cells #[.int .i64 k1, .string o1, .int .i64 a1, .int .i64 b1, .string s1, .string v1, .string f1, .slice A1 n1 c1, .int .i64 k2, .string o2, .int .i64 a2, .int .i64 b2, .string s2, .string v2, .string f2, .slice A2 n2 c2] 42))
  have eb := bt (ba w (.cells #[.int .i64 k1, .string o1, .int .i64 a1, .int .i64 b1, .string s1, .string v1, .string f1, .slice A1 n1 c1, .int .i64 k2, .string o2, .int .i64 a2, .int .i64 b2, .string s2, .string v2, .string f2, .slice A2 n2 c2] 42)) (ba _ (.cells #[.string ⟨#[38, 38]⟩, .string ⟨#[124, 124]⟩] 9))
  have na : Blk ((w.alloc (.cells #[.string ⟨#[38, 38]⟩, .string ⟨#[124, 124]⟩] 9)).alloc (.cells #[.int .i64 k1, .string o1, .int .i64 a1, .int .i64 b1, .string s1, .string v1, .string f1, .slice A1 n1 c1, .int .i64 k2, .string o2, .int .i64 a2, .int .i64 b2, .string s2, .string v2, .string f2, .slice A2 n2 c2] 42)) (w.heap.size + 1) 42 #[.int .i64 k1, .string o1, .int .i64 a1, .int .i64 b1, .string s1, .string v1, .string f1, .slice A1 n1 c1, .int .i64 k2, .string o2, .int .i64 a2, .int .i64 b2, .string s2, .string v2, .string f2, .slice A2 n2 c2] := by have := Blk.new (w.alloc (.cells #[.string ⟨#[38, 38]⟩, .string ⟨#[124, 124]⟩] 9)) 42 #[.int .i64 k1, .string o1, .int .i64 a1, .int .i64 b1, .string s1, .string v1, .string f1, .slice A1 n1 c1, .int .i64 k2, .string o2, .int .i64 a2, .int .i64 b2, .string s2, .string v2, .string f2, .slice A2 n2 c2]; simpa using this
  have nb : Blk ((w.alloc (.cells #[.int .i64 k1, .string o1, .int .i64 a1, .int .i64 b1, .string s1, .string v1, .string f1, .slice A1 n1 c1, .int .i64 k2, .string o2, .int .i64 a2, .int .i64 b2, .string s2, .string v2, .string f2, .slice A2 n2 c2] 42)).alloc (.cells #[.string ⟨#[38, 38]⟩, .string ⟨#[124, 124]⟩] 9)) w.heap.size 42 #[.int .i64 k1, .string o1, .int .i64 a1, .int .i64 b1, .string s1, .string v1, .string f1, .slice A1 n1 c1, .int .i64 k2, .string o2, .int .i64 a2, .int .i64 b2, .string s2, .string v2, .string f2, .slice A2 n2 c2] := (Blk.new w _ _).alloc _
  have hl := hK.lt2
  have KA := hK.step ea
  have KB := hK.step eb
  obtain ⟨_, q1, q2⟩ := KA.facts
  obtain ⟨_, r1, r2⟩ := KB.facts
  have fa : ∀ op, 0 < lvl op → Fin (D + 1) w0 g oo lv L u (set8 ((w.alloc (.cells #[.string ⟨#[38, 38]⟩, .string ⟨#[124, 124]⟩] 9)).alloc (.cells #[.int .i64 k1, .string o1, .int .i64 a1, .int .i64 b1, .string s1, .string v1, .string f1, .slice A1 n1 c1, .int .i64 k2, .string o2, .int .i64 a2, .int .i64 b2, .string s2, .string v2, .string f2, .slice A2 n2 c2] 42)) (u.heap.size + 1) (.int .i64 4) (.string op) (.int .i64 0) (.int .i64 0) (.string e0) (.string e0) (.string e0) (.slice (some ⟨w.heap.size + 1, 0, none⟩) 2 2)) := fun op hop => Fin.mk KA hop (by omega) (hx.later ea) (hy.later ea) ho hs ho' hs' (by rw [hnx, hny]; exact na)
  have fb : ∀ op, 0 < lvl op → Fin (D + 1) w0 g oo lv L u (set8 ((w.alloc (.cells #[.int .i64 k1, .string o1, .int .i64 a1, .int .i64 b1, .string s1, .string v1, .string f1, .slice A1 n1 c1, .int .i64 k2, .string o2, .int .i64 a2, .int .i64 b2, .string s2, .string v2, .string f2, .slice A2 n2 c2] 42)).alloc (.cells #[.string ⟨#[38, 38]⟩, .string ⟨#[124, 124]⟩] 9)) (u.heap.size + 1) (.int .i64 4) (.string op) (.int .i64 0) (.int .i64 0) (.string e0) (.string e0) (.string e0) (.slice (some ⟨w.heap.size, 0, none⟩) 2 2)) := fun op hop => Fin.mk KB hop (by omega) (hx.later eb) (hy.later eb) ho hs ho' hs' (by rw [hnx, hny]; exact nb)
  have t0 := h2.dr.held
  have ta := (h2.al (.cells #[.string ⟨#[38, 38]⟩, .string ⟨#[124, 124]⟩] 9)).dr.held
  have tb := (h2.al (.cells #[.int .i64 k1, .string o1, .int .i64 a1, .int .i64 b1, .string s1, .string v1, .string f1, .slice A1 n1 c1, .int .i64 k2, .string o2, .int .i64 a2, .int .i64 b2, .string s2, .string v2, .string f2, .slice A2 n2 c2] 42)).dr.held
  have tab := ((h2.al (.cells #[.string ⟨#[38, 38]⟩, .string ⟨#[124, 124]⟩] 9)).al (.cells #[.int .i64 k1, .string o1, .int .i64 a1, .int .i64 b1, .string s1, .string v1, .string f1, .slice A1 n1 c1, .int .i64 k2, .string o2, .int .i64 a2, .int .i64 b2, .string s2, .string v2, .string f2, .slice A2 n2 c2] 42)).dr.held
  have tba := ((h2.al (.cells #[.int .i64 k1, .string o1, .int .i64 a1, .int .i64 b1, .string s1, .string v1, .string f1, .slice A1 n1 c1, .int .i64 k2, .string o2, .int .i64 a2, .int .i64 b2, .string s2, .string v2, .string f2, .slice A2 n2 c2] 42)).al (.cells #[.string ⟨#[38, 38]⟩, .string ⟨#[124, 124]⟩] 9)).dr.held
  have tsa := fun op => (((h2.al (.cells #[.string ⟨#[38, 38]⟩, .string ⟨#[124, 124]⟩] 9)).al (.cells #[.int .i64 k1, .string o1, .int .i64 a1, .int .i64 b1, .string s1, .string v1, .string f1, .slice A1 n1 c1, .int .i64 k2, .string o2, .int .i64 a2, .int .i64 b2, .string s2, .string v2, .string f2, .slice A2 n2 c2] 42)).set_ h8 h9 (.int .i64 4) (.string op) (.int .i64 0) (.int .i64 0) (.string e0) (.string e0) (.string e0) (.slice (some ⟨w.heap.size + 1, 0, none⟩) 2 2)).dr.held
  have tsb := fun op => (((h2.al (.cells #[.int .i64 k1, .string o1, .int .i64 a1, .int .i64 b1, .string s1, .string v1, .string f1, .slice A1 n1 c1, .int .i64 k2, .string o2, .int .i64 a2, .int .i64 b2, .string s2, .string v2, .string f2, .slice A2 n2 c2] 42)).al (.cells #[.string ⟨#[38, 38]⟩, .string ⟨#[124, 124]⟩] 9)).set_ h8 h9 (.int .i64 4) (.string op) (.int .i64 0) (.int .i64 0) (.string e0) (.string e0) (.string e0) (.slice (some ⟨w.heap.size, 0, none⟩) 2 2)).dr.held
  have T3 := Lib.hid (And.intro t0 (And.intro ta (And.intro tb (And.intro tab (And.intro tba (And.intro tsa tsb))))))
  have T2 := Lib.hid (And.intro fa fb); clear h2 fa fb na nb ea eb KA KB hK hx hy ho hs ho' hs' hnx hny t0 ta tb tab tba tsa tsb
  rcases (by omega : (b : Int) / 16 % 2 = 0 ∨ (b : Int) / 16 % 2 = 1) with hqe | hqe
  · have hqf : (IntKind.i64.wrap ((b : Int) / 16)).tmod 2 = (b : Int) / 16 % 2 := by rw [IntWalk.i64_in _ (by omega), Int.tmod_eq_emod_of_nonneg (by omega)]
    rw [hqe] at hqf
    go_wp2_with fail
    refine wp_region_noPanic ?_
    refine wp_region_held_drew (S := (fun w' => (∀ j, w'.cell? ⟨g8, j, none⟩ = #[Value.int .i64 k1, .string o1, .int .i64 a1, .int .i64 b1, .string s1, .string v1, .string f1, .slice A1 n1 c1][j]?) ∧ (∀ j, w'.cell? ⟨g9, j, none⟩ = #[Value.int .i64 k2, .string o2, .int .i64 a2, .int .i64 b2, .string s2, .string v2, .string f2, .slice A2 n2 c2][j]?))) (by kernel_rfl) T3.out.1 (fun hHeld => ?_)
    refine wpAnyH_take (i := 1) (v := ?_) rfl (by kernel_rfl) (by kernel_rfl) (by kernel_rfl) (fun _ _ _ h => h) (Or.inl ⟨by rfl, ?_⟩) (by assumption) ?_
    rotate_left
    · (intro w hSw; (try dsimp only at hSw); go_simp; try with_reducible rfl)
    try simp only [Act.put, List.setIfInBounds_toArray, List.set_cons_zero, List.set_cons_succ]
    refine wpAnyH_take (i := 2) (v := ?_) rfl (by kernel_rfl) (by kernel_rfl) (by kernel_rfl) (fun _ _ _ h => h) (Or.inl ⟨by rfl, ?_⟩) (by assumption) ?_
    rotate_left
    · (intro w hSw; (try dsimp only at hSw); go_simp; try with_reducible rfl)
    try simp only [Act.put, List.setIfInBounds_toArray, List.set_cons_zero, List.set_cons_succ]
    refine wpAnyH_take (i := 3) (v := ?_) rfl (by kernel_rfl) (by kernel_rfl) (by kernel_rfl) (fun _ _ _ h => h) (Or.inl ⟨by rfl, ?_⟩) (by assumption) ?_
    rotate_left
    · (intro w hSw; (try dsimp only at hSw); go_simp; try with_reducible rfl)
    try simp only [Act.put, List.setIfInBounds_toArray, List.set_cons_zero, List.set_cons_succ]
    refine wpAnyH_take (i := 6) (v := ?_) rfl (by kernel_rfl) (by kernel_rfl) (by kernel_rfl) (fun _ _ _ h => h) (Or.inl ⟨by rfl, ?_⟩) (by assumption) ?_
    rotate_left
    · (intro w hSw; (try dsimp only at hSw); go_simp; try with_reducible rfl)
    try simp only [Act.put, List.setIfInBounds_toArray, List.set_cons_zero, List.set_cons_succ]
    refine wpAnyH_take (i := 7) (v := ?_) rfl (by kernel_rfl) (by kernel_rfl) (by kernel_rfl) (fun _ _ _ h => h) (Or.inl ⟨by rfl, ?_⟩) (by assumption) ?_
    rotate_left
    · (intro w hSw; (try dsimp only at hSw); go_simp; try with_reducible rfl)
    try simp only [Act.put, List.setIfInBounds_toArray, List.set_cons_zero, List.set_cons_succ]
    refine wpAnyH_ready (rs := [0, 8]) (by kernel_rfl) (by simp) ?_
    refine AllReadyH.cons rfl (fun K' hK => ?_) ?_
    · go_simp
      refine hK.out _ _ ?_ (fun hHeld2 => ?_)
      · first | with_reducible exact T3.out.1 | with_reducible exact T3.out.2.1 | with_reducible exact T3.out.2.2.1 | with_reducible exact T3.out.2.2.2.1 | with_reducible exact T3.out.2.2.2.2.1 | with_reducible exact T3.out.2.2.2.2.2.1 _ | with_reducible exact T3.out.2.2.2.2.2.2 _
      clear hK K' hHeld
      have hHeld := hHeld2
      clear hHeld2
      try simp only [Act.put, List.setIfInBounds_toArray, List.set_cons_zero, List.set_cons_succ]
      refine wpAnyH_take (i := 4) (v := ?_) rfl (by kernel_rfl) (by kernel_rfl) (by kernel_rfl) (fun _ _ _ h => h) (Or.inl ⟨by rfl, ?_⟩) (by assumption) ?_
      rotate_left
      · (intro w hSw; (try dsimp only at hSw); go_simp; try with_reducible rfl)
      try simp only [Act.put, List.setIfInBounds_toArray, List.set_cons_zero, List.set_cons_succ]
      refine wpAnyH_ready (rs := [5, 8]) (by kernel_rfl) (by simp) ?_
      refine AllReadyH.cons rfl (fun K' hK => ?_) ?_
      · go_simp
        refine hK.out _ _ ?_ (fun hHeld2 => ?_)
        · first | with_reducible exact T3.out.1 | with_reducible exact T3.out.2.1 | with_reducible exact T3.out.2.2.1 | with_reducible exact T3.out.2.2.2.1 | with_reducible exact T3.out.2.2.2.2.1 | with_reducible exact T3.out.2.2.2.2.2.1 _ | with_reducible exact T3.out.2.2.2.2.2.2 _
        clear hK K' hHeld
        have hHeld := hHeld2
        clear hHeld2
        try simp only [Act.put, List.setIfInBounds_toArray, List.set_cons_zero, List.set_cons_succ]
        refine wpAnyH_ready (rs := [8]) (by kernel_rfl) (by simp) ?_
        refine AllReadyH.cons rfl (fun K' hK => ?_) ?_
        · go_simp
          refine hK.out _ _ ?_ (fun hHeld2 => ?_)
          · first | with_reducible exact T3.out.1 | with_reducible exact T3.out.2.1 | with_reducible exact T3.out.2.2.1 | with_reducible exact T3.out.2.2.2.1 | with_reducible exact T3.out.2.2.2.2.1 | with_reducible exact T3.out.2.2.2.2.2.1 _ | with_reducible exact T3.out.2.2.2.2.2.2 _
          clear hK K' hHeld
          have hHeld := hHeld2
          clear hHeld2
          try simp only [Act.put, List.setIfInBounds_toArray, List.set_cons_zero, List.set_cons_succ]
          refine wpAnyH_take (i := 9) (v := ?_) rfl (by kernel_rfl) (by kernel_rfl) (by kernel_rfl) (fun _ _ _ h => h) (Or.inl ⟨by rfl, ?_⟩) (by assumption) ?_
          rotate_left
          · (intro w hSw; (try dsimp only at hSw); go_simp; try with_reducible rfl)
          try simp only [Act.put, List.setIfInBounds_toArray, List.set_cons_zero, List.set_cons_succ]
          refine wpAnyH_ready (rs := [10]) (by kernel_rfl) (by simp) ?_
          refine AllReadyH.cons rfl (fun K' hK => ?_) ?_
          · go_simp
            refine hK.out _ _ ?_ (fun hHeld2 => ?_)
            · first | with_reducible exact T3.out.1 | with_reducible exact T3.out.2.1 | with_reducible exact T3.out.2.2.1 | with_reducible exact T3.out.2.2.2.1 | with_reducible exact T3.out.2.2.2.2.1 | with_reducible exact T3.out.2.2.2.2.2.1 _ | with_reducible exact T3.out.2.2.2.2.2.2 _
            clear hK K' hHeld
            have hHeld := hHeld2
            clear hHeld2
            try simp only [Act.put, List.setIfInBounds_toArray, List.set_cons_zero, List.set_cons_succ]
            refine wpAnyH_done (by kernel_rfl) ?_ _
            have hfin := fin_dr (T2.out.1 ⟨#[38, 38]⟩ (of_decide_eq_true (by kernel_rfl)))
            exact NoPanic.normal (HQ.out _ _ _ _ _ _ _ _ _ _ _ hfin)
          exact AllReadyH.nil
        exact AllReadyH.nil
      refine AllReadyH.cons rfl (fun K' hK => ?_) ?_
      · go_simp
        refine hK.out _ _ ?_ (fun hHeld2 => ?_)
        · first | with_reducible exact T3.out.1 | with_reducible exact T3.out.2.1 | with_reducible exact T3.out.2.2.1 | with_reducible exact T3.out.2.2.2.1 | with_reducible exact T3.out.2.2.2.2.1 | with_reducible exact T3.out.2.2.2.2.2.1 _ | with_reducible exact T3.out.2.2.2.2.2.2 _
        clear hK K' hHeld
        have hHeld := hHeld2
        clear hHeld2
        try simp only [Act.put, List.setIfInBounds_toArray, List.set_cons_zero, List.set_cons_succ]
        refine wpAnyH_ready (rs := [5]) (by kernel_rfl) (by simp) ?_
        refine AllReadyH.cons rfl (fun K' hK => ?_) ?_
        · go_simp
          refine hK.out _ _ ?_ (fun hHeld2 => ?_)
          · first | with_reducible exact T3.out.1 | with_reducible exact T3.out.2.1 | with_reducible exact T3.out.2.2.1 | with_reducible exact T3.out.2.2.2.1 | with_reducible exact T3.out.2.2.2.2.1 | with_reducible exact T3.out.2.2.2.2.2.1 _ | with_reducible exact T3.out.2.2.2.2.2.2 _
          clear hK K' hHeld
          have hHeld := hHeld2
          clear hHeld2
          try simp only [Act.put, List.setIfInBounds_toArray, List.set_cons_zero, List.set_cons_succ]
          refine wpAnyH_take (i := 9) (v := ?_) rfl (by kernel_rfl) (by kernel_rfl) (by kernel_rfl) (fun _ _ _ h => h) (Or.inl ⟨by rfl, ?_⟩) (by assumption) ?_
          rotate_left
          · (intro w hSw; (try dsimp only at hSw); go_simp; try with_reducible rfl)
          try simp only [Act.put, List.setIfInBounds_toArray, List.set_cons_zero, List.set_cons_succ]
          refine wpAnyH_ready (rs := [10]) (by kernel_rfl) (by simp) ?_
          refine AllReadyH.cons rfl (fun K' hK => ?_) ?_
          · go_simp
            refine hK.out _ _ ?_ (fun hHeld2 => ?_)
            · first | with_reducible exact T3.out.1 | with_reducible exact T3.out.2.1 | with_reducible exact T3.out.2.2.1 | with_reducible exact T3.out.2.2.2.1 | with_reducible exact T3.out.2.2.2.2.1 | with_reducible exact T3.out.2.2.2.2.2.1 _ | with_reducible exact T3.out.2.2.2.2.2.2 _
            clear hK K' hHeld
            have hHeld := hHeld2
            clear hHeld2
            try simp only [Act.put, List.setIfInBounds_toArray, List.set_cons_zero, List.set_cons_succ]
            refine wpAnyH_done (by kernel_rfl) ?_ _
            have hfin := fin_dr (T2.out.1 ⟨#[38, 38]⟩ (of_decide_eq_true (by kernel_rfl)))
            exact NoPanic.normal (HQ.out _ _ _ _ _ _ _ _ _ _ _ hfin)
          exact AllReadyH.nil
        exact AllReadyH.nil
      exact AllReadyH.nil
    refine AllReadyH.cons rfl (fun K' hK => ?_) ?_
    · go_simp
      refine hK.out _ _ ?_ (fun hHeld2 => ?_)
      · first | with_reducible exact T3.out.1 | with_reducible exact T3.out.2.1 | with_reducible exact T3.out.2.2.1 | with_reducible exact T3.out.2.2.2.1 | with_reducible exact T3.out.2.2.2.2.1 | with_reducible exact T3.out.2.2.2.2.2.1 _ | with_reducible exact T3.out.2.2.2.2.2.2 _
      clear hK K' hHeld
      have hHeld := hHeld2
      clear hHeld2
      try simp only [Act.put, List.setIfInBounds_toArray, List.set_cons_zero, List.set_cons_succ]
      refine wpAnyH_ready (rs := [0]) (by kernel_rfl) (by simp) ?_
      refine AllReadyH.cons rfl (fun K' hK => ?_) ?_
      · go_simp
        refine hK.out _ _ ?_ (fun hHeld2 => ?_)
        · first | with_reducible exact T3.out.1 | with_reducible exact T3.out.2.1 | with_reducible exact T3.out.2.2.1 | with_reducible exact T3.out.2.2.2.1 | with_reducible exact T3.out.2.2.2.2.1 | with_reducible exact T3.out.2.2.2.2.2.1 _ | with_reducible exact T3.out.2.2.2.2.2.2 _
        clear hK K' hHeld
        have hHeld := hHeld2
        clear hHeld2
        try simp only [Act.put, List.setIfInBounds_toArray, List.set_cons_zero, List.set_cons_succ]
        refine wpAnyH_take (i := 4) (v := ?_) rfl (by kernel_rfl) (by kernel_rfl) (by kernel_rfl) (fun _ _ _ h => h) (Or.inl ⟨by rfl, ?_⟩) (by assumption) ?_
        rotate_left
        · (intro w hSw; (try dsimp only at hSw); go_simp; try with_reducible rfl)
        try simp only [Act.put, List.setIfInBounds_toArray, List.set_cons_zero, List.set_cons_succ]
        refine wpAnyH_ready (rs := [5]) (by kernel_rfl) (by simp) ?_
        refine AllReadyH.cons rfl (fun K' hK => ?_) ?_
        · go_simp
          refine hK.out _ _ ?_ (fun hHeld2 => ?_)
          · first | with_reducible exact T3.out.1 | with_reducible exact T3.out.2.1 | with_reducible exact T3.out.2.2.1 | with_reducible exact T3.out.2.2.2.1 | with_reducible exact T3.out.2.2.2.2.1 | with_reducible exact T3.out.2.2.2.2.2.1 _ | with_reducible exact T3.out.2.2.2.2.2.2 _
          clear hK K' hHeld
          have hHeld := hHeld2
          clear hHeld2
          try simp only [Act.put, List.setIfInBounds_toArray, List.set_cons_zero, List.set_cons_succ]
          refine wpAnyH_take (i := 9) (v := ?_) rfl (by kernel_rfl) (by kernel_rfl) (by kernel_rfl) (fun _ _ _ h => h) (Or.inl ⟨by rfl, ?_⟩) (by assumption) ?_
          rotate_left
          · (intro w hSw; (try dsimp only at hSw); go_simp; try with_reducible rfl)
          try simp only [Act.put, List.setIfInBounds_toArray, List.set_cons_zero, List.set_cons_succ]
          refine wpAnyH_ready (rs := [10]) (by kernel_rfl) (by simp) ?_
          refine AllReadyH.cons rfl (fun K' hK => ?_) ?_
          · go_simp
            refine hK.out _ _ ?_ (fun hHeld2 => ?_)
            · first | with_reducible exact T3.out.1 | with_reducible exact T3.out.2.1 | with_reducible exact T3.out.2.2.1 | with_reducible exact T3.out.2.2.2.1 | with_reducible exact T3.out.2.2.2.2.1 | with_reducible exact T3.out.2.2.2.2.2.1 _ | with_reducible exact T3.out.2.2.2.2.2.2 _
            clear hK K' hHeld
            have hHeld := hHeld2
            clear hHeld2
            try simp only [Act.put, List.setIfInBounds_toArray, List.set_cons_zero, List.set_cons_succ]
            refine wpAnyH_done (by kernel_rfl) ?_ _
            have hfin := fin_dr (T2.out.2 ⟨#[38, 38]⟩ (of_decide_eq_true (by kernel_rfl)))
            exact NoPanic.normal (HQ.out _ _ _ _ _ _ _ _ _ _ _ hfin)
          exact AllReadyH.nil
        exact AllReadyH.nil
      exact AllReadyH.nil
    exact AllReadyH.nil
  · have hqf : (IntKind.i64.wrap ((b : Int) / 16)).tmod 2 = (b : Int) / 16 % 2 := by rw [IntWalk.i64_in _ (by omega), Int.tmod_eq_emod_of_nonneg (by omega)]
    rw [hqe] at hqf
    go_wp2_with fail
    refine wp_region_noPanic ?_
    refine wp_region_held_drew (S := (fun w' => (∀ j, w'.cell? ⟨g8, j, none⟩ = #[Value.int .i64 k1, .string o1, .int .i64 a1, .int .i64 b1, .string s1, .string v1, .string f1, .slice A1 n1 c1][j]?) ∧ (∀ j, w'.cell? ⟨g9, j, none⟩ = #[Value.int .i64 k2, .string o2, .int .i64 a2, .int .i64 b2, .string s2, .string v2, .string f2, .slice A2 n2 c2][j]?))) (by kernel_rfl) T3.out.1 (fun hHeld => ?_)
    refine wpAnyH_take (i := 1) (v := ?_) rfl (by kernel_rfl) (by kernel_rfl) (by kernel_rfl) (fun _ _ _ h => h) (Or.inl ⟨by rfl, ?_⟩) (by assumption) ?_
    rotate_left
    · (intro w hSw; (try dsimp only at hSw); go_simp; try with_reducible rfl)
    try simp only [Act.put, List.setIfInBounds_toArray, List.set_cons_zero, List.set_cons_succ]
    refine wpAnyH_take (i := 2) (v := ?_) rfl (by kernel_rfl) (by kernel_rfl) (by kernel_rfl) (fun _ _ _ h => h) (Or.inl ⟨by rfl, ?_⟩) (by assumption) ?_
    rotate_left
    · (intro w hSw; (try dsimp only at hSw); go_simp; try with_reducible rfl)
    try simp only [Act.put, List.setIfInBounds_toArray, List.set_cons_zero, List.set_cons_succ]
    refine wpAnyH_take (i := 3) (v := ?_) rfl (by kernel_rfl) (by kernel_rfl) (by kernel_rfl) (fun _ _ _ h => h) (Or.inl ⟨by rfl, ?_⟩) (by assumption) ?_
    rotate_left
    · (intro w hSw; (try dsimp only at hSw); go_simp; try with_reducible rfl)
    try simp only [Act.put, List.setIfInBounds_toArray, List.set_cons_zero, List.set_cons_succ]
    refine wpAnyH_take (i := 6) (v := ?_) rfl (by kernel_rfl) (by kernel_rfl) (by kernel_rfl) (fun _ _ _ h => h) (Or.inl ⟨by rfl, ?_⟩) (by assumption) ?_
    rotate_left
    · (intro w hSw; (try dsimp only at hSw); go_simp; try with_reducible rfl)
    try simp only [Act.put, List.setIfInBounds_toArray, List.set_cons_zero, List.set_cons_succ]
    refine wpAnyH_take (i := 7) (v := ?_) rfl (by kernel_rfl) (by kernel_rfl) (by kernel_rfl) (fun _ _ _ h => h) (Or.inl ⟨by rfl, ?_⟩) (by assumption) ?_
    rotate_left
    · (intro w hSw; (try dsimp only at hSw); go_simp; try with_reducible rfl)
    try simp only [Act.put, List.setIfInBounds_toArray, List.set_cons_zero, List.set_cons_succ]
    refine wpAnyH_ready (rs := [0, 8]) (by kernel_rfl) (by simp) ?_
    refine AllReadyH.cons rfl (fun K' hK => ?_) ?_
    · go_simp
      refine hK.out _ _ ?_ (fun hHeld2 => ?_)
      · first | with_reducible exact T3.out.1 | with_reducible exact T3.out.2.1 | with_reducible exact T3.out.2.2.1 | with_reducible exact T3.out.2.2.2.1 | with_reducible exact T3.out.2.2.2.2.1 | with_reducible exact T3.out.2.2.2.2.2.1 _ | with_reducible exact T3.out.2.2.2.2.2.2 _
      clear hK K' hHeld
      have hHeld := hHeld2
      clear hHeld2
      try simp only [Act.put, List.setIfInBounds_toArray, List.set_cons_zero, List.set_cons_succ]
      refine wpAnyH_take (i := 4) (v := ?_) rfl (by kernel_rfl) (by kernel_rfl) (by kernel_rfl) (fun _ _ _ h => h) (Or.inl ⟨by rfl, ?_⟩) (by assumption) ?_
      rotate_left
      · (intro w hSw; (try dsimp only at hSw); go_simp; try with_reducible rfl)
      try simp only [Act.put, List.setIfInBounds_toArray, List.set_cons_zero, List.set_cons_succ]
      refine wpAnyH_ready (rs := [5, 8]) (by kernel_rfl) (by simp) ?_
      refine AllReadyH.cons rfl (fun K' hK => ?_) ?_
      · go_simp
        refine hK.out _ _ ?_ (fun hHeld2 => ?_)
        · first | with_reducible exact T3.out.1 | with_reducible exact T3.out.2.1 | with_reducible exact T3.out.2.2.1 | with_reducible exact T3.out.2.2.2.1 | with_reducible exact T3.out.2.2.2.2.1 | with_reducible exact T3.out.2.2.2.2.2.1 _ | with_reducible exact T3.out.2.2.2.2.2.2 _
        clear hK K' hHeld
        have hHeld := hHeld2
        clear hHeld2
        try simp only [Act.put, List.setIfInBounds_toArray, List.set_cons_zero, List.set_cons_succ]
        refine wpAnyH_ready (rs := [8]) (by kernel_rfl) (by simp) ?_
        refine AllReadyH.cons rfl (fun K' hK => ?_) ?_
        · go_simp
          refine hK.out _ _ ?_ (fun hHeld2 => ?_)
          · first | with_reducible exact T3.out.1 | with_reducible exact T3.out.2.1 | with_reducible exact T3.out.2.2.1 | with_reducible exact T3.out.2.2.2.1 | with_reducible exact T3.out.2.2.2.2.1 | with_reducible exact T3.out.2.2.2.2.2.1 _ | with_reducible exact T3.out.2.2.2.2.2.2 _
          clear hK K' hHeld
          have hHeld := hHeld2
          clear hHeld2
          try simp only [Act.put, List.setIfInBounds_toArray, List.set_cons_zero, List.set_cons_succ]
          refine wpAnyH_take (i := 9) (v := ?_) rfl (by kernel_rfl) (by kernel_rfl) (by kernel_rfl) (fun _ _ _ h => h) (Or.inl ⟨by rfl, ?_⟩) (by assumption) ?_
          rotate_left
          · (intro w hSw; (try dsimp only at hSw); go_simp; try with_reducible rfl)
          try simp only [Act.put, List.setIfInBounds_toArray, List.set_cons_zero, List.set_cons_succ]
          refine wpAnyH_ready (rs := [10]) (by kernel_rfl) (by simp) ?_
          refine AllReadyH.cons rfl (fun K' hK => ?_) ?_
          · go_simp
            refine hK.out _ _ ?_ (fun hHeld2 => ?_)
            · first | with_reducible exact T3.out.1 | with_reducible exact T3.out.2.1 | with_reducible exact T3.out.2.2.1 | with_reducible exact T3.out.2.2.2.1 | with_reducible exact T3.out.2.2.2.2.1 | with_reducible exact T3.out.2.2.2.2.2.1 _ | with_reducible exact T3.out.2.2.2.2.2.2 _
            clear hK K' hHeld
            have hHeld := hHeld2
            clear hHeld2
            try simp only [Act.put, List.setIfInBounds_toArray, List.set_cons_zero, List.set_cons_succ]
            refine wpAnyH_done (by kernel_rfl) ?_ _
            have hfin := fin_dr (T2.out.1 ⟨#[124, 124]⟩ (of_decide_eq_true (by kernel_rfl)))
            exact NoPanic.normal (HQ.out _ _ _ _ _ _ _ _ _ _ _ hfin)
          exact AllReadyH.nil
        exact AllReadyH.nil
      refine AllReadyH.cons rfl (fun K' hK => ?_) ?_
      · go_simp
        refine hK.out _ _ ?_ (fun hHeld2 => ?_)
        · first | with_reducible exact T3.out.1 | with_reducible exact T3.out.2.1 | with_reducible exact T3.out.2.2.1 | with_reducible exact T3.out.2.2.2.1 | with_reducible exact T3.out.2.2.2.2.1 | with_reducible exact T3.out.2.2.2.2.2.1 _ | with_reducible exact T3.out.2.2.2.2.2.2 _
        clear hK K' hHeld
        have hHeld := hHeld2
        clear hHeld2
        try simp only [Act.put, List.setIfInBounds_toArray, List.set_cons_zero, List.set_cons_succ]
        refine wpAnyH_ready (rs := [5]) (by kernel_rfl) (by simp) ?_
        refine AllReadyH.cons rfl (fun K' hK => ?_) ?_
        · go_simp
          refine hK.out _ _ ?_ (fun hHeld2 => ?_)
          · first | with_reducible exact T3.out.1 | with_reducible exact T3.out.2.1 | with_reducible exact T3.out.2.2.1 | with_reducible exact T3.out.2.2.2.1 | with_reducible exact T3.out.2.2.2.2.1 | with_reducible exact T3.out.2.2.2.2.2.1 _ | with_reducible exact T3.out.2.2.2.2.2.2 _
          clear hK K' hHeld
          have hHeld := hHeld2
          clear hHeld2
          try simp only [Act.put, List.setIfInBounds_toArray, List.set_cons_zero, List.set_cons_succ]
          refine wpAnyH_take (i := 9) (v := ?_) rfl (by kernel_rfl) (by kernel_rfl) (by kernel_rfl) (fun _ _ _ h => h) (Or.inl ⟨by rfl, ?_⟩) (by assumption) ?_
          rotate_left
          · (intro w hSw; (try dsimp only at hSw); go_simp; try with_reducible rfl)
          try simp only [Act.put, List.setIfInBounds_toArray, List.set_cons_zero, List.set_cons_succ]
          refine wpAnyH_ready (rs := [10]) (by kernel_rfl) (by simp) ?_
          refine AllReadyH.cons rfl (fun K' hK => ?_) ?_
          · go_simp
            refine hK.out _ _ ?_ (fun hHeld2 => ?_)
            · first | with_reducible exact T3.out.1 | with_reducible exact T3.out.2.1 | with_reducible exact T3.out.2.2.1 | with_reducible exact T3.out.2.2.2.1 | with_reducible exact T3.out.2.2.2.2.1 | with_reducible exact T3.out.2.2.2.2.2.1 _ | with_reducible exact T3.out.2.2.2.2.2.2 _
            clear hK K' hHeld
            have hHeld := hHeld2
            clear hHeld2
            try simp only [Act.put, List.setIfInBounds_toArray, List.set_cons_zero, List.set_cons_succ]
            refine wpAnyH_done (by kernel_rfl) ?_ _
            have hfin := fin_dr (T2.out.1 ⟨#[124, 124]⟩ (of_decide_eq_true (by kernel_rfl)))
            exact NoPanic.normal (HQ.out _ _ _ _ _ _ _ _ _ _ _ hfin)
          exact AllReadyH.nil
        exact AllReadyH.nil
      exact AllReadyH.nil
    refine AllReadyH.cons rfl (fun K' hK => ?_) ?_
    · go_simp
      refine hK.out _ _ ?_ (fun hHeld2 => ?_)
      · first | with_reducible exact T3.out.1 | with_reducible exact T3.out.2.1 | with_reducible exact T3.out.2.2.1 | with_reducible exact T3.out.2.2.2.1 | with_reducible exact T3.out.2.2.2.2.1 | with_reducible exact T3.out.2.2.2.2.2.1 _ | with_reducible exact T3.out.2.2.2.2.2.2 _
      clear hK K' hHeld
      have hHeld := hHeld2
      clear hHeld2
      try simp only [Act.put, List.setIfInBounds_toArray, List.set_cons_zero, List.set_cons_succ]
      refine wpAnyH_ready (rs := [0]) (by kernel_rfl) (by simp) ?_
      refine AllReadyH.cons rfl (fun K' hK => ?_) ?_
      · go_simp
        refine hK.out _ _ ?_ (fun hHeld2 => ?_)
        · first | with_reducible exact T3.out.1 | with_reducible exact T3.out.2.1 | with_reducible exact T3.out.2.2.1 | with_reducible exact T3.out.2.2.2.1 | with_reducible exact T3.out.2.2.2.2.1 | with_reducible exact T3.out.2.2.2.2.2.1 _ | with_reducible exact T3.out.2.2.2.2.2.2 _
        clear hK K' hHeld
        have hHeld := hHeld2
        clear hHeld2
        try simp only [Act.put, List.setIfInBounds_toArray, List.set_cons_zero, List.set_cons_succ]
        refine wpAnyH_take (i := 4) (v := ?_) rfl (by kernel_rfl) (by kernel_rfl) (by kernel_rfl) (fun _ _ _ h => h) (Or.inl ⟨by rfl, ?_⟩) (by assumption) ?_
        rotate_left
        · (intro w hSw; (try dsimp only at hSw); go_simp; try with_reducible rfl)
        try simp only [Act.put, List.setIfInBounds_toArray, List.set_cons_zero, List.set_cons_succ]
        refine wpAnyH_ready (rs := [5]) (by kernel_rfl) (by simp) ?_
        refine AllReadyH.cons rfl (fun K' hK => ?_) ?_
        · go_simp
          refine hK.out _ _ ?_ (fun hHeld2 => ?_)
          · first | with_reducible exact T3.out.1 | with_reducible exact T3.out.2.1 | with_reducible exact T3.out.2.2.1 | with_reducible exact T3.out.2.2.2.1 | with_reducible exact T3.out.2.2.2.2.1 | with_reducible exact T3.out.2.2.2.2.2.1 _ | with_reducible exact T3.out.2.2.2.2.2.2 _
          clear hK K' hHeld
          have hHeld := hHeld2
          clear hHeld2
          try simp only [Act.put, List.setIfInBounds_toArray, List.set_cons_zero, List.set_cons_succ]
          refine wpAnyH_take (i := 9) (v := ?_) rfl (by kernel_rfl) (by kernel_rfl) (by kernel_rfl) (fun _ _ _ h => h) (Or.inl ⟨by rfl, ?_⟩) (by assumption) ?_
          rotate_left
          · (intro w hSw; (try dsimp only at hSw); go_simp; try with_reducible rfl)
          try simp only [Act.put, List.setIfInBounds_toArray, List.set_cons_zero, List.set_cons_succ]
          refine wpAnyH_ready (rs := [10]) (by kernel_rfl) (by simp) ?_
          refine AllReadyH.cons rfl (fun K' hK => ?_) ?_
          · go_simp
            refine hK.out _ _ ?_ (fun hHeld2 => ?_)
            · first | with_reducible exact T3.out.1 | with_reducible exact T3.out.2.1 | with_reducible exact T3.out.2.2.1 | with_reducible exact T3.out.2.2.2.1 | with_reducible exact T3.out.2.2.2.2.1 | with_reducible exact T3.out.2.2.2.2.2.1 _ | with_reducible exact T3.out.2.2.2.2.2.2 _
            clear hK K' hHeld
            have hHeld := hHeld2
            clear hHeld2
            try simp only [Act.put, List.setIfInBounds_toArray, List.set_cons_zero, List.set_cons_succ]
            refine wpAnyH_done (by kernel_rfl) ?_ _
            have hfin := fin_dr (T2.out.2 ⟨#[124, 124]⟩ (of_decide_eq_true (by kernel_rfl)))
            exact NoPanic.normal (HQ.out _ _ _ _ _ _ _ _ _ _ _ hfin)
          exact AllReadyH.nil
        exact AllReadyH.nil
      exact AllReadyH.nil
    exact AllReadyH.nil
end Go.Proofs.YtenmbahfgfmjjaaDoor
