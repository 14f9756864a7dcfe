/- Texts of the proof of RingTells, part 26. -/
import Derived.Test.YtbbjlefldpgckaaPRingTells19
import Derived.Test.YtbbjlefldpgckaaPRingTells25
namespace Go.Proofs.Ytbbjlefldpgckaa
open Go.ChangeShapes Go.WideShapes Go.ChangeAt Go.RowKit Go.Maps
open Ev (V3 rightV OkV)
set_option linter.unusedVariables false
set_option linter.unusedSimpArgs false
set_option maxRecDepth 20000

abbrev oneV (n : Int) : List V3 := [(1, n, ⟨#[]⟩)]
def OneP (t n : Int) (w : World) (e : Ending) (w' : World) : Prop := ∃ v, (e = .returned (item false t v) ∧ NewAt w.heap.size w' v (oneV n)) ∧ Below w.heap.size w w'
set_option maxHeartbeats 2000000 in
theorem one_any (t n : Int) (w : World) : Calls Try.prog 16 #[.int .i64 t, .int .i64 n] w (OneP t n w) := by
  go_enter Try.func16, Try.ntmps16
  go_wp2
  have hO : Own ((w.alloc (.cells #[.bool false, .int .i64 t, .slice (some ⟨w.heap.size + 1, 0, none⟩) 1 1] 37)).alloc (.cells #[.int .i64 1, .int .i64 n, .string ⟨#[]⟩] 84)) (w.heap.size + 1) 84 3 row3 (.slice (some ⟨w.heap.size + 1, 0, none⟩) 1 1) (oneV n) :=
    own_lit (g := w.heap.size + 1) (n := 1) (oneV n) (by simp) (Nat.le_refl _) rfl (by decide) rfl rfl
  obtain ⟨z0, z1, z2⟩ := ((Blk.new w 37 #[.bool false, .int .i64 t, .slice (some ⟨w.heap.size + 1, 0, none⟩) 1 1]).alloc (.cells #[.int .i64 1, .int .i64 n, .string ⟨#[]⟩] 84)).three
  refine bodyPost_ret (v := item false t (.slice (some ⟨w.heap.size + 1, 0, none⟩) 1 1)) (by simp only [results, Try.results16]; simp [go_sem, z0, z1, z2]) rfl ?_
  exact ⟨_, ⟨rfl, (show NewAt (w.heap.size + 1) _ _ (oneV n) from hO).weak (Nat.le_succ _)⟩, bt (ba w _) (ba _ _)⟩
abbrev exS (h : List It) (e : Int) (sh : Bool) (r : Rdr) : Rg := ⟨1, h, e, sh, upd (fun _ => none) 1 (some r), 1, 1⟩
structure Ex (g : Nat) (w W : World) (d : Nat) (s : Rg) : Prop where
  kr : Kr (fun k => k = g + 1 ∨ k = g ∨ False) w W d s
  x : Blk W g 37 #[.bool false, .int .i64 3, .slice none 0 0]
  y : Blk W (g + 1) 37 #[.bool false, .int .i64 4, .slice none 0 0]
theorem Ex.go {g : Nat} {w W W' : World} {d : Nat} {s s' : Rg} (h : Ex g w W d s) (hx : RX (fun k => k = g + 1 ∨ k = g ∨ False) W' w.heap.size d s') (hc : Chg w.heap.size W W') (hk : Kx (fun k => k = g + 1 ∨ k = g ∨ False) W W') : Ex g w W' d s' :=
  ⟨h.kr.go hx hc, hk.blk h.x (Or.inr (Or.inl rfl)), hk.blk h.y (Or.inl rfl)⟩
theorem Ex.cells {g : Nat} {w W : World} {d : Nat} {s : Rg} (h : Ex g w W d s) : (W.cell? ⟨g, 0, none⟩ = some (.bool false) ∧ W.cell? ⟨g, 1, none⟩ = some (.int .i64 3) ∧ W.cell? ⟨g, 2, none⟩ = some (.slice none 0 0)) ∧ W.cell? ⟨g + 1, 0, none⟩ = some (.bool false) ∧ W.cell? ⟨g + 1, 1, none⟩ = some (.int .i64 4) ∧ W.cell? ⟨g + 1, 2, none⟩ = some (.slice none 0 0) := ⟨h.x.three, h.y.three⟩
theorem Ex.start {w W : World} {d : Nat} {s : Rg} (h : Kr (fun _ => False) w W d s) : Ex W.heap.size w ((W.alloc (.cells #[.bool false, .int .i64 3, .slice none 0 0] 37)).alloc (.cells #[.bool false, .int .i64 4, .slice none 0 0] 37)) d s := by
  have h1 := h.box (ba W (.cells #[.bool false, .int .i64 3, .slice none 0 0] 37)) (g := W.heap.size) (Nat.le_refl _) (by simp)
  have h2 := h1.box (ba (W.alloc (.cells #[.bool false, .int .i64 3, .slice none 0 0] 37)) (.cells #[.bool false, .int .i64 4, .slice none 0 0] 37)) (g := W.heap.size + 1) (by simp) (by simp)
  have hy := Blk.new (W.alloc (.cells #[.bool false, .int .i64 3, .slice none 0 0] 37)) 37 #[.bool false, .int .i64 4, .slice none 0 0]
  rw [World.size_alloc] at hy
  exact ⟨h2, (Blk.new W _ _).alloc _, hy⟩
structure Ex3 (g p : Nat) (v : Value) (w W : World) (d : Nat) (s : Rg) : Prop where
  kr : Kr (fun k => k = p ∨ k = g + 1 ∨ k = g ∨ False) w W d s
  x : Blk W g 37 #[.bool false, .int .i64 3, .slice none 0 0]
  y : Blk W (g + 1) 37 #[.bool false, .int .i64 4, .slice none 0 0]
  z : Blk W p 37 #[.bool false, .int .i64 3, v]
  n : NewAt 0 W v []
theorem Ex3.go {g p : Nat} {v : Value} {w W W' : World} {d : Nat} {s s' : Rg} (h : Ex3 g p v w W d s) (hx : RX (fun k => k = p ∨ k = g + 1 ∨ k = g ∨ False) W' w.heap.size d s') (hc : Chg w.heap.size W W') (hk : Kx (fun k => k = p ∨ k = g + 1 ∨ k = g ∨ False) W W') : Ex3 g p v w W' d s' :=
  ⟨h.kr.go hx hc, hk.blk h.x (Or.inr (Or.inr (Or.inl rfl))), hk.blk h.y (Or.inr (Or.inl rfl)), hk.blk h.z (Or.inl rfl), h.n.frr hc.frm⟩
theorem Ex3.later {g p : Nat} {v : Value} {w W W' : World} {d : Nat} {s : Rg} (h : Ex3 g p v w W d s) (hb : Below W.heap.size W W') : Ex3 g p v w W' d s :=
  ⟨h.kr.later hb, h.x.later hb, h.y.later hb, h.z.later hb, h.n.later hb⟩
theorem Ex3.start {g : Nat} {v : Value} {w W : World} {d : Nat} {s : Rg} (h : Ex g w W d s) (hn : NewAt 0 W v []) : Ex3 g W.heap.size v w (W.alloc (.cells #[.bool false, .int .i64 3, v] 37)) d s :=
  ⟨h.kr.box (ba W _) (Nat.le_refl _) (by simp), h.x.alloc _, h.y.alloc _, Blk.new W _ _, hn.later (ba W _)⟩
set_option maxHeartbeats 4000000 in
theorem examples_any (w : World) :
    Calls Try.prog 9 #[] w fun e w' => e = .returned (.bool true) ∧ Below w.heap.size w w' := by
  go_enter Try.func9, Try.ntmps9
  go_wp2_with fail
  go_at_call 10
  ((with_reducible refine (New_no _).mono ?_); rintro e w1 ⟨rfl, b1⟩)
  have B1 := Lib.hid b1; clear b1
  go_wp2_with fail
  go_at_call 10
  refine (New_any 1 (by decide) (by decide) _).mono ?_
  rintro e w2 ⟨d, ⟨rfl, hS⟩, b2⟩
  have K2 := Lib.hid (⟨hS.rx, b2⟩ : Kr (fun _ => False) w1 w2 d (g0 1)); clear hS b2
  go_wp2_with fail
  go_at_call 14
  refine (Add_any _ w1.heap.size d (g0 1) w2 K2.out.rx (by decide)).mono ?_
  rintro e w3 ⟨n, s', ⟨rfl, hR, hS⟩, hX, hk⟩
  obtain ⟨rfl, rfl⟩ : n = 1 ∧ s' = exS [] 0 false (0, 0) := by obtain ⟨h1, h2⟩ := hR.yes (by decide); exact ⟨h1, h2⟩
  have K3 := Lib.hid (K2.out.go hS hX); clear hS hX hR hk K2
  go_wp2_with fail
  go_at_call 15
  have K4 := Lib.hid (Ex.start K3.out); clear K3
  refine (Put_any _ w1.heap.size d _ false 3 (.slice none 0 0) [] _ K4.out.kr.rx (At.nil _ _ _) (by simp) (by decide)).mono ?_
  rintro e w5 ⟨c, s', ⟨rfl, hR, hS⟩, hX, hk⟩
  obtain ⟨rfl, rfl⟩ : c = 0 ∧ s' = exS [(false, 3, [])] 4 false (0, 0) := hR.ok rfl rfl (by unfold late; decide) (isLen_one _ _ _) (by decide)
  have K5 := Lib.hid (K4.out.go hS hX hk); clear hS hX hR hk K4
  generalize w3.heap.size = g at *
  obtain ⟨⟨x0, x1, x2⟩, y0, y1, y2⟩ := K5.out.cells
  go_wp2_with fail
  go_at_call 15
  refine (Put_any _ w1.heap.size d _ false 3 (.slice none 0 0) [] _ K5.out.kr.rx (At.nil _ _ _) (by simp) (by decide)).mono ?_
  rintro e w6 ⟨c, s', ⟨rfl, hR, hS⟩, hX, hk⟩
  obtain ⟨rfl, rfl⟩ : c = 8 ∧ s' = exS [(false, 3, [])] 4 false (0, 0) := hR.late rfl rfl (Or.inl (by decide))
  have K6 := Lib.hid (K5.out.go hS hX hk); clear hS hX hR hk K5 x0 x1 x2 y0 y1 y2
  obtain ⟨⟨x0, x1, x2⟩, y0, y1, y2⟩ := K6.out.cells
  go_wp2_with fail
  go_at_call 15
  refine (Put_any _ w1.heap.size d _ false 4 (.slice none 0 0) [] _ K6.out.kr.rx (At.nil _ _ _) (by simp) (by decide)).mono ?_
  rintro e w7 ⟨c, s', ⟨rfl, hR, hS⟩, hX, hk⟩
  obtain ⟨rfl, rfl⟩ : c = 9 ∧ s' = exS [(false, 3, [])] 4 false (0, 0) := hR.full rfl rfl (by unfold late; decide) (isLen_one _ _ _) rfl
  have K7 := Lib.hid (K6.out.go hS hX hk); clear hS hX hR hk K6 x0 x1 x2 y0 y1 y2
  go_wp2_with fail
  go_at_call 17
  refine (Next_any _ w1.heap.size d _ w7 1 ⟨by decide, by decide⟩ K7.out.kr.rx).mono ?_
  rintro e w8 ⟨x, s', v', ⟨he, hR, hN, hS⟩, hX, hk⟩
  obtain ⟨rfl, rfl⟩ : x = some (false, 3, []) ∧ s' = exS [(false, 3, [])] 4 false (1, 4) := by
    obtain ⟨h1, h2⟩ := hR.yes (r := (0, 0)) (y := (false, 3, [])) rfl rfl
    exact ⟨h1, h2.trans (by simp only [upd_upd]; rfl)⟩
  have hN' := (hN _ rfl).weak (Nat.zero_le _)
  obtain ⟨A, c, hv⟩ := hN'.shape
  obtain rfl : v' = .slice A 0 c := hv
  obtain rfl : e = .returned (.tuple #[item false 3 (.slice A 0 c), .bool true]) := he
  have K8 := Lib.hid (And.intro (K7.out.go hS hX hk) hN'); clear hS hX hR hk K7 hN hN'
  obtain ⟨⟨x0, x1, x2⟩, y0, y1, y2⟩ := And.intro (Ex3.start K8.out.1 K8.out.2).x.three (Ex3.start K8.out.1 K8.out.2).y.three
  go_wp2_with fail
  go_at_call 15
  have K9 := Lib.hid (Ex3.start K8.out.1 K8.out.2); clear K8 x0 x1 x2 y0 y1 y2
  refine (Put_any _ w1.heap.size d _ false 4 (.slice none 0 0) [] _ K9.out.kr.rx (At.nil _ _ _) (by simp) (by decide)).mono ?_
  rintro e w10 ⟨c', s', ⟨rfl, hR, hS⟩, hX, hk⟩
  obtain ⟨rfl, rfl⟩ : c' = 0 ∧ s' = exS [(false, 3, []), (false, 4, [])] 5 false (1, 4) := hR.ok rfl rfl (by unfold late; decide) (isLen_one _ _ _) (by decide)
  have K10 := Lib.hid (K9.out.go hS hX hk); clear hS hX hR hk K9
  generalize w8.heap.size = p at *
  go_wp2_with fail
  go_at_call 29
  refine (Close_any _ w1.heap.size d _ w10 K10.out.kr.rx).mono ?_
  rintro e w11 ⟨⟨⟨x11, rfl⟩, hS⟩, hX, hk⟩
  have K11 := Lib.hid (K10.out.go hS hX hk); clear hS hX hk K10
  go_wp2_with fail
  go_at_call 15
  refine (Put_any _ w1.heap.size d _ false 9 (.slice none 0 0) [] _ K11.out.kr.rx (At.nil _ _ _) (by simp) (by decide)).mono ?_
  rintro e w12 ⟨c', s', ⟨rfl, hR, hS⟩, hX, hk⟩
  obtain ⟨rfl, rfl⟩ : c' = 13 ∧ s' = exS [(false, 3, []), (false, 4, [])] 5 true (1, 4) := hR.shut rfl rfl
  have K12 := Lib.hid (K11.out.go hS hX hk); clear hS hX hR hk K11
  obtain ⟨x0, x1, x2⟩ := K12.out.x.three
  obtain ⟨z0, z1, z2⟩ := K12.out.z.three
  go_wp2_with fail
  go_at_call 18
  refine (SameItem_any false 3 (.slice A 0 c) [] false 3 (.slice none 0 0) [] _ K12.out.n.vals (ValsAt.nil _)).mono ?_
  rintro e w13 ⟨he, hb⟩
  obtain rfl : e = .returned (.bool true) := he
  have K13 := Lib.hid (K12.out.later hb); clear hb K12
  go_wp2_with fail
  go_at_call 20
  refine (Edge_any w1.heap.size d _ _ K13.out.kr.rs).mono ?_
  rintro e w14 ⟨he, hb⟩
  obtain rfl : e = .returned (.int .i64 5) := he
  have K14 := Lib.hid (K13.out.later hb); clear hb K13
  go_wp2_with fail
  go_at_call 25
  refine (Low_any w1.heap.size d _ _ 1 ⟨by decide, by decide⟩ K14.out.kr.rs).mono ?_
  rintro e w15 ⟨he, hb⟩
  obtain rfl : e = .returned (.int .i64 4) := he
  have K15 := Lib.hid (K14.out.later hb); clear hb K14
  go_wp2_with fail
  go_at_call 23
  refine (Wait_any w1.heap.size d _ _ 1 ⟨by decide, by decide⟩ K15.out.kr.rs).mono ?_
  rintro e w16 ⟨he, hb⟩
  obtain rfl : e = .returned (.int .i64 1) := he
  have K16 := Lib.hid (K15.out.later hb); clear hb K15
  go_wp2_with fail
  go_at_call 28
  refine (Ended_any w1.heap.size d _ _ 1 ⟨by decide, by decide⟩ K16.out.kr.rs).mono ?_
  rintro e w17 ⟨he, hb⟩
  obtain rfl : e = .returned (.bool false) := he
  have K17 := Lib.hid (K16.out.later hb); clear hb K16
  go_wp2_with fail
  go_at_call 19
  refine (Total_any w1.heap.size d _ _ K17.out.kr.rs).mono ?_
  rintro e w18 ⟨he, hb⟩
  obtain rfl : e = .returned (.int .i64 2) := he
  have K18 := Lib.hid (K17.out.later hb); clear hb K17
  go_wp2_with fail
  go_at_call 30
  refine (Cap_any w1.heap.size d _ _ K18.out.kr.rs).mono ?_
  rintro e w19 ⟨he, hb⟩
  obtain rfl : e = .returned (.int .i64 1) := he
  have K19 := Lib.hid (K18.out.later hb); clear hb K18
  go_wp2_with fail
  go_at_call 21
  refine (Free_any w1.heap.size d _ _ K19.out.kr.rs).mono ?_
  rintro e w20 ⟨q, ⟨he, hq, _⟩, hb⟩
  obtain rfl : q = 1 := hq.one (isLen_one _ _ _)
  obtain rfl : e = .returned (.int .i64 0) := he
  have K20 := Lib.hid (K19.out.later hb); clear hb K19 hq
  go_wp2_with fail
  go_at_call 31
  refine (Closed_any w1.heap.size d _ _ K20.out.kr.rs).mono ?_
  rintro e w21 ⟨he, hb⟩
  obtain rfl : e = .returned (.bool true) := he
  have K21 := Lib.hid (K20.out.later hb); clear hb K20
  go_wp2
  go_ret
  exact ⟨rfl, bt B1.out K21.out.kr.bel⟩
end Go.Proofs.Ytbbjlefldpgckaa
