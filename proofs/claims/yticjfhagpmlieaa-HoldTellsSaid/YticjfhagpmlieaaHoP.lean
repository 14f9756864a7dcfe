/- Chapter 14's law: acts, filled, same, all. -/
import Derived.Test.YticjfhagpmlieaaHoO
namespace Go.Proofs.Yticjfhagpmlieaa
open Go.ChangeShapes Go.WideShapes Go.ChangeAt Go.RowKit
open Ho
set_option linter.unusedVariables false
set_option linter.unusedSimpArgs false

/-- An act: its kind, until when, where its parts lie, its number, its parts. -/
structure Ac where
  k : Int
  u : Int
  s : SV
  x : Int
  p : List (List Int)
abbrev rowAc (a : Ac) : List Value := [.int .u8 a.k, .int .i64 a.u, sl a.s, .int .i64 a.x]
def Ac.d (a : Ac) : D := (a.u, a.p, a.x)
structure AcOk (W : World) (a : Ac) : Prop where
  k : 0 ≤ a.k ∧ a.k ≤ 255
  x : -9223372036854775808 ≤ a.x ∧ a.x ≤ 9223372036854775807
  pts : PtsAt W (sl a.s) a.p
  fit : Fit a.p
def ActsAt (W : World) (v : Value) (L : List Ac) : Prop := At W 4 rowAc v L ∧ ∀ a ∈ L, AcOk W a
theorem AcOk.later {w w' : World} {a : Ac} (h : AcOk w a) (hb : Below w.heap.size w w') : AcOk w' a := ⟨h.k, h.x, h.pts.later hb, h.fit⟩
theorem ActsAt.later {w w' : World} {v : Value} {L : List Ac} (h : ActsAt w v L) (hb : Below w.heap.size w w') : ActsAt w' v L := ⟨h.1.later hb, fun a ha => (h.2 a ha).later hb⟩
abbrev actV (a : Ac) : Value := .agg #[.int .u8 a.k, .int .i64 a.u, sl a.s, .int .i64 a.x]
theorem wait_any (k u : Int) (s : SV) (x : Int) (w : World) :
    Calls Try.prog 11 #[.agg #[.int .u8 k, .int .i64 u, sl s, .int .i64 x]] w fun e w' => e = .returned (waitV u s x) ∧ Below w.heap.size w w' := by
  obtain ⟨sA, sn, sc⟩ := s
  go_enter Try.func11, Try.ntmps11
  go_wp2
  obtain ⟨z0, z1, z2⟩ := (Blk.new (w.alloc (.cells #[.int .u8 k, .int .i64 u, .slice sA sn sc, .int .i64 x] 32)) 35 #[.int .i64 u, .slice sA sn sc, .int .i64 x]).three
  rw [World.size_alloc] at z0 z1 z2
  refine bodyPost_ret (v := waitV u (sA, sn, sc) x) (by simp only [results, Try.results11]; simp [go_sem, z0, z1, z2]) rfl ?_
  exact ⟨rfl, bt (ba w _) (ba _ _)⟩
def fl (L : List Ac) : List D := (L.take 30).foldl (fun T a => ins T a.d) []
theorem fl_len : ∀ (L : List Ac) (T : List D), (L.foldl (fun T a => ins T a.d) T).length = T.length + L.length
  | [], T => rfl
  | a :: r, T => by rw [List.foldl_cons, fl_len r, ins_len, List.length_cons]; omega
def flk (L : List Ac) (k : Nat) : List D := (L.take k).foldl (fun T a => ins T a.d) []
theorem flk_len (L : List Ac) (k : Nat) (h : k ≤ L.length) : (flk L k).length = k := by unfold flk; rw [fl_len, List.length_take]; simp; omega
theorem flk_succ (L : List Ac) (k : Nat) (h : k < L.length) : flk L (k + 1) = ins (flk L k) (L[k]'h).d := by
  unfold flk
  rw [List.take_succ_eq_append_getElem h, List.foldl_append]; rfl
def FilP (L : List Ac) (w : World) (e : Ending) (w' : World) : Prop := ∃ d, (e = .returned (.pointer (some ⟨d, 0, none⟩)) ∧ HX (fun _ => False) w' w.heap.size d (flk L (min L.length 30))) ∧ Below w.heap.size w w'
set_option maxHeartbeats 1000000 in
theorem filled_any (v : Value) (L : List Ac) (w : World) (h : ActsAt w v L) :
    Calls Try.prog 25 #[v] w (FilP L w) := by
  obtain ⟨A, c, rfl, a1, a2, _⟩ := h.1.shape
  have hm : L.length ≤ 9223372036854775807 := by unfold maxLen at a2; omega
  have H := Lib.hid h; clear h a1 a2
  go_enter Try.func25, Try.ntmps25
  go_wp2_with (go_at_call 9; (refine (New_any _).mono ?_); rintro e w1 ⟨rfl, hX, b1⟩; have K := Lib.hid (And.intro hX b1); clear hX b1)
  go_loopw [4] (fun iv wr => ∃ k : Nat, k ≤ L.length ∧ k ≤ 30 ∧ iv = .int .i64 (k : Int) ∧ HX (fun _ => False) wr w.heap.size w.heap.size (flk L k) ∧ Below w.heap.size w wr) (fun iv _ => 30 - (intOf iv).toNat)
  case atStart => exact ⟨0, Nat.zero_le _, Nat.zero_le _, rfl, K.out.1, K.out.2⟩
  case round =>
    clear K
    obtain ⟨k, hk, hk3, rfl, hX, hb⟩ := hrel
    by_cases hlt : k < L.length
    · by_cases h30 : k < 30
      · have h30i : (k : Int) < 30 := by omega
        obtain ⟨a, rfl, hc⟩ := H.out.1.cells rfl (by omega)
        have hA := (H.out.2 _ (List.getElem_mem hlt)).later hb
        obtain ⟨x0, x1, x2, x3⟩ := (hc.later hb).row4 k hlt rfl
        have hS := flk_succ L k hlt
        have hl := flk_len L k hk
        generalize L[k]'hlt = y at *
        obtain ⟨yk, yu, ⟨sA, sn, sc⟩, yx, yp⟩ := y
        simp only at x0 x1 x2 x3
        have cA : ∀ W, Below wr.heap.size wr W → Calls Try.prog 10 #[.pointer (some ⟨w.heap.size, 0, none⟩), waitV yu (sA, sn, sc) yx] W (AddP (fun _ => False) w.heap.size w.heap.size (flk L k) (yu, yp, yx) W) := fun W hW =>
          Add_any _ _ _ _ yu _ yx yp W (hX.later hW) (hA.pts.later hW) hA.fit (by rw [hl]; omega)
        have N := Lib.hid (And.intro cA (And.intro hS hb)); clear cA hS hb hX hA hl hc
        go_wp2_with (first
          | (go_at_call 11; (refine (wait_any yk yu (sA, sn, sc) yx _).mono ?_); rintro e w1 ⟨rfl, b1⟩; have Z := Lib.hid b1; clear b1)
          | (go_at_call 10; (refine (N.out.1 _ Z.out).mono ?_); rintro e w2 ⟨rfl, hX2, hc2⟩; have Z2 := Lib.hid (And.intro hX2 hc2); clear hX2 hc2))
        go_roundw
        case rel => exact ⟨k + 1, by omega, by omega, by go_num, by rw [N.out.2.1]; exact Z2.out.1, (bt N.out.2.2 Z.out).trans Z2.out.2.bel⟩
        case measure => simp [intOf]; omega
      · obtain rfl : k = 30 := by omega
        have e : min L.length 30 = 30 := by omega
        have N := Lib.hid (And.intro hX (And.intro hb e)); clear hX hb e
        go_wp2
        go_ret
        exact ⟨_, ⟨rfl, by rw [N.out.2.2]; exact N.out.1⟩, N.out.2.1⟩
    · obtain rfl : k = L.length := by omega
      have e : min L.length 30 = L.length := by omega
      have N := Lib.hid (And.intro hX (And.intro hb e)); clear hX hb e
      go_wp2
      go_ret
      exact ⟨_, ⟨rfl, by rw [N.out.2.2]; exact N.out.1⟩, N.out.2.1⟩
set_option maxHeartbeats 1000000 in
theorem same_yes (u : Int) (s s' : SV) (x : Int) (p : List (List Int)) (w : World) (h : PtsAt w (sl s) p) (h' : PtsAt w (sl s') p) :
    Calls Try.prog 24 #[waitV u s x, waitV u s' x] w fun e w' => e = .returned (.bool true) ∧ Below w.heap.size w w' := by
  obtain ⟨sA, sn, sc⟩ := s
  obtain ⟨tA, tn, tc⟩ := s'
  have cO : ∀ W, Below w.heap.size w W → Calls Try.prog 26 #[.slice sA sn sc, .slice tA tn tc] W fun e w' => e = .returned (.int .i64 0) ∧ Below W.heap.size W w' := fun W hW => by
    have := order_any _ _ _ _ W (h.later hW) (h'.later hW)
    rwa [c3P.self] at this
  have H := Lib.hid cO; clear cO h h'
  have e1 : (u == u) = true := by simp
  have e2 : (x == x) = true := by simp
  go_enter Try.func24, Try.ntmps24
  go_wp2_with (go_at_call 26; (refine (H.out _ (bt (ba w _) (ba _ _))).mono ?_); rintro e w1 ⟨rfl, b1⟩; have Z := Lib.hid b1; clear b1)
  go_ret
  exact ⟨rfl, bt (bt (ba w _) (ba _ _)) Z.out⟩
/-- A row of waits that reads as these. -/
def Reads (w : World) (v : Value) (T : List D) : Prop := ∃ l : List Wy, At w 3 rowW v l ∧ l.map (·.1) = T ∧ ∀ y ∈ l, PtsAt w (sl y.2) y.1.2.1
theorem Reads.later {w w' : World} {v : Value} {T : List D} (h : Reads w v T) (hb : Below w.heap.size w w') : Reads w' v T := by
  obtain ⟨l, h1, h2, h3⟩ := h
  exact ⟨l, h1.later hb, h2, fun y hy => (h3 y hy).later hb⟩
theorem Out.reads {w : World} {b B : Nat} {v : Value} {T : List D} (h : Out w b B v T) : Reads w v T := by
  obtain ⟨l, h1, h2, h3⟩ := h
  exact ⟨l, Own.at_ (f := rowW) (k := 3) (fun _ => rfl) h1, h2, fun y hy => (h3 y hy).pts⟩
set_option maxHeartbeats 1000000 in
theorem all_yes (v v' : Value) (T : List D) (w : World) (h : Reads w v T) (h' : Reads w v' T) :
    Calls Try.prog 15 #[v, v'] w fun e w' => e = .returned (.bool true) ∧ Below w.heap.size w w' := by
  obtain ⟨l, h1, hl, h3⟩ := h
  obtain ⟨l', h1', hl', h3'⟩ := h'
  have hll : l'.length = l.length := by have := congrArg List.length (hl.trans hl'.symm); simpa using this.symm
  obtain ⟨A, c, rfl, a1, a2, _⟩ := h1.shape
  obtain ⟨A', c', rfl, a1', a2', _⟩ := h1'.shape
  rw [hll]
  have h1'' := h1'
  rw [hll] at h1''
  have hm : l.length ≤ 9223372036854775807 := by unfold maxLen at a2; omega
  have hg : ∀ k (hk : k < l.length) (hk' : k < l'.length), (l[k]'hk).1 = (l'[k]'hk').1 := fun k hk hk' => by
    have e : (l.map (·.1))[k]? = (l'.map (·.1))[k]? := by rw [hl, hl']
    rw [List.getElem?_map, List.getElem?_map, List.getElem?_eq_getElem hk, List.getElem?_eq_getElem hk'] at e
    exact Option.some.inj e
  have H := Lib.hid (And.intro h1 (And.intro h1' (And.intro h3 (And.intro h3' (And.intro hg hll))))); clear h1 h1' h1'' h3 h3' hg hll hl hl'
  go_enter Try.func15, Try.ntmps15
  go_wp2
  go_loopw [5] (fun iv wr => ∃ k : Nat, k ≤ l.length ∧ iv = .int .i64 (k : Int) ∧ Below w.heap.size w wr) (fun iv _ => l.length - (intOf iv).toNat)
  case atStart => exact ⟨0, Nat.zero_le _, rfl, Below.refl _ _⟩
  case round =>
    obtain ⟨k, hk, rfl, hb⟩ := hrel
    by_cases hlt : k < l.length
    · have hlt' : k < l'.length := by rw [H.out.2.2.2.2.2]; exact hlt
      obtain ⟨a, rfl, hc⟩ := H.out.1.cells rfl (by omega)
      obtain ⟨a', rfl, hc'⟩ := H.out.2.1.cells rfl (by omega)
      obtain ⟨x0, x1, x2⟩ := (hc.later hb).row3 k hlt rfl
      obtain ⟨y0, y1, y2⟩ := (hc'.later hb).row3 k hlt' rfl
      have e := H.out.2.2.2.2.1 k hlt hlt'
      have g1 := (H.out.2.2.1 _ (List.getElem_mem hlt)).later hb
      have g2 := (H.out.2.2.2.1 _ (List.getElem_mem hlt')).later hb
      generalize l[k]'hlt = y at *
      generalize l'[k]'hlt' = z at *
      obtain ⟨⟨u, p, x⟩, ⟨sA, sn, sc⟩⟩ := y
      obtain ⟨⟨u', p', x'⟩, ⟨tA, tn, tc⟩⟩ := z
      simp only [Prod.mk.injEq] at e
      obtain ⟨rfl, rfl, rfl⟩ := e
      simp only at x0 x1 x2 y0 y1 y2 g1 g2
      have cS : ∀ W, Below wr.heap.size wr W → Calls Try.prog 24 #[waitV u (sA, sn, sc) x, waitV u (tA, tn, tc) x] W fun e w' => e = .returned (.bool true) ∧ Below W.heap.size W w' := fun W hW => same_yes u _ _ x p W (g1.later hW) (g2.later hW)
      have N := Lib.hid (And.intro cS hb); clear cS g1 g2 hb hc hc'
      have p0 := fun d os => cell_regrown x0 d os
      have p1 := fun d os => cell_regrown x1 d os
      have p2 := fun d os => cell_regrown x2 d os
      have q0 := fun d os => cell_regrown y0 d os
      have q1 := fun d os => cell_regrown y1 d os
      have q2 := fun d os => cell_regrown y2 d os
      go_wp2_with fail
      refine wp_region_quiet_below (by kernel_rfl) (by kernel_rfl) ?_
      repeat (go_big_quiet_step ((go_at_call 24; exact Calls.regrown_of (N.out.1 _ (below_regrown _ _ _)))))
      refine wpQuiet_nil ?_
      intro wq hw'
      have bq : Below wr.heap.size wr wq := by obtain ⟨p, rfl⟩ := hw'; exact below_regrown _ _ _
      clear hw' p0 p1 p2 q0 q1 q2
      have M := Lib.hid bq; clear bq
      go_wp2
      go_roundw
      case rel => exact ⟨k + 1, by omega, by go_num, bt N.out.2 M.out⟩
      case measure => simp [intOf]; omega
    · have N := Lib.hid hb; clear hb
      go_wp2
      go_ret
      exact ⟨rfl, N.out⟩
end Go.Proofs.Yticjfhagpmlieaa
