/- The document's own hold: At, Cut, All. -/
import Derived.Test.YticjfhagpmlieaaHtC
namespace Go.Proofs.Yticjfhagpmlieaa
open Go.ChangeShapes Go.WideShapes Go.ChangeAt Go.RowKit
open Ho
set_option linter.unusedVariables false
set_option linter.unusedSimpArgs false

theorem RhAt.wait {w0 w : World} {m : Nat} {A : Option Addr} {n c : Nat} {l : List Wy} (h : RhAt w0 w m (.slice A n c) l) (k : Nat) (hk : k < l.length) : ∃ a, A = some a ∧ w.cell? (a.add (k * 3)) = some (.int .i64 (l[k]'hk).1.1) ∧ w.cell? ⟨(a.add (k * 3)).block, (a.add (k * 3)).off + 1, none⟩ = some (sl (l[k]'hk).2) ∧ w.cell? ⟨(a.add (k * 3)).block, (a.add (k * 3)).off + 2, none⟩ = some (.int .i64 (l[k]'hk).1.2.2) := by
  obtain ⟨a, rfl, hc⟩ := (Own.at_ (f := rowW) (k := 3) (fun _ => rfl) h.row).cells rfl (by omega)
  obtain ⟨x0, x1, x2⟩ := hc.row3 k hk rfl
  exact ⟨a, rfl, x0, x1, x2⟩
def RAtY (w0 : World) (t : D) (w : World) (e : Ending) (w' : World) : Prop := ∃ s : SV, (e = .returned (.tuple #[waitV t.1 s t.2.2, .bool true]) ∧ PtsAt w0 (sl s) t.2.1) ∧ Below w.heap.size w w'
set_option maxHeartbeats 1000000 in
theorem rhAt_in (w0 : World) (m : Nat) (T : List D) (k : Nat) (hk : k < T.length) (w : World) (h : RhS w0 w m T) (hn : T.length < 1000) :
    Calls Try.prog 23 #[.pointer (some ⟨m, 0, none⟩), .int .i64 (k : Int)] w (RAtY w0 (T[k]'hk) w) := by
  obtain ⟨v, l, h1, rfl⟩ := h
  obtain ⟨A, c, rfl, _, _, _⟩ := h1.row.shape
  rw [List.length_map] at hn
  have hkl : k < l.length := by simpa using hk
  have h2 := h1.later (ba w (.cells #[.int .i64 0, .slice none 0 0, .int .i64 0] 38))
  obtain ⟨g, rfl, x0, x1, x2⟩ := h2.wait k hkl
  obtain ⟨d0, dl, df⟩ := h2.cells
  have hP := h1.pts _ (List.getElem_mem hkl)
  rw [List.getElem_map]
  generalize l[k]'hkl = y at *
  obtain ⟨⟨u, p, x⟩, ⟨sA, sn, sc⟩⟩ := y
  simp only at hP x0 x1 x2
  change World.cell? _ _ = some (.slice sA sn sc) at x1
  have H := Lib.hid hP; clear hP h1 h2
  have t1 : ¬ (k : Int) < 0 := by omega
  have t2 : decide ((k : Int) < 0) = false := decide_eq_false t1
  have t3 : ¬ (l.length : Int) ≤ (k : Int) := by omega
  have t4 : decide ((l.length : Int) ≤ (k : Int)) = false := decide_eq_false t3
  have t5 : (k : Int) < (l.length : Int) := by omega
  go_enter Try.func23, Try.ntmps23
  go_wp2
  have r0 := Blk.new w 38 #[.int .i64 0, .slice none 0 0, .int .i64 0]
  obtain ⟨y0, y1, y2⟩ := (r0.put3 (.int .i64 u) (.slice sA sn sc) (.int .i64 x)).three
  refine bodyPost_ret (v := .tuple #[waitV u (sA, sn, sc) x, .bool true]) (by simp only [results, Try.results23]; simp [go_sem, y0, y1, y2]) rfl ?_
  exact ⟨(sA, sn, sc), ⟨rfl, H.out⟩, by first | exact ba w _ | exact below_put3 (ba w _) (Nat.le_refl _) _ _ _⟩
set_option maxHeartbeats 1000000 in
theorem rhAt_out (w0 : World) (m : Nat) (T : List D) (i : Int) (hi : i < 0 ∨ (T.length : Int) ≤ i) (w : World) (h : RhS w0 w m T) (hn : T.length < 1000) :
    Calls Try.prog 23 #[.pointer (some ⟨m, 0, none⟩), .int .i64 i] w (AtN w) := by
  obtain ⟨v, l, h1, rfl⟩ := h
  obtain ⟨A, c, rfl, _, _, _⟩ := h1.row.shape
  rw [List.length_map] at hn hi
  obtain ⟨d0, dl, df⟩ := (h1.later (ba w (.cells #[.int .i64 0, .slice none 0 0, .int .i64 0] 38))).cells
  obtain ⟨z0, z1, z2⟩ := (Blk.new w 38 #[.int .i64 0, .slice none 0 0, .int .i64 0]).three
  obtain ⟨y0, y1, y2⟩ := ((Blk.new w 38 #[.int .i64 0, .slice none 0 0, .int .i64 0]).put3 (.int .i64 0) (.slice none 0 0) (.int .i64 0)).three
  clear h1
  by_cases h0 : i < 0
  · have t2 : decide (i < 0) = true := decide_eq_true h0
    go_enter Try.func23, Try.ntmps23
    go_wp2
    refine bodyPost_ret (v := .tuple #[waitV 0 (none, 0, 0) 0, .bool false]) (by simp only [results, Try.results23]; simp [go_sem, y0, y1, y2]) rfl ?_
    exact ⟨rfl, by first | exact ba w _ | exact below_put3 (ba w _) (Nat.le_refl _) _ _ _⟩
  · have h1 : (l.length : Int) ≤ i := by omega
    have t2 : decide (i < 0) = false := decide_eq_false h0
    have t4 : decide ((l.length : Int) ≤ i) = true := decide_eq_true h1
    go_enter Try.func23, Try.ntmps23
    go_wp2
    refine bodyPost_ret (v := .tuple #[waitV 0 (none, 0, 0) 0, .bool false]) (by simp only [results, Try.results23]; simp [go_sem, y0, y1, y2]) rfl ?_
    exact ⟨rfl, by first | exact ba w _ | exact below_put3 (ba w _) (Nat.le_refl _) _ _ _⟩
def RCutP (w0 : World) (m : Nat) (T : List D) (ok : Bool) (w : World) (e : Ending) (w' : World) : Prop := e = .returned (.bool ok) ∧ RhS w0 w' m T ∧ ChQ w0.heap.size w w'
theorem rhCut_out (w0 : World) (m : Nat) (T : List D) (i : Int) (hi : i < 0 ∨ (T.length : Int) ≤ i) (w : World) (h : RhS w0 w m T) (hn : T.length < 1000) :
    Calls Try.prog 14 #[.pointer (some ⟨m, 0, none⟩), .int .i64 i] w (RCutP w0 m T false w) := by
  have hx := h
  obtain ⟨v, l, h1, rfl⟩ := h
  obtain ⟨A, c, rfl, _, _, _⟩ := h1.row.shape
  rw [List.length_map] at hn hi
  obtain ⟨d0, dl, df⟩ := h1.cells
  have H := Lib.hid (And.intro hx h1.low'); clear hx h1
  by_cases h0 : i < 0
  · have t2 : decide (i < 0) = true := decide_eq_true h0
    go_enter Try.func14, Try.ntmps14
    go_wp2
    go_ret
    exact ⟨rfl, H.out.1, ChQ.later H.out.2 (Below.refl _ _)⟩
  · have h1 : (l.length : Int) ≤ i := by omega
    have t2 : decide (i < 0) = false := decide_eq_false h0
    have t4 : decide ((l.length : Int) ≤ i) = true := decide_eq_true h1
    go_enter Try.func14, Try.ntmps14
    go_wp2
    go_ret
    exact ⟨rfl, H.out.1, ChQ.later H.out.2 (Below.refl _ _)⟩
set_option maxHeartbeats 2000000 in
theorem rhCut_in (w0 : World) (m : Nat) (T : List D) (k : Nat) (hk : k < T.length) (W : World) (h : RhS w0 W m T) (hn : T.length < 1000) :
    Calls Try.prog 14 #[.pointer (some ⟨m, 0, none⟩), .int .i64 (k : Int)] W (RCutP w0 m (T.eraseIdx k) true W) := by
  obtain ⟨i0, hi, hz0, hz1, hz2⟩ := info_parts (P := Try.prog) (e := 38) (z := .agg #[.int .i64 0, .slice none 0 0, .int .i64 0]) (size := 3) (bytes := 40) (by kernel_rfl)
  obtain ⟨v, l, h, rfl⟩ := h
  rw [List.length_map] at hn hk
  obtain ⟨A, c, rfl, _, a1, a2⟩ := h.row.shape
  obtain ⟨n, hnn⟩ : ∃ n, n = l.length := ⟨_, rfl⟩
  rw [← hnn] at h hn
  have hkn : k < n := by omega
  have hw1 : IntKind.i64.wrap ((k : Int) + 1) = (k : Int) + 1 := IntWalk.i64_in _ (by omega)
  obtain ⟨m2, hm2⟩ : ∃ m2, m2 = n - (k + 1) := ⟨_, rfl⟩
  have hl1 : (l.take k).length = k := by rw [List.length_take]; omega
  have hl2 : (l.drop (k + 1)).length = m2 := by rw [List.length_drop]; omega
  have hm16 : m2 ≤ 1000 := by omega
  have hat := Own.at_ (f := rowW) (k := 3) (fun _ => rfl) h.row
  obtain ⟨A1, c1, hr1, hat1⟩ := At.upto (P := Try.prog) undQ szQ hat k (by omega)
  obtain ⟨A2, c3, hr2, hat2⟩ := At.from_ (P := Try.prog) undQ szQ hat (k + 1) (by omega)
  simp only [Int.natCast_add, Int.natCast_one] at hr2
  rw [← hnn, ← hm2] at hr2 hat2
  obtain ⟨d0, dl, df⟩ := h.cells
  have her : l.take k ++ l.drop (k + 1) = l.eraseIdx k := by rw [List.eraseIdx_eq_take_drop_succ]
  have H := Lib.hid (And.intro h (And.intro hat1 (And.intro hat2 (And.intro hl1 (And.intro hl2 her))))); clear h hat hat1 hat2 hl1 hl2 her hnn hm2 a1 a2 hk
  have t1 : ¬ (k : Int) < 0 := by omega
  have t2 : decide ((k : Int) < 0) = false := decide_eq_false t1
  have t3 : ¬ (n : Int) ≤ (k : Int) := by omega
  have t4 : decide ((n : Int) ≤ (k : Int)) = false := decide_eq_false t3
  go_enter Try.func14, Try.ntmps14
  go_wp2_with fail
  go_region_law (first
    | (refine step_append_at rfl (.tmp 23) (.tmp 30) 27 rfl W.heap.size 38 i0 (.agg #[.int .i64 0, .slice none 0 0, .int .i64 0]) 3 40 Try.underlying27 hi hz0 hz1 hz2 rfl (by decide) (f := rowW) (fun _ => rfl) one_rowW _ (l.take k) rfl hO6 A2 m2 c3 (l.drop (k + 1)) H.out.2.2.2.2.1.symm rfl (H.out.2.2.1.later b6) (by have := H.out.2.2.2.1; unfold maxLen; omega) (by have := H.out.2.2.2.1; omega) b6.size ?_; intro v7 w7 hO7 hg7; have b7 := own_past b6 hg7 hO6; obtain ⟨A7, n7, c7, rfl⟩ := own_shape hO7; have y2 : w7.cell? ⟨m, 0, none⟩ = some (.slice A n c) := (by rw [b7.cell dl]; exact d0); have yl : m < w7.heap.size := Nat.lt_of_lt_of_le dl b7.size; have yf : w7.frozen? ⟨m, 0, none⟩ = false := (by rw [b7.frozen dl]; exact df 0); have K7 := Lib.hid (And.intro hO7 b7); clear hg7 hO7 b7)
    | (refine step_append_at rfl (.const (.slice none 0 0)) (.tmp 22) 27 rfl W.heap.size 38 i0 (.agg #[.int .i64 0, .slice none 0 0, .int .i64 0]) 3 40 Try.underlying27 hi hz0 hz1 hz2 rfl (by decide) (f := rowW) (fun _ => rfl) one_rowW _ [] rfl (Own.nil _ _ _ _ _) A1 k c1 (l.take k) H.out.2.2.2.1.symm rfl (H.out.2.1.later (by first | exact below_drew (Below.refl _ _) | exact Below.refl _ _)) (by unfold maxLen; simp only [List.length_nil]; omega) (by simp only [List.length_nil]; omega) (Nat.le_refl _) ?_; intro v5 w6 hO6 hg6; rw [List.nil_append] at hO6; have b6 : Below W.heap.size W w6 := own_past (w1 := W.drew) (by first | exact below_drew (Below.refl _ _) | exact Below.refl _ _) hg6 (Own.nil W _ 38 3 rowW); obtain ⟨A5, n5, c5, rfl⟩ := own_shape hO6; have x2 : w6.cell? ⟨m, 0, none⟩ = some (.slice A n c) := (by rw [b6.cell dl]; exact d0); clear hg6))
  all_goals go_wp2
  all_goals go_ret
  all_goals
    obtain ⟨s1, s2⟩ := (H.out.1.later K7.out.2).rowto H.out.1.low' K7.out.1 (fun y hy => by
      rw [H.out.2.2.2.2.2] at hy
      exact H.out.1.pts y (List.mem_of_mem_eraseIdx hy))
    rw [H.out.2.2.2.2.2] at s1
    exact ⟨rfl, ⟨_, _, s1, by rw [List.eraseIdx_eq_take_drop_succ, List.eraseIdx_eq_take_drop_succ, List.map_append, List.map_take, List.map_drop]⟩, (ChQ.later H.out.1.low' K7.out.2).trans s2⟩
def RFirstP (w0 : World) (m : Nat) (F T : List D) (w : World) (e : Ending) (w' : World) : Prop := ∃ v l, (e = .returned v ∧ At w' 3 rowW v l ∧ l.map (·.1) = F ∧ (∀ y ∈ l, PtsAt w0 (sl y.2) y.1.2.1) ∧ RhS w0 w' m T) ∧ ChQ w0.heap.size w w'
theorem rhAll_any (w0 : World) (m : Nat) (T : List D) (w : World) (h : RhS w0 w m T) :
    Calls Try.prog 20 #[.pointer (some ⟨m, 0, none⟩)] w (RFirstP w0 m T [] w) := by
  obtain ⟨v, l, h, rfl⟩ := h
  obtain ⟨d0, dl, df⟩ := h.cells
  obtain ⟨A, c, rfl, _, _, _⟩ := h.row.shape
  have hs1 := h.rowto (N := w.heap.size) (v' := .slice none 0 0) (l' := []) h.low' (Own.nil _ _ _ _ _) (fun y hy => absurd hy (by simp))
  have hrow := h.row.dset h.blk (by decide) 0 (.slice none 0 0)
  have H := Lib.hid (And.intro hs1 (And.intro (Own.at_ (f := rowW) (k := 3) (fun _ => rfl) hrow) h.pts)); clear hs1 hrow h
  go_enter Try.func20, Try.ntmps20
  go_wp2
  go_ret
  exact ⟨_, l, ⟨rfl, H.out.2.1, rfl, H.out.2.2, ⟨_, _, H.out.1.1, rfl⟩⟩, H.out.1.2⟩
end Go.Proofs.Yticjfhagpmlieaa
