/- The chapter's examples (14). -/
import Derived.Test.YticjfhagpmlieaaHoP
namespace Go.Proofs.Yticjfhagpmlieaa
open Go.ChangeShapes Go.WideShapes Go.ChangeAt Go.RowKit
open Ho
set_option linter.unusedVariables false
set_option linter.unusedSimpArgs false

/-- What a law keeps of its Hold: it, its waits, and all that is older. -/
structure Kp (X : Nat → Prop) (w W : World) (B d : Nat) (T : List D) : Prop where
  hx : HX X W B d T
  base : w.heap.size ≤ B
  bel : Below w.heap.size w W
theorem Kp.go {X : Nat → Prop} {w W W' : World} {B d : Nat} {T T' : List D} (h : Kp X w W B d T) (hx : HX X W' B d T') (hc : Hc X B W W') : Kp X w W' B d T' := ⟨hx, h.base, h.bel.trans (hc.bel.mono h.base)⟩
theorem Kp.later {X : Nat → Prop} {w W W' : World} {B d : Nat} {T : List D} (h : Kp X w W B d T) (hb : Below W.heap.size W W') : Kp X w W' B d T := ⟨h.hx.later hb, h.base, bt h.bel hb⟩
theorem pts_one (W : World) (z : Int) : PtsAt ((W.alloc (.cells #[.int .i64 z] 3)).alloc (.cells #[.slice (some ⟨W.heap.size, 0, none⟩) 1 1] 60)) (.slice (some ⟨W.heap.size + 1, 0, none⟩) 1 1) [[z]] := by
  have h1 : Own (W.alloc (.cells #[.int .i64 z] 3)) 0 3 1 rowI (.slice (some ⟨W.heap.size, 0, none⟩) 1 1) [z] := own_lit [z] rfl (Nat.zero_le _) rfl (by simp [maxLen]) rfl rfl
  have h2 : Own ((W.alloc (.cells #[.int .i64 z] 3)).alloc (.cells #[.slice (some ⟨W.heap.size, 0, none⟩) 1 1] 60)) 0 60 1 slc (.slice (some ⟨W.heap.size + 1, 0, none⟩) 1 1) [(some ⟨W.heap.size, 0, none⟩, 1, 1)] := own_lit [((some ⟨W.heap.size, 0, none⟩, 1, 1) : SV)] (by simp) (Nat.zero_le _) rfl (by simp [maxLen]) rfl rfl
  refine ⟨_, Own.at_ (f := slc) (k := 1) (fun _ => rfl) h2, rfl, fun j hj hj' => ?_⟩
  obtain rfl : j = 0 := by simpa using hj
  exact Own.at_ (f := rowI) (k := 1) (fun _ => rfl) (h1.later (ba _ _))
theorem Own.same {α : Type} {w w' : World} {b : Nat} {e : TypeId} {k : Nat} {f : α → List Value} {v : Value} {l : List α} (h : Own w b e k f v l) (hs : ∀ g, v.ownBlock = some g → w'.heap[g]? = w.heap[g]?) : Own w' b e k f v l := by
  refine ⟨h.1, ?_⟩
  rcases h.2 with h0 | ⟨g, cap, cur, rfl, h1, h2, h3⟩
  · exact Or.inl h0
  · exact Or.inr ⟨g, cap, cur, rfl, h1, (hs g rfl).trans h2, h3⟩
theorem fit_nil : Fit [] := ⟨by simp, fun L h => (List.not_mem_nil h).elim⟩
theorem fit_one (z : Int) : Fit [[z]] := ⟨by simp, fun L h => by obtain rfl : L = [z] := by simpa using h
                                                                 simp⟩
set_option maxRecDepth 20000 in
set_option maxHeartbeats 4000000 in
theorem examples_any (w : World) :
    Calls Try.prog 8 #[] w fun e w' => e = .returned (.bool true) ∧ Below w.heap.size w w' := by
  go_enter Try.func8, Try.ntmps8
  go_wp2_with fail
  go_at_call 9
  ((with_reducible refine (New_any _).mono ?_); rintro e w1 ⟨rfl, hX, hb⟩)
  have K : Kp (fun _ => False) w w1 w.heap.size w.heap.size [] := ⟨hX, Nat.le_refl _, hb⟩
  replace K := Lib.hid K; clear hX hb
  go_wp2_with fail
  go_at_call 10
  refine (Add_any _ w.heap.size w.heap.size [] 5 (none, 0, 0) 1 [] w1 K.out.hx (PtsAt.nil _) fit_nil (by simp)).mono ?_
  rintro e w2 ⟨rfl, hX, hc⟩
  rw [show ins [] (5, [], 1) = [(5, [], 1)] from rfl] at hX
  have K2 := Lib.hid (K.out.go hX hc); clear hX hc K
  go_wp2_with fail
  go_at_call 10
  refine (Add_any _ w.heap.size w.heap.size [(5, [], 1)] 4 (none, 0, 0) 2 [] w2 K2.out.hx (PtsAt.nil _) fit_nil (by simp)).mono ?_
  rintro e w3 ⟨rfl, hX, hc⟩
  rw [show ins [(5, [], 1)] (4, [], 2) = [(4, [], 2), (5, [], 1)] from rfl] at hX
  have K3 := Lib.hid (K2.out.go hX hc); clear hX hc K2
  go_wp2_with fail
  go_at_call 10
  have K4 := Lib.hid (K3.out.later (bt (ba w3 (.cells #[.int .i64 3] 3)) (ba _ (.cells #[.slice (some ⟨w3.heap.size, 0, none⟩) 1 1] 60)))); clear K3
  refine (Add_any _ w.heap.size w.heap.size [(4, [], 2), (5, [], 1)] 5 (some ⟨w3.heap.size + 1, 0, none⟩, 1, 1) 3 [[3]] _ K4.out.hx (pts_one w3 3) (fit_one 3) (by simp)).mono ?_
  rintro e w4 ⟨rfl, hX, hc⟩
  rw [show ins [(4, [], 2), (5, [], 1)] (5, [[3]], 3) = [(4, [], 2), (5, [], 1), (5, [[3]], 3)] from rfl] at hX
  have K5 := Lib.hid (K4.out.go hX hc); clear hX hc K4
  go_wp2_with fail
  go_at_call 10
  refine (Add_any _ w.heap.size w.heap.size [(4, [], 2), (5, [], 1), (5, [[3]], 3)] 5 (none, 0, 0) 4 [] w4 K5.out.hx (PtsAt.nil _) fit_nil (by simp)).mono ?_
  rintro e w5 ⟨rfl, hX, hc⟩
  rw [show ins [(4, [], 2), (5, [], 1), (5, [[3]], 3)] (5, [], 4) = [(4, [], 2), (5, [], 1), (5, [], 4), (5, [[3]], 3)] from rfl] at hX
  have K6 := Lib.hid (K5.out.go hX hc); clear hX hc K5
  go_wp2_with fail
  go_at_call 22
  refine (At_in _ w.heap.size w.heap.size [(4, [], 2), (5, [], 1), (5, [], 4), (5, [[3]], 3)] 0 (by simp) w5 K6.out.hx).mono ?_
  rintro e w6 ⟨⟨fA, fn, fc⟩, ⟨rfl, _⟩, hb⟩
  have K7 : Kp (fun k => False ∨ k = w6.heap.size) w (w6.alloc (.cells #[.int .i64 4, .slice fA fn fc, .int .i64 2] 35)) w.heap.size w.heap.size [(4, [], 2), (5, [], 1), (5, [], 4), (5, [[3]], 3)] := ⟨(K6.out.hx.later hb).add _, Nat.le_refl _, bt (bt K6.out.bel hb) (ba _ _)⟩
  have hBx := Blk.new w6 35 #[.int .i64 4, .slice fA fn fc, .int .i64 2]
  replace K7 := Lib.hid (And.intro K7 hBx); clear hb K6 hBx
  go_wp2_with fail
  try go_at_call 13
  refine (Cut_in _ w.heap.size w.heap.size [(4, [], 2), (5, [], 1), (5, [], 4), (5, [[3]], 3)] 2 (by simp) _ K7.out.1.hx).mono ?_
  rintro e w7 ⟨rfl, hX, hc⟩
  rw [show [((4 : Int), ([] : List (List Int)), (2 : Int)), (5, [], 1), (5, [], 4), (5, [[3]], 3)].eraseIdx 2 = [(4, [], 2), (5, [], 1), (5, [[3]], 3)] from rfl] at hX
  have hBx : Blk w7 w6.heap.size 35 #[.int .i64 4, .slice fA fn fc, .int .i64 2] := (hc.keep _ (Or.inr rfl)).trans K7.out.2
  have K8 := Lib.hid (And.intro (K7.out.1.go hX hc) hBx); clear hX hc K7 hBx
  go_wp2_with fail
  try go_at_call 13
  refine (Cut_out _ w.heap.size w.heap.size [(4, [], 2), (5, [], 1), (5, [[3]], 3)] 3 (by simp) _ K8.out.1.hx).mono ?_
  rintro e w8 ⟨rfl, hX, hc⟩
  have hBx : Blk w8 w6.heap.size 35 #[.int .i64 4, .slice fA fn fc, .int .i64 2] := (hc.keep _ (Or.inr rfl)).trans K8.out.2
  have K9 := Lib.hid (And.intro (K8.out.1.go hX hc) hBx); clear hX hc K8 hBx
  go_wp2_with fail
  try go_at_call 16
  refine (Due_any _ w.heap.size w.heap.size [(4, [], 2), (5, [], 1), (5, [[3]], 3)] 5 _ K9.out.1.hx).mono ?_
  rintro e w9 ⟨v9, ⟨rfl, hO, hX⟩, hc⟩
  rw [show dpos 5 [((4 : Int), ([] : List (List Int)), (2 : Int)), (5, [], 1), (5, [[3]], 3)] = 1 from rfl] at hX hO
  have hBx : Blk w9 w6.heap.size 35 #[.int .i64 4, .slice fA fn fc, .int .i64 2] := (hc.keep _ (Or.inr rfl)).trans K9.out.2
  obtain ⟨l9, hO9, hl9, _⟩ := hO
  have K10 := Lib.hid (And.intro (Kp.mk hX (Nat.le_refl _) (K9.out.1.bel.trans hc.bel)) (And.intro hBx (And.intro hO9 hl9))); clear hX hc K9 hBx hO9 hl9
  obtain ⟨A9, n9, c9, rfl⟩ := own_shape K10.out.2.2.1
  go_wp2_with fail
  try go_at_call 19
  refine (All_any _ w.heap.size w.heap.size _ _ K10.out.1.hx).mono ?_
  rintro e w10 ⟨v10, ⟨rfl, hO, hX⟩, hc⟩
  have hBx : Blk w10 w6.heap.size 35 #[.int .i64 4, .slice fA fn fc, .int .i64 2] := (hc.keep _ (Or.inl (Or.inr rfl))).trans K10.out.2.1
  have hO9 := K10.out.2.2.1.same (w' := w10) (fun g hg => hc.keep _ (Or.inr hg))
  obtain ⟨l10, hO10, hl10, _⟩ := hO
  obtain ⟨y, rfl⟩ : ∃ y, l9 = [y] := by
    have h := congrArg List.length K10.out.2.2.2
    simp only [List.length_map] at h
    exact List.length_eq_one_iff.1 h
  obtain ⟨z1, z2, rfl⟩ : ∃ z1 z2, l10 = [z1, z2] := by
    have h := congrArg List.length hl10
    simp only [List.length_map] at h
    match l10, h with
    | [a, b], _ => exact ⟨a, b, rfl⟩
  have hy : y.1.2.2 = 2 := by have := K10.out.2.2.2; simp at this; rw [this]
  have hz : z1.1.2.2 = 1 ∧ z2.1.2.2 = 3 := by have := hl10; simp at this; rw [this.1, this.2]; exact ⟨rfl, rfl⟩
  obtain ⟨A10, c10, rfl, _⟩ := hO10.shape
  have hs9 := hO9.shape
  obtain ⟨_, _, he9, _⟩ := hs9
  simp only [Value.slice.injEq] at he9
  obtain ⟨rfl, rfl, rfl⟩ := he9
  obtain ⟨g9, rfl, _, _, _, hc9⟩ := hO9.cells (f := rowW) (k := 3) (fun _ => rfl) rfl (by simp)
  obtain ⟨g10, rfl, _, _, _, hc10⟩ := hO10.cells (f := rowW) (k := 3) (fun _ => rfl) rfl (by simp)
  have x9 := hc9 0 (by simp) 2 _ rfl
  have x10 := hc10 0 (by simp) 2 _ rfl
  have x11 := hc10 1 (by simp) 2 _ rfl
  simp only [List.getElem_cons_zero, List.getElem_cons_succ, hy, hz.1, hz.2] at x9 x10 x11
  obtain ⟨f0, f1, f2⟩ := hBx.three
  have K11 := Lib.hid (And.intro hX (K10.out.1.bel.trans hc.bel)); clear hX hc K10 hBx hO9 hO10 hl10 hc9 hc10 hy hz
  simp only [List.length_cons, List.length_nil, Nat.zero_add, Nat.reduceAdd]
  go_wp2_with (go_at_call 21; (refine (Len_any _ _ _ _ _ K11.out.1).mono ?_); rintro e w11 ⟨rfl, b11⟩)
  go_ret
  exact ⟨rfl, bt K11.out.2 b11⟩
end Go.Proofs.Yticjfhagpmlieaa
