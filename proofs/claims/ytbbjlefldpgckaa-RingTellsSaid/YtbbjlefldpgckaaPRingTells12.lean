/- Texts of the proof of RingTells, part 12. -/
import Derived.Test.YtbbjlefldpgckaaPRingTells11
namespace Go.Proofs.Ytbbjlefldpgckaa
open Go.ChangeShapes Go.WideShapes Go.ChangeAt Go.RowKit Go.Maps
open Ev (V3 rightV OkV)
set_option linter.unusedVariables false
set_option linter.unusedSimpArgs false
set_option maxRecDepth 20000

section
variable (B d : Nat) (s : Rg) (w : World) (h : RS w B d s)
theorem Total_any (h : RS w B d s) : Calls Try.prog 19 #[.pointer (some ⟨d, 0, none⟩)] w fun e w' => e = .returned (.int .i64 (s.hist.length : Int)) ∧ Below w.heap.size w w' := by
  obtain ⟨v, m, L, h⟩ := h
  obtain ⟨c0, c1, c2, c3, c4, c5, c6, dl, df⟩ := h.pre.cells
  clear h
  go_enter Try.func19, Try.ntmps19
  go_wp2
  go_ret
  exact ⟨rfl, Below.refl _ _⟩
theorem Cap_any (h : RS w B d s) : Calls Try.prog 30 #[.pointer (some ⟨d, 0, none⟩)] w fun e w' => e = .returned (.int .i64 (s.room : Int)) ∧ Below w.heap.size w w' := by
  obtain ⟨v, m, L, h⟩ := h
  obtain ⟨c0, c1, c2, c3, c4, c5, c6, dl, df⟩ := h.pre.cells
  clear h
  go_enter Try.func30, Try.ntmps30
  go_wp2
  go_ret
  exact ⟨rfl, Below.refl _ _⟩
theorem Edge_any (h : RS w B d s) : Calls Try.prog 20 #[.pointer (some ⟨d, 0, none⟩)] w fun e w' => e = .returned (.int .i64 s.edge) ∧ Below w.heap.size w w' := by
  obtain ⟨v, m, L, h⟩ := h
  obtain ⟨c0, c1, c2, c3, c4, c5, c6, dl, df⟩ := h.pre.cells
  clear h
  go_enter Try.func20, Try.ntmps20
  go_wp2
  go_ret
  exact ⟨rfl, Below.refl _ _⟩
theorem Closed_any (h : RS w B d s) : Calls Try.prog 31 #[.pointer (some ⟨d, 0, none⟩)] w fun e w' => e = .returned (.bool s.shut) ∧ Below w.heap.size w w' := by
  obtain ⟨v, m, L, h⟩ := h
  obtain ⟨c0, c1, c2, c3, c4, c5, c6, dl, df⟩ := h.pre.cells
  clear h
  go_enter Try.func31, Try.ntmps31
  go_wp2
  go_ret
  exact ⟨rfl, Below.refl _ _⟩
def lowR (s : Rg) (id : Int) : Int := ((s.rd id).getD (0, 0)).2
theorem Low_any (id : Int) (hi : wfI id) (h : RS w B d s) : Calls Try.prog 25 #[.pointer (some ⟨d, 0, none⟩), .int .i64 id] w fun e w' => e = .returned (.int .i64 (lowR s id)) ∧ Below w.heap.size w w' := by
  obtain ⟨v, m, L, h⟩ := h
  obtain ⟨c0, c1, c2, c3, c4, c5, c6, dl, df⟩ := h.pre.cells
  have r1 := h.pre.map.look hi
  clear h
  unfold lowR
  generalize (s.rd id).getD (0, 0) = r at *
  obtain ⟨a, b⟩ := r
  have r2 : (Instr.lookup 60 (.map (some m)) (.int .i64 id) false).run Try.prog w = .ok (.agg #[.int .i64 (a : Int), .int .i64 b]) w := r1
  clear r1
  have hf : ∀ w, (Instr.field 79 (.agg #[.int .i64 (a : Int), .int .i64 b]) 1).run Try.prog w = .ok (.int .i64 b) w := fun _ => rfl
  go_enter Try.func25, Try.ntmps25
  go_wp2
  go_ret
  exact ⟨rfl, Below.refl _ _⟩
def waitR (s : Rg) (id : Int) : Int := match s.rd id with | none => 0 | some r => (s.hist.length : Int) - (r.1 : Int)
theorem Wait_any (id : Int) (hi : wfI id) (h : RS w B d s) : Calls Try.prog 23 #[.pointer (some ⟨d, 0, none⟩), .int .i64 id] w fun e w' => e = .returned (.int .i64 (waitR s id)) ∧ Below w.heap.size w w' := by
  obtain ⟨v, m, L, h⟩ := h
  obtain ⟨c0, c1, c2, c3, c4, c5, c6, dl, df⟩ := h.pre.cells
  have r1 := h.pre.map.ok hi
  have hrd := h.pre.ok.rd id
  have hT := h.pre.ok.total
  clear h
  unfold waitR
  rcases hr : s.rd id with _ | ⟨a, b⟩
  · rw [hr] at r1
    clear hrd hr
    go_enter Try.func23, Try.ntmps23
    go_wp2
    go_ret
    exact ⟨rfl, ba _ _⟩
  · rw [hr] at r1
    have h3 := (hrd _ hr).2.2.1
    simp only at h3
    have hw1 : IntKind.i64.wrap ((s.hist.length : Int) - (a : Int)) = (s.hist.length : Int) - (a : Int) := IntWalk.i64_in _ (by omega)
    clear hrd hr
    go_enter Try.func23, Try.ntmps23
    go_wp2
    go_quiet (fail)
    go_wp2
    go_ret
    exact ⟨rfl, by first | exact below_drew (ba _ _) | exact below_drewN (ba _ _) _ | exact ba _ _⟩
def endR (s : Rg) (id : Int) : Bool := match s.rd id with | none => false | some r => s.shut && decide (r.1 = s.hist.length)
theorem Ended_any (id : Int) (hi : wfI id) (h : RS w B d s) : Calls Try.prog 28 #[.pointer (some ⟨d, 0, none⟩), .int .i64 id] w fun e w' => e = .returned (.bool (endR s id)) ∧ Below w.heap.size w w' := by
  obtain ⟨v, m, L, h⟩ := h
  obtain ⟨c0, c1, c2, c3, c4, c5, c6, dl, df⟩ := h.pre.cells
  have r1 := h.pre.map.ok hi
  have bA := fun a b => ba w (.cells #[.int .i64 a, .int .i64 b] 79)
  clear h
  rcases hr : s.rd id with _ | ⟨a, b⟩
  · rw [hr] at r1
    have hE : endR s id = false := by unfold endR; rw [hr]
    rw [hE]
    go_enter Try.func28, Try.ntmps28
    go_wp2
    all_goals (try go_quiet (fail))
    all_goals (try go_wp2)
    all_goals go_ret
    exact ⟨rfl, by first | exact below_drew (ba _ _) | exact below_drewN (ba _ _) _ | exact ba _ _⟩
  · rw [hr] at r1
    have hE : endR s id = (s.shut && decide (a = s.hist.length)) := by unfold endR; rw [hr]
    rw [hE]
    clear hr hE
    cases hsh : s.shut
    · rw [hsh] at c4
      go_enter Try.func28, Try.ntmps28
      go_wp2
      all_goals (try go_quiet (fail))
      all_goals (try go_wp2)
      all_goals go_ret
      exact ⟨rfl, by first | exact below_drew (ba _ _) | exact below_drewN (ba _ _) _ | exact ba _ _⟩
    · rw [hsh] at c4
      by_cases he : a = s.hist.length
      · have hd : decide ((a : Int) = (s.hist.length : Int)) = true := by simp [he]
        have hE : decide (a = s.hist.length) = true := by simp [he]
        rw [hE]
        go_enter Try.func28, Try.ntmps28
        go_wp2
        all_goals (try go_quiet (fail))
        all_goals (try go_wp2)
        all_goals go_ret
        exact ⟨by simp [he], by first | exact below_drew (ba _ _) | exact below_drewN (ba _ _) _ | exact ba _ _⟩
      · have hd : decide ((a : Int) = (s.hist.length : Int)) = false := by simp; omega
        have hE : decide (a = s.hist.length) = false := by simp [he]
        have hne : ¬ (a : Int) = (s.hist.length : Int) := by omega
        rw [hE]
        go_enter Try.func28, Try.ntmps28
        go_wp2
        all_goals (try go_quiet (fail))
        all_goals (try go_wp2)
        all_goals go_ret
        exact ⟨by simp [hne], by first | exact below_drew (ba _ _) | exact below_drewN (ba _ _) _ | exact ba _ _⟩
def FreeP (s : Rg) (w : World) (e : Ending) (w' : World) : Prop := ∃ q : Nat, (e = .returned (.int .i64 ((s.room : Int) - (q : Int))) ∧ IsLen s.hist.length s.rd q ∧ q ≤ s.room) ∧ Below w.heap.size w w'
theorem Free_any (h : RS w B d s) : Calls Try.prog 21 #[.pointer (some ⟨d, 0, none⟩)] w (FreeP s w) := by
  obtain ⟨v, m, L, h⟩ := h
  have cL := Len_any B d v m L s w.drew (h.pre.later (below_drew (Below.refl _ _)))
  obtain ⟨c0, c1, c2, c3, c4, c5, c6, dl, df⟩ := h.pre.cells
  have hro := h.pre.ok.room
  have hone : ∀ q, IsLen s.hist.length s.rd q → q ≤ s.room := fun q hq => by rw [hq.one h.len]; exact h.fits
  have hwr : ∀ q : Nat, q ≤ s.room → IntKind.i64.wrap ((s.room : Int) - (q : Int)) = (s.room : Int) - (q : Int) := fun q hq => IntWalk.i64_in _ (by omega)
  have H := Lib.hid (And.intro cL (And.intro hone (And.intro hwr h.pre))); clear h cL hone hwr
  go_enter Try.func21, Try.ntmps21
  go_wp2_with fail
  go_region_law (first
    | (go_simp; go_at_call 22; ((with_reducible refine H.out.1.mono ?_); rintro e w1 ⟨q, ⟨rfl, hq⟩, b1⟩; have hle := H.out.2.1 q hq; have hw1 := H.out.2.2.1 q hle; obtain ⟨f0, _⟩ := (H.out.2.2.2.later ((below_drew (Below.refl w.heap.size w)).trans b1)).cells; have K := Lib.hid (And.intro hq b1); clear hq b1)))
  all_goals go_wp2
  all_goals go_ret
  all_goals exact ⟨q, ⟨rfl, K.out.1, hle⟩, (below_drew (Below.refl _ _)).trans K.out.2⟩
end
def g0 (room : Nat) : Rg := ⟨room, [], 0, false, fun _ => none, 0, 0⟩
def NewP (room : Nat) (w : World) (e : Ending) (w' : World) : Prop := ∃ d, (e = .returned (.tuple #[.pointer (some ⟨d, 0, none⟩), .int .i64 0]) ∧ RS w' w.heap.size d (g0 room)) ∧ Below w.heap.size w w'
theorem New_any (room : Nat) (h1 : 1 ≤ room) (h2 : room ≤ 256) (w : World) : Calls Try.prog 10 #[.int .i64 (room : Int)] w (NewP room w) := by
  have hmm := @run_makeMap Try.prog
  have hN : 1 ≤ room ∧ room ≤ 256 := ⟨h1, h2⟩
  have HN := Lib.hid hN
  have k1 : ¬ (room : Int) < 1 := by omega
  have k2 : ¬ 256 < (room : Int) := by omega
  clear h1 h2 hN
  go_enter Try.func10, Try.ntmps10
  go_wp2
  refine bodyPost_ret (v := .tuple #[.pointer (some ⟨w.heap.size + 1, 0, none⟩), .int .i64 0]) (by simp [results, Try.results10, go_sem]) rfl ?_
  refine ⟨_, ⟨rfl, ⟨.slice none 0 0, w.heap.size, [], ⟨⟨?_, Nat.le_refl _, (by have := Blk.new (w.alloc (.map #[] 0)) 63 (rgCells (g0 room) (.slice none 0 0) w.heap.size); rw [World.size_alloc] at this; exact this), Own.nil _ _ _ _ _, trivial, (RdAt.made w).later (ba _ _), ⟨HN.out, Nat.zero_le _, fun id r hr => (by cases hr), ⟨Int.le_refl _, by show (0 : Int) ≤ _; decide⟩, by show (0 : Nat) ≤ _; decide, by show (0 : Nat) ≤ _; decide, fun x hx => by cases hx⟩⟩, ⟨fun id r hr => (by cases hr), Or.inl rfl⟩, Nat.zero_le _, fun x hx => (by cases hx)⟩⟩⟩, bt (ba _ _) (ba _ _)⟩
  simp
theorem New_no (w : World) : Calls Try.prog 10 #[.int .i64 0] w fun e w' => e = .returned (.tuple #[.pointer none, .int .i64 1]) ∧ Below w.heap.size w w' := by
  go_enter Try.func10, Try.ntmps10
  go_wp2
  refine bodyPost_ret (v := .tuple #[.pointer none, .int .i64 1]) (by simp [results, Try.results10, go_sem]) rfl ?_
  exact ⟨rfl, Below.refl _ _⟩
abbrev row3 (x : V3) : List Value := [.int .i64 x.1, .int .i64 x.2.1, .string x.2.2]
theorem at_vals {w : World} {v : Value} {l : List V3} (h : At w 3 row3 v l) : ValsAt w v l := by
  obtain ⟨A, c, rfl, h1, h2, h3⟩ := h.shape
  refine ⟨A, c, rfl, h1, h2, fun h0 => ?_⟩
  obtain ⟨a, rfl, hc⟩ := h.cells rfl h0
  exact ⟨a, rfl, fun j hj => hc.row3 j hj rfl⟩
theorem new_at {w : World} {B : Nat} {v : Value} {l : List V3} (h : NewAt B w v l) : At w 3 row3 v l := Own.at_ (f := row3) (k := 3) (fun _ => rfl) (show Own w B 84 3 row3 v l from h)
def CloneP (l : List V3) (w : World) (e : Ending) (w' : World) : Prop := ∃ v', (e = .returned v' ∧ NewAt w.heap.size w' v' l) ∧ Below w.heap.size w w'
theorem Clone_any (v : Value) (l : List V3) (w : World) (hl : l.length ≤ 6) (h : At w 3 row3 v l) : Calls Try.prog 54 #[v] w (CloneP l w) := by
  obtain ⟨i0, hi, hz0, hz1, hz2⟩ := info_parts (P := Try.prog) (e := 84) (z := .agg #[.int .i64 0, .int .i64 0, .string ⟨#[]⟩]) (size := 3) (bytes := 32) (by kernel_rfl)
  obtain ⟨A, c, rfl, h1, h2, h3⟩ := h.shape
  rcases A with _ | a
  · obtain rfl := h3 rfl
    obtain rfl : l = [] := List.eq_nil_of_length_eq_zero (by omega)
    clear h
    have he : ∀ w : World, (binOp .eql 33 (.slice none 0 0) (.slice none 0 0)).run Try.prog w = .ok (.bool true) w := fun _ => rfl
    simp only [List.length_nil]
    go_enter Try.func54, Try.ntmps54
    go_wp2
    go_ret
    exact ⟨_, ⟨rfl, NewAt.nil _ _⟩, Below.refl _ _⟩
  · have H := Lib.hid h; clear h
    have he : ∀ w : World, (binOp .eql 33 (.slice (some a) l.length c) (.slice none 0 0)).run Try.prog w = .ok (.bool false) w := fun _ => rfl
    go_enter Try.func54, Try.ntmps54
    go_wp2_with (at_builtin; refine wpList_append_at _ rfl (.tmp 5) (.tmp 6) 33 rfl w.heap.size 84 i0 (.agg #[.int .i64 0, .int .i64 0, .string ⟨#[]⟩]) 3 32 Try.underlying33 hi hz0 hz1 hz2 rfl (by decide) (f := row3) (fun _ => rfl) (fun x u hu => three_one _ _ _ u hu) (.slice (some ⟨w.heap.size, 0, none⟩) 0 0) [] rfl (World.ownsRow_lit w #[] 0 (Nat.le_refl _) (by decide) rfl) (some a) l.length c l rfl rfl (H.out.later (ba _ _)) (by unfold maxLen; simp; omega) (by simp; omega) (by simp) ?_; intro v' w1 hO hg; have K := Lib.hid (And.intro hO hg); clear hO hg)
    go_ret
    refine ⟨_, ⟨rfl, K.out.1⟩, (ba w _).trans (grownBy_below K.out.2 (by simp) (fun k hk => ?_))⟩
    have hk' : w.heap.size = k := by simpa [Value.ownBlock] using hk
    exact Nat.le_of_eq hk'
end Go.Proofs.Ytbbjlefldpgckaa
