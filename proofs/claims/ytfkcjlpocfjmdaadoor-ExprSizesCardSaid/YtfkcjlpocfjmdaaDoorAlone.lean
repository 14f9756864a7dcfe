/- Contracts of package expr: rightLit and rightAlone at whatever node. -/
import Derived.Test.YtfkcjlpocfjmdaaDoorTreeR
import Derived.BigGuard
namespace Go.Proofs.YtfkcjlpocfjmdaaDoor
open Go.ChangeShapes Go.WideShapes Go.ChangeAt Go.RowKit
set_option linter.unusedVariables false
set_option linter.unusedSimpArgs false

/-- Is a node right, but for what stands below it? -/
def z5 (op : ByteArray) (vk vn : Int) (vs va f : ByteArray) : Bool := op.toList.isEmpty && (decide (vk = 0) && decide (vn = 0) && vs.toList.isEmpty) && va.toList.isEmpty && f.toList.isEmpty
def litB (k n : Int) (s : ByteArray) : Bool := (Tr.lit k n s).ok
def aloneB (k : Int) (op : ByteArray) (vk vn : Int) (vs va f : ByteArray) (n : Nat) : Bool :=
  if k = 0 then litB vk vn vs && decide (n = 0) && z5 op 0 0 e0 va f else
  if k = 1 then (nameB va && nameB f) && decide (n = 0) && z5 op vk vn vs e0 e0 else
  if k = 2 then nameB va && decide (n = 0) && z5 op vk vn vs e0 f else
  if k = 3 then unB op && decide (n = 1) && z5 e0 vk vn vs va f else
  if k = 4 then decide (0 < lvl op) && decide (n = 2) && z5 e0 vk vn vs va f else false
theorem e0_empty : e0.toList.isEmpty = true := by kernel_rfl
/-- Where a chain of tests falls. -/
theorem z5_cases (op : ByteArray) (vk vn : Int) (vs va f : ByteArray) : (z5 op vk vn vs va f = true ∧ op = e0 ∧ vk = 0 ∧ vn = 0 ∧ vs = e0 ∧ va = e0 ∧ f = e0) ∨
    (z5 op vk vn vs va f = false ∧ (¬ op.toList = [] ∨ (op = e0 ∧ ¬ vk = 0) ∨ (op = e0 ∧ vk = 0 ∧ ¬ vn = 0) ∨ (op = e0 ∧ vk = 0 ∧ vn = 0 ∧ ¬ vs.toList = []) ∨ (op = e0 ∧ vk = 0 ∧ vn = 0 ∧ vs = e0 ∧ ¬ va.toList = []) ∨ (op = e0 ∧ vk = 0 ∧ vn = 0 ∧ vs = e0 ∧ va = e0 ∧ ¬ f.toList = []))) := by
  have he : ∀ x : ByteArray, x.toList = [] → x = e0 := fun x h => toList_inj (h.trans (by kernel_rfl))
  unfold z5
  by_cases h1 : op.toList = []
  · obtain rfl := he op h1
    by_cases h2 : vk = 0
    · subst h2
      by_cases h3 : vn = 0
      · subst h3
        by_cases h4 : vs.toList = []
        · obtain rfl := he vs h4
          by_cases h5 : va.toList = []
          · obtain rfl := he va h5
            by_cases h6 : f.toList = []
            · obtain rfl := he f h6
              exact Or.inl ⟨by kernel_rfl, rfl, rfl, rfl, rfl, rfl, rfl⟩
            · exact Or.inr ⟨by simp [h6], Or.inr (Or.inr (Or.inr (Or.inr (Or.inr ⟨rfl, rfl, rfl, rfl, rfl, h6⟩))))⟩
          · exact Or.inr ⟨by simp [h5], Or.inr (Or.inr (Or.inr (Or.inr (Or.inl ⟨rfl, rfl, rfl, rfl, h5⟩))))⟩
        · exact Or.inr ⟨by simp [h4], Or.inr (Or.inr (Or.inr (Or.inl ⟨rfl, rfl, rfl, h4⟩)))⟩
      · exact Or.inr ⟨by simp [h3], Or.inr (Or.inr (Or.inl ⟨rfl, rfl, h3⟩))⟩
    · exact Or.inr ⟨by simp [h2], Or.inr (Or.inl ⟨rfl, h2⟩)⟩
  · exact Or.inr ⟨by simp [h1], Or.inl h1⟩
theorem Right_false (k n : Int) (s : ByteArray) (h : Val.right k n s = false) : litB k n s = false := by
  unfold litB Tr.ok; rw [h]; rfl
set_option maxHeartbeats 2000000 in
theorem rightLit_any (k n : Int) (s : ByteArray) (w : World) (hs : s.size ≤ maxLen) :
    Calls Tryd.prog 48 #[vv k n s] w fun e w' => e = .returned (.bool (litB k n s)) ∧ Below w.heap.size w w' := by
  have cR := fun W => Right_any k n s W hs
  cases h1 : Val.right k n s
  · rw [h1] at cR
    have E := Lib.hid (Right_false k n s h1)
    have C := Lib.hid cR; clear cR h1
    go_enter Tryd.func48, Tryd.ntmps48
    go_wp2_with (go_at_call 59; ((with_reducible refine (C.out _).mono ?_); rintro e w1 ⟨rfl, hb⟩; have hc := (bcell hb).1; have B := Lib.hid hb; clear hb))
    go_ret
    exact ⟨by rw [E.out]; rfl, bt (ba _ _) B.out⟩
  · rw [h1] at cR
    have e : litB k n s = (!(decide (k = 1) && decide (n < 0)) && !decide (0 ≤ Lib.indexByte s.data.toList 39)) := by unfold litB Tr.ok; rw [h1]; rfl
    have cC := fun W => Tryd.strings_Contains_one s 39 W
    generalize decide (0 ≤ Lib.indexByte s.data.toList 39) = q at *
    have E := Lib.hid e
    have C := Lib.hid (And.intro cR cC); clear cR cC h1 e
    by_cases hk : k = 1
    · by_cases hn : n < 0
      all_goals
        subst hk
        go_enter Tryd.func48, Tryd.ntmps48
        go_wp2_with (first
          | (go_at_call 59; ((with_reducible refine (C.out.1 _).mono ?_); rintro e w1 ⟨rfl, hb⟩; have hc := (bcell hb).1; have B := Lib.hid hb; clear hb))
          | (go_at_call 60; ((with_reducible refine (C.out.2 _).mono ?_); rintro e w1 ⟨rfl, rfl⟩)))
        go_ret
        exact ⟨by rw [E.out]; simp [hn], bt (ba _ _) B.out⟩
    · have hk1 : decide (k = 1) = false := decide_eq_false hk
      go_enter Tryd.func48, Tryd.ntmps48
      go_wp2_with (first
        | (go_at_call 59; ((with_reducible refine (C.out.1 _).mono ?_); rintro e w1 ⟨rfl, hb⟩; have hc := (bcell hb).1; have B := Lib.hid hb; clear hb))
        | (go_at_call 60; ((with_reducible refine (C.out.2 _).mono ?_); rintro e w1 ⟨rfl, rfl⟩)))
      go_ret
      exact ⟨by rw [E.out]; simp [hk], bt (ba _ _) B.out⟩
set_option maxHeartbeats 4000000 in
theorem alone0_any (op : ByteArray) (vk vn : Int) (vs va f : ByteArray) (A : Option Addr) (n c : Nat) (w : World) (hvs : vs.size ≤ maxLen) (hn : n ≤ 9223372036854775807) :
    Calls Tryd.prog 34 #[ev 0 op vk vn vs va f (.slice A n c)] w fun e w' => e = .returned (.bool ((litB vk vn vs) && decide (n = 0) && z5 op 0 0 e0 va f)) ∧ Below w.heap.size w w' := by
  have cL := fun W => rightLit_any vk vn vs W hvs
  cases hb : litB vk vn vs
  · rw [hb] at cL
    have C := Lib.hid cL; clear cL hb
    go_enter Tryd.func34, Tryd.ntmps34
    go_wp2_with (go_at_call 48; ((with_reducible refine (C.out _).mono ?_); rintro e w1 ⟨rfl, hb⟩; have hc := (bcell hb).1; have hf := (bcell hb).2; have hz := hb.size; have B := Lib.hid hb; clear hb))
    go_ret
    exact ⟨by simp, (((bt (bt (ba _ _) (ba _ _)) B.out).setCell (Nat.le_succ _) _).setCell (Nat.le_succ _) _).setCell (Nat.le_succ _) _⟩
  rw [hb] at cL
  have C := Lib.hid cL; clear cL hb
  by_cases h0 : n = 0
  · subst h0
    rcases z5_cases op 0 0 e0 va f with ⟨hz, rfl, _, _, _, rfl, rfl⟩ | ⟨hz, h | ⟨rfl, h⟩ | ⟨rfl, _, h⟩ | ⟨rfl, _, _, h⟩ | ⟨rfl, _, _, _, h⟩ | ⟨rfl, _, _, _, rfl, h⟩⟩
    rotate_left 2
    · exact absurd rfl h
    rotate_right 2
    rotate_left 2
    · exact absurd rfl h
    rotate_right 2
    rotate_left 2
    · exact absurd (show e0.toList = [] by kernel_rfl) h
    rotate_right 2
    all_goals
      have Z := Lib.hid hz; clear hz
      go_enter Tryd.func34, Tryd.ntmps34
      go_wp2_with (go_at_call 48; ((with_reducible refine (C.out _).mono ?_); rintro e w1 ⟨rfl, hb⟩; have hc := (bcell hb).1; have hf := (bcell hb).2; have hz := hb.size; have B := Lib.hid hb; clear hb))
      go_ret
      exact ⟨by rw [Z.out]; first | rfl | (simp; done) | (simp; assumption), (((bt (bt (ba _ _) (ba _ _)) B.out).setCell (Nat.le_succ _) _).setCell (Nat.le_succ _) _).setCell (Nat.le_succ _) _⟩
  · have hn0 : ((n : Int) == 0) = false := beq_eq_false_iff_ne.2 (by omega)
    have hn1 : ¬ (n : Int) = 0 := by omega
    go_enter Tryd.func34, Tryd.ntmps34
    go_wp2_with (go_at_call 48; ((with_reducible refine (C.out _).mono ?_); rintro e w1 ⟨rfl, hb⟩; have hc := (bcell hb).1; have hf := (bcell hb).2; have hz := hb.size; have B := Lib.hid hb; clear hb))
    go_ret
    exact ⟨by simp [h0], (((bt (bt (ba _ _) (ba _ _)) B.out).setCell (Nat.le_succ _) _).setCell (Nat.le_succ _) _).setCell (Nat.le_succ _) _⟩
set_option maxHeartbeats 4000000 in
theorem alone1_any (op : ByteArray) (vk vn : Int) (vs va f : ByteArray) (A : Option Addr) (n c : Nat) (w : World) (hva : va.size ≤ maxLen) (hf : f.size ≤ maxLen) (hn : n ≤ 9223372036854775807) :
    Calls Tryd.prog 34 #[ev 1 op vk vn vs va f (.slice A n c)] w fun e w' => e = .returned (.bool ((nameB va && nameB f) && decide (n = 0) && z5 op vk vn vs e0 e0)) ∧ Below w.heap.size w w' := by
  have cV := fun W => IsName_any va W hva
  have cF := fun W => IsName_any f W hf
  cases hb : nameB va
  · rw [hb] at cV
    have C := Lib.hid (And.intro cV cF); clear cV cF hb
    go_enter Tryd.func34, Tryd.ntmps34
    go_wp2_with (go_at_call 49; first | ((with_reducible refine (C.out.1 _).mono ?_); rintro e w1 ⟨rfl, rfl⟩) | ((with_reducible refine (C.out.2 _).mono ?_); rintro e w1 ⟨rfl, rfl⟩))
    go_ret
    exact ⟨by simp, bt (ba _ _) (ba _ _)⟩
  rw [hb] at cV
  cases hb2 : nameB f
  · rw [hb2] at cF
    have C := Lib.hid (And.intro cV cF); clear cV cF hb hb2
    go_enter Tryd.func34, Tryd.ntmps34
    go_wp2_with (go_at_call 49; first | ((with_reducible refine (C.out.1 _).mono ?_); rintro e w1 ⟨rfl, rfl⟩) | ((with_reducible refine (C.out.2 _).mono ?_); rintro e w1 ⟨rfl, rfl⟩))
    go_ret
    exact ⟨by simp, bt (ba _ _) (ba _ _)⟩
  rw [hb2] at cF
  have C := Lib.hid (And.intro cV cF); clear cV cF hb hb2
  by_cases h0 : n = 0
  · subst h0
    rcases z5_cases op vk vn vs e0 e0 with ⟨hz, rfl, rfl, rfl, rfl, _, _⟩ | ⟨hz, h | ⟨rfl, h⟩ | ⟨rfl, rfl, h⟩ | ⟨rfl, rfl, rfl, h⟩ | ⟨rfl, rfl, rfl, rfl, h⟩ | ⟨rfl, rfl, rfl, rfl, _, h⟩⟩
    rotate_left 5
    · exact absurd (show e0.toList = [] by kernel_rfl) h
    rotate_right 5
    rotate_left 5
    · exact absurd (show e0.toList = [] by kernel_rfl) h
    rotate_right 5
    all_goals
      have Z := Lib.hid hz; clear hz
      go_enter Tryd.func34, Tryd.ntmps34
      go_wp2_with (go_at_call 49; first | ((with_reducible refine (C.out.1 _).mono ?_); rintro e w1 ⟨rfl, rfl⟩) | ((with_reducible refine (C.out.2 _).mono ?_); rintro e w1 ⟨rfl, rfl⟩))
      go_ret
      exact ⟨by rw [Z.out]; first | rfl | (simp; done) | (simp; assumption), bt (ba _ _) (ba _ _)⟩
  · have hn0 : ((n : Int) == 0) = false := beq_eq_false_iff_ne.2 (by omega)
    have hn1 : ¬ (n : Int) = 0 := by omega
    go_enter Tryd.func34, Tryd.ntmps34
    go_wp2_with (go_at_call 49; first | ((with_reducible refine (C.out.1 _).mono ?_); rintro e w1 ⟨rfl, rfl⟩) | ((with_reducible refine (C.out.2 _).mono ?_); rintro e w1 ⟨rfl, rfl⟩))
    go_ret
    exact ⟨by simp [h0], bt (ba _ _) (ba _ _)⟩
set_option maxHeartbeats 4000000 in
theorem alone2_any (op : ByteArray) (vk vn : Int) (vs va f : ByteArray) (A : Option Addr) (n c : Nat) (w : World) (hva : va.size ≤ maxLen) (hn : n ≤ 9223372036854775807) :
    Calls Tryd.prog 34 #[ev 2 op vk vn vs va f (.slice A n c)] w fun e w' => e = .returned (.bool ((nameB va) && decide (n = 0) && z5 op vk vn vs e0 f)) ∧ Below w.heap.size w w' := by
  have cV := fun W => IsName_any va W hva
  cases hb : nameB va
  · rw [hb] at cV
    have C := Lib.hid cV; clear cV hb
    go_enter Tryd.func34, Tryd.ntmps34
    go_wp2_with (go_at_call 49; ((with_reducible refine (C.out _).mono ?_); rintro e w1 ⟨rfl, rfl⟩))
    go_ret
    exact ⟨by simp, bt (ba _ _) (ba _ _)⟩
  rw [hb] at cV
  have C := Lib.hid cV; clear cV hb
  by_cases h0 : n = 0
  · subst h0
    rcases z5_cases op vk vn vs e0 f with ⟨hz, rfl, rfl, rfl, rfl, _, rfl⟩ | ⟨hz, h | ⟨rfl, h⟩ | ⟨rfl, rfl, h⟩ | ⟨rfl, rfl, rfl, h⟩ | ⟨rfl, rfl, rfl, rfl, h⟩ | ⟨rfl, rfl, rfl, rfl, _, h⟩⟩
    rotate_left 5
    · exact absurd (show e0.toList = [] by kernel_rfl) h
    rotate_right 5
    all_goals
      have Z := Lib.hid hz; clear hz
      go_enter Tryd.func34, Tryd.ntmps34
      go_wp2_with (go_at_call 49; ((with_reducible refine (C.out _).mono ?_); rintro e w1 ⟨rfl, rfl⟩))
      go_ret
      exact ⟨by rw [Z.out]; first | rfl | (simp; done) | (simp; assumption), bt (ba _ _) (ba _ _)⟩
  · have hn0 : ((n : Int) == 0) = false := beq_eq_false_iff_ne.2 (by omega)
    have hn1 : ¬ (n : Int) = 0 := by omega
    go_enter Tryd.func34, Tryd.ntmps34
    go_wp2_with (go_at_call 49; ((with_reducible refine (C.out _).mono ?_); rintro e w1 ⟨rfl, rfl⟩))
    go_ret
    exact ⟨by simp [h0], bt (ba _ _) (ba _ _)⟩
set_option maxHeartbeats 4000000 in
theorem alone3_any (op : ByteArray) (vk vn : Int) (vs va f : ByteArray) (A : Option Addr) (n c : Nat) (w : World)  (hn : n ≤ 9223372036854775807) :
    Calls Tryd.prog 34 #[ev 3 op vk vn vs va f (.slice A n c)] w fun e w' => e = .returned (.bool ((unB op) && decide (n = 1) && z5 e0 vk vn vs va f)) ∧ Below w.heap.size w w' := by
  by_cases g1 : op.toList = [45]
  · have hu : unB op = true := by unfold unB; rw [g1]; rfl
    rw [hu]
    clear hu
    by_cases h0 : n = 1
    · subst h0
      rcases z5_cases e0 vk vn vs va f with ⟨hz, _, rfl, rfl, rfl, rfl, rfl⟩ | ⟨hz, h | ⟨_, h⟩ | ⟨_, rfl, h⟩ | ⟨_, rfl, rfl, h⟩ | ⟨_, rfl, rfl, rfl, h⟩ | ⟨_, rfl, rfl, rfl, rfl, h⟩⟩
      rotate_left 1
      · exact absurd (show e0.toList = [] by kernel_rfl) h
      rotate_right 1
      all_goals
        have Z := Lib.hid hz; clear hz
        go_enter Tryd.func34, Tryd.ntmps34
        go_wp2_with (fail)
        go_ret
        exact ⟨by rw [Z.out]; first | rfl | (simp; done) | (simp; assumption), bt (ba _ _) (ba _ _)⟩
    · have hn0 : ((n : Int) == 1) = false := beq_eq_false_iff_ne.2 (by omega)
      have hn1 : ¬ (n : Int) = 1 := by omega
      go_enter Tryd.func34, Tryd.ntmps34
      go_wp2_with (fail)
      go_ret
      exact ⟨by simp [h0], bt (ba _ _) (ba _ _)⟩
  by_cases g2 : op.toList = [33]
  · have hu : unB op = true := by unfold unB; rw [g2]; rfl
    rw [hu]
    clear hu
    by_cases h0 : n = 1
    · subst h0
      rcases z5_cases e0 vk vn vs va f with ⟨hz, _, rfl, rfl, rfl, rfl, rfl⟩ | ⟨hz, h | ⟨_, h⟩ | ⟨_, rfl, h⟩ | ⟨_, rfl, rfl, h⟩ | ⟨_, rfl, rfl, rfl, h⟩ | ⟨_, rfl, rfl, rfl, rfl, h⟩⟩
      rotate_left 1
      · exact absurd (show e0.toList = [] by kernel_rfl) h
      rotate_right 1
      all_goals
        have Z := Lib.hid hz; clear hz
        go_enter Tryd.func34, Tryd.ntmps34
        go_wp2_with (fail)
        go_ret
        exact ⟨by rw [Z.out]; first | rfl | (simp; done) | (simp; assumption), bt (ba _ _) (ba _ _)⟩
    · have hn0 : ((n : Int) == 1) = false := beq_eq_false_iff_ne.2 (by omega)
      have hn1 : ¬ (n : Int) = 1 := by omega
      go_enter Tryd.func34, Tryd.ntmps34
      go_wp2_with (fail)
      go_ret
      exact ⟨by simp [h0], bt (ba _ _) (ba _ _)⟩
  have hu : unB op = false := by unfold unB; simp [g1, g2]
  rw [hu]
  clear hu
  go_enter Tryd.func34, Tryd.ntmps34
  go_wp2_with (fail)
  go_ret
  exact ⟨by simp, bt (ba _ _) (ba _ _)⟩
set_option maxHeartbeats 4000000 in
theorem alone4_any (op : ByteArray) (vk vn : Int) (vs va f : ByteArray) (A : Option Addr) (n c : Nat) (w : World)  (hn : n ≤ 9223372036854775807) :
    Calls Tryd.prog 34 #[ev 4 op vk vn vs va f (.slice A n c)] w fun e w' => e = .returned (.bool ((decide (0 < lvl op)) && decide (n = 2) && z5 e0 vk vn vs va f)) ∧ Below w.heap.size w w' := by
  have cL := fun W => Level_any op W
  have e1 : decide (0 < lvl op) = decide (0 < lvl op) := rfl
  generalize lvl op = x at *
  clear e1
  have C := Lib.hid cL; clear cL
  by_cases hx : 0 < x
  · rw [decide_eq_true hx]
    by_cases h0 : n = 2
    · subst h0
      rcases z5_cases e0 vk vn vs va f with ⟨hz, _, rfl, rfl, rfl, rfl, rfl⟩ | ⟨hz, h | ⟨_, h⟩ | ⟨_, rfl, h⟩ | ⟨_, rfl, rfl, h⟩ | ⟨_, rfl, rfl, rfl, h⟩ | ⟨_, rfl, rfl, rfl, rfl, h⟩⟩
      rotate_left 1
      · exact absurd (show e0.toList = [] by kernel_rfl) h
      rotate_right 1
      all_goals
        have Z := Lib.hid hz; clear hz
        go_enter Tryd.func34, Tryd.ntmps34
        go_wp2_with (go_at_call 19; ((with_reducible refine (C.out _).mono ?_); rintro e w1 ⟨rfl, rfl⟩))
        go_ret
        exact ⟨by rw [Z.out]; first | rfl | (simp; done) | (simp; assumption), bt (ba _ _) (ba _ _)⟩
    · have hn0 : ((n : Int) == 2) = false := beq_eq_false_iff_ne.2 (by omega)
      have hn1 : ¬ (n : Int) = 2 := by omega
      go_enter Tryd.func34, Tryd.ntmps34
      go_wp2_with (go_at_call 19; ((with_reducible refine (C.out _).mono ?_); rintro e w1 ⟨rfl, rfl⟩))
      go_ret
      exact ⟨by simp [h0], bt (ba _ _) (ba _ _)⟩
  · rw [decide_eq_false hx]
    go_enter Tryd.func34, Tryd.ntmps34
    go_wp2_with (go_at_call 19; ((with_reducible refine (C.out _).mono ?_); rintro e w1 ⟨rfl, rfl⟩))
    go_ret
    exact ⟨by simp, bt (ba _ _) (ba _ _)⟩
set_option maxHeartbeats 4000000 in
theorem aloneX_any (k : Int) (op : ByteArray) (vk vn : Int) (vs va f : ByteArray) (A : Option Addr) (n c : Nat) (w : World) (h0 : ¬ k = 0) (h1 : ¬ k = 1) (h2 : ¬ k = 2) (h3 : ¬ k = 3) (h4 : ¬ k = 4) :
    Calls Tryd.prog 34 #[ev k op vk vn vs va f (.slice A n c)] w fun e w' => e = .returned (.bool false) ∧ Below w.heap.size w w' := by
  go_enter Tryd.func34, Tryd.ntmps34
  go_wp2_with (fail)
  go_ret
  exact ⟨rfl, bt (ba _ _) (ba _ _)⟩
/-- rightAlone at whatever node. -/
theorem alone_any (k : Int) (op : ByteArray) (vk vn : Int) (vs va f : ByteArray) (A : Option Addr) (n c : Nat) (w : World) (hvs : vs.size ≤ maxLen) (hva : va.size ≤ maxLen) (hf : f.size ≤ maxLen) (hn : n ≤ 9223372036854775807) :
    Calls Tryd.prog 34 #[ev k op vk vn vs va f (.slice A n c)] w fun e w' => e = .returned (.bool (aloneB k op vk vn vs va f n)) ∧ Below w.heap.size w w' := by
  unfold aloneB
  by_cases h0 : k = 0
  · subst h0; rw [if_pos rfl]; exact alone0_any op vk vn vs va f A n c w hvs hn
  rw [if_neg h0]
  by_cases h1 : k = 1
  · subst h1; rw [if_pos rfl]; exact alone1_any op vk vn vs va f A n c w hva hf hn
  rw [if_neg h1]
  by_cases h2 : k = 2
  · subst h2; rw [if_pos rfl]; exact alone2_any op vk vn vs va f A n c w hva hn
  rw [if_neg h2]
  by_cases h3 : k = 3
  · subst h3; rw [if_pos rfl]; exact alone3_any op vk vn vs va f A n c w hn
  rw [if_neg h3]
  by_cases h4 : k = 4
  · subst h4; rw [if_pos rfl]; exact alone4_any op vk vn vs va f A n c w hn
  rw [if_neg h4]
  exact aloneX_any k op vk vn vs va f A n c w h0 h1 h2 h3 h4
end Go.Proofs.YtfkcjlpocfjmdaaDoor
