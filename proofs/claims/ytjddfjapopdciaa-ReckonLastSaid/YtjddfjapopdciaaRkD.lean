/- Contracts of package reckon: operations of two. -/
import Derived.Test.YtjddfjapopdciaaRkC
import Derived.Test.YtjddfjapopdciaaTree
namespace Go.Proofs.Ytjddfjapopdciaa
open Go.ChangeShapes Go.WideShapes Go.ChangeAt Go.RowKit
open Rk (inR)
set_option linter.unusedVariables false
set_option linter.unusedSimpArgs false

/-- What an order of two right values of one kind tells. -/
def ordV (a b : V3) : Int := if a.1 = 3 then Val.cmpS a.2.2 b.2.2 else Val.cmpI a.2.1 b.2.1
def compM (op : ByteArray) (c : Int) : Bool := if op.toList = [60] then decide (c < 0) else if op.toList = [60, 61] then decide (c ≤ 0) else if op.toList = [62] then decide (0 < c) else decide (0 ≤ c)
theorem compared_any (op : ByteArray) (k n : Int) (s : ByteArray) (m : Int) (t : ByteArray) (w : World) (ho : op.toList = [60] ∨ op.toList = [60, 61] ∨ op.toList = [62] ∨ op.toList = [62, 61]) (h1 : Val.right k n s = true) (h2 : Val.right k m t = true) :
    Calls Try.prog 71 #[.string op, vv k n s, vv k m t] w fun e w' => e = .returned (.bool (compM op (ordV (k, n, s) (k, m, t)))) ∧ Below w.heap.size w w' := by
  have cO := fun W => Order_any k n s k m t W (by have := right_size h1; unfold maxLen; omega) (by have := right_size h2; unfold maxLen; omega)
  have e : orderV k n s k m t = .tuple #[.int .i64 (ordV (k, n, s) (k, m, t)), .bool true] := by
    unfold ordV
    by_cases hk : k = 3
    · subst hk; rw [orderV_text h1 h2, if_pos rfl]
    · rw [orderV_num h1 h2 hk, if_neg hk]
  rw [e] at cO
  generalize ordV (k, n, s) (k, m, t) = c at *
  have C := Lib.hid cO; clear cO e h1 h2
  rcases ho with h | h | h | h
  · rw [show compM op c = decide (c < 0) by unfold compM; simp [h]]
    go_enter Try.func71, Try.ntmps71
    go_wp2_with (go_at_call 82; ((with_reducible refine (C.out _).mono ?_); rintro e w1 ⟨rfl, hb⟩))
    go_ret
    exact ⟨by first | rfl | simp, bt (bt (ba _ _) (ba _ _)) hb⟩
  · rw [show compM op c = decide (c ≤ 0) by unfold compM; simp [h]]
    go_enter Try.func71, Try.ntmps71
    go_wp2_with (go_at_call 82; ((with_reducible refine (C.out _).mono ?_); rintro e w1 ⟨rfl, hb⟩))
    go_ret
    exact ⟨by first | rfl | simp, bt (bt (ba _ _) (ba _ _)) hb⟩
  · rw [show compM op c = decide (0 < c) by unfold compM; simp [h]]
    go_enter Try.func71, Try.ntmps71
    go_wp2_with (go_at_call 82; ((with_reducible refine (C.out _).mono ?_); rintro e w1 ⟨rfl, hb⟩))
    go_ret
    exact ⟨by first | rfl | simp, bt (bt (ba _ _) (ba _ _)) hb⟩
  · rw [show compM op c = decide (0 ≤ c) by unfold compM; simp [h]]
    go_enter Try.func71, Try.ntmps71
    go_wp2_with (go_at_call 82; ((with_reducible refine (C.out _).mono ?_); rintro e w1 ⟨rfl, hb⟩))
    go_ret
    exact ⟨by first | rfl | simp, bt (bt (ba _ _) (ba _ _)) hb⟩

def binaryM (op : ByteArray) (a b : V3) : Option V3 :=
  if a.1 ≠ b.1 then none else
  if op.toList = [124, 124] ∨ op.toList = [38, 38] then (if b.1 = 2 then some b else none) else
  if op.toList = [61, 61] then some (tv (decide (a = b))) else
  if op.toList = [33, 61] then some (tv (!decide (a = b))) else
  if op.toList = [60] ∨ op.toList = [60, 61] ∨ op.toList = [62] ∨ op.toList = [62, 61] then some (tv (compM op (ordV a b))) else
  if op.toList = [43] ∧ a.1 = 3 then (if a.2.2.size + b.2.2.size ≤ 64 then some (3, 0, a.2.2 ++ b.2.2) else none) else
  if a.1 ≠ 1 then none else (wholeM op a.2.1 b.2.1).map fun n => (1, n, mt)

/-- A call's own row for what it tells, behind d others. -/
def KR (w W : World) (d : Nat) (x y z : Value) : Prop := Below w.heap.size w W ∧ Blk W (w.heap.size + d) 23 #[x, y, z]
theorem KR.go {w W w1 : World} {d : Nat} {x y z : Value} (h : KR w W d x y z) (hb : Below W.heap.size W w1) : KR w w1 d x y z := ⟨bt h.1 hb, h.2.later hb⟩
theorem KR.facts {w W : World} {d : Nat} {x y z : Value} (h : KR w W d x y z) : (∀ j, W.cell? ⟨w.heap.size + d, j, none⟩ = #[x, y, z][j]?) ∧ (∀ j, W.frozen? ⟨w.heap.size + d, j, none⟩ = false) :=
  ⟨fun j => h.2.cell j, fun j => h.2.frozen j⟩
theorem KR.put {w W : World} {d : Nat} {x y z : Value} (h : KR w W d x y z) (x' y' z' : Value) : Below w.heap.size w (((W.setCell ⟨w.heap.size + d, 0, none⟩ x').setCell ⟨w.heap.size + d, 1, none⟩ y').setCell ⟨w.heap.size + d, 2, none⟩ z') :=
  ((h.1.setCell (Nat.le_add_right _ _) _).setCell (Nat.le_add_right _ _) _).setCell (Nat.le_add_right _ _) _
abbrev zv : Array Value := #[.int .i64 0, .int .i64 0, .string ⟨#[]⟩]
theorem KR.bin (w : World) (c1 c2 : Array Value) : KR w (((w.alloc (.cells c1 23)).alloc (.cells c2 23)).alloc (.cells zv 23)) 2 (.int .i64 0) (.int .i64 0) (.string ⟨#[]⟩) :=
  ⟨bt (bt (ba _ _) (ba _ _)) (ba _ _), by have := Blk.new ((w.alloc (.cells c1 23)).alloc (.cells c2 23)) 23 zv; simpa using this⟩

theorem binary_kind (op : ByteArray) (k n : Int) (s : ByteArray) (l m : Int) (t : ByteArray) (w : World) (h : k ≠ l) :
    Calls Try.prog 53 #[.string op, vv k n s, vv l m t] w fun e w' => Res (binaryM op (k, n, s) (l, m, t)) e ∧ Below w.heap.size w w' := by
  rw [show binaryM op (k, n, s) (l, m, t) = none by unfold binaryM; rw [if_pos h]]
  have hkb : (k == l) = false := by simpa using h
  go_enter Try.func53, Try.ntmps53
  go_wp2_with (go_at_call 67; ((with_reducible refine (need_no _).mono ?_); rintro e w1 ⟨rfl, rfl⟩))
  exact ⟨rfl, Res.no, bt (bt (ba _ _) (ba _ _)) (ba _ _)⟩
theorem binary_logic (op : ByteArray) (k n : Int) (s : ByteArray) (m : Int) (t : ByteArray) (w : World) (ho : op.toList = [124, 124] ∨ op.toList = [38, 38]) :
    Calls Try.prog 53 #[.string op, vv k n s, vv k m t] w fun e w' => Res (binaryM op (k, n, s) (k, m, t)) e ∧ Below w.heap.size w w' := by
  by_cases hk : k = 2
  · subst hk
    rw [show binaryM op (2, n, s) (2, m, t) = some (2, m, t) by unfold binaryM; rw [if_neg (by simp), if_pos ho]; rfl]
    rcases ho with h | h
    all_goals
      go_enter Try.func53, Try.ntmps53
      go_wp2_with (go_at_call 67; ((with_reducible refine (need_yes _).mono ?_); rintro e w1 ⟨rfl, rfl⟩))
      exact bodyPost_ret (v := v3 (2, m, t)) (by simp [results, Try.results53, go_sem]) rfl ⟨rfl, bt (bt (ba _ _) (ba _ _)) (ba _ _)⟩
  · rw [show binaryM op (k, n, s) (k, m, t) = none by unfold binaryM; rw [if_neg (by simp), if_pos ho]; simp [hk]]
    have hkb : (k == 2) = false := by simpa using hk
    rcases ho with h | h
    all_goals
      go_enter Try.func53, Try.ntmps53
      go_wp2_with (first | (go_at_call 67; ((with_reducible refine (need_yes _).mono ?_); rintro e w1 ⟨rfl, rfl⟩)) | (go_at_call 67; ((with_reducible refine (need_no _).mono ?_); rintro e w1 ⟨rfl, rfl⟩)))
      exact ⟨rfl, Res.no, bt (bt (ba _ _) (ba _ _)) (ba _ _)⟩

theorem v3_ne {k n : Int} {s : ByteArray} {m : Int} {t : ByteArray} (h : ¬ ((k, n, s) : V3) = (k, m, t)) : (¬ n = m ∧ (n == m) = false) ∨ (¬ s.toList = t.toList ∧ (s.toList == t.toList) = false) := by
  by_cases hn : n = m
  · subst hn
    have : ¬ s.toList = t.toList := fun e => h (by rw [toList_inj e])
    exact Or.inr ⟨this, by simpa using this⟩
  · exact Or.inl ⟨hn, by simpa using hn⟩
theorem binary_eq (op : ByteArray) (k n : Int) (s : ByteArray) (m : Int) (t : ByteArray) (w : World) (ho : op.toList = [61, 61]) :
    Calls Try.prog 53 #[.string op, vv k n s, vv k m t] w fun e w' => Res (binaryM op (k, n, s) (k, m, t)) e ∧ Below w.heap.size w w' := by
  rw [show binaryM op (k, n, s) (k, m, t) = some (tv (decide (((k, n, s) : V3) = (k, m, t)))) by unfold binaryM; rw [if_neg (by simp), if_neg (by rw [ho]; decide), if_pos ho]]
  have C := Lib.hid (fun W b => truth_any b W)
  have K := Lib.hid (KR.bin w #[.int .i64 k, .int .i64 n, .string s] #[.int .i64 k, .int .i64 m, .string t])
  by_cases he : ((k, n, s) : V3) = (k, m, t)
  · obtain ⟨_, rfl, rfl⟩ : True ∧ n = m ∧ s = t := by simpa using he
    rw [decide_eq_true rfl]
    go_enter Try.func53, Try.ntmps53
    go_wp2_with (first | (go_at_call 67; ((with_reducible refine (need_yes _).mono ?_); rintro e w1 ⟨rfl, rfl⟩)) | (go_at_call 45; ((with_reducible refine (C.out _ _).mono ?_); rintro e w1 ⟨rfl, hb⟩; replace K := Lib.hid (K.out.go hb); clear hb; obtain ⟨p0, p1⟩ := K.out.facts)))
    exact bodyPost_ret (v := v3 (tv true)) (by simp [results, Try.results53, go_sem, p0]) rfl ⟨rfl, K.out.put _ _ _⟩
  · rw [decide_eq_false he]
    rcases v3_ne he with ⟨hne, hnb⟩ | ⟨hne, hnb⟩
    all_goals
      go_enter Try.func53, Try.ntmps53
      go_wp2_with (first | (go_at_call 67; ((with_reducible refine (need_yes _).mono ?_); rintro e w1 ⟨rfl, rfl⟩)) | (go_at_call 45; ((with_reducible refine (C.out _ _).mono ?_); rintro e w1 ⟨rfl, hb⟩; replace K := Lib.hid (K.out.go hb); clear hb; obtain ⟨p0, p1⟩ := K.out.facts)))
      exact bodyPost_ret (v := v3 (tv false)) (by simp [results, Try.results53, go_sem, p0]) rfl ⟨rfl, K.out.put _ _ _⟩
theorem binary_ne (op : ByteArray) (k n : Int) (s : ByteArray) (m : Int) (t : ByteArray) (w : World) (ho : op.toList = [33, 61]) :
    Calls Try.prog 53 #[.string op, vv k n s, vv k m t] w fun e w' => Res (binaryM op (k, n, s) (k, m, t)) e ∧ Below w.heap.size w w' := by
  rw [show binaryM op (k, n, s) (k, m, t) = some (tv (!decide (((k, n, s) : V3) = (k, m, t)))) by unfold binaryM; rw [if_neg (by simp), if_neg (by rw [ho]; decide), if_neg (by rw [ho]; decide), if_pos ho]]
  have C := Lib.hid (fun W b => truth_any b W)
  have K := Lib.hid (KR.bin w #[.int .i64 k, .int .i64 n, .string s] #[.int .i64 k, .int .i64 m, .string t])
  by_cases he : ((k, n, s) : V3) = (k, m, t)
  · obtain ⟨_, rfl, rfl⟩ : True ∧ n = m ∧ s = t := by simpa using he
    rw [decide_eq_true rfl]
    go_enter Try.func53, Try.ntmps53
    go_wp2_with (first | (go_at_call 67; ((with_reducible refine (need_yes _).mono ?_); rintro e w1 ⟨rfl, rfl⟩)) | (go_at_call 45; ((with_reducible refine (C.out _ _).mono ?_); rintro e w1 ⟨rfl, hb⟩; replace K := Lib.hid (K.out.go hb); clear hb; obtain ⟨p0, p1⟩ := K.out.facts)))
    exact bodyPost_ret (v := v3 (tv false)) (by simp [results, Try.results53, go_sem, p0]) rfl ⟨rfl, K.out.put _ _ _⟩
  · rw [decide_eq_false he]
    rcases v3_ne he with ⟨hne, hnb⟩ | ⟨hne, hnb⟩
    all_goals
      go_enter Try.func53, Try.ntmps53
      go_wp2_with (first | (go_at_call 67; ((with_reducible refine (need_yes _).mono ?_); rintro e w1 ⟨rfl, rfl⟩)) | (go_at_call 45; ((with_reducible refine (C.out _ _).mono ?_); rintro e w1 ⟨rfl, hb⟩; replace K := Lib.hid (K.out.go hb); clear hb; obtain ⟨p0, p1⟩ := K.out.facts)))
      exact bodyPost_ret (v := v3 (tv true)) (by simp [results, Try.results53, go_sem, p0]) rfl ⟨rfl, K.out.put _ _ _⟩
theorem binary_cmp (op : ByteArray) (k n : Int) (s : ByteArray) (m : Int) (t : ByteArray) (w : World) (ho : op.toList = [60] ∨ op.toList = [60, 61] ∨ op.toList = [62] ∨ op.toList = [62, 61]) (h1 : Val.right k n s = true) (h2 : Val.right k m t = true) :
    Calls Try.prog 53 #[.string op, vv k n s, vv k m t] w fun e w' => Res (binaryM op (k, n, s) (k, m, t)) e ∧ Below w.heap.size w w' := by
  rw [show binaryM op (k, n, s) (k, m, t) = some (tv (compM op (ordV (k, n, s) (k, m, t)))) by
    unfold binaryM
    rw [if_neg (by simp), if_neg (by rcases ho with h | h | h | h <;> rw [h] <;> decide), if_neg (by rcases ho with h | h | h | h <;> rw [h] <;> decide), if_neg (by rcases ho with h | h | h | h <;> rw [h] <;> decide), if_pos ho]]
  have C := Lib.hid (And.intro (fun W b => truth_any b W) (fun W => compared_any op k n s m t W ho h1 h2))
  have K := Lib.hid (KR.bin w #[.int .i64 k, .int .i64 n, .string s] #[.int .i64 k, .int .i64 m, .string t])
  clear h1 h2
  generalize compM op (ordV (k, n, s) (k, m, t)) = c at *
  rcases ho with h | h | h | h <;> cases c
  all_goals
    go_enter Try.func53, Try.ntmps53
    go_wp2_with (first | (go_at_call 67; ((with_reducible refine (need_yes _).mono ?_); rintro e w1 ⟨rfl, rfl⟩)) | (go_at_call 71; ((with_reducible refine (C.out.2 _).mono ?_); rintro e w1 ⟨rfl, hb⟩; replace K := Lib.hid (K.out.go hb); clear hb; obtain ⟨p0, p1⟩ := K.out.facts)) | (go_at_call 45; ((with_reducible refine (C.out.1 _ _).mono ?_); rintro e w1 ⟨rfl, hb⟩; replace K := Lib.hid (K.out.go hb); clear hb; obtain ⟨p0, p1⟩ := K.out.facts)))
    exact bodyPost_ret (v := v3 (tv _)) (by simp [results, Try.results53, go_sem, p0]) rfl ⟨rfl, K.out.put _ _ _⟩
theorem binary_plus (op : ByteArray) (n : Int) (s : ByteArray) (m : Int) (t : ByteArray) (w : World) (ho : op.toList = [43]) (h1 : s.size ≤ 64) (h2 : t.size ≤ 64) :
    Calls Try.prog 53 #[.string op, vv 3 n s, vv 3 m t] w fun e w' => Res (binaryM op (3, n, s) (3, m, t)) e ∧ Below w.heap.size w w' := by
  have e : binaryM op (3, n, s) (3, m, t) = if s.size + t.size ≤ 64 then some (3, 0, s ++ t) else none := by
    unfold binaryM; rw [if_neg (by simp), if_neg (by rw [ho]; decide), if_neg (by rw [ho]; decide), if_neg (by rw [ho]; decide), if_neg (by rw [ho]; decide), if_pos ⟨ho, rfl⟩]
  rw [e]
  by_cases hs : s.size + t.size ≤ 64
  · rw [if_pos hs]
    have hd : decide ((s.size : Int) + (t.size : Int) ≤ 64) = true := decide_eq_true (by omega)
    go_enter Try.func53, Try.ntmps53
    go_wp2_with (go_at_call 67; ((with_reducible refine (need_yes _).mono ?_); rintro e w1 ⟨rfl, rfl⟩))
    exact bodyPost_ret (v := v3 (3, 0, s ++ t)) (by simp [results, Try.results53, go_sem]) rfl ⟨rfl, bt (bt (ba _ _) (ba _ _)) (ba _ _)⟩
  · rw [if_neg hs]
    have hd : decide ((s.size : Int) + (t.size : Int) ≤ 64) = false := decide_eq_false (by omega)
    go_enter Try.func53, Try.ntmps53
    go_wp2_with (first | (go_at_call 67; ((with_reducible refine (need_yes _).mono ?_); rintro e w1 ⟨rfl, rfl⟩)) | (go_at_call 67; ((with_reducible refine (need_no _).mono ?_); rintro e w1 ⟨rfl, rfl⟩)))
    exact ⟨rfl, Res.no, bt (bt (ba _ _) (ba _ _)) (ba _ _)⟩

set_option maxHeartbeats 2000000 in
theorem binary_arith (op : ByteArray) (k n : Int) (s : ByteArray) (m : Int) (t : ByteArray) (w : World) (ho : op.toList = [43] ∨ op.toList = [45] ∨ op.toList = [42] ∨ op.toList = [47] ∨ op.toList = [37]) (h3 : op.toList = [43] → k ≠ 3) (hn : inR n) (hm : inR m) :
    Calls Try.prog 53 #[.string op, vv k n s, vv k m t] w fun e w' => Res (binaryM op (k, n, s) (k, m, t)) e ∧ Below w.heap.size w w' := by
  have e : binaryM op (k, n, s) (k, m, t) = if k ≠ 1 then none else (wholeM op n m).map fun n => (1, n, mt) := by
    unfold binaryM; rw [if_neg (by simp), if_neg (by rcases ho with h | h | h | h | h <;> rw [h] <;> decide), if_neg (by rcases ho with h | h | h | h | h <;> rw [h] <;> decide), if_neg (by rcases ho with h | h | h | h | h <;> rw [h] <;> decide), if_neg (by rcases ho with h | h | h | h | h <;> rw [h] <;> decide), if_neg (fun h => h3 h.1 h.2)]
  rw [e]
  have K := Lib.hid (KR.bin w #[.int .i64 k, .int .i64 n, .string s] #[.int .i64 k, .int .i64 m, .string t])
  by_cases hk : k = 1
  · subst hk
    rw [if_neg (by simp)]
    have cW := fun W => whole_any op n m W hn hm ho
    rcases hw : wholeM op n m with _ | x
    · rw [hw] at cW
      have C := Lib.hid cW; clear cW hw e h3
      rcases ho with h | h | h | h | h
      all_goals
        go_enter Try.func53, Try.ntmps53
        go_wp2_with (first | (go_at_call 67; ((with_reducible refine (need_yes _).mono ?_); rintro e w1 ⟨rfl, rfl⟩)) | (go_at_call 67; ((with_reducible refine (need_no _).mono ?_); rintro e w1 ⟨rfl, rfl⟩)) | (go_at_call 72; ((with_reducible refine (C.out _).mono ?_); rintro e w1 ⟨he, rfl⟩; rw [show toldO none = told 0 false from rfl] at he; subst he)))
        exact ⟨rfl, Res.no, bt (bt (ba _ _) (ba _ _)) (ba _ _)⟩
    · rw [hw] at cW
      have C := Lib.hid (And.intro cW (fun W => number_any x W)); clear cW hw e h3
      rcases ho with h | h | h | h | h
      all_goals
        go_enter Try.func53, Try.ntmps53
        go_wp2_with (first | (go_at_call 67; ((with_reducible refine (need_yes _).mono ?_); rintro e w1 ⟨rfl, rfl⟩)) | (go_at_call 72; ((with_reducible refine (C.out.1 _).mono ?_); rintro e w1 ⟨he, rfl⟩; rw [show toldO (some x) = told x true from rfl] at he; subst he)) | (go_at_call 51; ((with_reducible refine (C.out.2 _).mono ?_); rintro e w1 ⟨rfl, hb⟩; replace K := Lib.hid (K.out.go hb); clear hb; obtain ⟨p0, p1⟩ := K.out.facts)))
        exact bodyPost_ret (v := v3 (1, x, mt)) (by simp [results, Try.results53, go_sem, p0]) rfl ⟨rfl, K.out.put _ _ _⟩
  · rw [if_pos hk]
    have hkb : (k == 1) = false := by simpa using hk
    rcases ho with h | h | h | h | h
    · have hk3 : (k == 3) = false := by simpa using h3 h
      go_enter Try.func53, Try.ntmps53
      go_wp2_with (first | (go_at_call 67; ((with_reducible refine (need_yes _).mono ?_); rintro e w1 ⟨rfl, rfl⟩)) | (go_at_call 67; ((with_reducible refine (need_no _).mono ?_); rintro e w1 ⟨rfl, rfl⟩)))
      exact ⟨rfl, Res.no, bt (bt (ba _ _) (ba _ _)) (ba _ _)⟩
    all_goals
      go_enter Try.func53, Try.ntmps53
      go_wp2_with (first | (go_at_call 67; ((with_reducible refine (need_yes _).mono ?_); rintro e w1 ⟨rfl, rfl⟩)) | (go_at_call 67; ((with_reducible refine (need_no _).mono ?_); rintro e w1 ⟨rfl, rfl⟩)))
      exact ⟨rfl, Res.no, bt (bt (ba _ _) (ba _ _)) (ba _ _)⟩
end Go.Proofs.Ytjddfjapopdciaa
