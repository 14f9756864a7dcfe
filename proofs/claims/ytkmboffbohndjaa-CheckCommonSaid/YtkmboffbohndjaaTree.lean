/- Expressions as trees: those that are right; contracts of package expr: Level, rightAlone. -/
import Derived.Test.YtkmboffbohndjaaValR
import Derived.Test.YtkmboffbohndjaaStrmN0
import Derived.Test.YtkmboffbohndjaaShelf
namespace Go.Proofs.Ytkmboffbohndjaa
open Go.ChangeShapes Go.WideShapes Go.ChangeAt Go.RowKit
set_option linter.unusedVariables false
set_option linter.unusedSimpArgs false

/-- An expression that may be right: what its kind names, and what stands below it. -/
inductive Tr where
  | lit (k n : Int) (s : ByteArray)
  | ref (v f : ByteArray)
  | cnt (v : ByteArray)
  | un (op : ByteArray) (x : Tr)
  | bin (op : ByteArray) (x y : Tr)
abbrev e0 : ByteArray := ⟨#[]⟩
/-- An expression, as the program has it. -/
abbrev ev (k : Int) (op : ByteArray) (vk vn : Int) (vs a f : ByteArray) (kids : Value) : Value := .agg #[.int .i64 k, .string op, .int .i64 vk, .int .i64 vn, .string vs, .string a, .string f, kids]
abbrev nilk : Value := .slice none 0 0
/-- Eight cells in a row, at whatever address. -/
def Row8 (w : World) (a : Addr) (k : Int) (op : ByteArray) (vk vn : Int) (vs va f : ByteArray) (kids : Value) : Prop :=
  w.cell? a = some (.int .i64 k) ∧ w.cell? ⟨a.block, a.off + 1, none⟩ = some (.string op) ∧ w.cell? ⟨a.block, a.off + 2, none⟩ = some (.int .i64 vk) ∧ w.cell? ⟨a.block, a.off + 3, none⟩ = some (.int .i64 vn) ∧
  w.cell? ⟨a.block, a.off + 4, none⟩ = some (.string vs) ∧ w.cell? ⟨a.block, a.off + 5, none⟩ = some (.string va) ∧ w.cell? ⟨a.block, a.off + 6, none⟩ = some (.string f) ∧ w.cell? ⟨a.block, a.off + 7, none⟩ = some kids
theorem Row8.later {w w' : World} {a : Addr} {k : Int} {op : ByteArray} {vk vn : Int} {vs va f : ByteArray} {kids : Value} (h : Row8 w a k op vk vn vs va f kids) (hb : Below w.heap.size w w') : Row8 w' a k op vk vn vs va f kids := by
  obtain ⟨h0, h1, h2, h3, h4, h5, h6, h7⟩ := h
  exact ⟨by rw [hb.cell (World.block_lt_of_cell? w _ h0)]; exact h0, by rw [hb.cell (World.block_lt_of_cell? w _ h1)]; exact h1, by rw [hb.cell (World.block_lt_of_cell? w _ h2)]; exact h2, by rw [hb.cell (World.block_lt_of_cell? w _ h3)]; exact h3,
    by rw [hb.cell (World.block_lt_of_cell? w _ h4)]; exact h4, by rw [hb.cell (World.block_lt_of_cell? w _ h5)]; exact h5, by rw [hb.cell (World.block_lt_of_cell? w _ h6)]; exact h6, by rw [hb.cell (World.block_lt_of_cell? w _ h7)]; exact h7⟩
/-- The head of a tree: what its node has, but for what stands below. -/
def Tr.node (kids : Value) : Tr → Int × ByteArray × Int × Int × ByteArray × ByteArray × ByteArray × Value
  | .lit k n s => (0, e0, k, n, s, e0, e0, nilk)
  | .ref v f => (1, e0, 0, 0, e0, v, f, nilk)
  | .cnt v => (2, e0, 0, 0, e0, v, e0, nilk)
  | .un op _ => (3, op, 0, 0, e0, e0, e0, kids)
  | .bin op _ _ => (4, op, 0, 0, e0, e0, e0, kids)
/-- A tree at its node's value; a row that reads as a tree. -/
def TrAt (w : World) : Tr → Value → Prop
  | .lit k n s, kids => kids = nilk
  | .ref v f, kids => kids = nilk
  | .cnt v, kids => kids = nilk
  | .un op x, kids => ∃ (a : Addr) (c : Nat), kids = .slice (some a) 1 c ∧ 1 ≤ c ∧ c ≤ maxLen ∧ ∃ kx, TrAt w x kx ∧
      Row8 w a (x.node kx).1 (x.node kx).2.1 (x.node kx).2.2.1 (x.node kx).2.2.2.1 (x.node kx).2.2.2.2.1 (x.node kx).2.2.2.2.2.1 (x.node kx).2.2.2.2.2.2.1 (x.node kx).2.2.2.2.2.2.2
  | .bin op x y, kids => ∃ (a : Addr) (c : Nat), kids = .slice (some a) 2 c ∧ 2 ≤ c ∧ c ≤ maxLen ∧ (∃ kx, TrAt w x kx ∧
      Row8 w a (x.node kx).1 (x.node kx).2.1 (x.node kx).2.2.1 (x.node kx).2.2.2.1 (x.node kx).2.2.2.2.1 (x.node kx).2.2.2.2.2.1 (x.node kx).2.2.2.2.2.2.1 (x.node kx).2.2.2.2.2.2.2) ∧
      ∃ ky, TrAt w y ky ∧ Row8 w (a.add 8) (y.node ky).1 (y.node ky).2.1 (y.node ky).2.2.1 (y.node ky).2.2.2.1 (y.node ky).2.2.2.2.1 (y.node ky).2.2.2.2.2.1 (y.node ky).2.2.2.2.2.2.1 (y.node ky).2.2.2.2.2.2.2
theorem TrAt.later {w w' : World} (hb : Below w.heap.size w w') : ∀ {t : Tr} {v : Value}, TrAt w t v → TrAt w' t v
  | .lit .., _, h => h
  | .ref .., _, h => h
  | .cnt .., _, h => h
  | .un .., _, h => by
    obtain ⟨a, c, h0, h1, h2, kx, h3, h4⟩ := h
    exact ⟨a, c, h0, h1, h2, kx, h3.later hb, h4.later hb⟩
  | .bin .., _, h => by
    obtain ⟨a, c, h0, h1, h2, ⟨kx, h3, h4⟩, ky, h5, h6⟩ := h
    exact ⟨a, c, h0, h1, h2, ⟨kx, h3.later hb, h4.later hb⟩, ky, h5.later hb, h6.later hb⟩
/-- A tree as a value that is handed on. -/
def Tr.val (t : Tr) (kids : Value) : Value :=
  ev (t.node kids).1 (t.node kids).2.1 (t.node kids).2.2.1 (t.node kids).2.2.2.1 (t.node kids).2.2.2.2.1 (t.node kids).2.2.2.2.2.1 (t.node kids).2.2.2.2.2.2.1 (t.node kids).2.2.2.2.2.2.2

abbrev bMinus : ByteArray := ⟨#[45]⟩
abbrev bBang : ByteArray := ⟨#[33]⟩
def unB (op : ByteArray) : Bool := op.toList == [45] || op.toList == [33]
/-- How closely an operation binds. -/
def lvl (op : ByteArray) : Int :=
  if op.toList = [124, 124] then 1 else if op.toList = [38, 38] then 2 else if op.toList = [61, 61] then 3 else if op.toList = [33, 61] then 3 else
  if op.toList = [60] then 4 else if op.toList = [60, 61] then 4 else if op.toList = [62] then 4 else if op.toList = [62, 61] then 4 else
  if op.toList = [43] then 5 else if op.toList = [45] then 5 else if op.toList = [42] then 6 else if op.toList = [47] then 6 else if op.toList = [37] then 6 else 0
/-- Is a tree right? -/
def Tr.ok : Tr → Bool
  | .lit k n s => Val.right k n s && !(decide (k = 1) && decide (n < 0)) && !decide (0 ≤ Lib.indexByte s.data.toList 39)
  | .ref v f => nameB v && nameB f
  | .cnt v => nameB v
  | .un op x => unB op && x.ok
  | .bin op x y => decide (0 < lvl op) && x.ok && y.ok
theorem nameB_size {s : ByteArray} (h : nameB s = true) : s.size ≤ maxLen := by
  unfold nameB at h
  simp only [Bool.and_eq_true, decide_eq_true_eq] at h
  unfold maxLen; omega
theorem right_size {k n : Int} {s : ByteArray} (h : Val.right k n s = true) : s.size ≤ 64 := by
  unfold Val.right at h
  split at h
  · simp only [decide_eq_true_eq] at h; omega
  split at h
  · simp only [decide_eq_true_eq, Bool.and_eq_true] at h; omega
  split at h
  · simp only [decide_eq_true_eq, Bool.and_eq_true] at h; omega
  · exact absurd h (by simp)

theorem op_or (op : ByteArray) : op.toList = [124, 124] ∨ op.toList = [38, 38] ∨ op.toList = [61, 61] ∨ op.toList = [33, 61] ∨ op.toList = [60] ∨ op.toList = [60, 61] ∨ op.toList = [62] ∨ op.toList = [62, 61] ∨ op.toList = [43] ∨ op.toList = [45] ∨ op.toList = [42] ∨ op.toList = [47] ∨ op.toList = [37] ∨ (¬ op.toList = [124, 124] ∧ ¬ op.toList = [38, 38] ∧ ¬ op.toList = [61, 61] ∧ ¬ op.toList = [33, 61] ∧ ¬ op.toList = [60] ∧ ¬ op.toList = [60, 61] ∧ ¬ op.toList = [62] ∧ ¬ op.toList = [62, 61] ∧ ¬ op.toList = [43] ∧ ¬ op.toList = [45] ∧ ¬ op.toList = [42] ∧ ¬ op.toList = [47] ∧ ¬ op.toList = [37]) := by
  by_cases h0 : op.toList = [124, 124]
  · exact Or.inl h0
  by_cases h1 : op.toList = [38, 38]
  · exact Or.inr (Or.inl h1)
  by_cases h2 : op.toList = [61, 61]
  · exact Or.inr (Or.inr (Or.inl h2))
  by_cases h3 : op.toList = [33, 61]
  · exact Or.inr (Or.inr (Or.inr (Or.inl h3)))
  by_cases h4 : op.toList = [60]
  · exact Or.inr (Or.inr (Or.inr (Or.inr (Or.inl h4))))
  by_cases h5 : op.toList = [60, 61]
  · exact Or.inr (Or.inr (Or.inr (Or.inr (Or.inr (Or.inl h5)))))
  by_cases h6 : op.toList = [62]
  · exact Or.inr (Or.inr (Or.inr (Or.inr (Or.inr (Or.inr (Or.inl h6))))))
  by_cases h7 : op.toList = [62, 61]
  · exact Or.inr (Or.inr (Or.inr (Or.inr (Or.inr (Or.inr (Or.inr (Or.inl h7)))))))
  by_cases h8 : op.toList = [43]
  · exact Or.inr (Or.inr (Or.inr (Or.inr (Or.inr (Or.inr (Or.inr (Or.inr (Or.inl h8))))))))
  by_cases h9 : op.toList = [45]
  · exact Or.inr (Or.inr (Or.inr (Or.inr (Or.inr (Or.inr (Or.inr (Or.inr (Or.inr (Or.inl h9)))))))))
  by_cases h10 : op.toList = [42]
  · exact Or.inr (Or.inr (Or.inr (Or.inr (Or.inr (Or.inr (Or.inr (Or.inr (Or.inr (Or.inr (Or.inl h10))))))))))
  by_cases h11 : op.toList = [47]
  · exact Or.inr (Or.inr (Or.inr (Or.inr (Or.inr (Or.inr (Or.inr (Or.inr (Or.inr (Or.inr (Or.inr (Or.inl h11)))))))))))
  by_cases h12 : op.toList = [37]
  · exact Or.inr (Or.inr (Or.inr (Or.inr (Or.inr (Or.inr (Or.inr (Or.inr (Or.inr (Or.inr (Or.inr (Or.inr (Or.inl h12))))))))))))
  exact Or.inr (Or.inr (Or.inr (Or.inr (Or.inr (Or.inr (Or.inr (Or.inr (Or.inr (Or.inr (Or.inr (Or.inr (Or.inr (⟨h0, h1, h2, h3, h4, h5, h6, h7, h8, h9, h10, h11, h12⟩)))))))))))))
set_option maxRecDepth 20000 in
theorem Level_any (op : ByteArray) (w : World) : Calls Try.prog 11 #[.string op] w fun e w' => e = .returned (.int .i64 (lvl op)) ∧ w = w' := by
  rcases op_or op with h | h | h | h | h | h | h | h | h | h | h | h | h | ⟨h0, h1, h2, h3, h4, h5, h6, h7, h8, h9, h10, h11, h12⟩
  · rw [show lvl op = 1 by unfold lvl; rw [h]; decide]
    go_enter Try.func11, Try.ntmps11
    go_wp2
    go_ret
    exact ⟨rfl, rfl⟩
  · rw [show lvl op = 2 by unfold lvl; rw [h]; decide]
    go_enter Try.func11, Try.ntmps11
    go_wp2
    go_ret
    exact ⟨rfl, rfl⟩
  · rw [show lvl op = 3 by unfold lvl; rw [h]; decide]
    go_enter Try.func11, Try.ntmps11
    go_wp2
    go_ret
    exact ⟨rfl, rfl⟩
  · rw [show lvl op = 3 by unfold lvl; rw [h]; decide]
    go_enter Try.func11, Try.ntmps11
    go_wp2
    go_ret
    exact ⟨rfl, rfl⟩
  · rw [show lvl op = 4 by unfold lvl; rw [h]; decide]
    go_enter Try.func11, Try.ntmps11
    go_wp2
    go_ret
    exact ⟨rfl, rfl⟩
  · rw [show lvl op = 4 by unfold lvl; rw [h]; decide]
    go_enter Try.func11, Try.ntmps11
    go_wp2
    go_ret
    exact ⟨rfl, rfl⟩
  · rw [show lvl op = 4 by unfold lvl; rw [h]; decide]
    go_enter Try.func11, Try.ntmps11
    go_wp2
    go_ret
    exact ⟨rfl, rfl⟩
  · rw [show lvl op = 4 by unfold lvl; rw [h]; decide]
    go_enter Try.func11, Try.ntmps11
    go_wp2
    go_ret
    exact ⟨rfl, rfl⟩
  · rw [show lvl op = 5 by unfold lvl; rw [h]; decide]
    go_enter Try.func11, Try.ntmps11
    go_wp2
    go_ret
    exact ⟨rfl, rfl⟩
  · rw [show lvl op = 5 by unfold lvl; rw [h]; decide]
    go_enter Try.func11, Try.ntmps11
    go_wp2
    go_ret
    exact ⟨rfl, rfl⟩
  · rw [show lvl op = 6 by unfold lvl; rw [h]; decide]
    go_enter Try.func11, Try.ntmps11
    go_wp2
    go_ret
    exact ⟨rfl, rfl⟩
  · rw [show lvl op = 6 by unfold lvl; rw [h]; decide]
    go_enter Try.func11, Try.ntmps11
    go_wp2
    go_ret
    exact ⟨rfl, rfl⟩
  · rw [show lvl op = 6 by unfold lvl; rw [h]; decide]
    go_enter Try.func11, Try.ntmps11
    go_wp2
    go_ret
    exact ⟨rfl, rfl⟩
  · rw [show lvl op = 0 by unfold lvl; rw [if_neg h0, if_neg h1, if_neg h2, if_neg h3, if_neg h4, if_neg h5, if_neg h6, if_neg h7, if_neg h8, if_neg h9, if_neg h10, if_neg h11, if_neg h12]]
    have g0 : (op.toList == [124, 124]) = false := by simpa using h0
    have g1 : (op.toList == [38, 38]) = false := by simpa using h1
    have g2 : (op.toList == [61, 61]) = false := by simpa using h2
    have g3 : (op.toList == [33, 61]) = false := by simpa using h3
    have g4 : (op.toList == [60]) = false := by simpa using h4
    have g5 : (op.toList == [60, 61]) = false := by simpa using h5
    have g6 : (op.toList == [62]) = false := by simpa using h6
    have g7 : (op.toList == [62, 61]) = false := by simpa using h7
    have g8 : (op.toList == [43]) = false := by simpa using h8
    have g9 : (op.toList == [45]) = false := by simpa using h9
    have g10 : (op.toList == [42]) = false := by simpa using h10
    have g11 : (op.toList == [47]) = false := by simpa using h11
    have g12 : (op.toList == [37]) = false := by simpa using h12
    go_enter Try.func11, Try.ntmps11
    go_wp2
    go_ret
    exact ⟨rfl, rfl⟩
end Go.Proofs.Ytkmboffbohndjaa
