/- Contracts of package expr: what Vars keeps: a map of bools by text. -/
import Derived.Test.YtfkcjlpocfjmdaaDoorSize
import Derived.Maps.Own
import Derived.Maps.Views
import Derived.Maps.OwnSet
import Derived.Sort.KeysCollected
namespace Go.Proofs.YtfkcjlpocfjmdaaDoor
open Go.ChangeShapes Go.WideShapes Go.ChangeAt Go.RowKit Go.Maps
set_option linter.unusedVariables false
set_option linter.unusedSimpArgs false

theorem strKeyed : Keyed Tryd.prog 9 := string_keyed Tryd.underlying9
def strKey (s : ByteArray) : Lit := .string s.data.toList
theorem keyOf_text {s : ByteArray} (hs : s.size ≤ maxLen) : keyOf Tryd.prog 9 (.string s) = some (strKey s) := by
  simp [keyOf, Tryd.underlying9, mapKey, strKey]
  exact hs
theorem strKey_inj {s t : ByteArray} (h : strKey s = strKey t) : s = t := by
  unfold strKey at h
  exact ByteArray.ext (Array.toList_inj.1 (by simpa using h))
/-- Block b is a map of at most n entries that has just the texts of l. -/
def SetS (w : World) (b n : Nat) (l : List ByteArray) : Prop :=
  ∃ D : DataW Unit, w.ownsMap Tryd.prog 9 (plainElem Tryd.prog 4) b n D ∧ ∀ s, has D (strKey s) = true ↔ s ∈ l
theorem SetS.made (w : World) : SetS (w.alloc (.map #[] 0)) w.heap.size 0 [] := ⟨.map [], World.ownsMap_made w _ _ _, fun s => by simp [has]⟩
theorem SetS.kept {w w' : World} {b n : Nat} {l : List ByteArray} {row : Option Nat} (h : SetS w b n l) (hg : w.grownBy w' row) (hne : some b ≠ row) : SetS w' b n l := by
  obtain ⟨D, h1, h2⟩ := h
  exact ⟨D, h1.kept hg hne, h2⟩
theorem SetS.later {w w' : World} {b n : Nat} {l : List ByteArray} (h : SetS w b n l) (hb : Below w.heap.size w w') : SetS w' b n l := h.kept (gb_below1 (r := none) hb) (by simp)
theorem SetS.lt {w : World} {b n : Nat} {l : List ByteArray} (h : SetS w b n l) : b < w.heap.size := by
  obtain ⟨D, h1, _⟩ := h
  exact h1.lt
theorem SetS.mono {w : World} {b n m : Nat} {l : List ByteArray} (h : SetS w b n l) (hm : n ≤ m) : SetS w b m l := by
  obtain ⟨D, h1, h2⟩ := h
  exact ⟨D, h1.mono hm, h2⟩
theorem SetS.put {w : World} {b n : Nat} {l : List ByteArray} (h : SetS w b n l) (hn : n < maxLen) {s : ByteArray} (hs : s.size ≤ maxLen) :
    ∃ w', (Instr.mapUpdate 69 (.map (some b)) (.string s) (.bool true)).run Tryd.prog w = .ok () w' ∧ SetS w' b (n + 1) (s :: l) ∧ w.grownBy w' (some b) := by
  obtain ⟨D, h1, h2⟩ := h
  obtain ⟨w', r, o, g⟩ := h1.update strKeyed Tryd.underlying69 hn (keyOf_text hs) (plainElem_bool Tryd.underlying4 true)
  refine ⟨w', r, ⟨_, o, fun s' => ?_⟩, g⟩
  by_cases he : strKey s' = strKey s
  · have := strKey_inj he
    subst this
    simp [has_put_same h1.isMap (strKeyed.key (keyOf_text hs))]
  · rw [has_put_other he, h2 s', List.mem_cons]
    constructor
    · exact Or.inr
    · rintro (h | h)
      · exact absurd (by rw [h]) he
      · exact h
theorem wpList_mapUpdate_set (w : World) {ops : Array Oper} {rest : List Oper} {o : Oper} {a : Act} {Q : Exit → Act → World → Prop}
    (hg : o.guard = none) (m x v : Operand) (hop : o.op = Op.mapUpdate 69 m x v)
    (b n : Nat) (l : List ByteArray) (hm : a.eval m = .map (some b)) (hown : SetS w b n l) (hn : n < maxLen) (s : ByteArray) (hx : a.eval x = .string s) (hv : a.eval v = .bool true) (hs : s.size ≤ maxLen)
    (hK : ∀ w', SetS w' b (n + 1) (s :: l) → w.grownBy w' (some b) → wpList Tryd.prog ops Q rest (a.put o.dst undef) w') :
    wpList Tryd.prog ops Q (o :: rest) a w := by
  refine wpList_plain hg fun K' hK' => ?_
  obtain ⟨w', hrun, r1, r2⟩ := hown.put hn hs
  unfold Oper.wp
  simp [execOp, hop, hm, hx, hv, hrun, Result.andThen]
  exact hK' _ _ (hK w' r1 r2)

/-- What a node adds to the names. -/
def nodeVar (k : Int) (va : ByteArray) (l : List ByteArray) : List ByteArray := if k = 1 ∨ k = 2 then va :: l else l
theorem vars1_any (k : Int) (op : ByteArray) (vk vn : Int) (vs va f : ByteArray) (A : Option Addr) (n c : Nat) (g m N : Nat) (l : List ByteArray) (w : World)
    (hB : Blk w g 69 #[.map (some m)]) (hS : SetS w m N l) (hN : N < maxLen) (hva : va.size ≤ maxLen) (hgm : g ≠ m) :
    Calls Tryd.prog 38 #[ev k op vk vn vs va f (.slice A n c), .pointer (some ⟨g, 0, none⟩)] w fun e w' => e = .returned (.bool true) ∧ SetS w' m (N + 1) (nodeVar k va l) ∧ w.grownBy w' (some m) := by
  have p0 := hB.cell 0
  have p2 := hB.lt
  have bb := ba w (.cells #[.int .i64 k, .string op, .int .i64 vk, .int .i64 vn, .string vs, .string va, .string f, .slice A n c] 26)
  have H := Lib.hid (And.intro (hS.later bb) (And.intro bb (And.intro hN hva))); clear hB hS bb hN hva
  unfold nodeVar
  rcases (by omega : k = 1 ∨ (¬ k = 1 ∧ k = 2) ∨ (¬ k = 1 ∧ ¬ k = 2)) with rfl | ⟨h1, rfl⟩ | ⟨h1, h2⟩
  · rw [if_pos (Or.inl rfl)]
    go_enter Tryd.func38, Tryd.ntmps38
    go_wp2_with (at_mapUpdate; refine wpList_mapUpdate_set _ rfl _ _ _ rfl m N l rfl H.out.1 H.out.2.2.1 va rfl rfl H.out.2.2.2 ?_; intro w1 hS1 hg1; have Z := Lib.hid (And.intro hS1 hg1); clear hS1 hg1)
    go_ret
    exact ⟨rfl, Z.out.1, grownBy_more (gb_below1 H.out.2.1) Z.out.2 (Or.inl rfl)⟩
  · rw [if_pos (Or.inr rfl)]
    go_enter Tryd.func38, Tryd.ntmps38
    go_wp2_with (at_mapUpdate; refine wpList_mapUpdate_set _ rfl _ _ _ rfl m N l rfl H.out.1 H.out.2.2.1 va rfl rfl H.out.2.2.2 ?_; intro w1 hS1 hg1; have Z := Lib.hid (And.intro hS1 hg1); clear hS1 hg1)
    go_ret
    exact ⟨rfl, Z.out.1, grownBy_more (gb_below1 H.out.2.1) Z.out.2 (Or.inl rfl)⟩
  · rw [if_neg (by omega)]
    clear p0 p2 hgm
    have d1 : (k == 1) = false := by simpa using h1
    have d2 : (k == 2) = false := by simpa using h2
    go_enter Tryd.func38, Tryd.ntmps38
    go_wp2
    go_ret
    exact ⟨rfl, H.out.1.mono (by omega), gb_below1 H.out.2.1⟩
end Go.Proofs.YtfkcjlpocfjmdaaDoor
