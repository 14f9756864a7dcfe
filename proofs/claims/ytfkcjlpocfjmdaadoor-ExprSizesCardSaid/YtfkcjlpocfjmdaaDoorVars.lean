/- Contracts of package expr: what Vars keeps: a map of bools by text. -/
import Derived.Test.YtfkcjlpocfjmdaaDoorSize
import Derived.Maps.Own
import Derived.Maps.Views
import Derived.Maps.OwnSet
import Derived.Sort.KeysCollected
import Derived.Test.YtfkcjlpocfjmdaaDoorKeys
import Derived.Test.YtfkcjlpocfjmdaaDoorNumS
namespace Go.Proofs.YtfkcjlpocfjmdaaDoor
open Go.ChangeShapes Go.WideShapes Go.ChangeAt Go.RowKit Go.Maps
set_option linter.unusedVariables false
set_option linter.unusedSimpArgs false

theorem strKeyed : Keyed Tryd.prog 9 := string_keyed Tryd.underlying9
def strKey (s : ByteArray) : Lit := .string s.data.toList
theorem keyOf_text {s : ByteArray} (hs : s.size ≤ maxLen) : keyOf Tryd.prog 9 (.string s) = some (strKey s) := by
  simp [keyOf, Tryd.underlying9, mapKey, strKey]
  exact hs
theorem strKey_inj {s t : ByteArray} (h : strKey s = strKey t) : s = t := by
  unfold strKey at h
  exact ByteArray.ext (Array.toList_inj.1 (by simpa using h))
/-- Block b is a map of at most n entries that has just the texts of l. -/
def SetS (w : World) (b n : Nat) (l : List ByteArray) : Prop :=
  ∃ D : DataW Unit, w.ownsMap Tryd.prog 9 (plainElem Tryd.prog 4) b n D ∧ ∀ s, has D (strKey s) = true ↔ s ∈ l
theorem SetS.made (w : World) : SetS (w.alloc (.map #[] 0)) w.heap.size 0 [] := ⟨.map [], World.ownsMap_made w _ _ _, fun s => by simp [has]⟩
theorem SetS.kept {w w' : World} {b n : Nat} {l : List ByteArray} {row : Option Nat} (h : SetS w b n l) (hg : w.grownBy w' row) (hne : some b ≠ row) : SetS w' b n l := by
  obtain ⟨D, h1, h2⟩ := h
  exact ⟨D, h1.kept hg hne, h2⟩
theorem SetS.later {w w' : World} {b n : Nat} {l : List ByteArray} (h : SetS w b n l) (hb : Below w.heap.size w w') : SetS w' b n l := h.kept (gb_below1 (r := none) hb) (by simp)
theorem SetS.lt {w : World} {b n : Nat} {l : List ByteArray} (h : SetS w b n l) : b < w.heap.size := by
  obtain ⟨D, h1, _⟩ := h
  exact h1.lt
theorem SetS.mono {w : World} {b n m : Nat} {l : List ByteArray} (h : SetS w b n l) (hm : n ≤ m) : SetS w b m l := by
  obtain ⟨D, h1, h2⟩ := h
  exact ⟨D, h1.mono hm, h2⟩
theorem SetS.put {w : World} {b n : Nat} {l : List ByteArray} (h : SetS w b n l) (hn : n < maxLen) {s : ByteArray} (hs : s.size ≤ maxLen) :
    ∃ w', (Instr.mapUpdate 69 (.map (some b)) (.string s) (.bool true)).run Tryd.prog w = .ok () w' ∧ SetS w' b (n + 1) (s :: l) ∧ w.grownBy w' (some b) := by
  obtain ⟨D, h1, h2⟩ := h
  obtain ⟨w', r, o, g⟩ := h1.update strKeyed Tryd.underlying69 hn (keyOf_text hs) (plainElem_bool Tryd.underlying4 true)
  refine ⟨w', r, ⟨_, o, fun s' => ?_⟩, g⟩
  by_cases he : strKey s' = strKey s
  · have := strKey_inj he
    subst this
    simp [has_put_same h1.isMap (strKeyed.key (keyOf_text hs))]
  · rw [has_put_other he, h2 s', List.mem_cons]
    constructor
    · exact Or.inr
    · rintro (h | h)
      · exact absurd (by rw [h]) he
      · exact h
theorem wpList_mapUpdate_set (w : World) {ops : Array Oper} {rest : List Oper} {o : Oper} {a : Act} {Q : Exit → Act → World → Prop}
    (hg : o.guard = none) (m x v : Operand) (hop : o.op = Op.mapUpdate 69 m x v)
    (b n : Nat) (l : List ByteArray) (hm : a.eval m = .map (some b)) (hown : SetS w b n l) (hn : n < maxLen) (s : ByteArray) (hx : a.eval x = .string s) (hv : a.eval v = .bool true) (hs : s.size ≤ maxLen)
    (hK : ∀ w', SetS w' b (n + 1) (s :: l) → w.grownBy w' (some b) → wpList Tryd.prog ops Q rest (a.put o.dst undef) w') :
    wpList Tryd.prog ops Q (o :: rest) a w := by
  refine wpList_plain hg fun K' hK' => ?_
  obtain ⟨w', hrun, r1, r2⟩ := hown.put hn hs
  unfold Oper.wp
  simp [execOp, hop, hm, hx, hv, hrun, Result.andThen]
  exact hK' _ _ (hK w' r1 r2)

/-- What a node adds to the names. -/
def nodeVar (k : Int) (va : ByteArray) (l : List ByteArray) : List ByteArray := if k = 1 ∨ k = 2 then va :: l else l
theorem vars1_any (k : Int) (op : ByteArray) (vk vn : Int) (vs va f : ByteArray) (A : Option Addr) (n c : Nat) (g m N : Nat) (l : List ByteArray) (w : World)
    (hB : Blk w g 69 #[.map (some m)]) (hS : SetS w m N l) (hN : N < maxLen) (hva : va.size ≤ maxLen) (hgm : g ≠ m) :
    Calls Tryd.prog 38 #[ev k op vk vn vs va f (.slice A n c), .pointer (some ⟨g, 0, none⟩)] w fun e w' => e = .returned (.bool true) ∧ SetS w' m (N + 1) (nodeVar k va l) ∧ w.grownBy w' (some m) := by
  have p0 := hB.cell 0
  have p2 := hB.lt
  have bb := ba w (.cells #[.int .i64 k, .string op, .int .i64 vk, .int .i64 vn, .string vs, .string va, .string f, .slice A n c] 26)
  have H := Lib.hid (And.intro (hS.later bb) (And.intro bb (And.intro hN hva))); clear hB hS bb hN hva
  unfold nodeVar
  rcases (by omega : k = 1 ∨ (¬ k = 1 ∧ k = 2) ∨ (¬ k = 1 ∧ ¬ k = 2)) with rfl | ⟨h1, rfl⟩ | ⟨h1, h2⟩
  · rw [if_pos (Or.inl rfl)]
    go_enter Tryd.func38, Tryd.ntmps38
    go_wp2_with (at_mapUpdate; refine wpList_mapUpdate_set _ rfl _ _ _ rfl m N l rfl H.out.1 H.out.2.2.1 va rfl rfl H.out.2.2.2 ?_; intro w1 hS1 hg1; have Z := Lib.hid (And.intro hS1 hg1); clear hS1 hg1)
    go_ret
    exact ⟨rfl, Z.out.1, grownBy_more (gb_below1 H.out.2.1) Z.out.2 (Or.inl rfl)⟩
  · rw [if_pos (Or.inr rfl)]
    go_enter Tryd.func38, Tryd.ntmps38
    go_wp2_with (at_mapUpdate; refine wpList_mapUpdate_set _ rfl _ _ _ rfl m N l rfl H.out.1 H.out.2.2.1 va rfl rfl H.out.2.2.2 ?_; intro w1 hS1 hg1; have Z := Lib.hid (And.intro hS1 hg1); clear hS1 hg1)
    go_ret
    exact ⟨rfl, Z.out.1, grownBy_more (gb_below1 H.out.2.1) Z.out.2 (Or.inl rfl)⟩
  · rw [if_neg (by omega)]
    clear p0 p2 hgm
    have d1 : (k == 1) = false := by simpa using h1
    have d2 : (k == 2) = false := by simpa using h2
    go_enter Tryd.func38, Tryd.ntmps38
    go_wp2
    go_ret
    exact ⟨rfl, H.out.1.mono (by omega), gb_below1 H.out.2.1⟩
end Go.Proofs.YtfkcjlpocfjmdaaDoor
namespace Go.Proofs.YtfkcjlpocfjmdaaDoor
open Go.ChangeShapes Go.WideShapes Go.ChangeAt Go.RowKit Go.Maps
set_option linter.unusedVariables false
set_option linter.unusedSimpArgs false

/-- What every keeps of the tree, and of the names that are met. -/
def KS (w0 : World) (g m : Nat) (w : World) (N : Nat) (l : List ByteArray) (W : World) : Prop := Below w0.heap.size w0 W ∧ Blk W g 69 #[.map (some m)] ∧ SetS W m N l ∧ w.grownBy W (some m)
theorem KS.alloc {w0 w W : World} {g m N : Nat} {l : List ByteArray} (h : KS w0 g m w N l W) (o : Obj) (hg : w0.heap.size ≤ W.heap.size) : KS w0 g m w N l (W.alloc o) :=
  ⟨h.1.trans ((ba W o).mono hg), h.2.1.alloc o, h.2.2.1.later (ba W o), grownBy_more h.2.2.2 (gb_below1 (ba W o)) (Or.inl rfl)⟩
set_option maxHeartbeats 2000000 in
theorem vars_gen (k : Int) (op : ByteArray) (vk vn : Int) (vs va f : ByteArray) (A : Option Addr) (n c : Nat) (w0 w : World) (g m N : Nat) (l : List ByteArray) (M : Nat → Nat) (L : Nat → List ByteArray) (hn : n ≤ 2) (hg : w0.heap.size ≤ g) (hm : w0.heap.size ≤ m) (hgm : g ≠ m)
    (hb : Below w0.heap.size w0 w) (hB : Blk w g 69 #[.map (some m)]) (hS : SetS w m N l) (hN : N < maxLen) (hva : va.size ≤ maxLen) (hM : M 0 = N + 1) (hL : L 0 = nodeVar k va l)
    (hK : ∀ j, j < n → ∃ a, A = some a ∧ ∃ k' op' vk' vn' vs' va' f' A' n' c', Row8 w0 (a.add (j * 8)) k' op' vk' vn' vs' va' f' (.slice A' n' c') ∧
      ∀ W, KS w0 g m w (M j) (L j) W → Calls Tryd.prog 33 #[ev k' op' vk' vn' vs' va' f' (.slice A' n' c'), (.func (.func 38) #[] #[.pointer (some ⟨g, 0, none⟩)])] W fun e w' => e = .returned (.bool true) ∧ KS w0 g m w (M (j + 1)) (L (j + 1)) w') :
    Calls Tryd.prog 33 #[ev k op vk vn vs va f (.slice A n c), (.func (.func 38) #[] #[.pointer (some ⟨g, 0, none⟩)])] w fun e w' => e = .returned (.bool true) ∧ KS w0 g m w (M n) (L n) w' := by
  have bb := ba w (.cells #[.int .i64 k, .string op, .int .i64 vk, .int .i64 vn, .string vs, .string va, .string f, .slice A n c] 26)
  have hX := Blk.new w 26 #[.int .i64 k, .string op, .int .i64 vk, .int .i64 vn, .string vs, .string va, .string f, .slice A n c]
  have C := vars1_any k op vk vn vs va f A n c g m N l _ (hB.later bb) (hS.later bb) hN hva hgm
  rw [← hL, ← hM] at C
  have hml := hS.lt
  have H := Lib.hid (And.intro hK (And.intro bb (And.intro hX (And.intro hB (And.intro hb (And.intro hS C)))))); clear hK bb hX hB hb hS C hL hM
  go_enter Tryd.func33, Tryd.ntmps33
  go_wp2_with fail
  go_at_call 38
  refine (H.out.2.2.2.2.2.2).mono ?_
  rintro e w1 ⟨rfl, hS1, hg1⟩
  have hX1 := (H.out.2.2.1.grown hg1 (fun e => by have := Option.some.inj e; omega)).cell
  have Z1 : KS w0 g m w (M 0) (L 0) w1 := ⟨(H.out.2.2.2.2.1.trans (H.out.2.1.mono H.out.2.2.2.2.1.size)).trans (grownBy_below hg1 (Nat.le_trans H.out.2.2.2.2.1.size H.out.2.1.size) (fun q hq => by have := Option.some.inj hq; omega)), (H.out.2.2.2.1.later H.out.2.1).grown hg1 (fun e => hgm (Option.some.inj e)), hS1, grownBy_more (gb_below1 H.out.2.1) hg1 (Or.inl rfl)⟩
  have Z := Lib.hid Z1; clear Z1 hS1 hg1
  go_wp2_with fail
  go_loopw [14] (fun x wr => ∃ j : Nat, j ≤ n ∧ x = .int .i64 j ∧ KS w0 g m w (M j) (L j) wr) (fun x _ => n - (intOf x).toNat)
  case atStart => exact ⟨0, Nat.zero_le _, rfl, Z.out⟩
  case round =>
    obtain ⟨j, hj, rfl, hz⟩ := hrel
    by_cases hlt : j < n
    · obtain ⟨a, rfl, k', op', vk', vn', vs', va', f', A', n', c', hr, cE⟩ := H.out.1 j hlt
      obtain ⟨c0, c1, c2, c3, c4, c5, c6, c7⟩ := hr.later hz.1
      have hz2 := hz.alloc (.cells #[.int .i64 k', .string op', .int .i64 vk', .int .i64 vn', .string vs', .string va', .string f', .slice A' n' c'] 26) hz.1.size
      have E := Lib.hid (cE _ hz2); clear cE hz2 hz hr
      go_wp2_with (go_at_call 33; ((with_reducible refine (E.out).mono ?_); rintro e w2 ⟨rfl, hb2⟩))
      go_roundw
      case rel => exact ⟨j + 1, by omega, by go_num, hb2⟩
      case measure => simp [intOf]; omega
    · obtain rfl : j = n := by omega
      have HE := Lib.hid hz; clear hz
      go_wp2_with fail
      go_ret
      exact ⟨rfl, HE.out⟩
/-- The names in a tree are no longer than texts may be. -/
def Tr.fits : Tr → Prop
  | .lit .. => True
  | .ref v _ => v.size ≤ maxLen
  | .cnt v => v.size ≤ maxLen
  | .un _ x => x.fits
  | .bin _ x y => x.fits ∧ y.fits
/-- The names in a tree, met one by one. -/
def Tr.vs : Tr → List ByteArray → List ByteArray
  | .lit .., l => l
  | .ref v _, l => v :: l
  | .cnt v, l => v :: l
  | .un _ x, l => x.vs l
  | .bin _ x y, l => y.vs (x.vs l)
def Tr.vars : Tr → List ByteArray
  | .lit .. => []
  | .ref v _ => [v]
  | .cnt v => [v]
  | .un _ x => x.vars
  | .bin _ x y => x.vars ++ y.vars
theorem vs_mem : ∀ (t : Tr) (l : List ByteArray) (s : ByteArray), s ∈ t.vs l ↔ s ∈ t.vars ∨ s ∈ l
  | .lit .., l, s => by simp [Tr.vs, Tr.vars]
  | .ref v f, l, s => by simp [Tr.vs, Tr.vars]
  | .cnt v, l, s => by simp [Tr.vs, Tr.vars]
  | .un op x, l, s => by rw [Tr.vs, Tr.vars]; exact vs_mem x l s
  | .bin op x y, l, s => by rw [Tr.vs, Tr.vars, vs_mem y, vs_mem x, List.mem_append, ← or_assoc]; exact ⟨fun h => by rcases h with (h | h) | h <;> simp [h], fun h => by rcases h with (h | h) | h <;> simp [h]⟩
theorem ok_fits : ∀ (t : Tr), t.ok = true → t.fits
  | .lit .., _ => trivial
  | .ref v f, h => by unfold Tr.ok at h; rw [Bool.and_eq_true] at h; exact nameB_size h.1
  | .cnt v, h => by unfold Tr.ok at h; exact nameB_size h
  | .un op x, h => by unfold Tr.ok at h; rw [Bool.and_eq_true] at h; exact ok_fits x h.2
  | .bin op x y, h => by unfold Tr.ok at h; simp only [Bool.and_eq_true] at h; exact ⟨ok_fits x h.1.2, ok_fits y h.2⟩
theorem vars_tr (w0 : World) (g m : Nat) (hg : w0.heap.size ≤ g) (hm : w0.heap.size ≤ m) (hgm : g ≠ m) : ∀ (t : Tr) (K : Value), TrAt w0 t K → t.fits → ∀ (w : World) (N : Nat) (l : List ByteArray), Below w0.heap.size w0 w → Blk w g 69 #[.map (some m)] → SetS w m N l → N + t.nodes ≤ maxLen →
    Calls Tryd.prog 33 #[t.val K, (.func (.func 38) #[] #[.pointer (some ⟨g, 0, none⟩)])] w fun e w' => e = .returned (.bool true) ∧ KS w0 g m w (N + t.nodes) (t.vs l) w'
  | .lit k n s, K, h, ho, w, N, l, hb, hB, hS, hN => by
    obtain rfl : K = nilk := h
    exact vars_gen 0 e0 k n s e0 e0 none 0 0 w0 w g m N l (fun _ => N + 1) (fun _ => l) (by decide) hg hm hgm hb hB hS (by have h1 : N + 1 ≤ maxLen := hN; omega) (by decide) rfl rfl (fun j hj => absurd hj (by omega))
  | .ref v f, K, h, ho, w, N, l, hb, hB, hS, hN => by
    obtain rfl : K = nilk := h
    exact vars_gen 1 e0 0 0 e0 v f none 0 0 w0 w g m N l (fun _ => N + 1) (fun _ => v :: l) (by decide) hg hm hgm hb hB hS (by have h1 : N + 1 ≤ maxLen := hN; omega) ho rfl rfl (fun j hj => absurd hj (by omega))
  | .cnt v, K, h, ho, w, N, l, hb, hB, hS, hN => by
    obtain rfl : K = nilk := h
    exact vars_gen 2 e0 0 0 e0 v e0 none 0 0 w0 w g m N l (fun _ => N + 1) (fun _ => v :: l) (by decide) hg hm hgm hb hB hS (by have h1 : N + 1 ≤ maxLen := hN; omega) ho rfl rfl (fun j hj => absurd hj (by omega))
  | .un op x, K, h, ho, w, N, l, hb, hB, hS, hN => by
    obtain ⟨a, c, rfl, h1, h2, kx, hx, hr⟩ := h
    obtain ⟨A1, n1, c1, e1⟩ := node_sl hx
    have IH := vars_tr w0 g m hg hm hgm x kx hx ho
    unfold Tr.val at IH
    rw [e1] at hr IH
    rw [Tr.nodes] at hN
    have := vars_gen 3 op 0 0 e0 e0 e0 (some a) 1 c w0 w g m N l (fun j => if j = 0 then N + 1 else N + 1 + x.nodes) (fun j => if j = 0 then l else x.vs l) (by decide) hg hm hgm hb hB hS (by omega) (by decide) rfl rfl (fun j hj => by
      obtain rfl : j = 0 := by omega
      refine ⟨a, rfl, _, _, _, _, _, _, _, _, _, _, (by simpa [Addr.add] using hr), fun W hz => (IH W (N + 1) l hz.1 hz.2.1 hz.2.2.1 (by omega)).mono ?_⟩
      rintro e w' ⟨rfl, hz'⟩
      exact ⟨rfl, hz'.1, hz'.2.1, hz'.2.2.1, grownBy_more hz.2.2.2 hz'.2.2.2 (Or.inl rfl)⟩)
    rw [Tr.nodes, Tr.vs, show N + (x.nodes + 1) = N + 1 + x.nodes by omega]
    exact this
  | .bin op x y, K, h, ho, w, N, l, hb, hB, hS, hN => by
    obtain ⟨a, c, rfl, h1, h2, ⟨kx, hx, hr⟩, ky, hy, hq⟩ := h
    obtain ⟨A1, n1, c1, e1⟩ := node_sl hx
    obtain ⟨A2, n2, c2, e2⟩ := node_sl hy
    have IH := vars_tr w0 g m hg hm hgm x kx hx ho.1
    have IH2 := vars_tr w0 g m hg hm hgm y ky hy ho.2
    unfold Tr.val at IH IH2
    rw [e1] at hr IH
    rw [e2] at hq IH2
    rw [Tr.nodes] at hN
    have := vars_gen 4 op 0 0 e0 e0 e0 (some a) 2 c w0 w g m N l (fun j => if j = 0 then N + 1 else if j = 1 then N + 1 + x.nodes else N + 1 + x.nodes + y.nodes) (fun j => if j = 0 then l else if j = 1 then x.vs l else y.vs (x.vs l)) (by decide) hg hm hgm hb hB hS (by omega) (by decide) rfl rfl (fun j hj => by
      rcases (by omega : j = 0 ∨ j = 1) with rfl | rfl
      · refine ⟨a, rfl, _, _, _, _, _, _, _, _, _, _, (by simpa [Addr.add] using hr), fun W hz => (IH W (N + 1) l hz.1 hz.2.1 hz.2.2.1 (by omega)).mono ?_⟩
        rintro e w' ⟨rfl, hz'⟩
        exact ⟨rfl, hz'.1, hz'.2.1, hz'.2.2.1, grownBy_more hz.2.2.2 hz'.2.2.2 (Or.inl rfl)⟩
      · refine ⟨a, rfl, _, _, _, _, _, _, _, _, _, _, hq, fun W hz => (IH2 W (N + 1 + x.nodes) (x.vs l) hz.1 hz.2.1 hz.2.2.1 (by omega)).mono ?_⟩
        rintro e w' ⟨rfl, hz'⟩
        exact ⟨rfl, hz'.1, hz'.2.1, hz'.2.2.1, grownBy_more hz.2.2.2 hz'.2.2.2 (Or.inl rfl)⟩)
    rw [Tr.nodes, Tr.vs, show N + (x.nodes + y.nodes + 1) = N + 1 + x.nodes + y.nodes by omega]
    exact this
end Go.Proofs.YtfkcjlpocfjmdaaDoor
namespace Go.Proofs.YtfkcjlpocfjmdaaDoor
open Go.ChangeShapes Go.WideShapes Go.ChangeAt Go.RowKit Go.Maps Go.Shelf
set_option linter.unusedVariables false
set_option linter.unusedSimpArgs false

abbrev scV (s : ByteArray) : List Value := [.string s]
/-- The names, each once, in order. -/
def Sorted1 (l r : List ByteArray) : Prop := r.Pairwise (fun a b => a.toList < b.toList) ∧ ∀ s, s ∈ r ↔ s ∈ l
def VarsT (w : World) (t : Tr) (e : Ending) (w' : World) : Prop := ∃ (v : Value) (r : List ByteArray), e = .returned v ∧ Own w' w.heap.size 9 1 scV v r ∧ Sorted1 t.vars r
theorem sorted_keys {D : DataW Unit} {w : World} {b n : Nat} {l : List ByteArray} (h1 : w.ownsMap Tryd.prog 9 (plainElem Tryd.prog 4) b n D) (h2 : ∀ s, has D (strKey s) = true ↔ s ∈ l) (ss : List (List UInt8)) (hp : ss.Perm (strKeys D)) :
    Sorted1 l ((ss.mergeSort (fun x y => decide (x ≤ y))).map fun x => ⟨x.toArray⟩) := by
  obtain ⟨es, rfl, hpw, hk⟩ := h1.entries strKeyed
  obtain ⟨es', e', hko⟩ := h1.keysOf
  obtain rfl : es = es' := by simpa using e'
  have hkey : ∀ p ∈ es, ∃ x, p.1 = .string x := fun p hp => by
    obtain ⟨key, hkey⟩ := hko p hp
    obtain ⟨x, _, e, _⟩ := Maps.keyOf_str Tryd.underlying9 hkey
    exact ⟨x, e⟩
  have hnd : (strKeys (DataW.map es : DataW Unit)).Nodup := by
    show (es.map fun p => strOf p.1).Nodup
    refine List.pairwise_map.2 (hpw.imp_of_mem fun {p q} hp' hq' hne e => hne ?_)
    obtain ⟨a, ha⟩ := hkey p hp'
    obtain ⟨b, hb⟩ := hkey q hq'
    rw [ha, hb] at e ⊢
    exact congrArg _ e
  have hmem : ∀ x : List UInt8, x ∈ strKeys (DataW.map es : DataW Unit) ↔ has (DataW.map es : DataW Unit) (.string x) = true := fun x => by
    show x ∈ es.map (fun p => strOf p.1) ↔ _
    rw [has_eq, List.any_eq_true, List.mem_map]
    constructor
    · rintro ⟨p, hp', rfl⟩
      obtain ⟨a, ha⟩ := hkey p hp'
      exact ⟨p, hp', by rw [ha]; simp [Lit.sameKey, strOf]⟩
    · rintro ⟨p, hp', hs⟩
      obtain ⟨a, ha⟩ := hkey p hp'
      rw [ha] at hs
      exact ⟨p, hp', by rw [ha]; simpa [Lit.sameKey, strOf] using hs⟩
  have hss := (List.mergeSort_perm ss (fun x y => decide (x ≤ y))).trans hp
  have tr : ∀ a b c : List UInt8, decide (a ≤ b) = true → decide (b ≤ c) = true → decide (a ≤ c) = true := fun a b c h1 h2 => by simp only [decide_eq_true_eq] at *; exact List.le_trans h1 h2
  have to : ∀ a b : List UInt8, (decide (a ≤ b) || decide (b ≤ a)) = true := fun a b => by simp only [Bool.or_eq_true, decide_eq_true_eq]; exact List.le_total a b
  have hs := List.pairwise_mergeSort (le := fun x y : List UInt8 => decide (x ≤ y)) tr to ss
  have hn2 := hss.nodup_iff.2 hnd
  constructor
  · rw [List.pairwise_map]
    refine (hs.and hn2).imp fun {a b} h => ?_
    rw [Lib.toList_data, Lib.toList_data]
    have h3 : a ≤ b := by simpa using h.1
    show a < b
    rcases Classical.em (a < b) with g | g
    · exact g
    · exact absurd (List.le_antisymm h3 (List.not_lt.1 g)) h.2
  · intro s
    rw [List.mem_map, ← h2 s]
    constructor
    · rintro ⟨x, hx, rfl⟩
      exact (hmem x).1 (hss.mem_iff.1 hx)
    · intro h
      exact ⟨s.data.toList, hss.mem_iff.2 ((hmem _).2 h), rfl⟩
/-- maps.Keys and slices.Sorted at a map of the call's own. -/
theorem keys_any (mb : Option Nat) (W : World) : Calls Tryd.prog 40 #[.map mb] W fun e w' => e = .returned (.func (.func 55) #[] #[.pointer (some ⟨W.heap.size, 0, none⟩)]) ∧ w' = W.alloc (.cells #[.map mb] 69) :=
  (callsIn_wide (n := 5)).1 (Tryd.maps_Keys_40 mb W)
theorem sorted_any (m N : Nat) (t : Tr) (W : World) (hS : SetS W m N (t.vs [])) (hN : N * 16 ≤ 140737488355328) :
    Calls Tryd.prog 39 #[.func (.func 55) #[] #[.pointer (some ⟨W.heap.size, 0, none⟩)]] (W.alloc (.cells #[.map (some m)] 69)) fun e w' => VarsT W t e w' ∧ Below W.heap.size W w' := by
  obtain ⟨D, h1, h2⟩ := hS
  have hz := h1.size_le
  refine ((callsIn_wide (n := 5)).1 (Tryd.slices_Sorted_keys_39_40 m N D _ W h1 (by unfold maxLen; omega) (by omega))).mono ?_
  rintro e w' ⟨v, ss, rfl, hp, hO, _, hb⟩
  have hs := sorted_keys h1 h2 ss hp
  refine ⟨⟨v, _, rfl, ?_, hs.1, fun s => ?_⟩, bt (ba W _) hb⟩
  · unfold Own
    have e1 : (((ss.mergeSort (fun x y => decide (x ≤ y))).map fun x => (⟨x.toArray⟩ : ByteArray)).flatMap scV) = (ss.mergeSort (fun x y => decide (x ≤ y))).map encStr := by
      rw [List.flatMap_map]
      induction (ss.mergeSort (fun x y => decide (x ≤ y))) with
      | nil => rfl
      | cons x l ih => rw [List.flatMap_cons, List.map_cons, ih]; rfl
    rw [e1, List.length_map, List.length_mergeSort]
    exact ownsRow_base_a hO (by simp)
  · rw [hs.2 s, vs_mem]; simp
set_option maxHeartbeats 1000000 in
theorem Vars_gen (k : Int) (op : ByteArray) (vk vn : Int) (vs va f : ByteArray) (A : Option Addr) (n c : Nat) (t : Tr) (N : Nat) (hN : N * 16 ≤ 140737488355328) (w : World)
    (hE : ∀ W g m, Below w.heap.size w W → w.heap.size ≤ g → w.heap.size ≤ m → g ≠ m → Blk W g 69 #[.map (some m)] → SetS W m 0 [] → Calls Tryd.prog 33 #[ev k op vk vn vs va f (.slice A n c), (.func (.func 38) #[] #[.pointer (some ⟨g, 0, none⟩)])] W fun e w' => e = .returned (.bool true) ∧ KS w g m W N (t.vs []) w') :
    Calls Tryd.prog 15 #[ev k op vk vn vs va f (.slice A n c)] w fun e w' => VarsT w t e w' ∧ Below w.heap.size w w' := by
  have b1 := ba w (.cells #[.int .i64 k, .string op, .int .i64 vk, .int .i64 vn, .string vs, .string va, .string f, .slice A n c] 26)
  have b2 := ba (w.alloc (.cells #[.int .i64 k, .string op, .int .i64 vk, .int .i64 vn, .string vs, .string va, .string f, .slice A n c] 26)) (.map #[] 0)
  have b3 := ba ((w.alloc (.cells #[.int .i64 k, .string op, .int .i64 vk, .int .i64 vn, .string vs, .string va, .string f, .slice A n c] 26)).alloc (.map #[] 0)) (.cells #[.map (some (w.heap.size + 1))] 69)
  have hS := (SetS.made (w.alloc (.cells #[.int .i64 k, .string op, .int .i64 vk, .int .i64 vn, .string vs, .string va, .string f, .slice A n c] 26))).later b3
  have hB := Blk.new ((w.alloc (.cells #[.int .i64 k, .string op, .int .i64 vk, .int .i64 vn, .string vs, .string va, .string f, .slice A n c] 26)).alloc (.map #[] 0)) 69 #[.map (some (w.heap.size + 1))]
  simp only [World.size_alloc] at hS hB
  have E := hE _ (w.heap.size + 1 + 1) (w.heap.size + 1) (bt (bt b1 b2) b3) (by omega) (by omega) (by omega) hB hS
  have H := Lib.hid E; clear b1 b2 b3 hS hE hB E
  have hmm := @run_makeMap Tryd.prog
  go_enter Tryd.func15, Tryd.ntmps15
  go_wp2_with fail
  refine H.out.mono ?_
  rintro e w1 ⟨rfl, hz⟩
  have p0 := hz.2.1.cell 0
  have hT := sorted_any (w.heap.size + 1) N t w1 hz.2.2.1 hN
  have Z := Lib.hid (And.intro hz.1 hT); clear hz hT
  go_wp2_with (first
    | (go_at_call 40; refine (keys_any _ _).mono ?_; rintro e w2 ⟨rfl, rfl⟩)
    | (go_at_call 39; refine Z.out.2.mono ?_; rintro e w2 ⟨⟨v, r, rfl, hO, hs⟩, hb⟩; have Y := Lib.hid (And.intro hO (And.intro hs hb)); clear hO hs hb))
  go_ret
  exact ⟨⟨_, r, rfl, Y.out.1.lift Z.out.1.size, Y.out.2.1⟩, bt Z.out.1 Y.out.2.2⟩
/-- Vars at whatever tree. -/
theorem Vars_tr (t : Tr) (K : Value) (w : World) (h : TrAt w t K) (hf : t.fits) (hN : t.nodes * 16 ≤ 140737488355328) :
    Calls Tryd.prog 15 #[t.val K] w fun e w' => VarsT w t e w' ∧ Below w.heap.size w w' := by
  have hE := fun W g m (hW : Below w.heap.size w W) (hg : w.heap.size ≤ g) (hm : w.heap.size ≤ m) (hgm : g ≠ m) (hB : Blk W g 69 #[.map (some m)]) (hS : SetS W m 0 []) => vars_tr w g m hg hm hgm t K h hf W 0 [] hW hB hS (by unfold maxLen; omega)
  obtain ⟨A, n, c, e1⟩ := node_sl h
  unfold Tr.val at hE ⊢
  rw [e1] at hE ⊢
  simp only [Nat.zero_add] at hE
  exact Vars_gen _ _ _ _ _ _ _ A n c t _ hN w hE
end Go.Proofs.YtfkcjlpocfjmdaaDoor
