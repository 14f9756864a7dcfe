/- Contracts of package expr: the names of whatever tree are met. -/
import Derived.Test.YtfkcjlpocfjmdaaDoorVars
import Derived.Test.YtfkcjlpocfjmdaaDoorSizeT
namespace Go.Proofs.YtfkcjlpocfjmdaaDoor
open Go.ChangeShapes Go.WideShapes Go.ChangeAt Go.RowKit Go.Maps
set_option linter.unusedVariables false
set_option linter.unusedSimpArgs false

/-- What every keeps of the tree, and of the names that are met. -/
def KS (w0 : World) (g m : Nat) (w : World) (N : Nat) (l : List ByteArray) (W : World) : Prop := Below w0.heap.size w0 W ∧ Blk W g 69 #[.map (some m)] ∧ SetS W m N l ∧ w.grownBy W (some m)
theorem KS.alloc {w0 w W : World} {g m N : Nat} {l : List ByteArray} (h : KS w0 g m w N l W) (o : Obj) (hg : w0.heap.size ≤ W.heap.size) : KS w0 g m w N l (W.alloc o) :=
  ⟨h.1.trans ((ba W o).mono hg), h.2.1.alloc o, h.2.2.1.later (ba W o), grownBy_more h.2.2.2 (gb_below1 (ba W o)) (Or.inl rfl)⟩
set_option maxHeartbeats 2000000 in
theorem vars_gen (k : Int) (op : ByteArray) (vk vn : Int) (vs va f : ByteArray) (A : Option Addr) (n c : Nat) (w0 w : World) (g m N : Nat) (l : List ByteArray) (M : Nat → Nat) (L : Nat → List ByteArray) (hn : n ≤ 2) (hg : w0.heap.size ≤ g) (hm : w0.heap.size ≤ m) (hgm : g ≠ m)
    (hb : Below w0.heap.size w0 w) (hB : Blk w g 69 #[.map (some m)]) (hS : SetS w m N l) (hN : N < maxLen) (hva : va.size ≤ maxLen) (hM : M 0 = N + 1) (hL : L 0 = nodeVar k va l)
    (hK : ∀ j, j < n → ∃ a, A = some a ∧ ∃ k' op' vk' vn' vs' va' f' A' n' c', Row8 w0 (a.add (j * 8)) k' op' vk' vn' vs' va' f' (.slice A' n' c') ∧
      ∀ W, KS w0 g m w (M j) (L j) W → Calls Tryd.prog 33 #[ev k' op' vk' vn' vs' va' f' (.slice A' n' c'), (.func (.func 38) #[] #[.pointer (some ⟨g, 0, none⟩)])] W fun e w' => e = .returned (.bool true) ∧ KS w0 g m w (M (j + 1)) (L (j + 1)) w') :
    Calls Tryd.prog 33 #[ev k op vk vn vs va f (.slice A n c), (.func (.func 38) #[] #[.pointer (some ⟨g, 0, none⟩)])] w fun e w' => e = .returned (.bool true) ∧ KS w0 g m w (M n) (L n) w' := by
  have bb := ba w (.cells #[.int .i64 k, .string op, .int .i64 vk, .int .i64 vn, .string vs, .string va, .string f, .slice A n c] 26)
  have hX := Blk.new w 26 #[.int .i64 k, .string op, .int .i64 vk, .int .i64 vn, .string vs, .string va, .string f, .slice A n c]
  have C := vars1_any k op vk vn vs va f A n c g m N l _ (hB.later bb) (hS.later bb) hN hva hgm
  rw [← hL, ← hM] at C
  have hml := hS.lt
  have H := Lib.hid (And.intro hK (And.intro bb (And.intro hX (And.intro hB (And.intro hb (And.intro hS C)))))); clear hK bb hX hB hb hS C hL hM
  go_enter Tryd.func33, Tryd.ntmps33
  go_wp2_with fail
  go_at_call 38
  refine (H.out.2.2.2.2.2.2).mono ?_
  rintro e w1 ⟨rfl, hS1, hg1⟩
  have hX1 := (H.out.2.2.1.grown hg1 (fun e => by have := Option.some.inj e; omega)).cell
  have Z1 : KS w0 g m w (M 0) (L 0) w1 := ⟨(H.out.2.2.2.2.1.trans (H.out.2.1.mono H.out.2.2.2.2.1.size)).trans (grownBy_below hg1 (Nat.le_trans H.out.2.2.2.2.1.size H.out.2.1.size) (fun q hq => by have := Option.some.inj hq; omega)), (H.out.2.2.2.1.later H.out.2.1).grown hg1 (fun e => hgm (Option.some.inj e)), hS1, grownBy_more (gb_below1 H.out.2.1) hg1 (Or.inl rfl)⟩
  have Z := Lib.hid Z1; clear Z1 hS1 hg1
  go_wp2_with fail
  go_loopw [14] (fun x wr => ∃ j : Nat, j ≤ n ∧ x = .int .i64 j ∧ KS w0 g m w (M j) (L j) wr) (fun x _ => n - (intOf x).toNat)
  case atStart => exact ⟨0, Nat.zero_le _, rfl, Z.out⟩
  case round =>
    obtain ⟨j, hj, rfl, hz⟩ := hrel
    by_cases hlt : j < n
    · obtain ⟨a, rfl, k', op', vk', vn', vs', va', f', A', n', c', hr, cE⟩ := H.out.1 j hlt
      obtain ⟨c0, c1, c2, c3, c4, c5, c6, c7⟩ := hr.later hz.1
      have hz2 := hz.alloc (.cells #[.int .i64 k', .string op', .int .i64 vk', .int .i64 vn', .string vs', .string va', .string f', .slice A' n' c'] 26) hz.1.size
      have E := Lib.hid (cE _ hz2); clear cE hz2 hz hr
      go_wp2_with (go_at_call 33; ((with_reducible refine (E.out).mono ?_); rintro e w2 ⟨rfl, hb2⟩))
      go_roundw
      case rel => exact ⟨j + 1, by omega, by go_num, hb2⟩
      case measure => simp [intOf]; omega
    · obtain rfl : j = n := by omega
      have HE := Lib.hid hz; clear hz
      go_wp2_with fail
      go_ret
      exact ⟨rfl, HE.out⟩
/-- The names in a tree are no longer than texts may be. -/
def Tr.fits : Tr → Prop
  | .lit .. => True
  | .ref v _ => v.size ≤ maxLen
  | .cnt v => v.size ≤ maxLen
  | .un _ x => x.fits
  | .bin _ x y => x.fits ∧ y.fits
/-- The names in a tree, met one by one. -/
def Tr.vs : Tr → List ByteArray → List ByteArray
  | .lit .., l => l
  | .ref v _, l => v :: l
  | .cnt v, l => v :: l
  | .un _ x, l => x.vs l
  | .bin _ x y, l => y.vs (x.vs l)
def Tr.vars : Tr → List ByteArray
  | .lit .. => []
  | .ref v _ => [v]
  | .cnt v => [v]
  | .un _ x => x.vars
  | .bin _ x y => x.vars ++ y.vars
theorem vs_mem : ∀ (t : Tr) (l : List ByteArray) (s : ByteArray), s ∈ t.vs l ↔ s ∈ t.vars ∨ s ∈ l
  | .lit .., l, s => by simp [Tr.vs, Tr.vars]
  | .ref v f, l, s => by simp [Tr.vs, Tr.vars]
  | .cnt v, l, s => by simp [Tr.vs, Tr.vars]
  | .un op x, l, s => by rw [Tr.vs, Tr.vars]; exact vs_mem x l s
  | .bin op x y, l, s => by rw [Tr.vs, Tr.vars, vs_mem y, vs_mem x, List.mem_append, ← or_assoc]; exact ⟨fun h => by rcases h with (h | h) | h <;> simp [h], fun h => by rcases h with (h | h) | h <;> simp [h]⟩
theorem ok_fits : ∀ (t : Tr), t.ok = true → t.fits
  | .lit .., _ => trivial
  | .ref v f, h => by unfold Tr.ok at h; rw [Bool.and_eq_true] at h; exact nameB_size h.1
  | .cnt v, h => by unfold Tr.ok at h; exact nameB_size h
  | .un op x, h => by unfold Tr.ok at h; rw [Bool.and_eq_true] at h; exact ok_fits x h.2
  | .bin op x y, h => by unfold Tr.ok at h; simp only [Bool.and_eq_true] at h; exact ⟨ok_fits x h.1.2, ok_fits y h.2⟩
theorem vars_tr (w0 : World) (g m : Nat) (hg : w0.heap.size ≤ g) (hm : w0.heap.size ≤ m) (hgm : g ≠ m) : ∀ (t : Tr) (K : Value), TrAt w0 t K → t.fits → ∀ (w : World) (N : Nat) (l : List ByteArray), Below w0.heap.size w0 w → Blk w g 69 #[.map (some m)] → SetS w m N l → N + t.nodes ≤ maxLen →
    Calls Tryd.prog 33 #[t.val K, (.func (.func 38) #[] #[.pointer (some ⟨g, 0, none⟩)])] w fun e w' => e = .returned (.bool true) ∧ KS w0 g m w (N + t.nodes) (t.vs l) w'
  | .lit k n s, K, h, ho, w, N, l, hb, hB, hS, hN => by
    obtain rfl : K = nilk := h
    exact vars_gen 0 e0 k n s e0 e0 none 0 0 w0 w g m N l (fun _ => N + 1) (fun _ => l) (by decide) hg hm hgm hb hB hS (by have h1 : N + 1 ≤ maxLen := hN; omega) (by decide) rfl rfl (fun j hj => absurd hj (by omega))
  | .ref v f, K, h, ho, w, N, l, hb, hB, hS, hN => by
    obtain rfl : K = nilk := h
    exact vars_gen 1 e0 0 0 e0 v f none 0 0 w0 w g m N l (fun _ => N + 1) (fun _ => v :: l) (by decide) hg hm hgm hb hB hS (by have h1 : N + 1 ≤ maxLen := hN; omega) ho rfl rfl (fun j hj => absurd hj (by omega))
  | .cnt v, K, h, ho, w, N, l, hb, hB, hS, hN => by
    obtain rfl : K = nilk := h
    exact vars_gen 2 e0 0 0 e0 v e0 none 0 0 w0 w g m N l (fun _ => N + 1) (fun _ => v :: l) (by decide) hg hm hgm hb hB hS (by have h1 : N + 1 ≤ maxLen := hN; omega) ho rfl rfl (fun j hj => absurd hj (by omega))
  | .un op x, K, h, ho, w, N, l, hb, hB, hS, hN => by
    obtain ⟨a, c, rfl, h1, h2, kx, hx, hr⟩ := h
    obtain ⟨A1, n1, c1, e1⟩ := node_sl hx
    have IH := vars_tr w0 g m hg hm hgm x kx hx ho
    unfold Tr.val at IH
    rw [e1] at hr IH
    rw [Tr.nodes] at hN
    have := vars_gen 3 op 0 0 e0 e0 e0 (some a) 1 c w0 w g m N l (fun j => if j = 0 then N + 1 else N + 1 + x.nodes) (fun j => if j = 0 then l else x.vs l) (by decide) hg hm hgm hb hB hS (by omega) (by decide) rfl rfl (fun j hj => by
      obtain rfl : j = 0 := by omega
      refine ⟨a, rfl, _, _, _, _, _, _, _, _, _, _, (by simpa [Addr.add] using hr), fun W hz => (IH W (N + 1) l hz.1 hz.2.1 hz.2.2.1 (by omega)).mono ?_⟩
      rintro e w' ⟨rfl, hz'⟩
      exact ⟨rfl, hz'.1, hz'.2.1, hz'.2.2.1, grownBy_more hz.2.2.2 hz'.2.2.2 (Or.inl rfl)⟩)
    rw [Tr.nodes, Tr.vs, show N + (x.nodes + 1) = N + 1 + x.nodes by omega]
    exact this
  | .bin op x y, K, h, ho, w, N, l, hb, hB, hS, hN => by
    obtain ⟨a, c, rfl, h1, h2, ⟨kx, hx, hr⟩, ky, hy, hq⟩ := h
    obtain ⟨A1, n1, c1, e1⟩ := node_sl hx
    obtain ⟨A2, n2, c2, e2⟩ := node_sl hy
    have IH := vars_tr w0 g m hg hm hgm x kx hx ho.1
    have IH2 := vars_tr w0 g m hg hm hgm y ky hy ho.2
    unfold Tr.val at IH IH2
    rw [e1] at hr IH
    rw [e2] at hq IH2
    rw [Tr.nodes] at hN
    have := vars_gen 4 op 0 0 e0 e0 e0 (some a) 2 c w0 w g m N l (fun j => if j = 0 then N + 1 else if j = 1 then N + 1 + x.nodes else N + 1 + x.nodes + y.nodes) (fun j => if j = 0 then l else if j = 1 then x.vs l else y.vs (x.vs l)) (by decide) hg hm hgm hb hB hS (by omega) (by decide) rfl rfl (fun j hj => by
      rcases (by omega : j = 0 ∨ j = 1) with rfl | rfl
      · refine ⟨a, rfl, _, _, _, _, _, _, _, _, _, _, (by simpa [Addr.add] using hr), fun W hz => (IH W (N + 1) l hz.1 hz.2.1 hz.2.2.1 (by omega)).mono ?_⟩
        rintro e w' ⟨rfl, hz'⟩
        exact ⟨rfl, hz'.1, hz'.2.1, hz'.2.2.1, grownBy_more hz.2.2.2 hz'.2.2.2 (Or.inl rfl)⟩
      · refine ⟨a, rfl, _, _, _, _, _, _, _, _, _, _, hq, fun W hz => (IH2 W (N + 1 + x.nodes) (x.vs l) hz.1 hz.2.1 hz.2.2.1 (by omega)).mono ?_⟩
        rintro e w' ⟨rfl, hz'⟩
        exact ⟨rfl, hz'.1, hz'.2.1, hz'.2.2.1, grownBy_more hz.2.2.2 hz'.2.2.2 (Or.inl rfl)⟩)
    rw [Tr.nodes, Tr.vs, show N + (x.nodes + y.nodes + 1) = N + 1 + x.nodes + y.nodes by omega]
    exact this
end Go.Proofs.YtfkcjlpocfjmdaaDoor
