/- Turns by deficits: Flows, New. -/
import Derived.Test.YtckpecddglfjkaaDrE
import Derived.Deep.DeepCutAuto
import Derived.Deep.CutBlock
namespace Go.Proofs.Ytckpecddglfjkaa
open Go.ChangeShapes Go.WideShapes Go.ChangeAt Go.RowKit Go.Maps
open Dr
set_option linter.unusedVariables false
set_option linter.unusedSimpArgs false

abbrev Gl := Int × Int × Int
abbrev rowG (f : Gl) : List Value := [.int .i64 f.1, .int .i64 f.2.1, .int .i64 f.2.2]
def gl (f : Fl) : Gl := (f.1, f.2.1, f.2.2.1)
theorem New_any (w : World) : Calls Try.prog 10 #[] w fun e w' => e = .returned (.pointer (some ⟨w.heap.size, 0, none⟩)) ∧ DrS w' w.heap.size w.heap.size [] false ∧ Below w.heap.size w w' := by
  go_enter Try.func10, Try.ntmps10
  go_wp2
  go_ret
  exact ⟨rfl, ⟨.slice none 0 0, [], 0, ⟨Nat.le_refl _, Blk.new w _ _, Own.nil _ _ _ _ _, fun h => absurd rfl h⟩, rfl⟩, ba _ _⟩
def FlowsP (L : List Fl) (w : World) (e : Ending) (w' : World) : Prop := ∃ v, (e = .returned v ∧ Own w' w.heap.size 48 3 rowG v (L.map gl)) ∧ Below w.heap.size w w'
theorem new_cells {w : World} {g : Nat} (hg : g = w.heap.size) (t : TypeId) (cs : Array Value) : ∀ j u, cs.toList[j]? = some u → (w.alloc (.cells cs t)).cell? ((⟨g, 0, none⟩ : Addr).add j) = some u := by
  subst hg
  exact blk_cells (Blk.new w t cs)
theorem gl_take (L : List Fl) (k : Nat) (h : k < L.length) : (L.map gl).take (k + 1) = (L.map gl).take k ++ [gl (L[k]'h)] := by
  rw [List.take_succ_eq_append_getElem (by simpa using h)]; simp
set_option maxHeartbeats 1000000 in
theorem Flows_any (B d : Nat) (L : List Fl) (fr : Bool) (w : World) (h : DrS w B d L fr) (hn : L.length ≤ 1000) :
    Calls Try.prog 19 #[.pointer (some ⟨d, 0, none⟩)] w (FlowsP L w) := by
  obtain ⟨v, l, c, h, rfl⟩ := h
  rw [rot_len] at hn
  obtain ⟨j0, hj, hy0, hy1, hy2⟩ := info_parts (P := Try.prog) (e := 48) (z := .agg #[.int .i64 0, .int .i64 0, .int .i64 0]) (size := 3) (bytes := 24) (by kernel_rfl)
  obtain ⟨sA, n, rfl, _, n1, n2⟩ := h.row.shape
  obtain ⟨d0, d1, d2, dl, df⟩ := h.cells
  have hmap : (rot l c).map gl = rot (l.map gl) c := rot_map gl l c
  have hrl : (rot (l.map gl) c).length = l.length := by rw [rot_len, List.length_map]
  have H := Lib.hid (And.intro h (And.intro hmap hrl)); clear h hmap hrl
  have hmx : l.length ≤ 9223372036854775807 := by omega
  go_enter Try.func19, Try.ntmps19
  go_wp2_with (refine wpList_make_own _ rfl _ _ 45 rfl w.heap.size 48 j0 (.agg #[.int .i64 0, .int .i64 0, .int .i64 0]) 3 Try.underlying45 hj hy0 hy1 .i64 .i64 _ l.length rfl rfl rfl (by rw [hy2]; omega) (by unfold maxLen; omega) (Nat.le_refl _) ?_; intro w1 hO1 hg1; have bm := grownBy_below hg1 (B := w.heap.size) (Nat.le_refl _) (fun k hk => by simp at hk); clear d0 d1 d2 dl df; obtain ⟨d0, d1, d2, dl, df⟩ := (H.out.1.later bm).cells; have K := Lib.hid (And.intro hO1 bm); clear hO1 hg1 bm)
  clear d0 d1 d2 dl df
  go_loopw [3, 16] (fun lv iv wr => ∃ (k : Nat), k ≤ l.length ∧ iv = .int .i64 k ∧ Own wr w.heap.size 48 3 rowG lv ((rot (l.map gl) c).take k) ∧ Below w.heap.size w wr) (fun _ i _ => l.length - (intOf i).toNat)
  case atStart => exact ⟨0, Nat.zero_le _, rfl, K.out.1, K.out.2⟩
  case round =>
    clear K
    obtain ⟨k, hk, rfl, hO, hb⟩ := hrel
    obtain ⟨D, g, rfl, b1, b2, b3⟩ := hO.shape
    by_cases hlt : k < l.length
    · have hD := H.out.1.later hb
      have hc := hD.cur (fun e => by rw [e] at hlt; simp at hlt)
      obtain ⟨q, hq⟩ : ∃ q, q = (c + k) % l.length := ⟨_, rfl⟩
      have hql : q < l.length := by rw [hq]; exact Nat.mod_lt _ (by omega)
      have hqi : ((c : Int) + (k : Int)) % (l.length : Int) = (q : Int) := by rw [hq, Int.natCast_emod, Int.natCast_add]
      have hT : (rot (l.map gl) c).take (k + 1) = (rot (l.map gl) c).take k ++ [gl (l[q]'hql)] := by
        have h1 := rot_get (l.map gl) c k (by simpa using hc) (by simpa using hlt)
        rw [List.length_map, ← hq, List.getElem?_map, List.getElem?_eq_getElem hql] at h1
        rw [List.take_add_one, h1]; rfl
      have hln : ((rot (l.map gl) c).take k).length = k := by rw [List.length_take, rot_len, List.length_map]; omega
      obtain ⟨gr, rfl, _, _, _, _⟩ := hD.row.cells (f := rowF) (k := 4) (fun _ => rfl) rfl (by omega)
      obtain ⟨x0, x1, x2, x3, xf, xl⟩ := hD.fl q hql rfl
      obtain ⟨d0, d1, d2, dl, df⟩ := hD.cells
      have hw1 : IntKind.i64.wrap ((c : Int) + (k : Int)) = (c : Int) + (k : Int) := IntWalk.i64_in _ (by omega)
      rw [hln] at hO ⊢
      generalize hy : l[q]'hql = y at *
      obtain ⟨i, qq, t, co⟩ := y
      simp only at x0 x1 x2 x3
      have hkl : k + 1 ≤ maxLen ∧ (k + 1) * 24 ≤ 140737488355328 := by unfold maxLen; omega
      have hsz := hb.size
      have K := Lib.hid (And.intro hO (And.intro hb (And.intro hT (And.intro hln hq)))); clear hO hb hT hln hD b1 b2 b3 hq
      have htm : ((c : Int) + (k : Int)).tmod (l.length : Int) = (q : Int) := by rw [Int.tmod_eq_emod_of_nonneg (by omega)]; exact hqi
      have hz0' : ¬ (l.length : Int) = 0 := by omega
      have hz1' : ¬ l.length = 0 := by omega
      have hwq : IntKind.i64.wrap (q : Int) = (q : Int) := IntWalk.i64_in _ (by omega)
      have hSS : ∀ W, Below w.heap.size w W → W.cell? ⟨d, 0, none⟩ = some (.slice (some ⟨gr, 0, none⟩) l.length n) ∧ W.cell? ⟨d, 1, none⟩ = some (.int .i64 (c : Int)) ∧ W.cell? ⟨gr, q * 4, none⟩ = some (.int .i64 i) ∧ W.cell? ⟨gr, q * 4 + 1, none⟩ = some (.int .i64 qq) ∧ W.cell? ⟨gr, q * 4 + 2, none⟩ = some (.int .i64 t) := fun W hW => by
        obtain ⟨a0, a1, _⟩ := (H.out.1.later hW).cells
        obtain ⟨a2, a3, a4, _⟩ := (H.out.1.later hW).fl q hql rfl
        rw [hy] at a2 a3 a4
        exact ⟨a0, a1, a2, a3, a4⟩
      have Y := Lib.hid (And.intro hSS (And.intro hkl hsz)); clear hSS hkl hsz hy
      go_upto_region 5 with fail
      go_region_held3 (fun w' => w'.cell? ⟨d, 0, none⟩ = some (.slice (some ⟨gr, 0, none⟩) l.length n) ∧ w'.cell? ⟨d, 1, none⟩ = some (.int .i64 (c : Int)) ∧ w'.cell? ⟨gr, q * 4, none⟩ = some (.int .i64 i) ∧ w'.cell? ⟨gr, q * 4 + 1, none⟩ = some (.int .i64 qq) ∧ w'.cell? ⟨gr, q * 4 + 2, none⟩ = some (.int .i64 t))
        (exact Y.out.1 _ (by first | exact K.out.2.1 | exact below_drew K.out.2.1 | exact bt K.out.2.1 (ba _ _) | exact bt K.out.2.1 (below_drew (ba _ _)) | exact bt K.out.2.1 ((below_drew (Below.refl _ _)).trans (ba _ _)) | exact Z5.out.2))
        ((refine step_append_own rfl (.tmp 19) (.tmp 39) 45 rfl w.heap.size 48 j0 (.agg #[.int .i64 0, .int .i64 0, .int .i64 0]) 3 24 Try.underlying45 hj hy0 hy1 hy2 rfl (by decide) (.slice D k g) k _ rfl (by have := K.out.1.later (below_drew (ba wr (.cells #[.int .i64 i, .int .i64 qq, .int .i64 t] 48))); unfold Own at this; rw [K.out.2.2.2.1] at this; exact this) ⟨_, 0, none⟩ 1 1 (rowG (gl (i, qq, t, co))) rfl rfl (new_cells rfl _ _) (by simp [Value.oneCell']) Y.out.2.1.1 Y.out.2.1.2 (by have := Y.out.2.2; simp only [World.size_drew, World.size_alloc]; omega) ?_; intro v5 w5 hO5 hg5 _; obtain ⟨A5, n5, c5, rfl⟩ := own_shape hO5; have Z5 := Lib.hid (And.intro hO5 (own_past (bt K.out.2.1 (below_drew (ba wr (.cells #[.int .i64 i, .int .i64 qq, .int .i64 t] 48)))) hg5 K.out.1)); clear hO5 hg5))
      go_simp
      go_wp2
      go_roundw
      case rel => exact ⟨k + 1, by omega, by go_num, by rw [K.out.2.2.1]; exact Own.more K.out.2.2.2.1.symm Z5.out.1, Z5.out.2⟩
      case measure => simp [intOf]; omega
    · obtain rfl : k = l.length := by omega
      have hTT : (rot (l.map gl) c).take l.length = rot (l.map gl) c := List.take_of_length_le (by rw [H.out.2.2]; exact Nat.le_refl _)
      rw [hTT] at hO ⊢
      have K := Lib.hid (And.intro hO hb); clear hO hb hTT b1 b2 b3
      go_wp2
      go_ret
      unfold FlowsP
      exact ⟨_, ⟨rfl, by rw [H.out.2.1]; exact K.out.1⟩, K.out.2⟩
end Go.Proofs.Ytckpecddglfjkaa
