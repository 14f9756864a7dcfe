/- Waits that are held: slices.Insert wherever; slices.Clone. -/
import Derived.Test.YticjfhagpmlieaaHoI
import Derived.ArgAppend
namespace Go.Proofs.Yticjfhagpmlieaa
open Go.ChangeShapes Go.WideShapes Go.ChangeAt Go.RowKit
open Ho
set_option linter.unusedVariables false
set_option linter.unusedSimpArgs false

def InsQ (b : Nat) (v : Value) (l : List Wy) (w : World) (e : Ending) (w' : World) : Prop := ∃ v', (e = .returned v' ∧ Own w' b 35 3 rowW v' l ∧ ∀ x, v'.ownBlock = some x → v.ownBlock = some x ∨ w.heap.size ≤ x) ∧ w.grownBy w' v.ownBlock
set_option maxRecDepth 20000 in
set_option maxHeartbeats 1000000 in
theorem Insert_end (b x : Nat) (v : Value) (l : List Wy) (y : Wy) (w : World) (h : Own w b 35 3 rowW v l) (hx : Blk w x 35 (rowW y).toArray) (hl : l.length ≤ 1000) (hb : b ≤ w.heap.size) :
    Calls Try.prog 31 #[v, .int .i64 (l.length : Int), .slice (some ⟨x, 0, none⟩) 1 1] w (InsQ b v (l ++ [y]) w) := by
  obtain ⟨i0, hi0, hz0, hz1, hz2⟩ := info_parts (P := Try.prog) (e := 35) (z := .agg #[.int .i64 0, .slice none 0 0, .int .i64 0]) (size := 3) (bytes := 40) (by kernel_rfl)
  obtain ⟨A, cap, rfl, k0, k1, k2⟩ := h.shape
  have hc1 : ∀ j v, (rowW y)[j]? = some v → w.cell? ((⟨x, 0, none⟩ : Addr).add j) = some v := fun j v hj => by rw [addr_pl, Nat.zero_add, hx.cell]; simpa using hj
  have hml : l.length ≤ 9223372036854775807 := by omega
  have hcm : cap ≤ 9223372036854775807 := by unfold maxLen at k2; omega
  by_cases hr : l.length + 1 ≤ cap
  · obtain ⟨g, rfl⟩ : ∃ g, A = some ⟨g, 0, none⟩ := by
      rcases h.2 with ⟨e, _⟩ | ⟨g, _, _, e, _⟩
      · simp only [Value.slice.injEq] at e; omega
      · simp only [Value.slice.injEq] at e; exact ⟨g, e.1⟩
    obtain ⟨cur, hB, hlen, ht, _, hbg, _, hm⟩ := own_row h
    have hfit : l.length * 3 + (rowW y).length ≤ cur.length := by show l.length * 3 + 3 ≤ cur.length; omega
    have hT : (splice cur (l.length * 3) (rowW y)).take ((l.length + 1) * 3) = (l ++ [y]).flatMap rowW := by
      have h9 := splice_take_all cur (l.length * 3) (rowW y) (by omega)
      have e : (l.length + 1) * 3 = l.length * 3 + (rowW y).length := by show (l.length + 1) * 3 = l.length * 3 + 3; omega
      rw [e, h9, ht, List.flatMap_append]; simp
    have hL : (splice cur (l.length * 3) (rowW y)).length = cap * 3 := by rw [length_splice _ _ _ hfit, hlen]
    have H := Lib.hid (And.intro hB (And.intro hc1 (And.intro hfit (And.intro hT (And.intro hL (And.intro hbg hm)))))); clear hB hc1 hfit hT hL hbg hm hlen ht h hx k0 k1
    go_enter Try.func31, Try.ntmps31
    go_wp2_with (at_builtin; refine wpList_append_roomK rfl (.tmp 23) (.tmp 24) 41 rfl 35 i0 3 Try.underlying41 hi0 hz1 g l.length cap rfl ⟨x, 0, none⟩ 1 1 rfl cur H.out.1 (rowW y) rfl H.out.2.1 (one_rowW y) hr H.out.2.2.1 ?_; intro w1 hB1 hg1; have Z := Lib.hid (And.intro hB1 hg1); clear hB1 hg1)
    all_goals go_ret
    all_goals
      unfold InsQ
      exact ⟨_, ⟨rfl, own_of (f := rowW) (k := 3) (fun _ => rfl) Z.out.1 H.out.2.2.2.2.1 H.out.2.2.2.1 (by simp) H.out.2.2.2.2.2.1 hr H.out.2.2.2.2.2.2, fun q hq => Or.inl hq⟩, Z.out.2⟩
  · have holds : ∀ b, A = some b → ∀ j u, (l.flatMap rowW)[j]? = some u → w.cell? (b.add j) = some u := by
      intro a ha j u hu
      subst ha
      have hj : j < l.length * 3 := by have := (List.getElem?_eq_some_iff.1 hu).1; rwa [flat_len (f := rowW) (k := 3) (fun _ => rfl)] at this
      obtain ⟨g, hg, _, _, _, hc⟩ := h.cells (f := rowW) (k := 3) (fun _ => rfl) rfl (by omega)
      obtain rfl : a = ⟨g, 0, none⟩ := Option.some.inj hg
      rw [addr_pl, Nat.zero_add]
      have hd : j / 3 < l.length := by omega
      have := hc (j / 3) hd (j % 3) u (by rw [← flat_get (f := rowW) (k := 3) (fun _ => rfl) l (j / 3) (j % 3) hd (by omega)]; rw [show j / 3 * 3 + j % 3 = j by omega]; exact hu)
      rwa [show j / 3 * 3 + j % 3 = j by omega] at this
    have hlo : (l.flatMap rowW).length = l.length * 3 := flat_len (f := rowW) (k := 3) (fun _ => rfl) l
    have hfull : cap < l.length + 1 := by omega
    have H := Lib.hid (And.intro k0 (And.intro holds (And.intro hlo (And.intro hc1 hb)))); clear holds hlo h hx hc1 k0 k1 hb hr
    go_enter Try.func31, Try.ntmps31
    go_wp2_with (at_builtin; refine wpList_append_grows w rfl (.tmp 23) (.tmp 24) 41 rfl 35 i0 (.agg #[.int .i64 0, .slice none 0 0, .int .i64 0]) 3 40 Try.underlying41 hi0 hz0 hz1 hz2 rfl (by decide) A l.length cap (l.flatMap rowW) rfl (fun e => ⟨(H.out.1 e).1, (H.out.1 e).2⟩) H.out.2.2.1 H.out.2.1 ⟨x, 0, none⟩ 1 1 (rowW y) rfl rfl H.out.2.2.2.1 (one_rowW y) hfull (by unfold maxLen; omega) (by omega) ?_; intro v5 w5 hO5 hg5; obtain ⟨A5, n5, c5, rfl⟩ := own_shape hO5; have Z := Lib.hid (And.intro hO5 hg5); clear hO5 hg5)
    all_goals go_ret
    all_goals
      unfold InsQ
      have hO : Own w5 w.heap.size 35 3 rowW (.slice A5 n5 c5) (l ++ [y]) := Own.more rfl Z.out.1
      exact ⟨_, ⟨rfl, hO.lift H.out.2.2.2.2, fun q hq => Or.inr (hO.block hq).1⟩, ⟨Z.out.2.os, Z.out.2.tape, Z.out.2.output, Z.out.2.size, fun k hk _ => Z.out.2.block k hk (by simp)⟩⟩
theorem Insert_all (b x : Nat) (v : Value) (l : List Wy) (y : Wy) (i : Nat) (w : World) (h : Own w b 35 3 rowW v l) (hi : i ≤ l.length) (hx : Blk w x 35 (rowW y).toArray) (hxg : v.ownBlock ≠ some x) (hl : l.length ≤ 1000) (hb : b ≤ w.heap.size) :
    Calls Try.prog 31 #[v, .int .i64 (i : Int), .slice (some ⟨x, 0, none⟩) 1 1] w (InsQ b v (l.take i ++ y :: l.drop i) w) := by
  by_cases h1 : i < l.length
  · obtain ⟨A, cap, rfl, _⟩ := h.shape
    obtain ⟨g, rfl, _⟩ := h.cells (f := rowW) (k := 3) (fun _ => rfl) rfl (by omega)
    have hne : x ≠ g := fun e => hxg (by rw [e]; rfl)
    refine (Insert_any b g x cap l y i w h h1 hx hne hl).mono ?_
    rintro e w' ⟨v', ⟨rfl, hO, hq⟩, hg⟩
    exact ⟨v', ⟨rfl, hO, fun q hq' => by
      rcases hq q hq' with rfl | h2
      · exact Or.inl rfl
      · exact Or.inr h2⟩, hg⟩
  · obtain rfl : i = l.length := by omega
    rw [List.take_length, List.drop_length]
    exact Insert_end b x v l y w h hx hl hb
def CloW (l : List Wy) (w : World) (e : Ending) (w' : World) : Prop := ∃ v', (e = .returned v' ∧ Own w' w.heap.size 35 3 rowW v' l) ∧ Below w.heap.size w w'
set_option maxHeartbeats 1000000 in
theorem cloneW_any (v : Value) (l : List Wy) (w : World) (h : At w 3 rowW v l) (hl : l.length ≤ 1000) :
    Calls Try.prog 44 #[v] w (CloW l w) := by
  obtain ⟨j0, hj, hy0, hy1, hy2⟩ := info_parts (P := Try.prog) (e := 35) (z := .agg #[.int .i64 0, .slice none 0 0, .int .i64 0]) (size := 3) (bytes := 40) (by kernel_rfl)
  obtain ⟨A, c, rfl, a1, a2, a3⟩ := h.shape
  cases A with
  | none =>
    obtain rfl := a3 rfl
    obtain rfl : l = [] := List.eq_nil_of_length_eq_zero (by omega)
    have he : ∀ W, (binOp .eql 41 (.slice none 0 0) (.slice none 0 0)).run Try.prog W = .ok (.bool true) W := fun _ => rfl
    go_enter Try.func44, Try.ntmps44
    go_wp2
    go_ret
    exact ⟨_, ⟨rfl, Own.nil _ _ _ _ _⟩, Below.refl _ _⟩
  | some a =>
    have he : ∀ W, (binOp .eql 41 (.slice (some a) l.length c) (.slice none 0 0)).run Try.prog W = .ok (.bool false) W := fun _ => rfl
    have H := Lib.hid h; clear h a1 a2 a3
    go_enter Try.func44, Try.ntmps44
    go_wp2_with (at_builtin; refine wpList_append_at _ rfl (.tmp 5) (.tmp 6) 41 rfl w.heap.size 35 j0 (.agg #[.int .i64 0, .slice none 0 0, .int .i64 0]) 3 40 Try.underlying41 hj hy0 hy1 hy2 rfl (by decide) (f := rowW) (fun _ => rfl) one_rowW (.slice (some ⟨w.heap.size, 0, none⟩) 0 0) [] rfl (own_lit [] rfl (Nat.le_refl _) rfl (Nat.zero_le _) rfl rfl) (some a) l.length c l rfl rfl (H.out.later (ba _ _)) (by unfold maxLen; simp; omega) (by simp; omega) (by simp) ?_; intro v5 w5 hO5 hg5; obtain ⟨A5, n5, c5, rfl⟩ := own_shape hO5; have Z5 := Lib.hid (And.intro hO5 (grownBy_below (B := w.heap.size) hg5 (by simp) (by intro k hk; simp [Value.ownBlock] at hk; omega))); clear hO5 hg5)
    go_ret
    exact ⟨_, ⟨rfl, by simpa using Z5.out.1⟩, (ba w _).trans Z5.out.2⟩
end Go.Proofs.Yticjfhagpmlieaa
