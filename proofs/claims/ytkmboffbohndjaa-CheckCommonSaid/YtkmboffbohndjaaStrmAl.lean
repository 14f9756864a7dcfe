/- Contracts of package stream: lists of streams; what is the same. -/
import Derived.Test.YtkmboffbohndjaaStrmR
namespace Go.Proofs.Ytkmboffbohndjaa
open Go.ChangeShapes Go.WideShapes Go.ChangeAt Go.RowKit
set_option linter.unusedVariables false
set_option linter.unusedSimpArgs false

abbrev SF := ByteArray × List Fld
/-- A slice of streams that reads as ls. -/
def StmsAt (w : World) (v : Value) (ls : List SF) : Prop :=
  ∃ l : List Stm, RowsAt rowS w v l ∧ l.length = ls.length ∧ ∀ j (hj : j < l.length) (hj2 : j < ls.length), (l[j]'hj).1 = (ls[j]'hj2).1 ∧ RowsAt rowF w (l[j]'hj).2 (ls[j]'hj2).2
theorem StmsAt.later {w w' : World} {v : Value} {ls : List SF} (h : StmsAt w v ls) (hb : Below w.heap.size w w') : StmsAt w' v ls := by
  obtain ⟨l, h1, h2, h3⟩ := h
  exact ⟨l, h1.later hb, h2, fun j hj hj2 => ⟨(h3 j hj hj2).1, (h3 j hj hj2).2.later hb⟩⟩
theorem idxB_map {α β : Type} (p : β → Bool) (f : α → β) (l : List α) : idxB (fun x => p (f x)) l = idxB p (l.map f) := by
  unfold idxB
  rw [List.findIdx_map, List.length_map]; rfl
theorem idxB_or {α : Type} (p : α → Bool) (l : List α) : idxB p l = -1 ∨ 0 ≤ idxB p l := by
  unfold idxB; split
  · exact Or.inr (by omega)
  · exact Or.inl rfl
/-- Of a name, in streams. -/
def atS (s : ByteArray) (ls : List SF) : Int := idxB (fun y : SF => isN s y.1) ls
theorem FindS_any (s : ByteArray) (v : Value) (ls : List SF) (w : World) (hv : StmsAt w v ls) :
    Calls Try.prog 28 #[v, .string s] w fun e w' => e = .returned (.int .i64 (atS s ls)) ∧ Below w.heap.size w w' := by
  obtain ⟨l, h1, h2, h3⟩ := hv
  have e : l.map Prod.fst = ls.map Prod.fst := by
    apply List.ext_getElem (by simp [h2])
    intro j hj hj2
    simp only [List.getElem_map]
    exact (h3 j (by simpa using hj) (by simpa using hj2)).1
  have e2 : atS s ls = idxB (fun y : Stm => isN s y.1) l := by
    unfold atS
    rw [idxB_map (isN s) Prod.fst ls, idxB_map (isN s) Prod.fst l, e]
  rw [e2]
  refine Find_any s v l w h1 fun y hy => ?_
  obtain ⟨j, hj, rfl⟩ := List.getElem_of_mem hy
  obtain ⟨A, cap, e3, -⟩ := (h3 j hj (by omega)).2
  exact ⟨_, _, _, e3⟩
theorem RowsAt.take {α : Type} {row : α → Value × Value} {w : World} {A : Option Addr} {n cap : Nat} {l : List α} (h : RowsAt row w (.slice A n cap) l) {k : Nat} (hk : k ≤ l.length) : RowsAt row w (.slice A k cap) (l.take k) := by
  obtain ⟨A', cap', e, h1, h2, h3⟩ := h
  cases e
  have hl : (l.take k).length = k := by simp; omega
  refine ⟨A, cap, by rw [hl], by omega, h2, fun h0 => ?_⟩
  obtain ⟨a, e, h4⟩ := h3 (by omega)
  refine ⟨a, e, fun j hj => ?_⟩
  rw [List.getElem_take]
  exact h4 j (by omega)
theorem StmsAt.take {w : World} {A : Option Addr} {n cap : Nat} {ls : List SF} (h : StmsAt w (.slice A n cap) ls) {k : Nat} (hk : k ≤ ls.length) : StmsAt w (.slice A k cap) (ls.take k) := by
  obtain ⟨l, h1, h2, h3⟩ := h
  refine ⟨l.take k, h1.take (by omega), by simp; omega, fun j hj hj2 => ?_⟩
  rw [List.getElem_take, List.getElem_take]
  exact h3 j (by simp at hj; omega) (by simp at hj2; omega)
/-- What is wrong with streams, some ahead of them. -/
def errS : List SF → List SF → Int
  | _, [] => 0
  | pre, x :: r => if rightN x.1 x.2 ≠ 0 then rightN x.1 x.2 else if 0 ≤ atS x.1 pre then 11 else errS (pre ++ [x]) r
def allN (ls : List SF) : Int := if 8 < ls.length then 4 else errS [] ls
def OkF (l : List Fld) : Prop := ∀ x ∈ l, x.1.size ≤ maxLen ∧ (Lit.int .i64 x.2).wf = true
set_option maxRecDepth 20000 in
theorem All_any (v : Value) (ls : List SF) (w : World) (hv : StmsAt w v ls) (hs : ∀ x ∈ ls, x.1.size ≤ maxLen ∧ OkF x.2) :
    Calls Try.prog 26 #[v] w fun e w' => e = .returned (.int .i64 (allN ls)) ∧ Below w.heap.size w w' := by
  have hv' := hv
  obtain ⟨l, ⟨A, cap, rfl, h1, h2, h3⟩, hl, h4⟩ := hv
  have hm : l.length ≤ 9223372036854775807 := by unfold maxLen at h2; omega
  by_cases h8 : 8 < l.length
  · have e : allN ls = 4 := by unfold allN; rw [if_pos (by omega)]
    rw [e]
    clear h3 h4 hv'
    go_enter Try.func26, Try.ntmps26
    go_wp2
    go_ret
    exact ⟨rfl, Below.refl _ _⟩
  have e : allN ls = errS [] ls := by unfold allN; rw [if_neg (by omega)]
  rw [e]
  have H := Lib.hid (And.intro h3 (And.intro h4 (And.intro hs (And.intro hv' hl)))); clear e h3 h4 hs hv' hl
  go_enter Try.func26, Try.ntmps26
  go_wp2
  go_loopw [11] (fun i wr => ∃ (k : Nat), k ≤ l.length ∧ i = .int .i64 k ∧ errS [] ls = errS (ls.take k) (ls.drop k) ∧ Below w.heap.size w wr) (fun i _ => l.length - (intOf i).toNat)
  case atStart => exact ⟨0, Nat.zero_le _, rfl, rfl, Below.refl _ _⟩
  case round =>
    obtain ⟨k, hk, rfl, he, hb⟩ := hrel
    by_cases hlt : k < l.length
    · have hlt2 : k < ls.length := by have := H.out.2.2.2.2; omega
      obtain ⟨a, rfl, hc⟩ := H.out.1 (by omega)
      obtain ⟨c0, c1⟩ := (hc k hlt).later hb
      obtain ⟨en, hr⟩ := H.out.2.1 k hlt hlt2
      obtain ⟨hsz, hok⟩ := H.out.2.2.1 _ (List.getElem_mem hlt2)
      have hd : errS (ls.take k) (ls.drop k) = if rightN (ls[k]'hlt2).1 (ls[k]'hlt2).2 ≠ 0 then rightN (ls[k]'hlt2).1 (ls[k]'hlt2).2 else if 0 ≤ atS (ls[k]'hlt2).1 (ls.take k) then 11 else errS (ls.take (k + 1)) (ls.drop (k + 1)) := by
        rw [List.drop_eq_getElem_cons hlt2, List.take_succ_eq_append_getElem hlt2]; rfl
      have hT := H.out.2.2.2.1.take (k := k) (by omega)
      rw [en] at c0
      generalize (l[k]'hlt).2 = u at *
      generalize (ls[k]'hlt2).1 = n at *
      generalize (ls[k]'hlt2).2 = fs at *
      have hr1 := hr.later (bt hb (ba wr (.cells #[.string n, u] 46)))
      have cR := RightSt_any n u fs _ hr1 hsz hok
      obtain ⟨B, cap', rfl, -⟩ := hr
      have hb1 := bt hb (ba wr (.cells #[.string n, .slice B fs.length cap'] 46))
      clear hc en hr1 hok
      have hkm : k ≤ cap := by omega
      obtain ⟨z, hz⟩ : ∃ z, atS n (ls.take k) = z := ⟨_, rfl⟩
      have hor : z = -1 ∨ 0 ≤ z := by rw [← hz]; exact idxB_or _ _
      rw [hz] at hd
      by_cases hE : rightN n fs = 0
      · rw [hE] at cR
        have f1 : z = -1 → errS [] ls = errS (ls.take (k + 1)) (ls.drop (k + 1)) := fun h => by rw [he, hd, if_neg (by rw [hE]; simp), if_neg (by omega)]
        have f2 : 0 ≤ z → errS [] ls = 11 := fun h => by rw [he, hd, if_neg (by rw [hE]; simp), if_pos h]
        have HC := Lib.hid (And.intro cR (And.intro hb1 (And.intro hT (And.intro hz (And.intro f1 f2))))); clear cR hb1 hT he hd hb hsz hz f1 f2 hE
        rcases hor with rfl | h0
        · go_wp2_with fail
          go_at_call 36
          ((with_reducible refine (HC.out.1).mono ?_); rintro e w1 ⟨rfl, b1⟩)
          have bF := bt HC.out.2.1 b1
          have hcell : w1.cell? ⟨wr.heap.size, 0, none⟩ = some (.string n) := by
            rw [b1.cell (by simp), World.cell?_alloc_new]; rfl
          have cF : ∀ W', Below w1.heap.size w1 W' → _ := fun W' h => FindS_any n _ _ W' ((HC.out.2.2.1.later bF).later h)
          rw [HC.out.2.2.2.1] at cF
          have HB := Lib.hid (And.intro bF cF); clear bF b1 cF
          go_wp2_with fail
          have hq := fun d os => cell_regrown hcell d os
          clear hcell
          refine wp_region_quiet_below (by kernel_rfl) (by kernel_rfl) ?_
          repeat (go_big_quiet_step ((go_at_call 28; (with_reducible exact Calls.regrown_of (HB.out.2 _ (below_regrown _ _ _))))))
          refine wpQuiet_nil ?_
          intro wq hw'
          have bq : Below w1.heap.size w1 wq := by obtain ⟨p, rfl⟩ := hw'; exact below_regrown _ _ _
          clear hw' hq
          go_wp2
          go_roundw
          case rel => exact ⟨k + 1, by omega, by go_num, HC.out.2.2.2.2.1 (by first | rfl | trivial), bt HB.out.1 bq⟩
          case measure => simp [intOf]; omega
        · go_wp2_with fail
          go_at_call 36
          ((with_reducible refine (HC.out.1).mono ?_); rintro e w1 ⟨rfl, b1⟩)
          have bF := bt HC.out.2.1 b1
          have hcell : w1.cell? ⟨wr.heap.size, 0, none⟩ = some (.string n) := by
            rw [b1.cell (by simp), World.cell?_alloc_new]; rfl
          have cF : ∀ W', Below w1.heap.size w1 W' → _ := fun W' h => FindS_any n _ _ W' ((HC.out.2.2.1.later bF).later h)
          rw [HC.out.2.2.2.1] at cF
          have HB := Lib.hid (And.intro bF cF); clear bF b1 cF
          go_wp2_with fail
          have hq := fun d os => cell_regrown hcell d os
          clear hcell
          refine wp_region_quiet_below (by kernel_rfl) (by kernel_rfl) ?_
          repeat (go_big_quiet_step ((go_at_call 28; (with_reducible exact Calls.regrown_of (HB.out.2 _ (below_regrown _ _ _))))))
          refine wpQuiet_nil ?_
          intro wq hw'
          have bq : Below w1.heap.size w1 wq := by obtain ⟨p, rfl⟩ := hw'; exact below_regrown _ _ _
          clear hw' hq
          go_wp2
          go_ret
          exact ⟨by rw [HC.out.2.2.2.2.2 h0]; rfl, bt HB.out.1 bq⟩
      · have f1 : errS [] ls = rightN n fs := by rw [he, hd, if_pos hE]
        generalize rightN n fs = r at *
        have HC := Lib.hid (And.intro cR (And.intro hb1 f1)); clear cR hb1 hT he hd hb hsz hz hor f1
        go_wp2_with (go_at_call 36; ((with_reducible refine (HC.out.1).mono ?_); rintro e w1 ⟨rfl, b1⟩))
        go_ret
        exact ⟨by rw [HC.out.2.2]; rfl, bt HC.out.2.1 b1⟩
    · have hE : errS [] ls = 0 := by rw [he, List.drop_eq_nil_of_le (by have := H.out.2.2.2.2; omega)]; cases ls.take k <;> rfl
      have HE := Lib.hid (And.intro hE hb); clear hE he hb
      go_wp2
      go_ret
      exact ⟨by rw [HE.out.1]; rfl, HE.out.2⟩
end Go.Proofs.Ytkmboffbohndjaa
