/- Contracts of package stream: lists of streams; what is the same. -/
import Derived.Test.YtdpgdpfalfiijaaDoorStrmR
namespace Go.Proofs.YtdpgdpfalfiijaaDoor
open Go.ChangeShapes Go.WideShapes Go.ChangeAt Go.RowKit
set_option linter.unusedVariables false
set_option linter.unusedSimpArgs false

theorem same2 (x1 : ByteArray) (y1 : Int) (x2 : ByteArray) (y2 : Int) : (x1 = x2 ∧ y1 = y2) ∨ (¬ (x1 = x2 ∧ y1 = y2) ∧ ((¬ x1.toList = x2.toList ∧ (x1.toList == x2.toList) = false) ∨ ¬ y1 = y2)) := by
  by_cases h1 : x1 = x2
  · by_cases h2 : y1 = y2
    · exact Or.inl ⟨h1, h2⟩
    · exact Or.inr ⟨fun h => h2 h.2, Or.inr h2⟩
  · have : ¬ x1.toList = x2.toList := fun h => h1 (toList_inj h)
    exact Or.inr ⟨fun h => h1 h.1, Or.inl ⟨this, by simpa using this⟩⟩
noncomputable def sameF (l m : List Fld) : Bool := @decide (l = m) (Classical.propDecidable _)
theorem sameF_iff (l m : List Fld) : sameF l m = true ↔ l = m := by unfold sameF; simp
theorem EqualF_any (v u : Value) (l m : List Fld) (w : World) (hv : RowsAt rowF w v l) (hu : RowsAt rowF w u m) :
    Calls Tryd.prog 47 #[v, u] w fun e w' => e = .returned (.bool (sameF l m)) ∧ Below w.heap.size w w' := by
  obtain ⟨A, cap, rfl, h1, h2, h3⟩ := hv
  obtain ⟨B, cap', rfl, g1, g2, g3⟩ := hu
  have hm : l.length ≤ 9223372036854775807 := by unfold maxLen at h2; omega
  have hm' : m.length ≤ 9223372036854775807 := by unfold maxLen at g2; omega
  by_cases hlen : l.length = m.length
  · have hg : ∀ j (hj : j < l.length), j < m.length := fun j hj => by omega
    have H := Lib.hid (And.intro h3 (And.intro g3 hlen)); clear h3 g3
    rw [← hlen] at g1 hm' ⊢
    go_enter Tryd.func47, Tryd.ntmps47
    go_wp2
    go_loopw [13] (fun i wr => ∃ k : Nat, k ≤ l.length ∧ i = .int .i64 k ∧ l.take k = m.take k ∧ Below w.heap.size w wr) (fun i _ => l.length - (intOf i).toNat)
    case atStart => exact ⟨0, Nat.zero_le _, rfl, rfl, Below.refl _ _⟩
    case round =>
      obtain ⟨k, hk, rfl, hall, hb⟩ := hrel
      have HK := Lib.hid (And.intro hall hb); clear hall hb
      by_cases hlt : k < l.length
      · obtain ⟨a, rfl, hc⟩ := H.out.1 (by omega)
        obtain ⟨b, rfl, hd⟩ := H.out.2.1 (by have := H.out.2.2; omega)
        have hlt2 : k < m.length := by have := H.out.2.2; omega
        obtain ⟨c0, c1⟩ := (hc k hlt).later HK.out.2
        obtain ⟨d0, d1⟩ := (hd k hlt2).later HK.out.2
        have hyes : (l[k]'hlt).1 = (m[k]'hlt2).1 ∧ (l[k]'hlt).2 = (m[k]'hlt2).2 → l.take (k + 1) = m.take (k + 1) := fun h => by
          rw [List.take_succ_eq_append_getElem hlt, List.take_succ_eq_append_getElem hlt2, HK.out.1, Prod.ext h.1 h.2]
        have hno : ¬ ((l[k]'hlt).1 = (m[k]'hlt2).1 ∧ (l[k]'hlt).2 = (m[k]'hlt2).2) → sameF l m = false := fun h => by
          cases hs : sameF l m
          · rfl
          · exfalso; apply h
            have e := (sameF_iff l m).1 hs
            subst e
            exact ⟨rfl, rfl⟩
        clear hc hd
        generalize (l[k]'hlt).1 = s at *
        generalize (l[k]'hlt).2 = y at *
        generalize (m[k]'hlt2).1 = s' at *
        generalize (m[k]'hlt2).2 = y' at *
        clear hlt2
        rcases same2 s y s' y' with ⟨rfl, rfl⟩ | ⟨hne, h⟩
        · have HC := Lib.hid (hyes ⟨rfl, rfl⟩); clear hyes hno
          go_wp2_with (go_region)
          go_roundw
          case rel => exact ⟨k + 1, by omega, by go_num, HC.out, below_drew HK.out.2⟩
          case measure => simp [intOf]; omega
        · have HC := Lib.hid (hno hne); clear hyes hno hne
          rcases h with ⟨h1, h2⟩ | h
          · go_wp2_with (go_region)
            go_ret
            exact ⟨by rw [HC.out]; rfl, below_drew HK.out.2⟩
          · go_wp2_with (go_region)
            go_ret
            exact ⟨by rw [HC.out]; rfl, below_drew HK.out.2⟩
      · have hE : sameF l m = true := by
          rw [sameF_iff]
          have := HK.out.1
          rwa [List.take_of_length_le (by omega), List.take_of_length_le (by have := H.out.2.2; omega)] at this
        have HE := Lib.hid hE; clear hE
        go_wp2
        go_ret
        exact ⟨by rw [HE.out]; rfl, HK.out.2⟩
  · have e : sameF l m = false := by
      cases hs : sameF l m
      · rfl
      · exact absurd (congrArg List.length ((sameF_iff l m).1 hs)) hlen
    rw [e]
    clear h3 g3
    go_enter Tryd.func47, Tryd.ntmps47
    go_wp2
    go_ret
    exact ⟨rfl, Below.refl _ _⟩
noncomputable def sameN (n : ByteArray) (l : List Fld) (n' : ByteArray) (l' : List Fld) : Bool := (n.toList == n'.toList) && sameF l l'
theorem SameS_any (n n' : ByteArray) (v u : Value) (l m : List Fld) (w : World) (hv : RowsAt rowF w v l) (hu : RowsAt rowF w u m) :
    Calls Tryd.prog 27 #[.agg #[.string n, v], .agg #[.string n', u]] w fun e w' => e = .returned (.bool (sameN n l n' m)) ∧ Below w.heap.size w w' := by
  have hb := bt (ba w (.cells #[.string n, v] 28)) (ba _ (.cells #[.string n', u] 28))
  have cE := EqualF_any v u l m _ (hv.later hb) (hu.later hb)
  obtain ⟨A, cap, rfl, -⟩ := hv
  obtain ⟨B, cap', rfl, -⟩ := hu
  have H := Lib.hid (And.intro cE hb); clear cE hb
  unfold sameN
  by_cases h : n.toList = n'.toList
  · have hb : (n.toList == n'.toList) = true := by simpa using h
    rw [hb, Bool.true_and]
    generalize sameF l m = r at *
    go_enter Tryd.func27, Tryd.ntmps27
    go_wp2_with (go_at_call 47; ((with_reducible refine (H.out.1).mono ?_); rintro e w1 ⟨rfl, b1⟩))
    go_ret
    exact ⟨rfl, bt H.out.2 b1⟩
  · have hb : (n.toList == n'.toList) = false := by simpa using h
    rw [hb, Bool.false_and]
    go_enter Tryd.func27, Tryd.ntmps27
    go_wp2
    go_ret
    exact ⟨rfl, H.out.2⟩

abbrev SF := ByteArray × List Fld
/-- A slice of streams that reads as ls. -/
def StmsAt (w : World) (v : Value) (ls : List SF) : Prop :=
  ∃ l : List Stm, RowsAt rowS w v l ∧ l.length = ls.length ∧ ∀ j (hj : j < l.length) (hj2 : j < ls.length), (l[j]'hj).1 = (ls[j]'hj2).1 ∧ RowsAt rowF w (l[j]'hj).2 (ls[j]'hj2).2
theorem StmsAt.later {w w' : World} {v : Value} {ls : List SF} (h : StmsAt w v ls) (hb : Below w.heap.size w w') : StmsAt w' v ls := by
  obtain ⟨l, h1, h2, h3⟩ := h
  exact ⟨l, h1.later hb, h2, fun j hj hj2 => ⟨(h3 j hj hj2).1, (h3 j hj hj2).2.later hb⟩⟩
theorem idxB_map {α β : Type} (p : β → Bool) (f : α → β) (l : List α) : idxB (fun x => p (f x)) l = idxB p (l.map f) := by
  unfold idxB
  rw [List.findIdx_map, List.length_map]; rfl
theorem idxB_or {α : Type} (p : α → Bool) (l : List α) : idxB p l = -1 ∨ 0 ≤ idxB p l := by
  unfold idxB; split
  · exact Or.inr (by omega)
  · exact Or.inl rfl
/-- Of a name, in streams. -/
def atS (s : ByteArray) (ls : List SF) : Int := idxB (fun y : SF => isN s y.1) ls
theorem FindS_any (s : ByteArray) (v : Value) (ls : List SF) (w : World) (hv : StmsAt w v ls) :
    Calls Tryd.prog 20 #[v, .string s] w fun e w' => e = .returned (.int .i64 (atS s ls)) ∧ Below w.heap.size w w' := by
  obtain ⟨l, h1, h2, h3⟩ := hv
  have e : l.map Prod.fst = ls.map Prod.fst := by
    apply List.ext_getElem (by simp [h2])
    intro j hj hj2
    simp only [List.getElem_map]
    exact (h3 j (by simpa using hj) (by simpa using hj2)).1
  have e2 : atS s ls = idxB (fun y : Stm => isN s y.1) l := by
    unfold atS
    rw [idxB_map (isN s) Prod.fst ls, idxB_map (isN s) Prod.fst l, e]
  rw [e2]
  refine Find_any s v l w h1 fun y hy => ?_
  obtain ⟨j, hj, rfl⟩ := List.getElem_of_mem hy
  obtain ⟨A, cap, e3, -⟩ := (h3 j hj (by omega)).2
  exact ⟨_, _, _, e3⟩
theorem RowsAt.take {α : Type} {row : α → Value × Value} {w : World} {A : Option Addr} {n cap : Nat} {l : List α} (h : RowsAt row w (.slice A n cap) l) {k : Nat} (hk : k ≤ l.length) : RowsAt row w (.slice A k cap) (l.take k) := by
  obtain ⟨A', cap', e, h1, h2, h3⟩ := h
  cases e
  have hl : (l.take k).length = k := by simp; omega
  refine ⟨A, cap, by rw [hl], by omega, h2, fun h0 => ?_⟩
  obtain ⟨a, e, h4⟩ := h3 (by omega)
  refine ⟨a, e, fun j hj => ?_⟩
  rw [List.getElem_take]
  exact h4 j (by omega)
theorem StmsAt.take {w : World} {A : Option Addr} {n cap : Nat} {ls : List SF} (h : StmsAt w (.slice A n cap) ls) {k : Nat} (hk : k ≤ ls.length) : StmsAt w (.slice A k cap) (ls.take k) := by
  obtain ⟨l, h1, h2, h3⟩ := h
  refine ⟨l.take k, h1.take (by omega), by simp; omega, fun j hj hj2 => ?_⟩
  rw [List.getElem_take, List.getElem_take]
  exact h3 j (by simp at hj; omega) (by simp at hj2; omega)
/-- What is wrong with streams, some ahead of them. -/
def errS : List SF → List SF → Int
  | _, [] => 0
  | pre, x :: r => if rightN x.1 x.2 ≠ 0 then rightN x.1 x.2 else if 0 ≤ atS x.1 pre then 11 else errS (pre ++ [x]) r
def allN (ls : List SF) : Int := if 8 < ls.length then 4 else errS [] ls
def OkF (l : List Fld) : Prop := ∀ x ∈ l, x.1.size ≤ maxLen ∧ (Lit.int .i64 x.2).wf = true
set_option maxRecDepth 20000 in
theorem All_any (v : Value) (ls : List SF) (w : World) (hv : StmsAt w v ls) (hs : ∀ x ∈ ls, x.1.size ≤ maxLen ∧ OkF x.2) :
    Calls Tryd.prog 18 #[v] w fun e w' => e = .returned (.int .i64 (allN ls)) ∧ Below w.heap.size w w' := by
  have hv' := hv
  obtain ⟨l, ⟨A, cap, rfl, h1, h2, h3⟩, hl, h4⟩ := hv
  have hm : l.length ≤ 9223372036854775807 := by unfold maxLen at h2; omega
  by_cases h8 : 8 < l.length
  · have e : allN ls = 4 := by unfold allN; rw [if_pos (by omega)]
    rw [e]
    clear h3 h4 hv'
    go_enter Tryd.func18, Tryd.ntmps18
    go_wp2
    go_ret
    exact ⟨rfl, Below.refl _ _⟩
  have e : allN ls = errS [] ls := by unfold allN; rw [if_neg (by omega)]
  rw [e]
  have H := Lib.hid (And.intro h3 (And.intro h4 (And.intro hs (And.intro hv' hl)))); clear e h3 h4 hs hv' hl
  go_enter Tryd.func18, Tryd.ntmps18
  go_wp2
  go_loopw [11] (fun i wr => ∃ (k : Nat), k ≤ l.length ∧ i = .int .i64 k ∧ errS [] ls = errS (ls.take k) (ls.drop k) ∧ Below w.heap.size w wr) (fun i _ => l.length - (intOf i).toNat)
  case atStart => exact ⟨0, Nat.zero_le _, rfl, rfl, Below.refl _ _⟩
  case round =>
    obtain ⟨k, hk, rfl, he, hb⟩ := hrel
    by_cases hlt : k < l.length
    · have hlt2 : k < ls.length := by have := H.out.2.2.2.2; omega
      obtain ⟨a, rfl, hc⟩ := H.out.1 (by omega)
      obtain ⟨c0, c1⟩ := (hc k hlt).later hb
      obtain ⟨en, hr⟩ := H.out.2.1 k hlt hlt2
      obtain ⟨hsz, hok⟩ := H.out.2.2.1 _ (List.getElem_mem hlt2)
      have hd : errS (ls.take k) (ls.drop k) = if rightN (ls[k]'hlt2).1 (ls[k]'hlt2).2 ≠ 0 then rightN (ls[k]'hlt2).1 (ls[k]'hlt2).2 else if 0 ≤ atS (ls[k]'hlt2).1 (ls.take k) then 11 else errS (ls.take (k + 1)) (ls.drop (k + 1)) := by
        rw [List.drop_eq_getElem_cons hlt2, List.take_succ_eq_append_getElem hlt2]; rfl
      have hT := H.out.2.2.2.1.take (k := k) (by omega)
      rw [en] at c0
      generalize (l[k]'hlt).2 = u at *
      generalize (ls[k]'hlt2).1 = n at *
      generalize (ls[k]'hlt2).2 = fs at *
      have hr1 := hr.later (bt hb (ba wr (.cells #[.string n, u] 28)))
      have cR := Right_any n u fs _ hr1 hsz hok
      obtain ⟨B, cap', rfl, -⟩ := hr
      have hb1 := bt hb (ba wr (.cells #[.string n, .slice B fs.length cap'] 28))
      clear hc en hr1 hok
      have hkm : k ≤ cap := by omega
      obtain ⟨z, hz⟩ : ∃ z, atS n (ls.take k) = z := ⟨_, rfl⟩
      have hor : z = -1 ∨ 0 ≤ z := by rw [← hz]; exact idxB_or _ _
      rw [hz] at hd
      by_cases hE : rightN n fs = 0
      · rw [hE] at cR
        have f1 : z = -1 → errS [] ls = errS (ls.take (k + 1)) (ls.drop (k + 1)) := fun h => by rw [he, hd, if_neg (by rw [hE]; simp), if_neg (by omega)]
        have f2 : 0 ≤ z → errS [] ls = 11 := fun h => by rw [he, hd, if_neg (by rw [hE]; simp), if_pos h]
        have HC := Lib.hid (And.intro cR (And.intro hb1 (And.intro hT (And.intro hz (And.intro f1 f2))))); clear cR hb1 hT he hd hb hsz hz f1 f2 hE
        rcases hor with rfl | h0
        · go_wp2_with fail
          go_at_call 22
          ((with_reducible refine (HC.out.1).mono ?_); rintro e w1 ⟨rfl, b1⟩)
          have bF := bt HC.out.2.1 b1
          have hcell : w1.cell? ⟨wr.heap.size, 0, none⟩ = some (.string n) := by
            rw [b1.cell (by simp), World.cell?_alloc_new]; rfl
          have cF : ∀ W', Below w1.heap.size w1 W' → _ := fun W' h => FindS_any n _ _ W' ((HC.out.2.2.1.later bF).later h)
          rw [HC.out.2.2.2.1] at cF
          have HB := Lib.hid (And.intro bF cF); clear bF b1 cF
          go_wp2_with fail
          have hq := fun d os => cell_regrown hcell d os
          clear hcell
          refine wp_region_quiet_below (by kernel_rfl) (by kernel_rfl) ?_
          repeat (go_big_quiet_step ((go_at_call 20; (with_reducible exact Calls.regrown_of (HB.out.2 _ (below_regrown _ _ _))))))
          refine wpQuiet_nil ?_
          intro wq hw'
          have bq : Below w1.heap.size w1 wq := by obtain ⟨p, rfl⟩ := hw'; exact below_regrown _ _ _
          clear hw' hq
          go_wp2
          go_roundw
          case rel => exact ⟨k + 1, by omega, by go_num, HC.out.2.2.2.2.1 (by first | rfl | trivial), bt HB.out.1 bq⟩
          case measure => simp [intOf]; omega
        · go_wp2_with fail
          go_at_call 22
          ((with_reducible refine (HC.out.1).mono ?_); rintro e w1 ⟨rfl, b1⟩)
          have bF := bt HC.out.2.1 b1
          have hcell : w1.cell? ⟨wr.heap.size, 0, none⟩ = some (.string n) := by
            rw [b1.cell (by simp), World.cell?_alloc_new]; rfl
          have cF : ∀ W', Below w1.heap.size w1 W' → _ := fun W' h => FindS_any n _ _ W' ((HC.out.2.2.1.later bF).later h)
          rw [HC.out.2.2.2.1] at cF
          have HB := Lib.hid (And.intro bF cF); clear bF b1 cF
          go_wp2_with fail
          have hq := fun d os => cell_regrown hcell d os
          clear hcell
          refine wp_region_quiet_below (by kernel_rfl) (by kernel_rfl) ?_
          repeat (go_big_quiet_step ((go_at_call 20; (with_reducible exact Calls.regrown_of (HB.out.2 _ (below_regrown _ _ _))))))
          refine wpQuiet_nil ?_
          intro wq hw'
          have bq : Below w1.heap.size w1 wq := by obtain ⟨p, rfl⟩ := hw'; exact below_regrown _ _ _
          clear hw' hq
          go_wp2
          go_ret
          exact ⟨by rw [HC.out.2.2.2.2.2 h0]; rfl, bt HB.out.1 bq⟩
      · have f1 : errS [] ls = rightN n fs := by rw [he, hd, if_pos hE]
        generalize rightN n fs = r at *
        have HC := Lib.hid (And.intro cR (And.intro hb1 f1)); clear cR hb1 hT he hd hb hsz hz hor f1
        go_wp2_with (go_at_call 22; ((with_reducible refine (HC.out.1).mono ?_); rintro e w1 ⟨rfl, b1⟩))
        go_ret
        exact ⟨by rw [HC.out.2.2]; rfl, bt HC.out.2.1 b1⟩
    · have hE : errS [] ls = 0 := by rw [he, List.drop_eq_nil_of_le (by have := H.out.2.2.2.2; omega)]; cases ls.take k <;> rfl
      have HE := Lib.hid (And.intro hE hb); clear hE he hb
      go_wp2
      go_ret
      exact ⟨by rw [HE.out.1]; rfl, HE.out.2⟩
end Go.Proofs.YtdpgdpfalfiijaaDoor
