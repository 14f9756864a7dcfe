/- Waits that are held: Cut, first, Due, All. -/
import Derived.Test.YticjfhagpmlieaaHoL
namespace Go.Proofs.Yticjfhagpmlieaa
open Go.ChangeShapes Go.WideShapes Go.ChangeAt Go.RowKit
open Ho
set_option linter.unusedVariables false
set_option linter.unusedSimpArgs false

def CutP (X : Nat → Prop) (B d : Nat) (T : List D) (ok : Bool) (w : World) (e : Ending) (w' : World) : Prop := e = .returned (.bool ok) ∧ HX X w' B d T ∧ Hc X B w w'
theorem cut_list (l : List Wy) (k : Nat) : (l.take k ++ l.drop (k + 1)).map (·.1) = (l.map (·.1)).eraseIdx k := by
  rw [List.eraseIdx_eq_take_drop_succ, List.map_append, List.map_take, List.map_drop]
set_option maxHeartbeats 1000000 in
theorem Cut_out (X : Nat → Prop) (B d : Nat) (T : List D) (i : Int) (hi : i < 0 ∨ (T.length : Int) ≤ i) (w : World) (h : HX X w B d T) :
    Calls Try.prog 13 #[.pointer (some ⟨d, 0, none⟩), .int .i64 i] w (CutP X B d T false w) := by
  have hx := h
  obtain ⟨v, l, h1, rfl, h3, h4, h5, h6, h7⟩ := h
  obtain ⟨A, c, rfl, _, _, _⟩ := h1.row.shape
  rw [List.length_map] at h4 hi
  obtain ⟨d0, dl, df⟩ := h1.cells
  have H := Lib.hid hx; clear h1 h3 h5 h6 h7 hx
  by_cases h0 : i < 0
  · have t2 : decide (i < 0) = true := decide_eq_true h0
    go_enter Try.func13, Try.ntmps13
    go_wp2
    go_ret
    exact ⟨rfl, H.out, Hc.refl _ _ _⟩
  · have h1 : (l.length : Int) ≤ i := by omega
    have t2 : decide (i < 0) = false := decide_eq_false h0
    have t4 : decide ((l.length : Int) ≤ i) = true := decide_eq_true h1
    go_enter Try.func13, Try.ntmps13
    go_wp2
    go_ret
    exact ⟨rfl, H.out, Hc.refl _ _ _⟩
set_option maxHeartbeats 1000000 in
theorem Cut_in (X : Nat → Prop) (B d : Nat) (T : List D) (k : Nat) (hk : k < T.length) (w : World) (h : HX X w B d T) :
    Calls Try.prog 13 #[.pointer (some ⟨d, 0, none⟩), .int .i64 (k : Int)] w (CutP X B d (T.eraseIdx k) true w) := by
  obtain ⟨v, l, h1, rfl, h3, h4, h5, h6, h7⟩ := h
  obtain ⟨A, c, rfl, _, _, _⟩ := h1.row.shape
  rw [List.length_map] at h4
  have hkl : k < l.length := by simpa using hk
  obtain ⟨g, rfl, _, _, _, _, _⟩ := h1.wait k hkl
  obtain ⟨d0, dl, df⟩ := h1.cells
  have cD : Calls Try.prog 34 #[.slice (some ⟨g, 0, none⟩) l.length c, .int .i64 (k : Int), .int .i64 ((k : Int) + 1)] w (DelP B g c (l.length - 1) (l.take k ++ l.drop (k + 1)) w) := by
    have := Delete_any B g c l k (k + 1) w h1.row (by omega) (by omega)
    rw [show k + 1 - k = 1 by omega] at this
    exact this
  have H := Lib.hid (And.intro cD (And.intro h1 (And.intro h3 (And.intro h4 (And.intro h5 (And.intro h6 h7)))))); clear cD h1 h3 h5 h6 h7
  have t1 : ¬ (k : Int) < 0 := by omega
  have t2 : decide ((k : Int) < 0) = false := decide_eq_false t1
  have t3 : ¬ (l.length : Int) ≤ (k : Int) := by omega
  have t4 : decide ((l.length : Int) ≤ (k : Int)) = false := decide_eq_false t3
  have t5 : IntKind.i64.wrap ((k : Int) + 1) = (k : Int) + 1 := IntWalk.i64_in _ (by omega)
  go_enter Try.func13, Try.ntmps13
  go_wp2_with (go_at_call 34; (refine (H.out.1).mono ?_); rintro e w1 ⟨rfl, hO, hg⟩; have hD := H.out.2.1.blk.grown hg (H.out.2.1.row.ne_blk (v := .slice (some ⟨g, 0, none⟩) l.length c) H.out.2.1.blk (by decide)); obtain ⟨d0, dl, df⟩ : w1.cell? ⟨d, 0, none⟩ = some (.slice (some ⟨g, 0, none⟩) l.length c) ∧ d < w1.heap.size ∧ (∀ o, w1.frozen? ⟨d, o, none⟩ = false) := (⟨hD.cell 0, hD.lt, hD.frozen⟩); have Z := Lib.hid (And.intro hO hg); clear hO hg hD)
  go_ret
  have hm : ∀ y, y ∈ l.take k ++ l.drop (k + 1) → y ∈ l := fun y hy => by
    rcases List.mem_append.1 hy with hy | hy
    · exact List.mem_of_mem_take hy
    · exact List.mem_of_mem_drop hy
  obtain ⟨r1, r2⟩ := HX.turned (X := X) (W := w) (T' := (l.map (·.1)).eraseIdx k) H.out.2.1 H.out.2.2.2.2.1 H.out.2.2.2.2.2.1 H.out.2.2.2.2.2.2 (Below.refl _ _) Z.out.1 (fun q hq => Or.inl hq) Z.out.2 (fun y hy => H.out.2.1.pts y (hm y hy)) (fun y hy => H.out.2.1.fit y (hm y hy)) (cut_list l k) (sorted_cut H.out.2.2.1 k) (by rw [List.length_eraseIdx]; have := H.out.2.2.2.1; rw [List.length_map]; split <;> omega)
  exact ⟨rfl, r1, r2⟩
theorem At.take {α : Type} {w : World} {k : Nat} {f : α → List Value} {A : Option Addr} {m c : Nat} {l : List α} (h : At w k f (.slice A m c) l) (n : Nat) (hn : n ≤ l.length) : At w k f (.slice A n c) (l.take n) := by
  obtain ⟨B, cap, hv, h1, h2, h3, h4⟩ := h
  simp only [Value.slice.injEq] at hv
  obtain ⟨rfl, rfl, rfl⟩ := hv
  have e : (l.take n).length = n := by rw [List.length_take]; omega
  exact ⟨_, _, by rw [e], by omega, h2, h3, fun a ha j hj i u hu => h4 a ha j (by omega) i u (by rw [List.getElem_take] at hu; exact hu)⟩
/-- What is handed out: a row of waits, their lists in rows from block B on. -/
def Out (w : World) (b B : Nat) (v : Value) (T : List D) : Prop := ∃ l : List Wy, Own w b 35 3 rowW v l ∧ l.map (·.1) = T ∧ ∀ y ∈ l, PtsO w B (sl y.2) y.1.2.1
def FirstP (X : Nat → Prop) (B d : Nat) (T S : List D) (w : World) (e : Ending) (w' : World) : Prop := ∃ v, (e = .returned v ∧ Out w' w.heap.size B v T ∧ HX (fun k => X k ∨ v.ownBlock = some k) w' B d S) ∧ Hc X B w w'
theorem Hc.less {X Y : Nat → Prop} {B : Nat} {w w' : World} (h : Hc X B w w') (hY : ∀ k, Y k → X k) : Hc Y B w w' := ⟨h.bel, h.frm, fun k hk => h.keep k (hY k hk)⟩
/-- A row that is made meanwhile is none of a Hold's. -/
theorem more_x {X : Nat → Prop} {w w1 : World} {B d : Nat} {v v1 : Value} {l l1 : List Wy} (h : HAt w B d v l) (h5 : ¬ X d) (h6 : ∀ g, v.ownBlock = some g → ¬ X g) (h7 : ∀ k, X k → k < w.heap.size) (hb : Below w.heap.size w w1) (h1 : Own w1 w.heap.size 35 3 rowW v1 l1) :
    ¬ (X d ∨ v1.ownBlock = some d) ∧ (∀ g, v.ownBlock = some g → ¬ (X g ∨ v1.ownBlock = some g)) ∧ ∀ k, (X k ∨ v1.ownBlock = some k) → k < w1.heap.size := by
  refine ⟨?_, fun g hg => ?_, fun k hk => ?_⟩
  · rintro (h | h')
    · exact h5 h
    · have := (h1.block h').1
      have := h.blk.lt
      omega
  · obtain ⟨_, cs, hc⟩ := h.row.block hg
    have hlt := (Array.getElem?_eq_some_iff.1 hc).1
    rintro (h | h')
    · exact h6 g hg h
    · have := (h1.block h').1
      omega
  · rcases hk with h | h'
    · have := h7 k h
      have := hb.size
      omega
    · obtain ⟨_, cs, hc⟩ := h1.block h'
      exact (Array.getElem?_eq_some_iff.1 hc).1
set_option maxHeartbeats 1000000 in
theorem first_any (X : Nat → Prop) (B d : Nat) (T : List D) (n : Nat) (hn : n ≤ T.length) (w : World) (h : HX X w B d T) :
    Calls Try.prog 35 #[.pointer (some ⟨d, 0, none⟩), .int .i64 (n : Int)] w (FirstP X B d (T.take n) (T.drop n) w) := by
  obtain ⟨v, l, h1, rfl, h3, h4, h5, h6, h7⟩ := h
  obtain ⟨A, c, rfl, ha0, ha1, ha2⟩ := h1.row.shape
  rw [List.length_map] at h4 hn
  have hT := (h1.row.at_ (f := rowW) (k := 3) (fun _ => rfl)).take n hn
  obtain ⟨d0, dl, df⟩ := h1.cells
  have cK : Calls Try.prog 44 #[.slice A n c] w (CloW (l.take n) w) := cloneW_any _ _ w hT (by rw [List.length_take]; omega)
  have hm : ∀ y, y ∈ l.drop n → y ∈ l := fun y hy => List.mem_of_mem_drop hy
  have hmt : ∀ y, y ∈ l.take n → y ∈ l := fun y hy => List.mem_of_mem_take hy
  have H := Lib.hid (And.intro cK (And.intro h1 (And.intro h3 (And.intro h4 (And.intro h5 (And.intro h6 (And.intro h7 (And.intro hm (And.intro hn hmt))))))))); clear cK h1 h3 h5 h6 h7 hT hm hmt
  have hni : (n : Int) ≤ (l.length : Int) := by omega
  have hnc : n ≤ c := by omega
  by_cases h0 : n = 0
  · subst h0
    go_enter Try.func35, Try.ntmps35
    go_wp2_with (first
      | (go_at_call 44; (refine (H.out.1).mono ?_); rintro e w1 ⟨v1, ⟨rfl, hO⟩, b1⟩; obtain ⟨d0, dl, df⟩ := (H.out.2.1.later b1).cells; obtain ⟨A1, n1, c1, rfl⟩ := own_shape hO; have Z := Lib.hid (And.intro hO b1); clear hO b1)
      | (go_at_call 34; (refine (Delete_none _ l.length c A 0 _ (Nat.zero_le _) rfl ha1 ha2).mono ?_); rintro e w2 ⟨rfl, b2⟩; obtain ⟨d0, dl, df⟩ := (H.out.2.1.later (bt Z.out.2 b2)).cells; have Z2 := Lib.hid b2; clear b2))
    go_ret
    have hb := bt Z.out.2 Z2.out
    have hW := H.out.2.1.later hb
    have hW1 := H.out.2.1.later Z.out.2
    obtain ⟨m1, m2, m3⟩ := more_x H.out.2.1 H.out.2.2.2.2.1 H.out.2.2.2.2.2.1 H.out.2.2.2.2.2.2.1 Z.out.2 Z.out.1
    obtain ⟨r1, r2⟩ := HX.turned (T' := l.map (·.1)) hW1 m1 m2 m3 Z2.out hW.row (fun q hq => Or.inl hq) (World.grownBy.refl _ _) hW.pts H.out.2.1.fit rfl H.out.2.2.1 (by rw [List.length_map]; exact H.out.2.2.2.1)
    have hx : HX X w B d (l.map (·.1)) := ⟨_, l, H.out.2.1, rfl, H.out.2.2.1, by rw [List.length_map]; exact H.out.2.2.2.1, H.out.2.2.2.2.1, H.out.2.2.2.2.2.1, H.out.2.2.2.2.2.2.1⟩
    refine ⟨_, ⟨rfl, ⟨[], ?_, rfl, fun y hy => (List.not_mem_nil hy).elim⟩, by simpa using r1⟩, (hx.hc Z.out.2).trans (r2.less fun k hk => Or.inl hk)⟩
    have h9 := (Z.out.1.later Z2.out)
    rw [List.take_zero] at h9
    exact h9.dset hW.blk (by decide) 0 _
  · obtain ⟨g, rfl, _⟩ := H.out.2.1.row.cells (f := rowW) (k := 3) (fun _ => rfl) rfl (by omega)
    have cD : ∀ W, Below w.heap.size w W → Calls Try.prog 34 #[.slice (some ⟨g, 0, none⟩) l.length c, .int .i64 0, .int .i64 (n : Int)] W (DelP B g c (l.length - n) (l.drop n) W) := fun W hW => by
      have := Delete_any B g c l 0 n W (H.out.2.1.later hW).row (by omega) (by omega)
      simpa using this
    have HD := Lib.hid cD; clear cD
    go_enter Try.func35, Try.ntmps35
    go_wp2_with (first
      | (go_at_call 44; (refine (H.out.1).mono ?_); rintro e w1 ⟨v1, ⟨rfl, hO⟩, b1⟩; obtain ⟨d0, dl, df⟩ := (H.out.2.1.later b1).cells; obtain ⟨A1, n1, c1, rfl⟩ := own_shape hO; have Z := Lib.hid (And.intro hO b1); clear hO b1)
      | (go_at_call 34; (refine (HD.out _ Z.out.2).mono ?_); rintro e w2 ⟨rfl, hO2, hg2⟩; have hW1 := H.out.2.1.later Z.out.2; have hD := hW1.blk.grown hg2 (hW1.row.ne_blk (v := .slice (some ⟨g, 0, none⟩) l.length c) hW1.blk (by decide)); obtain ⟨d0, dl, df⟩ : w2.cell? ⟨d, 0, none⟩ = some (.slice (some ⟨g, 0, none⟩) l.length c) ∧ d < w2.heap.size ∧ (∀ o, w2.frozen? ⟨d, o, none⟩ = false) := (⟨hD.cell 0, hD.lt, hD.frozen⟩); have Z2 := Lib.hid (And.intro hO2 (And.intro hg2 hD)); clear hO2 hg2 hD hW1))
    go_ret
    have hW1 := H.out.2.1.later Z.out.2
    have hgl : g < w.heap.size := by
      obtain ⟨_, cs, hc⟩ := H.out.2.1.row.block (g := g) rfl
      exact (Array.getElem?_eq_some_iff.1 hc).1
    have f1 : FrH w1 w2 := Frm.grown Z2.out.2.1 (fun q hq => by obtain rfl : g = q := by simpa using hq
                                                                exact (hW1.row.block (g := g) rfl).2)
    have f2 : FrH w2 (w2.setCell ⟨d, 0, none⟩ (.slice (some ⟨g, 0, none⟩) (l.length - n) c)) := Frm.set1 Z2.out.2.2 0 _
    obtain ⟨m1, m2, m3⟩ := more_x H.out.2.1 H.out.2.2.2.2.1 H.out.2.2.2.2.2.1 H.out.2.2.2.2.2.2.1 Z.out.2 Z.out.1
    have hx : HX X w B d (l.map (·.1)) := ⟨_, l, H.out.2.1, rfl, H.out.2.2.1, by rw [List.length_map]; exact H.out.2.2.2.1, H.out.2.2.2.2.1, H.out.2.2.2.2.2.1, H.out.2.2.2.2.2.2.1⟩
    obtain ⟨r1, r2⟩ := HX.turned (T' := (l.map (·.1)).drop n) hW1 m1 m2 m3 (Below.refl _ _) Z2.out.1 (fun q hq => Or.inl hq) Z2.out.2.1 (fun y hy => hW1.pts y (H.out.2.2.2.2.2.2.2.1 y hy)) (fun y hy => H.out.2.1.fit y (H.out.2.2.2.2.2.2.2.1 y hy)) (List.map_drop ..) (sorted_drop H.out.2.2.1 n) (by rw [List.length_drop, List.length_map]; have := H.out.2.2.2.1; omega)
    refine ⟨_, ⟨rfl, ⟨l.take n, (Z.out.1.grown Z2.out.2.1 (fun b hb he => ?_)).dset Z2.out.2.2 (by decide) 0 _, List.map_take .., fun y hy => ?_⟩, r1⟩, (hx.hc Z.out.2).trans (r2.less fun k hk => Or.inl hk)⟩
    · have := (Z.out.1.block he).1
      obtain rfl : g = b := by simpa using hb
      omega
    · exact ((hW1.pts y (H.out.2.2.2.2.2.2.2.2.2 y hy)).frm f1).frm f2
end Go.Proofs.Yticjfhagpmlieaa
