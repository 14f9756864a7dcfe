/- Turns by deficits: Drop. -/
import Derived.Test.YtckpecddglfjkaaDrJ
namespace Go.Proofs.Ytckpecddglfjkaa
open Go.ChangeShapes Go.WideShapes Go.ChangeAt Go.RowKit
open Dr
set_option linter.unusedVariables false
set_option linter.unusedSimpArgs false

abbrev keepP (id : Int) : Fl → Bool := fun f => f.1 != id
theorem filt_one (id : Int) : ∀ (m : List Fl) (k : Nat) (h : k < m.length), (m[k]'h).1 = id → (∀ j (hj : j < m.length), j ≠ k → (m[j]'hj).1 ≠ id) → m.filter (keepP id) = m.eraseIdx k
  | [], k, h, _, _ => absurd h (by simp)
  | a :: r, 0, h, he, ho => by
    have h1 : keepP id a = false := by simpa [keepP] using he
    rw [List.filter_cons_of_neg (by simpa using h1), List.eraseIdx_cons_zero, List.filter_eq_self]
    intro x hx
    obtain ⟨j, hj, rfl⟩ := List.getElem_of_mem hx
    have := ho (j + 1) (by simpa using hj) (by omega)
    simpa [keepP] using this
  | a :: r, k + 1, h, he, ho => by
    have h1 : keepP id a = true := by
      have := ho 0 (by simp) (by omega)
      simpa [keepP] using this
    rw [List.filter_cons_of_pos h1, List.eraseIdx_cons_succ, filt_one id r k (by simpa using h) (by simpa using he) (fun j hj hne => by
      have := ho (j + 1) (by simpa using hj) (by omega)
      simpa using this)]
theorem filt_none (id : Int) (m : List Fl) (h : ∀ j (hj : j < m.length), (m[j]'hj).1 ≠ id) : m.filter (keepP id) = m := by
  rw [List.filter_eq_self]
  intro x hx
  obtain ⟨j, hj, rfl⟩ := List.getElem_of_mem hx
  simpa [keepP] using h j hj
theorem ids_apart {l : List Fl} (hn : (l.map (·.1)).Nodup) {k : Nat} (hk : k < l.length) {id : Int} (he : (l[k]'hk).1 = id) : ∀ j (hj : j < l.length), j ≠ k → (l[j]'hj).1 ≠ id := by
  intro j hj hne e
  have := (List.getElem_inj (xs := l.map (·.1)) (h₀ := by simpa using hj) (h₁ := by simpa using hk) hn).1 (by simp [e, he])
  exact hne this
theorem rot_nodup {l : List Fl} {c : Nat} (h : ((rot l c).map (·.1)).Nodup) : (l.map (·.1)).Nodup := by
  rw [rot_map] at h
  unfold rot at h
  have := List.perm_append_comm.nodup_iff.1 h
  rwa [List.take_append_drop] at this
/-- Whoever stands ahead of c goes: c is one less. -/
theorem drop_rot (l : List Fl) (c k : Nat) (hc : c < l.length) (hk : k < l.length) (id : Int) (he : (l[k]'hk).1 = id) (hn : (l.map (·.1)).Nodup) (c' : Nat) (h : (k < c ∧ c' = c - 1) ∨ (c ≤ k ∧ c' = c) ∨ (c = k ∧ k = l.length - 1 ∧ c' = 0)) :
    rot (l.eraseIdx k) c' = (rot l c).filter (keepP id) := by
  have ho := ids_apart hn hk he
  have hl : l.eraseIdx k = (l.take c).filter (keepP id) ++ (l.drop c).filter (keepP id) := by
    rw [← filt_one id l k hk he ho, ← List.filter_append, List.take_append_drop]
  rw [rot_filter]
  have hlt : (l.take c).length = c := by rw [List.length_take]; omega
  have key : ∀ A B : List Fl, c' = A.length → rot (A ++ B) c' = B ++ A := fun A B e => by
    subst e; unfold rot; rw [List.drop_left, List.take_left]
  rcases h with ⟨h1, h2⟩ | ⟨h1, h2⟩ | ⟨h1, h2, h3⟩
  · rw [hl]
    refine key _ _ ?_
    rw [filt_one id (l.take c) k (by omega) (by simpa using he) (fun j hj hne => by
      rw [hlt] at hj
      simpa using ho j (by omega) hne), List.length_eraseIdx, if_pos (by omega), hlt, h2]
  · rw [hl]
    refine key _ _ ?_
    rw [filt_none id (l.take c) (fun j hj => by
      rw [hlt] at hj
      simpa using ho j (by omega) (by omega)), hlt, h2]
  · have hd : (l.drop c).filter (keepP id) = [] := by
      have e1 : l.drop c = [l[k]'hk] := by
        subst h1
        rw [List.drop_eq_getElem_cons hk, List.drop_eq_nil_of_le (by omega)]
      rw [e1, List.filter_cons_of_neg (by simp [keepP, he]), List.filter_nil]
    rw [hl, hd, h3]
    unfold rot; simp
def DropR (L : List Fl) (fr : Bool) (id : Int) (ok : Bool) (L' : List Fl) (fr' : Bool) : Prop :=
  (id ∉ L.map (·.1) ∧ ok = false ∧ L' = L ∧ fr' = fr) ∨ (id ∈ L.map (·.1) ∧ ok = true ∧ L' = L.filter (keepP id) ∧ fr' = (fr || (L.map (·.1)).head? == some id))
def DropP (B d : Nat) (L : List Fl) (fr : Bool) (id : Int) (w : World) (e : Ending) (w' : World) : Prop :=
  ∃ ok L' fr', (e = .returned (.bool ok) ∧ DropR L fr id ok L' fr' ∧ DrS w' B d L' fr') ∧ Chg B w w'
theorem rot_front (l : List Fl) (c k : Nat) (hc : c < l.length) (hk : k < l.length) (id : Int) (he : (l[k]'hk).1 = id) (hn : (l.map (·.1)).Nodup) : (((rot l c).map (·.1)).head? == some id) = decide (c = k) := by
  rw [rot_head l c hc]
  simp only [List.map_cons, List.head?_cons]
  rw [Bool.eq_iff_iff]
  simp only [beq_iff_eq, Option.some.injEq, decide_eq_true_eq]
  constructor
  · intro h
    rcases Nat.decEq c k with h1 | h1
    · exact absurd h (ids_apart hn hk he c hc h1)
    · exact h1
  · rintro rfl; exact he
theorem drop_end {w w1 w2 : World} {B d g n m c k : Nat} {l : List Fl} {fr : Bool} (h : DrAt w B d (.slice (some ⟨g, 0, none⟩) l.length n) l c fr) (K : Below w.heap.size w w1) (hO2 : Own w2 B 68 4 rowF (.slice (some ⟨g, 0, none⟩) m n) (l.eraseIdx k)) (hg2 : w1.grownBy w2 (some g)) (hbD : Blk w2 d 65 #[.slice (some ⟨g, 0, none⟩) l.length n, .int .i64 (c : Int), .bool fr]) :
    Chg B w w2 := by
  have hrb := (h.later K).row.block (g := g) rfl
  exact (Chg.later h.low' K).trans (chg_row hg2 hrb.1 (h.later K).low' hrb.2)
set_option maxHeartbeats 1000000 in
theorem Drop_any (B d : Nat) (L : List Fl) (fr : Bool) (id : Int) (w : World) (h : DrS w B d L fr) (hS : OkS L fr) :
    Calls Try.prog 13 #[.pointer (some ⟨d, 0, none⟩), .int .i64 id] w (DropP B d L fr id w) := by
  obtain ⟨v, l, c, h, rfl⟩ := h
  have cF := find_any B d v l c fr id w h
  have hlen := hS.2.2.2
  rw [rot_len] at hlen
  have hnd := rot_nodup hS.2.2.1
  rcases idx_cases l id with ⟨hi, hno⟩ | ⟨k, hk, hi, he, _⟩
  · have hR : DropR (rot l c) fr id false (rot l c) fr := Or.inl ⟨by rw [rot_ids]; exact hno, rfl, rfl, rfl⟩
    rw [hi] at cF
    have H := Lib.hid (And.intro cF (And.intro h hR)); clear cF h hR hi hno hlen hnd hS
    go_enter Try.func13, Try.ntmps13
    go_wp2_with (go_at_call 23; ((with_reducible refine (H.out.1).mono ?_); rintro e w1 ⟨rfl, b1⟩; have K := Lib.hid b1; clear b1))
    go_ret
    exact ⟨false, _, _, ⟨rfl, H.out.2.2, ⟨_, _, _, H.out.2.1.later K.out, rfl⟩⟩, Chg.later H.out.2.1.low' K.out⟩
  · rw [hi] at cF
    have hne : l ≠ [] := fun e => by rw [e] at hk; simp at hk
    have hc := h.cur hne
    have hin : id ∈ (rot l c).map (·.1) := by rw [rot_ids, ← he]; exact List.mem_map.2 ⟨_, List.getElem_mem hk, rfl⟩
    have hfront := rot_front l c k hc hk id he hnd
    have hdr := drop_rot l c k hc hk id he hnd
    obtain ⟨A, n, rfl, _, n1, n2⟩ := h.row.shape
    obtain ⟨g, rfl, _, hgl, _, _⟩ := h.row.cells (f := rowF) (k := 4) (fun _ => rfl) rfl (by omega)
    have hgd := h.apart (g := g) rfl
    have cD := fun w1 (hb : Below w.heap.size w w1) => Delete_any B g n l k w1 (h.row.later hb) hk
    have hk0 : ¬ (k : Int) < 0 := by omega
    have hw1 : IntKind.i64.wrap ((k : Int) + 1) = (k : Int) + 1 := IntWalk.i64_in _ (by omega)
    have hw2 : IntKind.i64.wrap ((c : Int) - 1) = (c : Int) - 1 := IntWalk.i64_in _ (by omega)
    have H := Lib.hid (And.intro cF (And.intro h (And.intro hin (And.intro hfront (And.intro hdr (And.intro hgd (And.intro hgl cD)))))))
    clear cF h hin hfront hdr hgd hgl cD hi he hnd hS hne
    obtain ⟨m, hm⟩ : ∃ m, m = l.length - 1 := ⟨_, rfl⟩
    have hcase : k < c ∨ (k = c ∧ k = m) ∨ (k = c ∧ k < m) ∨ c < k := by omega
    have hml : m ≤ 9223372036854775807 := by omega
    rw [← hm] at H
    have HM := Lib.hid hm; clear hm
    rcases hcase with h1 | ⟨h0, h1⟩ | ⟨h0, h1⟩ | h1
    · go_enter Try.func13, Try.ntmps13
      go_wp2_with (first
        | (go_at_call 23; ((with_reducible refine (H.out.1).mono ?_); rintro e w1 ⟨rfl, b1⟩; obtain ⟨d0, d1, d2, dl, df⟩ := (H.out.2.1.later b1).cells; have K := Lib.hid b1; clear b1))
        | (go_at_call 26; refine (H.out.2.2.2.2.2.2.2 w1 K.out).mono ?_; rintro e w2 ⟨rfl, hO2, hg2⟩; have hbD := ((H.out.2.1.later K.out).blk).grown hg2 (by simpa using Ne.symm H.out.2.2.2.2.2.1); obtain ⟨e0, e1, e2, el, ef⟩ : w2.cell? ⟨d, 0, none⟩ = some (.slice (some ⟨g, 0, none⟩) l.length n) ∧ w2.cell? ⟨d, 1, none⟩ = some (.int .i64 (c : Int)) ∧ w2.cell? ⟨d, 2, none⟩ = some (.bool fr) ∧ d < w2.heap.size ∧ (∀ o, w2.frozen? ⟨d, o, none⟩ = false) := (⟨hbD.cell 0, hbD.cell 1, hbD.cell 2, hbD.lt, hbD.frozen⟩); have Z := Lib.hid (And.intro hO2 (And.intro hg2 hbD)); clear hO2 hg2 hbD d0 d1 d2 dl df))
      go_ret
      have x1 := drop_end H.out.2.1 K.out Z.out.1 Z.out.2.1 Z.out.2.2
      have s0 := Z.out.2.2.set_ 0 (.slice (some ⟨g, 0, none⟩) m n)
      have s1 := s0.set_ 1 (.int .i64 ((c : Int) - 1))
      have o1 := own_dset (own_dset Z.out.1 Z.out.2.2 0 (.slice (some ⟨g, 0, none⟩) m n)) s0 1 (.int .i64 ((c : Int) - 1))
      have x2 := (Frm.set1 (t2 := 68) Z.out.2.2 0 (.slice (some ⟨g, 0, none⟩) m n)).trans (Frm.set1 s0 1 (.int .i64 ((c : Int) - 1)))
      have hci : ((c - 1 : Nat) : Int) = (c : Int) - 1 := by omega
      refine ⟨true, _, _, ⟨rfl, Or.inr ⟨H.out.2.2.1, rfl, rfl, rfl⟩, ⟨_, _, c - 1, ⟨H.out.2.1.low, by rw [hci, H.out.2.2.2.1, decide_eq_false (by omega), Bool.or_false]; simpa using s1, o1, fun _ => ?_⟩, H.out.2.2.2.2.1 (c - 1) (Or.inl ⟨h1, rfl⟩)⟩⟩, x1.trans ⟨below_put2 (Below.refl _ _) H.out.2.1.low _ _, x2⟩⟩
      rw [List.length_eraseIdx, if_pos hk]; omega
    · have h0' := h0.symm
      subst h0'
      subst h1
      go_enter Try.func13, Try.ntmps13
      go_wp2_with (first
        | (go_at_call 23; ((with_reducible refine (H.out.1).mono ?_); rintro e w1 ⟨rfl, b1⟩; obtain ⟨d0, d1, d2, dl, df⟩ := (H.out.2.1.later b1).cells; have K := Lib.hid b1; clear b1))
        | (go_at_call 26; refine (H.out.2.2.2.2.2.2.2 w1 K.out).mono ?_; rintro e w2 ⟨rfl, hO2, hg2⟩; have hbD := ((H.out.2.1.later K.out).blk).grown hg2 (by simpa using Ne.symm H.out.2.2.2.2.2.1); obtain ⟨e0, e1, e2, el, ef⟩ : w2.cell? ⟨d, 0, none⟩ = some (.slice (some ⟨g, 0, none⟩) l.length n) ∧ w2.cell? ⟨d, 1, none⟩ = some (.int .i64 (c : Int)) ∧ w2.cell? ⟨d, 2, none⟩ = some (.bool fr) ∧ d < w2.heap.size ∧ (∀ o, w2.frozen? ⟨d, o, none⟩ = false) := (⟨hbD.cell 0, hbD.cell 1, hbD.cell 2, hbD.lt, hbD.frozen⟩); have Z := Lib.hid (And.intro hO2 (And.intro hg2 hbD)); clear hO2 hg2 hbD d0 d1 d2 dl df))
      go_ret
      have x1 := drop_end H.out.2.1 K.out Z.out.1 Z.out.2.1 Z.out.2.2
      have s0 := Z.out.2.2.set_ 0 (.slice (some ⟨g, 0, none⟩) c n)
      have s1 := s0.set_ 2 (.bool true)
      have s2 := s1.set_ 1 (.int .i64 0)
      have o1 := own_dset (own_dset (own_dset Z.out.1 Z.out.2.2 0 (.slice (some ⟨g, 0, none⟩) c n)) s0 2 (.bool true)) s1 1 (.int .i64 0)
      have x2 := (Frm.set1 (t2 := 68) Z.out.2.2 0 (.slice (some ⟨g, 0, none⟩) c n)).trans ((Frm.set1 s0 2 (.bool true)).trans (Frm.set1 s1 1 (.int .i64 0)))
      have x3 := (((Below.refl B w2).setCell (p := ⟨d, 0, none⟩) H.out.2.1.low (.slice (some ⟨g, 0, none⟩) c n)).setCell (p := ⟨d, 2, none⟩) H.out.2.1.low (.bool true)).setCell (p := ⟨d, 1, none⟩) H.out.2.1.low (.int .i64 0)
      refine ⟨true, _, _, ⟨rfl, Or.inr ⟨H.out.2.2.1, rfl, rfl, rfl⟩, ⟨_, _, 0, ⟨H.out.2.1.low, by rw [H.out.2.2.2.1]; simpa using s2, o1, fun hne => List.length_pos_iff.2 hne⟩, H.out.2.2.2.2.1 0 (Or.inr (Or.inr (by refine ⟨?_, ?_, rfl⟩ <;> first | trivial | rfl | exact HM.out)))⟩⟩, x1.trans ⟨x3, x2⟩⟩
    · have h0' := h0.symm
      subst h0'
      have h2 : ¬ (c : Int) = (m : Int) := by omega
      go_enter Try.func13, Try.ntmps13
      go_wp2_with (first
        | (go_at_call 23; ((with_reducible refine (H.out.1).mono ?_); rintro e w1 ⟨rfl, b1⟩; obtain ⟨d0, d1, d2, dl, df⟩ := (H.out.2.1.later b1).cells; have K := Lib.hid b1; clear b1))
        | (go_at_call 26; refine (H.out.2.2.2.2.2.2.2 w1 K.out).mono ?_; rintro e w2 ⟨rfl, hO2, hg2⟩; have hbD := ((H.out.2.1.later K.out).blk).grown hg2 (by simpa using Ne.symm H.out.2.2.2.2.2.1); obtain ⟨e0, e1, e2, el, ef⟩ : w2.cell? ⟨d, 0, none⟩ = some (.slice (some ⟨g, 0, none⟩) l.length n) ∧ w2.cell? ⟨d, 1, none⟩ = some (.int .i64 (c : Int)) ∧ w2.cell? ⟨d, 2, none⟩ = some (.bool fr) ∧ d < w2.heap.size ∧ (∀ o, w2.frozen? ⟨d, o, none⟩ = false) := (⟨hbD.cell 0, hbD.cell 1, hbD.cell 2, hbD.lt, hbD.frozen⟩); have Z := Lib.hid (And.intro hO2 (And.intro hg2 hbD)); clear hO2 hg2 hbD d0 d1 d2 dl df))
      go_ret
      have x1 := drop_end H.out.2.1 K.out Z.out.1 Z.out.2.1 Z.out.2.2
      have s0 := Z.out.2.2.set_ 0 (.slice (some ⟨g, 0, none⟩) m n)
      have s1 := s0.set_ 2 (.bool true)
      have o1 := own_dset (own_dset Z.out.1 Z.out.2.2 0 (.slice (some ⟨g, 0, none⟩) m n)) s0 2 (.bool true)
      have x2 := (Frm.set1 (t2 := 68) Z.out.2.2 0 (.slice (some ⟨g, 0, none⟩) m n)).trans (Frm.set1 s0 2 (.bool true))
      have x3 := ((Below.refl B w2).setCell (p := ⟨d, 0, none⟩) H.out.2.1.low (.slice (some ⟨g, 0, none⟩) m n)).setCell (p := ⟨d, 2, none⟩) H.out.2.1.low (.bool true)
      refine ⟨true, _, _, ⟨rfl, Or.inr ⟨H.out.2.2.1, rfl, rfl, rfl⟩, ⟨_, _, c, ⟨H.out.2.1.low, by rw [H.out.2.2.2.1]; simpa using s1, o1, fun hne => ?_⟩, H.out.2.2.2.2.1 c (Or.inr (Or.inl ⟨Nat.le_refl _, rfl⟩))⟩⟩, x1.trans ⟨x3, x2⟩⟩
      rw [List.length_eraseIdx, if_pos hk, ← HM.out]; exact h1
    · have h2 : ¬ (k : Int) = (c : Int) := by omega
      have h3 : ¬ k < c := by omega
      go_enter Try.func13, Try.ntmps13
      go_wp2_with (first
        | (go_at_call 23; ((with_reducible refine (H.out.1).mono ?_); rintro e w1 ⟨rfl, b1⟩; obtain ⟨d0, d1, d2, dl, df⟩ := (H.out.2.1.later b1).cells; have K := Lib.hid b1; clear b1))
        | (go_at_call 26; refine (H.out.2.2.2.2.2.2.2 w1 K.out).mono ?_; rintro e w2 ⟨rfl, hO2, hg2⟩; have hbD := ((H.out.2.1.later K.out).blk).grown hg2 (by simpa using Ne.symm H.out.2.2.2.2.2.1); obtain ⟨e0, e1, e2, el, ef⟩ : w2.cell? ⟨d, 0, none⟩ = some (.slice (some ⟨g, 0, none⟩) l.length n) ∧ w2.cell? ⟨d, 1, none⟩ = some (.int .i64 (c : Int)) ∧ w2.cell? ⟨d, 2, none⟩ = some (.bool fr) ∧ d < w2.heap.size ∧ (∀ o, w2.frozen? ⟨d, o, none⟩ = false) := (⟨hbD.cell 0, hbD.cell 1, hbD.cell 2, hbD.lt, hbD.frozen⟩); have Z := Lib.hid (And.intro hO2 (And.intro hg2 hbD)); clear hO2 hg2 hbD d0 d1 d2 dl df))
      go_ret
      have x1 := drop_end H.out.2.1 K.out Z.out.1 Z.out.2.1 Z.out.2.2
      have s0 := Z.out.2.2.set_ 0 (.slice (some ⟨g, 0, none⟩) m n)
      have o1 := own_dset Z.out.1 Z.out.2.2 0 (.slice (some ⟨g, 0, none⟩) m n)
      have x2 := Frm.set1 (t2 := 68) Z.out.2.2 0 (.slice (some ⟨g, 0, none⟩) m n)
      have x3 := (Below.refl B w2).setCell (p := ⟨d, 0, none⟩) H.out.2.1.low (.slice (some ⟨g, 0, none⟩) m n)
      refine ⟨true, _, _, ⟨rfl, Or.inr ⟨H.out.2.2.1, rfl, rfl, rfl⟩, ⟨_, _, c, ⟨H.out.2.1.low, by rw [H.out.2.2.2.1, decide_eq_false (by omega), Bool.or_false]; simpa using s0, o1, fun hne => ?_⟩, H.out.2.2.2.2.1 c (Or.inr (Or.inl ⟨by omega, rfl⟩))⟩⟩, x1.trans ⟨x3, x2⟩⟩
      rw [List.length_eraseIdx, if_pos hk]; omega
end Go.Proofs.Ytckpecddglfjkaa
