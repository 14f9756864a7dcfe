/- Copies of lists of lists of numbers. -/
import Derived.Test.YticjfhagpmlieaaHoA
namespace Go.Proofs.Yticjfhagpmlieaa
open Go.ChangeShapes Go.WideShapes Go.ChangeAt Go.RowKit
open Ho
set_option linter.unusedVariables false
set_option linter.unusedSimpArgs false

theorem own_lit {α : Type} {W : World} {e : TypeId} {k : Nat} {f : α → List Value} {B : Nat} (l : List α) {cs : Array Value} {g n : Nat} (hg : g = W.heap.size) (hB : B ≤ g) (hn : n = l.length) (hm : n ≤ maxLen) (hs : cs.size = n * k) (hcs : l.flatMap f = cs.toList) : Own (W.alloc (.cells cs e)) B e k f (.slice (some ⟨g, 0, none⟩) n n) l := by
  subst hg; subst hn
  unfold Own
  rw [hcs]
  exact World.ownsRow_lit W cs l.length hB hm hs
theorem new_cells {w : World} {g : Nat} (hg : g = w.heap.size) (t : TypeId) (cs : Array Value) : ∀ j u, cs.toList[j]? = some u → (w.alloc (.cells cs t)).cell? ((⟨g, 0, none⟩ : Addr).add j) = some u := by
  subst hg
  exact blk_cells (Blk.new w t cs)
theorem Own.apart {α β : Type} {w : World} {b c : Nat} {e e' : TypeId} {k k' : Nat} {f : α → List Value} {g : β → List Value} {v u : Value} {l : List α} {m : List β} (h : Own w b e k f v l) (h' : Own w c e' k' g u m) (hne : e ≠ e') (x : Nat) (hx : u.ownBlock = some x) : v.ownBlock ≠ some x := by
  intro hy
  rcases h.2 with ⟨rfl, _⟩ | ⟨i, cap, cur, rfl, h1, h2, _⟩
  · simp [Value.ownBlock] at hy
  · rcases h'.2 with ⟨rfl, _⟩ | ⟨i', cap', cur', rfl, h1', h2', _⟩
    · simp [Value.ownBlock] at hx
    · simp [Value.ownBlock] at hx hy
      subst hx; subst hy
      rw [h2] at h2'
      simp at h2'
      exact hne h2'.2
/-- A slice of slices of numbers, all of it in rows of the call's own from block B on. -/
def Rws (w : World) (B : Nat) (vs : List SV) (p : List (List Int)) : Prop := vs.length = p.length ∧ ∀ j (hj : j < vs.length) (hj' : j < p.length), Own w B 3 1 rowI (sl (vs[j]'hj)) (p[j]'hj')
def PtsO (w : World) (B : Nat) (v : Value) (p : List (List Int)) : Prop := ∃ vs, Own w B 60 1 slc v vs ∧ Rws w B vs p
theorem Rws.later {w w' : World} {B : Nat} {vs : List SV} {p : List (List Int)} (h : Rws w B vs p) (hb : Below w.heap.size w w') : Rws w' B vs p := ⟨h.1, fun j hj hj' => (h.2 j hj hj').later hb⟩
theorem PtsO.later {w w' : World} {B : Nat} {v : Value} {p : List (List Int)} (h : PtsO w B v p) (hb : Below w.heap.size w w') : PtsO w' B v p := by
  obtain ⟨vs, h1, h2⟩ := h
  exact ⟨vs, h1.later hb, h2.later hb⟩
theorem PtsO.pts {w : World} {B : Nat} {v : Value} {p : List (List Int)} (h : PtsO w B v p) : PtsAt w v p := by
  obtain ⟨vs, h1, h2⟩ := h
  exact ⟨vs, Own.at_ (f := slc) (k := 1) (fun _ => rfl) h1, h2.1, fun j hj hj' => Own.at_ (f := rowI) (k := 1) (fun _ => rfl) (h2.2 j hj hj')⟩
theorem PtsO.lift {w : World} {B B' : Nat} {v : Value} {p : List (List Int)} (h : PtsO w B v p) (hb : B' ≤ B) : PtsO w B' v p := by
  obtain ⟨vs, h1, h2⟩ := h
  exact ⟨vs, h1.lift hb, h2.1, fun j hj hj' => (h2.2 j hj hj').lift hb⟩
theorem Rws.nil (w : World) (B : Nat) : Rws w B [] [] := ⟨rfl, fun j hj => absurd hj (by simp)⟩
theorem PtsO.nil (w : World) (B : Nat) : PtsO w B (.slice none 0 0) [] := ⟨[], Own.nil _ _ _ _ _, Rws.nil _ _⟩
theorem Rws.snoc {w : World} {B : Nat} {vs : List SV} {p : List (List Int)} (h : Rws w B vs p) {s : SV} {L : List Int} (hs : Own w B 3 1 rowI (sl s) L) : Rws w B (vs ++ [s]) (p ++ [L]) := by
  refine ⟨by rw [List.length_append, List.length_append, h.1]; rfl, fun j hj hj' => ?_⟩
  by_cases hlt : j < vs.length
  · rw [List.getElem_append_left hlt, List.getElem_append_left (by rw [← h.1]; exact hlt)]
    exact h.2 j hlt _
  · obtain rfl : j = vs.length := by rw [List.length_append] at hj; simp at hj; omega
    have e := h.1
    have e1 : ∀ q, (vs ++ [s])[vs.length]'q = s := fun q => by simp
    have e2 : ∀ q, (p ++ [L])[vs.length]'q = L := fun q => by rw [List.getElem_append_right (by omega)]; simp [e]
    rw [e1, e2]
    exact hs
theorem Own.block {α : Type} {w : World} {b : Nat} {e : TypeId} {k : Nat} {f : α → List Value} {v : Value} {l : List α} (h : Own w b e k f v l) {g : Nat} (hg : v.ownBlock = some g) : b ≤ g ∧ ∃ cs, w.heap[g]? = some (.cells cs e (0, 0)) := by
  rcases h.2 with ⟨rfl, _⟩ | ⟨g', cap, cur, rfl, h1, h2, _⟩
  · simp [Value.ownBlock] at hg
  · simp [Value.ownBlock] at hg
    subst hg
    exact ⟨h1, _, h2⟩
theorem Own.ne_blk {α : Type} {w : World} {b : Nat} {e t : TypeId} {k : Nat} {f : α → List Value} {v : Value} {l : List α} {g : Nat} {cs : Array Value} (h : Own w b e k f v l) (hB : Blk w g t cs) (hne : e ≠ t) : some g ≠ v.ownBlock := by
  intro hg
  obtain ⟨_, cs', hc⟩ := h.block hg.symm
  have := hc.symm.trans hB
  simp at this
  exact hne this.2
theorem Rws.grown {α : Type} {w w' : World} {B b : Nat} {vs : List SV} {p : List (List Int)} (h : Rws w B vs p) {e : TypeId} {k : Nat} {f : α → List Value} {v : Value} {l : List α} (ho : Own w b e k f v l) (hne : 3 ≠ e) (hg : w.grownBy w' v.ownBlock) : Rws w' B vs p :=
  ⟨h.1, fun j hj hj' => (h.2 j hj hj').grown hg (fun x hx => Own.apart (h.2 j hj hj') ho hne x hx)⟩
theorem grown_set (w : World) (g o : Nat) (u : Value) : w.grownBy (w.setCell ⟨g, o, none⟩ u) (some g) :=
  ⟨rfl, rfl, rfl, by simp [World.setCell], fun k hk hne => Below.heap_setCell _ _ _ _ (fun e => hne (by rw [e]))⟩
theorem Own.dset {α : Type} {w : World} {B d : Nat} {e t : TypeId} {k : Nat} {f : α → List Value} {v : Value} {l : List α} {cs : Array Value} (hO : Own w B e k f v l) (hB : Blk w d t cs) (hne : e ≠ t) (o : Nat) (u : Value) : Own (w.setCell ⟨d, o, none⟩ u) B e k f v l :=
  hO.grown (grown_set w d o u) (fun b hb he => hO.ne_blk hB hne (by rw [hb]; exact he.symm))
theorem Rws.dset {w : World} {B d : Nat} {t : TypeId} {vs : List SV} {p : List (List Int)} {cs : Array Value} (h : Rws w B vs p) (hB : Blk w d t cs) (hne : 3 ≠ t) (o : Nat) (u : Value) : Rws (w.setCell ⟨d, o, none⟩ u) B vs p := ⟨h.1, fun j hj hj' => (h.2 j hj hj').dset hB hne o u⟩
theorem PtsO.dset {w : World} {B d : Nat} {t : TypeId} {v : Value} {p : List (List Int)} {cs : Array Value} (h : PtsO w B v p) (hB : Blk w d t cs) (h1 : 3 ≠ t) (h2 : 60 ≠ t) (o : Nat) (u : Value) : PtsO (w.setCell ⟨d, o, none⟩ u) B v p := by
  obtain ⟨vs, a, b⟩ := h
  exact ⟨vs, a.dset hB h2 o u, b.dset hB h1 o u⟩
/-- What Go can hold. -/
def Fit (p : List (List Int)) : Prop := p.length * 24 ≤ 140737488355328 ∧ ∀ L ∈ p, L.length * 8 ≤ 140737488355328
def CloP (l : List Int) (w : World) (e : Ending) (w' : World) : Prop := ∃ s : SV, (e = .returned (sl s) ∧ Own w' w.heap.size 3 1 rowI (sl s) l) ∧ Below w.heap.size w w'
set_option maxHeartbeats 1000000 in
theorem cloneI_any (v : Value) (l : List Int) (w : World) (h : At w 1 rowI v l) (hl : l.length * 8 ≤ 140737488355328) :
    Calls Try.prog 42 #[v] w (CloP l w) := by
  obtain ⟨j0, hj, hy0, hy1, hy2⟩ := info_parts (P := Try.prog) (e := 3) (z := .int .i64 0) (size := 1) (bytes := 8) (by kernel_rfl)
  obtain ⟨A, c, rfl, a1, a2, a3⟩ := h.shape
  cases A with
  | none =>
    obtain rfl := a3 rfl
    obtain rfl : l = [] := List.eq_nil_of_length_eq_zero (by omega)
    have he : ∀ W, (binOp .eql 60 (.slice none 0 0) (.slice none 0 0)).run Try.prog W = .ok (.bool true) W := fun _ => rfl
    go_enter Try.func42, Try.ntmps42
    go_wp2
    go_ret
    exact ⟨(none, 0, 0), ⟨rfl, Own.nil _ _ _ _ _⟩, Below.refl _ _⟩
  | some a =>
    have hm : l.length ≤ maxLen := by omega
    have he : ∀ W, (binOp .eql 60 (.slice (some a) l.length c) (.slice none 0 0)).run Try.prog W = .ok (.bool false) W := fun _ => rfl
    have H := Lib.hid (And.intro h (And.intro hm hl)); clear h hm a1 a2 a3 hl
    go_enter Try.func42, Try.ntmps42
    go_wp2_with (at_builtin; refine wpList_append_at _ rfl (.tmp 5) (.tmp 6) 60 rfl w.heap.size 3 j0 (.int .i64 0) 1 8 Try.underlying60 hj hy0 hy1 hy2 rfl (by decide) (f := rowI) (fun _ => rfl) (fun _ u hu => by simp at hu; subst hu; rfl) (.slice (some ⟨w.heap.size, 0, none⟩) 0 0) [] rfl (own_lit [] rfl (Nat.le_refl _) rfl (Nat.zero_le _) rfl rfl) (some a) l.length c l rfl rfl (H.out.1.later (ba _ _)) (by have := H.out.2.1; simpa using this) (by have := H.out.2.2; simpa using this) (by simp) ?_; intro v5 w5 hO5 hg5; obtain ⟨A5, n5, c5, rfl⟩ := own_shape hO5; have Z5 := Lib.hid (And.intro hO5 (grownBy_below (B := w.heap.size) hg5 (by simp) (by intro k hk; simp [Value.ownBlock] at hk; omega))); clear hO5 hg5)
    go_ret
    exact ⟨(A5, n5, c5), ⟨rfl, by simpa using Z5.out.1⟩, (ba w _).trans Z5.out.2⟩
abbrev waitV (u : Int) (s : SV) (x : Int) : Value := .agg #[.int .i64 u, sl s, .int .i64 x]
def CopyP (u : Int) (x : Int) (p : List (List Int)) (w : World) (e : Ending) (w' : World) : Prop := ∃ s' : SV, (e = .returned (waitV u s' x) ∧ PtsO w' w.heap.size (sl s') p) ∧ Below w.heap.size w w'
set_option maxHeartbeats 2000000 in
theorem copyOf_any (u : Int) (s : SV) (x : Int) (p : List (List Int)) (w : World) (h : PtsAt w (sl s) p) (hp : Fit p) :
    Calls Try.prog 32 #[waitV u s x] w (CopyP u x p w) := by
  obtain ⟨j0, hj, hy0, hy1, hy2⟩ := info_parts (P := Try.prog) (e := 60) (z := .slice none 0 0) (size := 1) (bytes := 24) (by kernel_rfl)
  obtain ⟨vs, hv, hE, hR⟩ := h
  obtain ⟨sA, sn, sc⟩ := s
  obtain ⟨_, _, he, a1, a2, _⟩ := hv.shape
  simp only [sl, Value.slice.injEq] at he
  obtain ⟨rfl, rfl, rfl⟩ := he
  have hml : vs.length ≤ 9223372036854775807 := by unfold maxLen at a2; omega
  have hmL : vs.length ≤ maxLen := by omega
  have hb24 : vs.length * 24 ≤ 140737488355328 := by rw [hE]; exact hp.1
  have hvl : ∀ W, Below w.heap.size w W → At W 1 slc (.slice sA vs.length sc) vs := fun W hW => hv.later hW
  have H := Lib.hid (And.intro hvl (And.intro hE (And.intro hR (And.intro hp.2 (And.intro hmL hb24))))); clear hv hE hR hp hvl hmL hb24 a1 a2
  go_enter Try.func32, Try.ntmps32
  go_wp2_with (refine wpList_make_own _ rfl _ _ 30 rfl w.heap.size 60 j0 (.slice none 0 0) 1 Try.underlying30 hj hy0 hy1 .i64 .i64 _ vs.length rfl rfl rfl (by rw [hy2]; have := H.out.2.2.2.2.2; omega) H.out.2.2.2.2.1 (by simp; omega) ?_; intro w1 hO1 hg1; have x1 := (((Blk.new w 35 #[.int .i64 u, .slice sA vs.length sc, .int .i64 x]).alloc (.cells #[.int .i64 0, .slice none 0 0, .int .i64 0] 35)).grown hg1 (by simp)).three; have K := Lib.hid (And.intro hO1 hg1); clear hO1 hg1)
  have hb1 := bt (bt (ba w _) (ba _ _)) (grownBy_below K.out.2 (Nat.le_refl _) (fun k hk => by simp at hk))
  have hB0 := (((Blk.new w 35 #[.int .i64 u, .slice sA vs.length sc, .int .i64 x]).alloc (.cells #[.int .i64 0, .slice none 0 0, .int .i64 0] 35)).grown K.out.2 (by simp))
  have hB1 := ((Blk.new (w.alloc (.cells #[.int .i64 u, .slice sA vs.length sc, .int .i64 x] 35)) 35 #[.int .i64 0, .slice none 0 0, .int .i64 0]).grown K.out.2 (by simp))
  rw [World.size_alloc] at hB1
  have M := Lib.hid (And.intro hb1 (And.intro hB0 hB1)); clear hb1 hB0 hB1 x1
  go_loopw [3, 13] (fun lv iv wr => ∃ (k : Nat) (ys : List SV), k ≤ vs.length ∧ ys.length = k ∧ iv = .int .i64 k ∧ Own wr w.heap.size 60 1 slc lv ys ∧ Rws wr w.heap.size ys (p.take k) ∧ Blk wr w.heap.size 35 #[.int .i64 u, .slice sA vs.length sc, .int .i64 x] ∧ Blk wr (w.heap.size + 1) 35 #[.int .i64 0, .slice none 0 0, .int .i64 0] ∧ Below w.heap.size w wr) (fun _ i _ => vs.length - (intOf i).toNat)
  case atStart => exact ⟨0, [], Nat.zero_le _, rfl, rfl, (by have := K.out.1; simp only [World.size_alloc] at this; exact this), Rws.nil _ _, M.out.2.1, M.out.2.2, M.out.1⟩
  case round =>
    clear K M
    obtain ⟨k, ys, hk, hy, rfl, hO, hRw, hB0, hB1, hb⟩ := hrel
    obtain ⟨D, g, rfl, b1, b2, b3⟩ := hO.shape
    rw [hy] at hO ⊢
    by_cases hlt : k < vs.length
    · obtain ⟨a, rfl, hc⟩ := (H.out.1 wr hb).cells rfl (by omega)
      have x0 := hc.row1 k hlt rfl
      rw [Nat.mul_one] at x0
      have hlp : k < p.length := by rw [← H.out.2.1]; exact hlt
      have gx := (H.out.2.2.1 k hlt hlp).later hb
      have hfit := H.out.2.2.2.1 _ (List.getElem_mem hlp)
      have hT : p.take (k + 1) = p.take k ++ [p[k]'hlp] := List.take_succ_eq_append_getElem hlp
      change wr.cell? (a.add k) = some (sl (vs[k]'hlt)) at x0
      generalize p[k]'hlp = y at *
      generalize vs[k]'hlt = s at *
      obtain ⟨tA, tn, tc⟩ := s
      change wr.cell? (a.add k) = some (.slice tA tn tc) at x0
      have cC := cloneI_any _ y wr gx hfit
      have hk1 : k + 1 ≤ maxLen ∧ (k + 1) * 24 ≤ 140737488355328 := by have := H.out.2.2.2.2; omega
      have N := Lib.hid (And.intro cC (And.intro hT (And.intro hO (And.intro hRw (And.intro hB0 (And.intro hB1 (And.intro hb (And.intro hy hk1)))))))); clear cC hT hO hRw hB0 hB1 hb hc gx hfit b1 b2 b3 hy hk1
      have hsz := N.out.2.2.2.2.2.2.1.size
      go_wp2_with (first
        | (go_at_call 42; ((with_reducible refine (N.out.1).mono ?_); rintro e w2 ⟨s', ⟨rfl, hS⟩, b2⟩; obtain ⟨cA, cn, cc⟩ := s'; have Z := Lib.hid (And.intro hS b2); clear hS b2))
        | (at_builtin; refine wpList_append_own _ rfl (.tmp 17) (.tmp 20) 30 rfl w.heap.size 60 j0 (.slice none 0 0) 1 24 Try.underlying30 hj hy0 hy1 hy2 rfl (by decide) (.slice D k g) k _ rfl (by have := N.out.2.2.1.later (bt Z.out.2 (ba w2 (.cells #[.slice cA cn cc] 60))); unfold Own at this; rw [N.out.2.2.2.2.2.2.2.1] at this; exact this) ⟨_, 0, none⟩ 1 1 (slc (cA, cn, cc)) rfl rfl (new_cells rfl _ _) (by simp [Value.oneCell']) N.out.2.2.2.2.2.2.2.2.1 N.out.2.2.2.2.2.2.2.2.2 (by have := Z.out.2.size; simp only [World.size_alloc]; omega) ?_; intro v5 w5 hO5 hg5 _; obtain ⟨A5, n5, c5, rfl⟩ := own_shape hO5; have Z5 := Lib.hid (And.intro hO5 hg5); clear hO5 hg5))
      go_roundw
      case rel =>
        have hba : Below wr.heap.size wr (w2.alloc (.cells #[.slice cA cn cc] 60)) := bt Z.out.2 (ba w2 _)
        have hOw := N.out.2.2.1.later hba
        have h5 := own_past (bt N.out.2.2.2.2.2.2.1 hba) Z5.out.2 N.out.2.2.1
        refine ⟨k + 1, ys ++ [(cA, cn, cc)], by omega, by rw [List.length_append, N.out.2.2.2.2.2.2.2.1]; rfl, by go_num, Own.more N.out.2.2.2.2.2.2.2.1.symm Z5.out.1, ?_, (N.out.2.2.2.2.1.later hba).grown Z5.out.2 (hOw.ne_blk (N.out.2.2.2.2.1.later hba) (by decide)), (N.out.2.2.2.2.2.1.later hba).grown Z5.out.2 (hOw.ne_blk (N.out.2.2.2.2.2.1.later hba) (by decide)), h5⟩
        rw [N.out.2.1]
        exact (((N.out.2.2.2.1.later hba).snoc ((Z.out.1.later (ba w2 _)).lift hsz))).grown hOw (by decide) Z5.out.2
      case measure => simp [intOf]; omega
    · obtain rfl : k = vs.length := by omega
      obtain ⟨x0, x1, x2⟩ := hB0.three
      obtain ⟨y0, y1, y2⟩ := hB1.three
      have xf := hB0.frozen
      have xl := hB0.lt
      have yf := hB1.frozen
      have yl := hB1.lt
      have hT : p.take vs.length = p := by rw [H.out.2.1, List.take_length]
      rw [hT] at hRw
      have N := Lib.hid (And.intro hO (And.intro hRw (And.intro hB0 (And.intro hB1 hb)))); clear hO hRw hB0 hB1 hb hT b1 b2 b3
      go_wp2
      have s1 := N.out.2.2.1.set_ 1 (.slice D vs.length g)
      have r0 := N.out.2.2.2.1.far (p := ⟨w.heap.size, 1, none⟩) (by simp) (.slice D vs.length g)
      have r1 := r0.set_ 0 (.int .i64 u)
      have r2 := r1.set_ 1 (.slice D vs.length g)
      obtain ⟨z0, z1, z2⟩ := (r0.put3 (.int .i64 u) (.slice D vs.length g) (.int .i64 x)).three
      refine bodyPost_ret (v := waitV u (D, vs.length, g) x) (by simp only [results, Try.results32]; simp [go_sem, z0, z1, z2]) rfl ?_
      exact ⟨(D, vs.length, g), ⟨rfl, ((((show PtsO wr w.heap.size (sl (D, vs.length, g)) p from ⟨ys, N.out.1, N.out.2.1⟩).dset N.out.2.2.1 (by decide) (by decide) 1 _).dset r0 (by decide) (by decide) 0 _).dset r1 (by decide) (by decide) 1 _).dset r2 (by decide) (by decide) 2 _⟩, below_put3 (N.out.2.2.2.2.setCell (p := ⟨w.heap.size, 1, none⟩) (Nat.le_refl _) _) (Nat.le_succ _) _ _ _⟩
end Go.Proofs.Yticjfhagpmlieaa
