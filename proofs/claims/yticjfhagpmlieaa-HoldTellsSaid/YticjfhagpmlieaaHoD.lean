/- Waits that are held: how they lie in memory; the closures. -/
import Derived.Test.YticjfhagpmlieaaHoC
import Derived.Deep.RegionHeld3
namespace Go.Proofs.Yticjfhagpmlieaa
open Go.ChangeShapes Go.WideShapes Go.ChangeAt Go.RowKit
open Ho
set_option linter.unusedVariables false
set_option linter.unusedSimpArgs false

/-- All but blocks of these two types is as it was. -/
structure Frm (t1 t2 : TypeId) (w w' : World) : Prop where
  size : w.heap.size ≤ w'.heap.size
  same : ∀ k, k < w.heap.size → (∀ cs fr, w.heap[k]? ≠ some (.cells cs t1 fr)) → (∀ cs fr, w.heap[k]? ≠ some (.cells cs t2 fr)) → w'.heap[k]? = w.heap[k]?
theorem Frm.refl (t1 t2 : TypeId) (w : World) : Frm t1 t2 w w := ⟨Nat.le_refl _, fun _ _ _ _ => rfl⟩
theorem Frm.trans {t1 t2 : TypeId} {a b c : World} (h : Frm t1 t2 a b) (k : Frm t1 t2 b c) : Frm t1 t2 a c :=
  ⟨Nat.le_trans h.size k.size, fun i hi h1 h2 => by
    have e := h.same i hi h1 h2
    rw [k.same i (Nat.lt_of_lt_of_le hi h.size) (fun cs fr => by rw [e]; exact h1 cs fr) (fun cs fr => by rw [e]; exact h2 cs fr), e]⟩
theorem Frm.below {t1 t2 : TypeId} {w w' : World} (h : Below w.heap.size w w') : Frm t1 t2 w w' := ⟨h.size, fun k hk _ _ => h.block k hk⟩
theorem Frm.set1 {t1 t2 : TypeId} {w : World} {g : Nat} {cs : Array Value} {fr : Nat × Nat} (h : w.heap[g]? = some (.cells cs t1 fr)) (o : Nat) (u : Value) : Frm t1 t2 w (w.setCell ⟨g, o, none⟩ u) :=
  ⟨by simp [World.setCell], fun k hk h1 h2 => Below.heap_setCell _ _ _ _ (fun e => by have e' : k = g := e; subst e'; exact h1 _ _ h)⟩
theorem Frm.set2 {t1 t2 : TypeId} {w : World} {g : Nat} {cs : Array Value} {fr : Nat × Nat} (h : w.heap[g]? = some (.cells cs t2 fr)) (o : Nat) (u : Value) : Frm t1 t2 w (w.setCell ⟨g, o, none⟩ u) :=
  ⟨by simp [World.setCell], fun k hk h1 h2 => Below.heap_setCell _ _ _ _ (fun e => by have e' : k = g := e; subst e'; exact h2 _ _ h)⟩
theorem Frm.grown {t1 t2 : TypeId} {w w' : World} {row : Option Nat} (hg : w.grownBy w' row) (h : ∀ g, row = some g → ∃ cs, w.heap[g]? = some (.cells cs t2 (0, 0))) : Frm t1 t2 w w' :=
  ⟨hg.size, fun k hk h1 h2 => hg.block k hk (fun e => by obtain ⟨cs, hc⟩ := h k e.symm; exact h2 _ _ hc)⟩
theorem Own.frm {α : Type} {t1 t2 : TypeId} {w w' : World} {b : Nat} {e : TypeId} {k : Nat} {f : α → List Value} {v : Value} {l : List α} (h : Own w b e k f v l) (hF : Frm t1 t2 w w') (n1 : e ≠ t1) (n2 : e ≠ t2) : Own w' b e k f v l := by
  refine ⟨h.1, ?_⟩
  rcases h.2 with h0 | ⟨g, cap, cur, rfl, h1, h2, h3⟩
  · exact Or.inl h0
  · exact Or.inr ⟨g, cap, cur, rfl, h1, by rw [hF.same g (Array.getElem?_eq_some_iff.1 h2).1 (fun cs fr => by rw [h2]; simpa using fun _ e => absurd e n1) (fun cs fr => by rw [h2]; simpa using fun _ e => absurd e n2)]; exact h2, h3⟩
theorem Blk.frm {t1 t2 : TypeId} {w w' : World} {g : Nat} {t : TypeId} {cs : Array Value} (h : Blk w g t cs) (hF : Frm t1 t2 w w') (n1 : t ≠ t1) (n2 : t ≠ t2) : Blk w' g t cs := by
  have h' : w.heap[g]? = some (.cells cs t (0, 0)) := h
  exact (hF.same g h.lt (fun cs fr => by rw [h']; simpa using fun _ e => absurd e n1) (fun cs fr => by rw [h']; simpa using fun _ e => absurd e n2)).trans h


theorem Rws.frm {t1 t2 : TypeId} {w w' : World} {B : Nat} {vs : List SV} {p : List (List Int)} (h : Rws w B vs p) (hF : Frm t1 t2 w w') (n1 : 3 ≠ t1) (n2 : 3 ≠ t2) : Rws w' B vs p := ⟨h.1, fun j hj hj' => (h.2 j hj hj').frm hF n1 n2⟩
/-- A wait as it lies: what it says, and where its parts lie. -/
abbrev Wy := D × SV
abbrev rowW (y : Wy) : List Value := [.int .i64 y.1.1, sl y.2, .int .i64 y.1.2.2]
abbrev FrH := Frm 62 35
theorem PtsO.frm {w w' : World} {B : Nat} {v : Value} {p : List (List Int)} (h : PtsO w B v p) (hF : FrH w w') : PtsO w' B v p := by
  obtain ⟨vs, h1, h2⟩ := h
  exact ⟨vs, h1.frm hF (by decide) (by decide), h2.frm hF (by decide) (by decide)⟩
/-- Block d is a Hold of these waits; all lies from block B on. -/
structure HAt (w : World) (B d : Nat) (v : Value) (l : List Wy) : Prop where
  low : B ≤ d
  blk : Blk w d 62 #[v]
  row : Own w B 35 3 rowW v l
  pts : ∀ y ∈ l, PtsO w B (sl y.2) y.1.2.1
  fit : ∀ y ∈ l, Fit y.1.2.1
theorem HAt.later {w w' : World} {B d : Nat} {v : Value} {l : List Wy} (h : HAt w B d v l) (hb : Below w.heap.size w w') : HAt w' B d v l := ⟨h.low, h.blk.later hb, h.row.later hb, fun y hy => (h.pts y hy).later hb, h.fit⟩
theorem HAt.cells {w : World} {B d : Nat} {v : Value} {l : List Wy} (h : HAt w B d v l) : w.cell? ⟨d, 0, none⟩ = some v ∧ d < w.heap.size ∧ (∀ o, w.frozen? ⟨d, o, none⟩ = false) := ⟨h.blk.cell 0, h.blk.lt, h.blk.frozen⟩
theorem HAt.low' {w : World} {B d : Nat} {v : Value} {l : List Wy} (h : HAt w B d v l) : B ≤ w.heap.size := by have := h.low; have := h.blk.lt; omega
theorem or_any (v : Value) (a b : Int) (w : World) (h : At w 1 rowI v [a, b]) :
    Calls Try.prog 29 #[v] w fun e w' => e = .returned (.int .i64 (if a = 0 then b else a)) ∧ Below w.heap.size w w' := by
  obtain ⟨A, c, rfl, a1, a2, a3⟩ := h.shape
  obtain ⟨ad, rfl, hc⟩ := h.cells rfl (by simp)
  obtain ⟨r, hr⟩ : ∃ r, r = if a = 0 then b else a := ⟨_, rfl⟩
  rw [← hr]
  have H := Lib.hid (And.intro hc hr); clear a1 a2 a3 h hc hr
  go_enter Try.func29, Try.ntmps29
  go_wp2
  go_loopw [8] (fun iv wr => ∃ k : Nat, k ≤ 2 ∧ iv = .int .i64 (k : Int) ∧ (0 < k → a = 0) ∧ (1 < k → b = 0) ∧ Below w.heap.size w wr) (fun iv _ => 2 - (intOf iv).toNat)
  case atStart => exact ⟨0, by omega, rfl, fun h => by omega, fun h => by omega, Below.refl _ _⟩
  case round =>
    obtain ⟨k, hk, rfl, h1, h2, hb⟩ := hrel
    rcases (by omega : k = 0 ∨ k = 1 ∨ k = 2) with rfl | rfl | rfl
    · have x0 := (H.out.1.later hb).row1 0 (by simp) rfl
      simp only [List.getElem_cons_zero] at x0
      have hrr := H.out.2
      have e0 : ad.add (0 * 1) = ad := by simp [Addr.add]
      rw [e0] at x0
      by_cases h0 : a = 0
      · have h0' : (a != 0) = false := by simpa using h0
        have K := Lib.hid (And.intro hb h0); clear hb h0 h1 h2 hrr
        go_wp2
        go_roundw
        case rel => exact ⟨1, by omega, by go_num, fun _ => K.out.2, fun h => by omega, K.out.1⟩
        case measure => simp [intOf]
      · have h0' : (a != 0) = true := by simpa using h0
        rw [if_neg h0] at hrr
        have K := Lib.hid (And.intro hb hrr); clear hb h0 h1 h2 hrr
        go_wp2
        go_ret
        exact ⟨retI K.out.2.symm, K.out.1⟩
    · have x0 := (H.out.1.later hb).row1 1 (by simp) rfl
      simp only [List.getElem_cons_zero, List.getElem_cons_succ] at x0
      have hrr := H.out.2
      rw [if_pos (h1 (by omega))] at hrr
      have e0 : ad.add (1 * 1) = ⟨ad.block, ad.off + 1, none⟩ := by simp [Addr.add]
      rw [e0] at x0
      by_cases h0 : b = 0
      · have h0' : (b != 0) = false := by simpa using h0
        have K := Lib.hid (And.intro hb (And.intro h0 (h1 (by omega)))); clear hb h0 h1 h2 hrr
        go_wp2
        go_roundw
        case rel => exact ⟨2, by omega, by go_num, fun _ => K.out.2.2, fun h => K.out.2.1, K.out.1⟩
        case measure => simp [intOf]
      · have h0' : (b != 0) = true := by simpa using h0
        have K := Lib.hid (And.intro hb hrr); clear hb h0 h1 h2 hrr
        go_wp2
        go_ret
        exact ⟨retI K.out.2.symm, K.out.1⟩
    · have hrr := H.out.2
      rw [if_pos (h1 (by omega)), h2 (by omega)] at hrr
      have K := Lib.hid (And.intro hb hrr); clear hb h1 h2 hrr
      go_wp2
      go_ret
      exact ⟨retI K.out.2.symm, K.out.1⟩
theorem HAt.wait {w : World} {B d : Nat} {A : Option Addr} {n c : Nat} {l : List Wy} (h : HAt w B d (.slice A n c) l) (j : Nat) (hj : j < l.length) :
    ∃ g, A = some ⟨g, 0, none⟩ ∧ w.cell? ⟨g, j * 3, none⟩ = some (.int .i64 (l[j]'hj).1.1) ∧ w.cell? ⟨g, j * 3 + 1, none⟩ = some (sl (l[j]'hj).2) ∧ w.cell? ⟨g, j * 3 + 2, none⟩ = some (.int .i64 (l[j]'hj).1.2.2) ∧ (∀ x, w.frozen? ⟨g, x, none⟩ = false) ∧ g < w.heap.size := by
  obtain ⟨g, hg, _, hlt, hf, hc⟩ := h.row.cells (f := rowW) (k := 3) (fun _ => rfl) rfl (by omega)
  exact ⟨g, hg, hc j hj 0 _ rfl, hc j hj 1 _ rfl, hc j hj 2 _ rfl, hf, hlt⟩
set_option maxHeartbeats 1000000 in
theorem dueClo_any (B d bh bn : Nat) (v : Value) (l : List Wy) (now : Int) (k : Nat) (w : World) (h : HAt w B d v l) (hk : k < l.length) (hm : l.length ≤ 1000000) (hh : w.cell? ⟨bh, 0, none⟩ = some (.pointer (some ⟨d, 0, none⟩))) (hn : w.cell? ⟨bn, 0, none⟩ = some (.int .i64 now)) :
    Calls Try.prog 36 #[.int .i64 (k : Int), .pointer (some ⟨bh, 0, none⟩), .pointer (some ⟨bn, 0, none⟩)] w fun e w' => e = .returned (.bool (decide (now ≤ (l[k]'hk).1.1))) ∧ Below w.heap.size w w' := by
  obtain ⟨A, c, rfl, _, _, _⟩ := h.row.shape
  obtain ⟨g, rfl, x0, _, _, xf, xl⟩ := h.wait k hk
  obtain ⟨d0, dl, df⟩ := h.cells
  generalize (l[k]'hk).1.1 = u at *
  clear h
  go_enter Try.func36, Try.ntmps36
  go_wp2
  go_quiet (fail)
  go_wp2
  go_ret
  exact ⟨rfl, below_drewN (Below.refl _ _) _⟩
theorem kc_or (a b : D) : (if cmpI a.1 b.1 = 0 then ordP a.2.1 b.2.1 else cmpI a.1 b.1) = kc a b := rfl
set_option maxHeartbeats 2000000 in
theorem addClo_any (B d bh bw : Nat) (v : Value) (l : List Wy) (u x : Int) (s : SV) (p : List (List Int)) (k : Nat) (w : World) (h : HAt w B d v l) (hk : k < l.length) (hm : l.length ≤ 1000000) (hh : w.cell? ⟨bh, 0, none⟩ = some (.pointer (some ⟨d, 0, none⟩)))
    (hw : Blk w bw 35 #[.int .i64 u, sl s, .int .i64 x]) (hp : PtsAt w (sl s) p) :
    Calls Try.prog 28 #[.int .i64 (k : Int), .pointer (some ⟨bh, 0, none⟩), .pointer (some ⟨bw, 0, none⟩)] w fun e w' => e = .returned (.bool (decide (0 < kc (l[k]'hk).1 (u, p, x)))) ∧ Below w.heap.size w w' := by
  obtain ⟨A, c, rfl, _, _, _⟩ := h.row.shape
  obtain ⟨g, rfl, x0, x1, x2, xf, xl⟩ := h.wait k hk
  obtain ⟨d0, dl, df⟩ := h.cells
  have hP := (h.pts _ (List.getElem_mem hk)).pts
  generalize l[k]'hk = y at *
  obtain ⟨⟨u', p', x'⟩, s'⟩ := y
  obtain ⟨sA, sn, sc⟩ := s
  obtain ⟨tA, tn, tc⟩ := s'
  simp only at hP
  have hbh := World.block_lt_of_cell? w _ hh
  have cC : ∀ W, Calls Try.prog 30 #[.int .i64 u', .int .i64 u] W fun e w' => e = .returned (.int .i64 (cmpI u' u)) ∧ Below W.heap.size W w' := fun W => cmp64_any u' u W
  have cO : ∀ W, Below w.heap.size w W → Calls Try.prog 26 #[.slice tA tn tc, .slice sA sn sc] W fun e w' => e = .returned (.int .i64 (ordP p' p)) ∧ Below W.heap.size W w' := fun W hW => order_any _ _ _ _ W (hP.later hW) (hp.later hW)
  have hk1 := kc_or (u', p', x') (u, p, x)
  simp only at hk1
  simp only
  rw [← hk1]
  generalize cmpI u' u = r1 at *
  generalize ordP p' p = r2 at *
  have cR : ∀ v W, At W 1 rowI v [r1, r2] → Calls Try.prog 29 #[v] W fun e w' => e = .returned (.int .i64 (if r1 = 0 then r2 else r1)) ∧ Below W.heap.size W w' := fun v W hW => or_any v r1 r2 W hW
  generalize (if r1 = 0 then r2 else r1) = r at *
  have H := Lib.hid (And.intro cC (And.intro cO (And.intro h (And.intro hw cR)))); clear cC cO hk1 hP hp h cR
  obtain ⟨y0, y1, y2⟩ := hw.three
  clear hw
  go_enter Try.func28, Try.ntmps28
  go_wp2_with fail
  obtain ⟨W0, hW0⟩ : ∃ W0, W0 = w.alloc (.cells #[.int .i64 u', .slice tA tn tc, .int .i64 x'] 35) := ⟨_, rfl⟩
  have hb0 : Below w.heap.size w W0 := by rw [hW0]; exact ba _ _
  have hB0 : Blk W0 w.heap.size 35 #[.int .i64 u', .slice tA tn tc, .int .i64 x'] := by rw [hW0]; exact Blk.new _ _ _
  rw [← hW0]
  have hSS : ∀ W, Below W0.heap.size W0 W → (W.cell? ⟨w.heap.size, 0, none⟩ = some (.int .i64 u') ∧ W.cell? ⟨w.heap.size, 1, none⟩ = some (.slice tA tn tc) ∧ W.cell? ⟨bw, 0, none⟩ = some (.int .i64 u) ∧ W.cell? ⟨bw, 1, none⟩ = some (.slice sA sn sc)) := fun W hW => by
    obtain ⟨a0, a1, _⟩ := (hB0.later hW).three
    obtain ⟨a3, a4, _⟩ := ((H.out.2.2.2.1.later hb0).later hW).three
    exact ⟨a0, a1, a3, a4⟩
  have Y := Lib.hid (And.intro hSS hb0); clear hSS hb0 hW0 hB0 y0 y1 y2 x0 x1 x2 d0 hh
  go_region_held3 (fun w' => w'.cell? ⟨w.heap.size, 0, none⟩ = some (.int .i64 u') ∧ w'.cell? ⟨w.heap.size, 1, none⟩ = some (.slice tA tn tc) ∧ w'.cell? ⟨bw, 0, none⟩ = some (.int .i64 u) ∧ w'.cell? ⟨bw, 1, none⟩ = some (.slice sA sn sc))
    (exact Y.out.1 _ (by first | exact Below.refl _ _ | exact below_drew (Below.refl _ _) | exact Z1.out | exact Z2.out | exact bt Z2.out (ba _ _) | exact Z3.out))
    (first
      | (go_at_call 30; refine (H.out.1 _).mono ?_; rintro e w1 ⟨rfl, b1⟩; have Z1 := Lib.hid (bt (below_drew (Below.refl _ W0)) b1); clear b1)
      | (go_at_call 26; refine (H.out.2.1 _ (bt Y.out.2 Z1.out)).mono ?_; rintro e w2 ⟨rfl, b2⟩; have Z2 := Lib.hid (bt Z1.out b2); clear b2)
      | (go_at_call 29; refine (H.out.2.2.2.2 _ _ (Own.at_ (f := rowI) (k := 1) (fun _ => rfl) (own_lit (B := 0) [r1, r2] rfl (Nat.zero_le _) rfl (by simp [maxLen]) rfl rfl))).mono ?_; rintro e w3 ⟨rfl, b3⟩; have Z3 := Lib.hid (bt (bt Z2.out (ba _ _)) b3); clear b3))
  go_simp
  go_wp2
  go_ret
  exact ⟨rfl, bt Y.out.2 Z3.out⟩
end Go.Proofs.Yticjfhagpmlieaa
