/- Layer 12: Loops, Above. -/
import Derived.Test.YtinonfgehbjneaaGphD
import Derived.Deep.LoopGhost
import Derived.WalkMore
namespace Go.Proofs.Ytinonfgehbjneaa
open Go.ChangeShapes Go.WideShapes Go.ChangeAt Go.RowKit Go.Maps
open Gr (Nd nmAt frAt cn leadsU leadsL)
set_option linter.unusedVariables false
set_option linter.unusedSimpArgs false

/-- The places of which P holds, rising. -/
def Rise (P : Nat → Prop) (L : List Nat) : Prop := L.Pairwise (· < ·) ∧ ∀ k, k ∈ L ↔ P k
theorem rise_uniq : ∀ {L M : List Nat}, L.Pairwise (· < ·) → M.Pairwise (· < ·) → (∀ k, k ∈ L ↔ k ∈ M) → L = M
  | [], [], _, _, _ => rfl
  | [], b :: m, _, _, h => absurd ((h b).2 (by simp)) (by simp)
  | a :: l, [], _, _, h => absurd ((h a).1 (by simp)) (by simp)
  | a :: l, b :: m, h1, h2, h => by
    rw [List.pairwise_cons] at h1 h2
    have hab : a = b := by
      rcases List.mem_cons.1 ((h a).1 (by simp)) with e | e
      · exact e
      · rcases List.mem_cons.1 ((h b).2 (by simp)) with e2 | e2
        · exact e2.symm
        · have x1 := h1.1 b e2
          have x2 := h2.1 a e
          omega
    subst hab
    refine congrArg (a :: ·) (rise_uniq h1.2 h2.2 (fun k => ?_))
    constructor
    · intro hk
      rcases List.mem_cons.1 ((h k).1 (List.mem_cons_of_mem _ hk)) with e | e
      · subst e
        have := h1.1 k hk
        omega
      · exact e
    · intro hk
      rcases List.mem_cons.1 ((h k).2 (List.mem_cons_of_mem _ hk)) with e | e
      · subst e
        have := h2.1 k hk
        omega
      · exact e
theorem Rise.uniq {P : Nat → Prop} {L M : List Nat} (h : Rise P L) (k : Rise P M) : L = M := rise_uniq h.1 k.1 (fun i => (h.2 i).trans (k.2 i).symm)
theorem Rise.of {P Q : Nat → Prop} {L : List Nat} (h : Rise P L) (e : ∀ k, P k ↔ Q k) : Rise Q L := ⟨h.1, fun k => (h.2 k).trans (e k)⟩
theorem Rise.len {P : Nat → Prop} {L : List Nat} (h : Rise P L) {n : Nat} (hn : ∀ k, P k → k < n) : L.length ≤ n :=
  Gr.nodup_len (h.1.imp (fun {a b} h e => by omega)) (fun k hk => hn k ((h.2 k).1 hk))
theorem Rise.more {P : Nat → Prop} {L : List Nat} {i : Nat} (h : Rise (fun k => k < i ∧ P k) L) (hi : P i) : Rise (fun k => k < i + 1 ∧ P k) (L ++ [i]) := by
  refine ⟨?_, fun k => ?_⟩
  · rw [List.pairwise_append]
    exact ⟨h.1, by simp, fun a ha b hb => by simp at hb; subst hb; exact ((h.2 a).1 ha).1⟩
  · rw [List.mem_append, h.2, List.mem_singleton]
    constructor
    · rintro (⟨h1, h2⟩ | rfl)
      · exact ⟨by omega, h2⟩
      · exact ⟨by omega, hi⟩
    · rintro ⟨h1, h2⟩
      rcases (by omega : k < i ∨ k = i) with h3 | h3
      · exact Or.inl ⟨h3, h2⟩
      · exact Or.inr h3
theorem Rise.skip {P : Nat → Prop} {L : List Nat} {i : Nat} (h : Rise (fun k => k < i ∧ P k) L) (hi : ¬ P i) : Rise (fun k => k < i + 1 ∧ P k) L := by
  refine h.of (fun k => ⟨fun h => ⟨by omega, h.2⟩, fun h2 => ⟨?_, h2.2⟩⟩)
  rcases (by omega : k < i ∨ k = i) with h3 | rfl
  · exact h3
  · exact absurd h2.2 hi
/-- Those of N that come of themselves. -/
def LoopsP (N : List Nd) (w : World) (e : Ending) (w' : World) : Prop :=
  ∃ r L, (e = .returned r ∧ Own w' w.heap.size 3 1 rowP r L ∧ Rise (fun k => k < N.length ∧ Gr.Comes N (nmAt N k) k) L) ∧ Below w.heap.size w w'
set_option maxRecDepth 20000 in
set_option maxHeartbeats 4000000 in
theorem Loops_any (v : Value) (N : List Nd) (w : World) (h : NdsAt w v N) (hn : N.length ≤ 1000) (ht : tot N N.length ≤ 26388279066700) :
    Calls Try.prog 19 #[v] w (LoopsP N w) := by
  obtain ⟨j0, hj, hy0, hy1, hy2⟩ := info_parts (P := Try.prog) (e := 3) (z := .int .i64 0) (size := 1) (bytes := 8) (by kernel_rfl)
  have hw := h
  have cLd := leads_any v N w h hn ht
  obtain ⟨l, h1, h2, h3⟩ := h
  obtain ⟨A, c, rfl, a1, a2, _⟩ := h1.shape
  obtain ⟨n, hnl⟩ : ∃ n, n = l.length := ⟨_, rfl⟩
  have hN : N.length = n := by rw [hnl, ← h2, List.length_map]
  rw [← hnl] at h1 a1 hw cLd ⊢
  have hn' : n ≤ 1000 := by omega
  have H := Lib.hid (And.intro h1 (And.intro h2 (And.intro h3 (And.intro hnl (And.intro hN (And.intro hw hn)))))); clear h1 h2 h3 hnl hN hw hn a1 ht
  have CL := Lib.hid cLd; clear cLd
  go_enter Try.func19, Try.ntmps19
  go_wp2
  go_step3
  go_wp2_with (go_at_call 29; refine CL.out.mono ?_; rintro e w1 ⟨m, ⟨rfl, hL⟩, hb1⟩; have K := Lib.hid (And.intro hL hb1); clear hL hb1)
  go_step3
  go_wp2
  clear CL
  go_loopg [4, 13] n (fun g lv iv wr => ∃ (i : Nat) (L : List Nat), i + g = n ∧ iv = .int .i64 (i : Int) ∧ Own wr w1.heap.size 3 1 rowP lv L ∧ Rise (fun k => k < i ∧ Gr.Comes N (nmAt N k) k) L ∧ Below w1.heap.size w1 wr)
  case atStart => exact ⟨0, [], by omega, rfl, Own.nil _ _ _ _ _, ⟨List.Pairwise.nil, fun k => by simp⟩, Below.refl _ _⟩
  case round =>
    rename World => wr0
    obtain ⟨i, L, hig, rfl, hO, hR, hb⟩ := hrel
    cases gk with
    | zero =>
      obtain rfl : i = n := by omega
      have M := Lib.hid (And.intro hO (And.intro hR hb)); clear hO hR hb
      go_wp2
      try rw [Exit.noGoto_ret]
      go_ret
      exact ⟨_, L, ⟨rfl, (M.out.1.lift K.out.2.size), by rw [H.out.2.2.2.2.1]; exact M.out.2.1⟩, bt K.out.2 M.out.2.2⟩
    | succ g =>
      have hlt : (i : Int) < (n : Int) := by omega
      have hil : i < l.length := by have := H.out.2.2.2.1; omega
      have hbw := bt K.out.2 hb
      obtain ⟨a, rfl, hca⟩ := (H.out.1.later hbw).cells rfl (by omega)
      obtain ⟨e0, e1⟩ := hca.row2 i hil rfl
      obtain ⟨f1, f2⟩ := at_node H.out.2.1 hil
      have hsz := (H.out.2.2.1 _ (List.getElem_mem hil)).2.1
      have hLi := hR.len (n := i) (fun k hk => hk.1)
      obtain ⟨lA, lc, rfl, _, _, _⟩ := hO.shape
      obtain ⟨ln, hln⟩ : ∃ ln, ln = L.length := ⟨_, rfl⟩
      rw [← hln] at hO hLi
      have HL := Lib.hid hln; clear hln
      generalize l[i]'hil = y at *
      obtain ⟨⟨nm, fr⟩, fA, fn, fc⟩ := y
      simp only at e0 e1 f1 f2 hsz
      change wr0.cell? ⟨(a.add (i * 2)).block, (a.add (i * 2)).off + 1, none⟩ = some (.slice fA fn fc) at e1
      obtain ⟨w4, hw4⟩ : ∃ w4, w4 = wr0.alloc (.cells #[.string nm, .slice fA fn fc] 45) := ⟨_, rfl⟩
      have hb4 : Below wr0.heap.size wr0 w4 := by rw [hw4]; exact ba _ _
      have cC := climb_any _ N w.heap.size m nm w4 (H.out.2.2.2.2.2.1.later (bt hbw hb4)) (K.out.1.later (bt hb hb4)) hsz H.out.2.2.2.2.2.2
      have M := Lib.hid (And.intro (hO.later hb4) (And.intro hR (And.intro (bt hb hb4) (And.intro f1 cC)))); clear hO hR hb hb4 hbw cC f1 f2 hca
      go_wp2_with fail
      rw [← hw4]
      clear hw4
      refine M.out.2.2.2.2.mono ?_
      rintro e w5 ⟨r, F, ⟨rfl, oF, nF, cF⟩, b5⟩
      have hFn : F.length ≤ n := Gr.nodup_len nF (fun k hk => by have := ((cF k).1 hk).lt; rw [H.out.2.2.2.2.1] at this; exact this)
      obtain ⟨rA, rc, rfl, _, _, _⟩ := oF.shape
      obtain ⟨fl, hfl⟩ : ∃ fl, fl = F.length := ⟨_, rfl⟩
      rw [← hfl] at oF hFn ⊢
      have h4 : w4.heap.size ≤ w5.heap.size := b5.size
      have Q := Lib.hid (And.intro (M.out.1.later b5) (And.intro (bt M.out.2.2.1 b5) (And.intro oF (And.intro cF hfl)))); clear oF nF cF b5 hfl
      go_wp2_with fail
      go_loopg [4, 24] fl (fun g2 lv2 tv wr => ∃ t : Nat, t + g2 = fl ∧ lv2 = .slice lA ln lc ∧ tv = .int .i64 (t : Int) ∧ (∀ j (h : j < F.length), j < t → ¬ (F[j]'h) = i) ∧ Below w5.heap.size w5 wr)
      case atStart => exact ⟨0, by omega, by rw [HL.out], rfl, fun j h hj => absurd hj (by omega), Below.refl _ _⟩
      case round =>
        rename World => wr1
        obtain ⟨t, htg, rfl, rfl, hno, hb1⟩ := hrel
        cases gk with
        | zero =>
          obtain rfl : t = fl := by omega
          have hnC : ¬ Gr.Comes N (nmAt N i) i := fun hc => by
            rw [M.out.2.2.2.1] at hc
            obtain ⟨j, hj, e⟩ := List.getElem_of_mem ((Q.out.2.2.2.1 i).2 hc)
            exact hno j hj (by have := Q.out.2.2.2.2; omega) e
          have U := Lib.hid (And.intro hnC hb1); clear hnC hno hb1
          go_wp2_with fail
          go_roundg g
          case measure => omega
          case rel => exact ⟨i + 1, L, by omega, by go_num, Q.out.1.later U.out.2, M.out.2.1.skip U.out.1, bt Q.out.2.1 U.out.2⟩
        | succ g2 =>
          have hlt2 : (t : Int) < (fl : Int) := by omega
          have htl : t < F.length := by have := Q.out.2.2.2.2; omega
          obtain ⟨gF, rfl, _, _, _, oc⟩ := (Q.out.2.2.1.later hb1).cells (f := rowP) (k := 1) (fun _ => rfl) rfl (by omega)
          have z0 := oc t htl 0 _ rfl
          simp only [Nat.mul_one, Nat.add_zero] at z0
          have hmem := List.getElem_mem htl
          have hno' : ¬ (F[t]'htl) = i → ∀ j (h : j < F.length), j < t + 1 → ¬ (F[j]'h) = i := fun hx j h hj => by
            rcases (by omega : j < t ∨ j = t) with h' | rfl
            · exact hno j h h'
            · exact hx
          generalize F[t]'htl = x at *
          by_cases hx : x = i
          · subst hx
            have hC : Gr.Comes N (nmAt N x) x := by rw [M.out.2.2.2.1]; exact (Q.out.2.2.2.1 x).1 hmem
            have U := Lib.hid (And.intro hC hb1); clear hC hno hno' hb1 oc hmem
            have hB1 := at_newP wr1 x
            have U2 := Lib.hid (And.intro (Q.out.1.later U.out.2) HL.out)
            go_wp2_with (at_builtin; refine wpList_append_loc _ rfl (.tmp 31) (.tmp 33) 31 rfl w1.heap.size 3 j0 (.int .i64 0) 1 8 Try.underlying31 hj hy0 hy1 hy2 rfl (by decide) (f := rowP) (fun _ => rfl) one_rowP _ L rfl (U2.out.1.later (ba _ _)) (some ⟨wr1.heap.size, 0, none⟩) 1 1 [x] rfl rfl hB1 (by have := U2.out.2; unfold maxLen; omega) (by have := U2.out.2; omega) (by have := (bt Q.out.2.1 U.out.2).size; simp only [World.size_alloc]; omega) ?_; intro v6 w6 hO6 hg6 hq6; have Z := Lib.hid (And.intro hO6 hg6); clear hO6 hg6 hq6)
            have bA := bt (bt Q.out.2.1 U.out.2) (ba wr1 (.cells #[.int .i64 (x : Int)] 3))
            have b6 := bA.trans (grownBy_below Z.out.2 bA.size (fun k hk => (Own.block U2.out.1 hk).1))
            go_roundg g
            case measure => omega
            case rel => exact ⟨x + 1, L ++ [x], by omega, by go_num, Z.out.1, M.out.2.1.more U.out.1, b6⟩
          · have hxi : ¬ (x : Int) = (i : Int) := by omega
            have U := Lib.hid (And.intro (hno' hx) hb1); clear hno hno' hb1 oc hmem hx
            go_wp2_with fail
            go_roundg g2
            case measure => omega
            case rel => exact ⟨t + 1, by omega, rfl, by go_num, U.out.1, U.out.2⟩
end Go.Proofs.Ytinonfgehbjneaa
