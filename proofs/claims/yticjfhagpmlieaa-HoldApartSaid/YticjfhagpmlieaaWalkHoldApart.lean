/- HoldApart: what is told, and turned by who asked, turns nothing of what is held. -/
import Derived.Test.YticjfhagpmlieaaHoT
import Derived.Deep.DeepCutAuto
import Derived.Deep.CutBlock
import Derived.StillTailTactics
namespace Go.Proofs.Yticjfhagpmlieaa
open Go.ChangeShapes Go.WideShapes Go.ChangeAt Go.RowKit
open Ho
set_option linter.unusedVariables false
set_option linter.unusedSimpArgs false

/-- Acts that a law has copied, lists and all, in rows of its own. -/
def Cop (W : World) (B : Nat) (v : Value) (L Lo : List Ac) : Prop := Own W B 32 4 rowAc v Lo ∧ Lo.map Ac.d = L.map Ac.d ∧ ∀ a ∈ Lo, a.k = 0 ∧ PtsO W B (sl a.s) a.p ∧ (-9223372036854775808 ≤ a.x ∧ a.x ≤ 9223372036854775807) ∧ Fit a.p
theorem Cop.later {W W' : World} {B : Nat} {v : Value} {L Lo : List Ac} (h : Cop W B v L Lo) (hb : Below W.heap.size W W') : Cop W' B v L Lo := ⟨h.1.later hb, h.2.1, fun a ha => ⟨(h.2.2 a ha).1, (h.2.2 a ha).2.1.later hb, (h.2.2 a ha).2.2⟩⟩
theorem PtsO.app {w w' : World} {B b : Nat} {v u : Value} {p : List (List Int)} (h : PtsO w B v p) {e : TypeId} {k : Nat} {α : Type} {f : α → List Value} {l : List α} (ho : Own w b e k f u l) (n1 : 3 ≠ e) (n2 : 60 ≠ e) (hg : w.grownBy w' u.ownBlock) : PtsO w' B v p := by
  obtain ⟨vs, h1, h2⟩ := h
  exact ⟨vs, h1.grown hg (fun x hx => Own.apart h1 ho n2 x hx), h2.grown ho n1 hg⟩
theorem flk_d (L M : List Ac) (h : L.map Ac.d = M.map Ac.d) (k : Nat) : flk L k = flk M k := by
  have e : ∀ (L : List Ac) (T : List D), L.foldl (fun T a => ins T a.d) T = (L.map Ac.d).foldl ins T := by
    intro L
    induction L with
    | nil => intro T; rfl
    | cons a r ih => intro T; rw [List.foldl_cons, List.map_cons, List.foldl_cons, ih]
  unfold flk
  rw [e, e, List.map_take, List.map_take, h]
/-- What a law keeps while it writes its own lists. -/
structure Inv3 (w W : World) (N d1 d2 : Nat) (T : List D) (v : Value) (Lo : List Ac) (VS : Nat → List SV) : Prop where
  two : ∃ w1 : World, w1.heap.size = N ∧ Two (fun _ => False) w1 W d1 d2 T T
  row : Own W w.heap.size 32 4 rowAc v Lo
  heads : ∀ j (hj : j < Lo.length), Heads W w.heap.size N (sl (Lo[j]'hj).s) (VS j)
  bel : Below w.heap.size w W
theorem Inv3.later {w W W' : World} {N d1 d2 : Nat} {T : List D} {v : Value} {Lo : List Ac} {VS : Nat → List SV} (h : Inv3 w W N d1 d2 T v Lo VS) (hb : Below W.heap.size W W') : Inv3 w W' N d1 d2 T v Lo VS := by
  obtain ⟨w1, e1, h1⟩ := h.two
  exact ⟨⟨w1, e1, h1.later hb⟩, h.row.later hb, fun j hj => (h.heads j hj).later hb, h.bel.trans (hb.mono h.bel.size)⟩
theorem Heads.small {W : World} {B N : Nat} {v : Value} {vs : List SV} (h : Heads W B N v vs) : vs.length ≤ 9223372036854775807 ∧ ∀ k (hk : k < vs.length), (vs[k]'hk).2.1 ≤ 9223372036854775807 := by
  refine ⟨?_, fun k hk => ?_⟩
  · obtain ⟨_, _, _, _, a, b⟩ := h.1.shape
    unfold maxLen at b; omega
  · obtain ⟨q, h1, h2, _⟩ := h.2 _ (List.getElem_mem hk)
    obtain ⟨_, _, _, _, a, b⟩ := h2.shape
    unfold maxLen at b; omega
theorem Inv3.put {w W : World} {N d1 d2 : Nat} {T : List D} {v : Value} {Lo : List Ac} {VS : Nat → List SV} (h : Inv3 w W N d1 d2 T v Lo VS) {g : Nat} {cs : Array Value} (hB : Blk W g 3 cs) (hg : g < N) (hw : w.heap.size ≤ g) (o : Nat) (z : Int) : Inv3 w (W.setCell ⟨g, o, none⟩ (.int .i64 z)) N d1 d2 T v Lo VS := by
  obtain ⟨w1, e1, h1⟩ := h.two
  have hNW : N ≤ W.heap.size := by rw [← e1]; exact h1.bel.size
  have hs : (W.setCell ⟨g, o, none⟩ (.int .i64 z)).heap.size = W.heap.size := by simp [World.setCell]
  refine ⟨⟨tr N (W.setCell ⟨g, o, none⟩ (.int .i64 z)), tr_size _ _ (by rw [hs]; exact hNW), h1.re (by rw [hs]; exact Nat.le_refl _) (fun k hk hk' => Below.heap_setCell _ _ _ _ (fun e => ?_)) (by rw [tr_size _ _ (by rw [hs]; exact hNW), e1]) (tr_below _ _ (by rw [hs]; exact hNW))⟩, h.row.dset hB (by decide) o _, fun j hj => (h.heads j hj).put hB o z, h.bel.setCell (p := ⟨g, o, none⟩) hw _⟩
  have e' : k = g := e
  omega
set_option maxRecDepth 20000 in
set_option maxHeartbeats 8000000 in
theorem walk_HoldApart (v0 : Value) (L : List Ac) (w : World) (h0 : ActsR w v0 L) (b0 : L.length * 48 ≤ 140737488355328 ∧ ∀ a ∈ L, Fit a.p) :
    Calls Try.prog 7 #[v0] w fun e w' => e = .returned (.bool true) ∧ Below w.heap.size w w' := by
  obtain ⟨j0, hj, hy0, hy1, hy2⟩ := info_parts (P := Try.prog) (e := 32) (z := .agg #[.int .u8 0, .int .i64 0, .slice none 0 0, .int .i64 0]) (size := 4) (bytes := 48) (by kernel_rfl)
  obtain ⟨j1, ht, ht0, ht1, ht2⟩ := info_parts (P := Try.prog) (e := 3) (z := .int .i64 0) (size := 1) (bytes := 8) (by kernel_rfl)
  obtain ⟨j2, hv, hv0, hv1, hv2⟩ := info_parts (P := Try.prog) (e := 60) (z := .slice none 0 0) (size := 1) (bytes := 24) (by kernel_rfl)
  have hA := h0.ok b0.2
  obtain ⟨A, c, rfl, a1, a2, _⟩ := hA.1.shape
  have hLm : L.length ≤ 9223372036854775807 := by omega
  have hLc : L.length ≤ c := a1
  have hcm : c ≤ maxLen := a2
  have H := Lib.hid (And.intro hA (And.intro b0.2 h0)); clear hA b0 h0 a1 a2
  go_enter Try.func7, Try.ntmps7
  go_wp2_with fail
  go_at_call 8
  ((with_reducible refine (examples_any _).mono ?_); rintro e x1 ⟨rfl, bx1⟩)
  have B1 := Lib.hid bx1; clear bx1
  go_wp2_with fail
  go_loopw [4, 5] (fun lv iv wr => ∃ (i : Nat) (Lo : List Ac), i ≤ L.length ∧ i ≤ 20 ∧ iv = .int .i64 (i : Int) ∧ Lo.length = i ∧ Cop wr w.heap.size lv (L.take i) Lo ∧ Below w.heap.size w wr) (fun _ iv _ => 20 - (intOf iv).toNat)
  case atStart => exact ⟨0, [], Nat.zero_le _, Nat.zero_le _, rfl, rfl, ⟨Own.nil _ _ _ _ _, rfl, fun a ha => (List.not_mem_nil ha).elim⟩, B1.out⟩
  case round =>
    clear B1
    obtain ⟨i, Lo, hi, hi2, rfl, hLo, hC, hb⟩ := hrel
    obtain ⟨A4, c4, rfl, _, _, _⟩ := hC.1.shape
    rw [hLo] at hC ⊢
    by_cases hlt : i < L.length ∧ i < 20
    · obtain ⟨hlt1, hlt2⟩ := hlt
      have hltI : (i : Int) < 20 := by omega
      obtain ⟨ad, rfl, hc⟩ := H.out.1.1.cells rfl (by omega)
      obtain ⟨x0, x1', x2, x3⟩ := hc.row4 i hlt1 rfl
      have hAi := H.out.1.2 _ (List.getElem_mem hlt1)
      have hT : L.take (i + 1) = L.take i ++ [L[i]'hlt1] := List.take_succ_eq_append_getElem hlt1
      generalize L[i]'hlt1 = a at *
      obtain ⟨ak, au, ⟨aA, an, ac⟩, ax, ap⟩ := a
      simp only at x0 x1' x2 x3 hAi
      have hx : ∀ W, Below w.heap.size w W → W.cell? ⟨(ad.add (i * 4)).block, (ad.add (i * 4)).off + 1, none⟩ = some (.int .i64 au) ∧ W.cell? ⟨(ad.add (i * 4)).block, (ad.add (i * 4)).off + 2, none⟩ = some (.slice aA an ac) ∧ W.cell? ⟨(ad.add (i * 4)).block, (ad.add (i * 4)).off + 3, none⟩ = some (.int .i64 ax) := fun W hW => by
        refine ⟨?_, ?_, ?_⟩
        · rw [hW.cell (World.block_lt_of_cell? w _ x1')]; exact x1'
        · rw [hW.cell (World.block_lt_of_cell? w _ x2)]; exact x2
        · rw [hW.cell (World.block_lt_of_cell? w _ x3)]; exact x3
      have N := Lib.hid (And.intro hx (And.intro hC (And.intro hb (And.intro hAi (And.intro hT hLo))))); clear hx hC hb hAi hT hc x0 x1' x2 x3
      have hS8 : ∀ W, Below w.heap.size w W → W.cell? ⟨(ad.add (i * 4)).block, (ad.add (i * 4)).off + 1, none⟩ = some (.int .i64 au) ∧ W.cell? ⟨(ad.add (i * 4)).block, (ad.add (i * 4)).off + 3, none⟩ = some (.int .i64 ax) := fun W hW => ⟨(N.out.1 W hW).1, (N.out.1 W hW).2.2⟩
      have HS8 := Lib.hid hS8; clear hS8
      have hbd : ∀ o, Below w.heap.size w (wr.alloc o) := fun o => N.out.2.2.1.trans ((ba wr o).mono N.out.2.2.1.size)
      have HBD := Lib.hid hbd; clear hbd
      go_wp2_with fail
      go_region_held3 (fun w' => w'.cell? ⟨(ad.add (i * 4)).block, (ad.add (i * 4)).off + 1, none⟩ = some (.int .i64 au) ∧ w'.cell? ⟨(ad.add (i * 4)).block, (ad.add (i * 4)).off + 3, none⟩ = some (.int .i64 ax))
        (exact HS8.out _ (by first | exact N.out.2.2.1 | exact below_drew N.out.2.2.1 | exact HBD.out _ | exact below_drew (HBD.out _) | exact (below_drew N.out.2.2.1).trans ((ba wr.drew _).mono N.out.2.2.1.size)))
        (fail)
      all_goals go_simp
      go_wp2_with fail
      obtain ⟨Wb, hWb⟩ : ∃ Wb, Wb = (wr.alloc (.cells #[.int .u8 0, .int .i64 au, .slice none 0 0, .int .i64 ax] 32)).drew := ⟨_, rfl⟩
      have bWr : Below wr.heap.size wr Wb := by rw [hWb]; exact below_drew (ba _ _)
      have gWb : Blk Wb wr.heap.size 32 #[.int .u8 0, .int .i64 au, .slice none 0 0, .int .i64 ax] := by rw [hWb]; exact blk_drew (Blk.new _ _ _)
      rw [← hWb]
      obtain ⟨ps, pA, pE, pR⟩ := N.out.2.2.2.1.pts
      obtain ⟨_, _, pe, pm1, pm2, _⟩ := pA.shape
      simp only [sl, Value.slice.injEq] at pe
      obtain ⟨rfl, rfl, rfl⟩ := pe
      have hpm : ps.length ≤ 9223372036854775807 := by unfold maxLen at pm2; omega
      have hp24 : ps.length * 24 ≤ 140737488355328 := by rw [pE]; exact N.out.2.2.2.1.fit.1
      have pm3 : ps.length ≤ maxLen := by omega
      have M := Lib.hid (And.intro bWr (And.intro gWb (And.intro pA (And.intro pE (And.intro pR (And.intro hp24 pm3)))))); clear bWr gWb pA pE pR hWb hp24 pm1 pm2 pm3
      go_loopw [7] (fun kv wq => ∃ (k g : Nat) (D : Option Addr) (ys : List SV), k ≤ ps.length ∧ kv = .int .i64 (k : Int) ∧ ys.length = k ∧ Blk wq wr.heap.size 32 #[.int .u8 0, .int .i64 au, .slice D k g, .int .i64 ax] ∧ Own wq wr.heap.size 60 1 slc (.slice D k g) ys ∧ Rws wq wr.heap.size ys (ap.take k) ∧ Below wr.heap.size wr wq) (fun kv _ => ps.length - (intOf kv).toNat)
      case atStart => exact ⟨0, 0, none, [], Nat.zero_le _, rfl, rfl, M.out.2.1, Own.nil _ _ _ _ _, Rws.nil _ _, M.out.1⟩
      case round =>
        rename World => wq
        obtain ⟨k, g, D, ys, hk1, rfl, hys, gB, hO, hRw, hb⟩ := hrel
        have hbw : Below w.heap.size w wq := N.out.2.2.1.trans (hb.mono N.out.2.2.1.size)
        obtain ⟨z1, z2, z3⟩ := N.out.1 wq hbw
        by_cases hkl : k < ps.length
        · obtain ⟨pa, rfl, pc⟩ := M.out.2.2.1.cells rfl (by omega)
          have q0 := (pc.row1 k hkl rfl)
          rw [Nat.mul_one] at q0
          have hkp : k < ap.length := by rw [← M.out.2.2.2.1]; exact hkl
          have gx := M.out.2.2.2.2.1 k hkl hkp
          have gf := N.out.2.2.2.1.fit.2 _ (List.getElem_mem hkp)
          have hT := List.take_succ_eq_append_getElem hkp
          change w.cell? (pa.add k) = some (sl (ps[k]'hkl)) at q0
          generalize ap[k]'hkp = y at *
          generalize ps[k]'hkl = s at *
          obtain ⟨sA, sn, sc⟩ := s
          obtain ⟨_, _, pe2, pm4, pm5, _⟩ := gx.shape
          simp only [sl, Value.slice.injEq] at pe2
          obtain ⟨rfl, rfl, rfl⟩ := pe2
          have hld : ∀ W, Below wq.heap.size wq W → W.cell? ⟨(ad.add (i * 4)).block, (ad.add (i * 4)).off + 2, none⟩ = some (.slice (some pa) ps.length ac) ∧ W.cell? (pa.add k) = some (.slice sA y.length sc) ∧ W.cell? ⟨wr.heap.size, 2, none⟩ = some (.slice D k g) := fun W hW => by
            have hW' := hbw.trans (hW.mono hbw.size)
            refine ⟨(N.out.1 W hW').2.1, ?_, ((gB.later hW).cell 2)⟩
            rw [hW'.cell (World.block_lt_of_cell? w _ q0)]; exact q0
          have hk2 : k + 1 ≤ maxLen ∧ (k + 1) * 24 ≤ 140737488355328 := ⟨by have := M.out.2.2.2.2.2.2; omega, by have := M.out.2.2.2.2.2.1; omega⟩
          have hy8 : y.length ≤ maxLen := by omega
          have R := Lib.hid (And.intro gB (And.intro hO (And.intro hRw (And.intro hbw (And.intro hb (And.intro gx (And.intro gf (And.intro hT (And.intro hys (And.intro hld (And.intro hk2 hy8))))))))))); clear gB hO hRw hbw hb gx gf hT hys hld hk2 q0 pc pm4 pm5 hy8 z1 z2 z3
          obtain ⟨z2, z4, z5⟩ := R.out.2.2.2.2.2.2.2.2.2.1 wq (Below.refl _ _)
          go_upto_block 3 with fail
          go_cut [] (fun wx => ∃ (g' : Nat) (D' : Option Addr) (s' : SV), Blk wx wr.heap.size 32 #[.int .u8 0, .int .i64 au, .slice D' (k + 1) g', .int .i64 ax] ∧ Own wx wr.heap.size 60 1 slc (.slice D' (k + 1) g') (ys ++ [s']) ∧ Rws wx wr.heap.size (ys ++ [s']) (ap.take (k + 1)) ∧ Below wr.heap.size wr wx)
          case first =>
            go_wp2_with fail
            go_region_law (first
              | (refine step_append_at rfl (.const (.slice none 0 0)) (.tmp 61) 60 rfl wr.heap.size 3 j1 (.int .i64 0) 1 8 Try.underlying60 ht ht0 ht1 ht2 rfl (by decide) (f := rowI) (fun _ => rfl) (fun _ u hu => by simp at hu; subst hu; rfl) (.slice none 0 0) [] (by simp [Act.eval, Act.put]) (by exact Own.nil _ _ _ _ _) sA y.length sc y rfl (by simp [Act.eval, Act.put]) (by exact R.out.2.2.2.2.2.1.later (below_drew R.out.2.2.2.1)) (by have := R.out.2.2.2.2.2.2.2.2.2.2.2; simpa using this) (by have := R.out.2.2.2.2.2.2.1; simpa using this) (by exact R.out.2.2.2.2.1.size) ?_; intro v5 w5 hO5 hg5; rw [List.nil_append] at hO5; obtain ⟨A5, n5, c5, rfl⟩ := own_shape hO5; have b5 : Below wq.heap.size wq w5 := (below_drew (Below.refl _ _)).trans (grown_none hg5); obtain ⟨z2, z4, z5⟩ := R.out.2.2.2.2.2.2.2.2.2.1 w5 b5; have z5a : ∀ o, (w5.alloc o).cell? ⟨wr.heap.size, 2, none⟩ = some (.slice D k g) := (fun o => (R.out.2.2.2.2.2.2.2.2.2.1 (w5.alloc o) (bt b5 (ba w5 o))).2.2); have Z5 := Lib.hid (And.intro hO5 b5); clear hO5 hg5 b5)
              | (refine step_append_own rfl (.tmp 53) (.tmp 63) 30 rfl wr.heap.size 60 j2 (.slice none 0 0) 1 24 Try.underlying30 hv hv0 hv1 hv2 rfl (by decide) (.slice D k g) k _ (by simp [Act.eval, Act.put]) (by have := R.out.2.1.later (bt Z5.out.2 (ba w5 (.cells #[.slice A5 n5 c5] 60))); unfold Own at this; rw [R.out.2.2.2.2.2.2.2.2.1] at this; exact this) ⟨_, 0, none⟩ 1 1 (slc (A5, n5, c5)) (by simp [Act.eval, Act.put]; rfl) rfl (by exact new_cells rfl _ _) (by simp [Value.oneCell']) R.out.2.2.2.2.2.2.2.2.2.2.1.1 R.out.2.2.2.2.2.2.2.2.2.2.1.2 (by have := (R.out.2.2.2.2.1.trans (Z5.out.2.mono R.out.2.2.2.2.1.size)).size; simp only [World.size_alloc]; omega) ?_; intro v6 w6 hO6 hg6 _; have hO6' : Own w6 wr.heap.size 60 1 slc v6 (ys ++ [(A5, n5, c5)]) := Own.more R.out.2.2.2.2.2.2.2.2.1.symm hO6; obtain ⟨A6, c6, rfl, _⟩ := hO6'.shape; have e6 : (ys ++ [(A5, n5, c5)]).length = k + 1 := (by rw [List.length_append, R.out.2.2.2.2.2.2.2.2.1]; rfl); rw [e6] at hO6' ⊢; have hBa := bt Z5.out.2 (ba w5 (.cells #[.slice A5 n5 c5] 60)); have gB6 := (R.out.1.later hBa).grown hg6 ((R.out.2.1.later hBa).ne_blk (v := .slice D k g) (R.out.1.later hBa) (by decide)); have f0 := gB6.cell 2; have f1 := gB6.lt; have f2 := gB6.frozen; have Z6 := Lib.hid (And.intro hO6' (And.intro hg6 (And.intro gB6 hBa))); clear hO6 hO6' hg6 gB6 hBa e6))
            all_goals go_wp2_with fail
            all_goals go_meet
            all_goals
              have s6 := Z6.out.2.2.1.set_ 2 (.slice A6 (k + 1) c6)
              have hOw := R.out.2.1.later Z6.out.2.2.2
              refine ⟨c6, A6, (A5, n5, c5), by simpa using s6, Z6.out.1.dset Z6.out.2.2.1 (by decide) 2 _, ?_, ?_⟩
              · rw [R.out.2.2.2.2.2.2.2.1]
                exact (((R.out.2.2.1.later Z6.out.2.2.2).snoc (Z5.out.1.later (ba w5 _))).grown hOw (by decide) Z6.out.2.1).dset Z6.out.2.2.1 (by decide) 2 _
              · have h1 : Below wr.heap.size wr w6 := (R.out.2.2.2.2.1.trans (Z6.out.2.2.2.mono R.out.2.2.2.2.1.size)).trans (grownBy_below Z6.out.2.1 (by have := (R.out.2.2.2.2.1.trans (Z5.out.2.mono R.out.2.2.2.2.1.size)).size; simp only [World.size_alloc]; omega) (fun x hx => (hOw.block hx).1))
                exact h1.setCell (p := ⟨wr.heap.size, 2, none⟩) (Nat.le_refl _) _
          case rest =>
            obtain ⟨g', D', s', gB', hO', hRw', hb'⟩ := hcut
            have S := Lib.hid (And.intro gB' (And.intro hO' (And.intro hRw' (And.intro hb' (by rw [List.length_append, R.out.2.2.2.2.2.2.2.2.1]; rfl : (ys ++ [s']).length = k + 1))))); clear gB' hO' hRw' hb'
            go_wp2
            go_roundw
            case rel => exact ⟨k + 1, g', D', ys ++ [s'], by omega, by go_num, S.out.2.2.2.2, S.out.1, S.out.2.1, S.out.2.2.1, S.out.2.2.2.1⟩
            case measure => simp [intOf]; omega
        · obtain rfl : k = ps.length := by omega
          have b0' := gB.cell 0
          have b1' := gB.cell 1
          have b2' := gB.cell 2
          have b3' := gB.cell 3
          have hT2 : ap.take ps.length = ap := by rw [M.out.2.2.2.1, List.take_length]
          rw [hT2] at hRw
          have hi48 : i + 1 ≤ maxLen ∧ (i + 1) * 48 ≤ 140737488355328 := by unfold maxLen; omega
          have R := Lib.hid (And.intro (N.out.2.1.later hb) (And.intro hO (And.intro hRw (And.intro hbw hi48)))); clear hO hRw hbw hb gB hT2 hi48
          go_wp2_with (at_builtin; refine wpList_append_own _ rfl (.tmp 66) (.tmp 68) 22 rfl w.heap.size 32 j0 (.agg #[.int .u8 0, .int .i64 0, .slice none 0 0, .int .i64 0]) 4 48 Try.underlying22 hj hy0 hy1 hy2 rfl (by decide) (.slice A4 i c4) i _ rfl (by have := R.out.1.1.later (ba wq (.cells #[.int .u8 0, .int .i64 au, .slice D ps.length g, .int .i64 ax] 32)); unfold Own at this; rw [N.out.2.2.2.2.2] at this; exact this) ⟨_, 0, none⟩ 1 1 (rowAc ⟨0, au, (D, ps.length, g), ax, ap⟩) rfl rfl (new_cells rfl _ _) (by simp [Value.oneCell']) R.out.2.2.2.2.1 R.out.2.2.2.2.2 (by have := R.out.2.2.2.1.size; simp only [World.size_alloc]; omega) ?_; intro v5 w5 hO5 hg5 _; have Z5 := Lib.hid (And.intro hO5 hg5); clear hO5 hg5)
          go_roundw
          case rel =>
            have bal := ba wq (.cells #[.int .u8 0, .int .i64 au, .slice D ps.length g, .int .i64 ax] 32)
            have hOw := R.out.1.1.later bal
            refine ⟨i + 1, Lo ++ [⟨0, au, (D, ps.length, g), ax, ap⟩], by omega, by omega, by go_num, by rw [List.length_append, N.out.2.2.2.2.2]; rfl, ⟨Own.more N.out.2.2.2.2.2.symm Z5.out.1, ?_, fun a ha => ?_⟩, ?_⟩
            · rw [List.map_append, R.out.1.2.1, N.out.2.2.2.2.1, List.map_append]; rfl
            · rcases List.mem_append.1 ha with ha | ha
              · obtain ⟨q1, q2, q3⟩ := R.out.1.2.2 a ha
                exact ⟨q1, (q2.later bal).app hOw (by decide) (by decide) Z5.out.2, q3⟩
              · obtain rfl : a = _ := by simpa using ha
                have hsz := N.out.2.2.1.size
                exact ⟨rfl, (PtsO.later ⟨ys, R.out.2.1.lift hsz, R.out.2.2.1.1, fun j hj hj' => (R.out.2.2.1.2 j hj hj').lift hsz⟩ bal).app hOw (by decide) (by decide) Z5.out.2, N.out.2.2.2.1.x, N.out.2.2.2.1.fit⟩
            · have h1 := R.out.2.2.2.1.trans (bal.mono R.out.2.2.2.1.size)
              exact h1.trans (grownBy_below Z5.out.2 h1.size (fun x hx => (hOw.block hx).1))
          case measure => simp [intOf]; omega
    · have hwr : w.heap.size ≤ wr.heap.size := hb.size
      have hE : ¬ i < L.length ∨ (i < L.length ∧ i = 20) := by omega
      have hn20 : i ≤ 20 := hi2
      have hni : (i : Int) ≤ (L.length : Int) := by omega
      have hic : i ≤ c := by omega
      have hTl : (L.take i).length = i := by rw [List.length_take]; omega
      obtain ⟨T, hT⟩ : ∃ T, T = flk Lo i := ⟨_, rfl⟩
      have hT2 : flk (L.take i) i = T := by rw [hT]; exact flk_d _ _ hC.2.1.symm i
      have hTn : T.length = i := by rw [hT]; exact flk_len Lo i (by omega)
      have cF1 : Calls Try.prog 25 #[.slice A4 i c4] wr (fun e w' => ∃ d, (e = .returned (.pointer (some ⟨d, 0, none⟩)) ∧ HX (fun _ => False) w' wr.heap.size d T) ∧ Below wr.heap.size wr w') := by
        have := filled_any (.slice A4 i c4) Lo wr ⟨Own.at_ (f := rowAc) (k := 4) (fun _ => rfl) hC.1, fun a ha => ⟨by rw [(hC.2.2 a ha).1]; omega, (hC.2.2 a ha).2.2.1, (hC.2.2 a ha).2.1.pts, (hC.2.2 a ha).2.2.2⟩⟩
        unfold FilP at this
        rw [hLo, show min i 30 = i by omega, ← hT] at this
        exact this
      have cF2 : ∀ W, Below w.heap.size w W → Calls Try.prog 25 #[.slice A i c] W (fun e w' => ∃ d, (e = .returned (.pointer (some ⟨d, 0, none⟩)) ∧ HX (fun _ => False) w' W.heap.size d T) ∧ Below W.heap.size W w') := fun W hW => by
        have := filled_any (.slice A i c) (L.take i) W ⟨(H.out.1.1.later hW).take i hi, fun a ha => (H.out.1.2 a (List.mem_of_mem_take ha)).later hW⟩
        unfold FilP at this
        rw [hTl, show min i 30 = i by omega, hT2] at this
        exact this
      obtain ⟨VS, hVS⟩ := Classical.axiomOfChoice (show ∀ j, ∃ vs : List SV, ∀ hj : j < Lo.length, Heads wr w.heap.size wr.heap.size (sl (Lo[j]'hj).s) vs from fun j => by
        by_cases hj : j < Lo.length
        · obtain ⟨vs, h1, _⟩ := (hC.2.2 _ (List.getElem_mem hj)).2.1.heads
          exact ⟨vs, fun _ => h1⟩
        · exact ⟨[], fun h => absurd h hj⟩)
      have K := Lib.hid (And.intro cF1 (And.intro cF2 (And.intro hC.1 (And.intro hVS (And.intro hb (And.intro hLo hTn)))))); clear cF1 cF2 hC hVS hb hT hT2 hTl hLo hTn
      have hexit : ((i : Int) < (L.length : Int) ∧ (i : Int) < 20) = False := by simp; omega
      rcases hE with hE | ⟨hE, hE2⟩
      all_goals first
        | (have hE3 : ¬ (i : Int) < 20 := by omega
           have HE2 := Lib.hid hE2; clear hE2
           skip)
        | skip
      all_goals
        clear hexit
        go_wp2_with fail
        try go_at_call 25
        refine (K.out.1).mono ?_
        rintro e x2 ⟨d1, ⟨rfl, hX1⟩, bx2⟩
        go_wp2_with fail
        try go_at_call 25
        refine (K.out.2.1 _ (K.out.2.2.2.2.1.trans (bx2.mono K.out.2.2.2.2.1.size))).mono ?_
        rintro e x3 ⟨d2, ⟨rfl, hX2⟩, bx3⟩
        have hI : Inv3 w x3 wr.heap.size d1 d2 T (.slice A4 i c4) Lo VS := ⟨⟨wr, rfl, Two.mk' hX1 bx2 hX2 bx3⟩, K.out.2.2.1.later (bt bx2 bx3), fun j hj => (K.out.2.2.2.1 j hj).later (bt bx2 bx3), K.out.2.2.2.2.1.trans ((bt bx2 bx3).mono K.out.2.2.2.2.1.size)⟩
        have K2 := Lib.hid (And.intro hI (And.intro K.out.2.2.2.2.2.1 K.out.2.2.2.2.2.2)); clear hI hX1 hX2 bx2 bx3 K
        go_wp2_with fail
        go_loopw [10] (fun iv wq => ∃ a : Nat, a ≤ i ∧ iv = .int .i64 (a : Int) ∧ Inv3 w wq wr.heap.size d1 d2 T (.slice A4 i c4) Lo VS) (fun iv _ => i - (intOf iv).toNat)
        case atStart => exact ⟨0, Nat.zero_le _, rfl, K2.out.1⟩
        case round =>
          rename World => wq
          obtain ⟨a, ha, rfl, hI⟩ := hrel
          by_cases hal : a < i
          · have haL : a < Lo.length := by rw [K2.out.2.1]; exact hal
            obtain ⟨ga, rfl, _⟩ := hI.row.cells (f := rowAc) (k := 4) (fun _ => rfl) rfl (by omega)
            obtain ⟨Aa, ca, hsa, _, _, _⟩ := (hI.heads a haL).1.shape
            obtain ⟨va, hva⟩ : ∃ va, va = VS a := ⟨_, rfl⟩
            rw [← hva] at hsa
            have hCell : ∀ wp, Inv3 w wp wr.heap.size d1 d2 T (.slice (some ⟨ga, 0, none⟩) i c4) Lo VS → wp.cell? ⟨ga, a * 4 + 2, none⟩ = some (.slice Aa va.length ca) ∧ Heads wp w.heap.size wr.heap.size (.slice Aa va.length ca) va := fun wp h => by
              obtain ⟨g', hg', _, _, _, hc'⟩ := h.row.cells (f := rowAc) (k := 4) (fun _ => rfl) rfl (by omega)
              obtain rfl : ga = g' := by simpa using hg'
              have r2 := hc' a haL 2 _ rfl
              rw [hsa] at r2
              have h5 := h.heads a haL
              rw [hsa, ← hva] at h5
              exact ⟨r2, h5⟩
            have hvs := (hCell wq hI).2.small.1
            have HI := Lib.hid (And.intro hI hCell); clear hI hCell hsa hva
            have hai : (a : Int) < (i : Int) := by omega
            go_wp2_with fail
            go_loopw [11] (fun kv wp => ∃ k : Nat, k ≤ va.length ∧ kv = .int .i64 (k : Int) ∧ Inv3 w wp wr.heap.size d1 d2 T (.slice (some ⟨ga, 0, none⟩) i c4) Lo VS) (fun kv _ => va.length - (intOf kv).toNat)
            case atStart => exact ⟨0, Nat.zero_le _, rfl, HI.out.1⟩
            case round =>
              rename World => wp
              obtain ⟨k, hk1, rfl, hI⟩ := hrel
              obtain ⟨r2, hH⟩ := HI.out.2 wp hI
              by_cases hkl : k < va.length
              · obtain ⟨gh, rfl, _, _, _, _⟩ := hH.1.cells (f := slc) (k := 1) (fun _ => rfl) rfl (by omega)
                obtain ⟨sk, hsk⟩ : ∃ sk, sk = va[k]'hkl := ⟨_, rfl⟩
                have hCel2 : ∀ wp, Inv3 w wp wr.heap.size d1 d2 T (.slice (some ⟨ga, 0, none⟩) i c4) Lo VS → wp.cell? ⟨gh, k, none⟩ = some (.slice sk.1 sk.2.1 sk.2.2) := fun wp h => by
                  obtain ⟨g', hg', _, _, _, hc'⟩ := (HI.out.2 wp h).2.1.cells (f := slc) (k := 1) (fun _ => rfl) rfl (by omega)
                  obtain rfl : gh = g' := by simpa using hg'
                  have := hc' k hkl 0 _ rfl
                  rw [Nat.mul_one, Nat.add_zero, ← hsk] at this
                  exact this
                have hCel3 : ∀ wp (n : Nat), Inv3 w wp wr.heap.size d1 d2 T (.slice (some ⟨ga, 0, none⟩) i c4) Lo VS → n < sk.2.1 → ∃ (g c : Nat) (z : Int) (cs : Array Value), sk = (some ⟨g, 0, none⟩, sk.2.1, c) ∧ w.heap.size ≤ g ∧ g < wr.heap.size ∧ wp.cell? ⟨g, n, none⟩ = some (.int .i64 z) ∧ (∀ o, wp.frozen? ⟨g, o, none⟩ = false) ∧ g < wp.heap.size ∧ Blk wp g 3 cs := fun wp n h hn => by
                  have := (HI.out.2 wp h).2.cell k hkl n (by rw [← hsk]; exact hn)
                  rw [← hsk] at this
                  exact this
                have hskm : sk.2.1 ≤ 9223372036854775807 := by rw [hsk]; exact hH.small.2 k hkl
                have HJ := Lib.hid (And.intro hI (And.intro hCel2 hCel3)); clear hI hCel2 hCel3 hsk hH
                clear r2
                obtain ⟨r2, _⟩ := HI.out.2 wp HJ.out.1
                go_wp2_with fail
                go_loopw [12] (fun nv wo => ∃ n : Nat, n ≤ sk.2.1 ∧ nv = .int .i64 (n : Int) ∧ Inv3 w wo wr.heap.size d1 d2 T (.slice (some ⟨ga, 0, none⟩) i c4) Lo VS) (fun nv _ => sk.2.1 - (intOf nv).toNat)
                case atStart => exact ⟨0, Nat.zero_le _, rfl, HJ.out.1⟩
                case round =>
                  rename World => wo
                  obtain ⟨n, hn1, rfl, hI⟩ := hrel
                  obtain ⟨r3, _⟩ := HI.out.2 wo hI
                  have r4 := HJ.out.2.1 wo hI
                  by_cases hnl : n < sk.2.1
                  · obtain ⟨g, c', z, cs, hsk, hg1, hg2, r5, r6, r7, hB⟩ := HJ.out.2.2 wo n hI hnl
                    obtain ⟨sA, sn, sc⟩ := sk
                    simp only [Prod.mk.injEq, true_and] at hsk
                    obtain ⟨rfl, rfl⟩ := hsk
                    simp only at r4 hnl hskm hn1
                    have hput := fun z => hI.put hB hg2 hg1 n z
                    have HP := Lib.hid hput; clear hput hI hB
                    go_wp2_with fail
                    go_still_tail 22, (by kernel_rfl)
                    go_wp2
                    go_roundw
                    case rel => exact ⟨n + 1, by omega, by go_num, (HP.out _).later (below_drew (Below.refl _ _))⟩
                    case measure => simp [intOf]; omega
                  · have HP := Lib.hid hI; clear hI
                    obtain rfl : n = sk.2.1 := by omega
                    go_wp2
                    go_roundw
                    case rel => exact ⟨k + 1, by omega, by go_num, HP.out⟩
                    case measure => simp [intOf]; omega
              · obtain rfl : k = va.length := by omega
                have HP := Lib.hid hI; clear hI hH
                go_wp2
                go_roundw
                case rel => exact ⟨a + 1, by omega, by go_num, HP.out⟩
                case measure => simp [intOf]; omega
          · obtain rfl : a = i := by omega
            have K3 := Lib.hid (And.intro hI.two (And.intro hI.bel K2.out.2.2)); clear hI K2
            go_wp2_with fail
            go_loopw [13] (fun iv wp => ∃ b : Nat, b ≤ a ∧ iv = .int .i64 (b : Int) ∧ (∃ w1 : World, w1.heap.size = wr.heap.size ∧ Two (fun _ => False) w1 wp d1 d2 T T) ∧ Below w.heap.size w wp) (fun iv _ => a - (intOf iv).toNat)
            case atStart => exact ⟨0, Nat.zero_le _, rfl, K3.out.1, K3.out.2.1⟩
            case round =>
              rename World => wp
              obtain ⟨b, hb, rfl, ⟨w1, ew1, hT⟩, hbel⟩ := hrel
              have cL := hT.len1
              rw [K3.out.2.2] at cL
              by_cases hba : b < a
              · have hbT : b < T.length := by rw [K3.out.2.2]; exact hba
                have cA : ∀ W, Below wp.heap.size wp W → Calls Try.prog 22 #[.pointer (some ⟨d1, 0, none⟩), .int .i64 (b : Int)] W (AtY (T[b]'hbT) W) := fun W hW => pad_at (hT.later hW) hbT rfl
                generalize T[b]'hbT = t at *
                obtain ⟨u, p, x⟩ := t
                have HA := Lib.hid (And.intro cL (And.intro cA (And.intro hT (And.intro hbel ew1)))); clear cL cA hT hbel ew1
                go_wp2_with fail
                try go_at_call 21
                refine (HA.out.1).mono ?_
                rintro e y0 ⟨rfl, by0⟩
                have hba2 : (b : Int) < (a : Int) := by omega
                have HB := Lib.hid by0; clear by0
                go_wp2_with fail
                try go_at_call 22
                refine (HA.out.2.1 _ HB.out).mono ?_
                rintro e y1 ⟨⟨sA, sn, sc⟩, ⟨rfl, hS1⟩, by1⟩
                obtain ⟨W1, hW1⟩ : ∃ W1, W1 = y1.alloc (.cells #[.int .i64 u, .slice sA sn sc, .int .i64 x] 35) := ⟨_, rfl⟩
                have bW2 : Below y1.heap.size y1 W1 := by rw [hW1]; exact ba _ _
                have gW1 : Blk W1 y1.heap.size 35 #[.int .i64 u, .slice sA sn sc, .int .i64 x] := by rw [hW1]; exact Blk.new _ _ _
                obtain ⟨vs, hH, hvp⟩ := (hS1.later bW2).heads
                clear hvp
                obtain ⟨_, _, hse, _⟩ := hH.1.shape
                simp only [sl, Value.slice.injEq] at hse
                obtain ⟨rfl, rfl, rfl⟩ := hse
                have hvs := hH.small
                have HC := Lib.hid (And.intro (bt by1 bW2) (And.intro gW1 (And.intro hH hvs.2))); clear gW1 hH by1 bW2 hS1
                obtain ⟨hvs1, _⟩ := hvs
                go_wp2_with fail
                rw [← hW1]
                clear hW1
                go_loopw [16] (fun kv wo => ∃ k : Nat, k ≤ vs.length ∧ kv = .int .i64 (k : Int) ∧ Below y0.heap.size y0 wo ∧ Blk wo y1.heap.size 35 #[.int .i64 u, .slice sA vs.length sc, .int .i64 x] ∧ Heads wo y0.heap.size W1.heap.size (.slice sA vs.length sc) vs) (fun kv _ => vs.length - (intOf kv).toNat)
                case atStart => exact ⟨0, Nat.zero_le _, rfl, HC.out.1, HC.out.2.1, HC.out.2.2.1⟩
                case round =>
                  rename World => wo
                  obtain ⟨k, hk1, rfl, hbo, gB, hH⟩ := hrel
                  have z1 := gB.three.2.1
                  by_cases hkl : k < vs.length
                  · obtain ⟨gh, rfl, _, _, _, _⟩ := hH.1.cells (f := slc) (k := 1) (fun _ => rfl) rfl (by omega)
                    obtain ⟨sk, hsk⟩ : ∃ sk, sk = vs[k]'hkl := ⟨_, rfl⟩
                    have hskm : sk.2.1 ≤ 9223372036854775807 := by rw [hsk]; exact HC.out.2.2.2 k hkl
                    have hCel2 : ∀ wo, Heads wo y0.heap.size W1.heap.size (.slice (some ⟨gh, 0, none⟩) vs.length sc) vs → wo.cell? ⟨gh, k, none⟩ = some (.slice sk.1 sk.2.1 sk.2.2) := fun wo h => by
                      obtain ⟨g', hg', _, _, _, hc'⟩ := h.1.cells (f := slc) (k := 1) (fun _ => rfl) rfl (by omega)
                      obtain rfl : gh = g' := by simpa using hg'
                      have := hc' k hkl 0 _ rfl
                      rw [Nat.mul_one, Nat.add_zero, ← hsk] at this
                      exact this
                    have hCel3 : ∀ wo (n : Nat), Heads wo y0.heap.size W1.heap.size (.slice (some ⟨gh, 0, none⟩) vs.length sc) vs → n < sk.2.1 → ∃ (g c : Nat) (z : Int) (cs : Array Value), sk = (some ⟨g, 0, none⟩, sk.2.1, c) ∧ y0.heap.size ≤ g ∧ g < W1.heap.size ∧ wo.cell? ⟨g, n, none⟩ = some (.int .i64 z) ∧ (∀ o, wo.frozen? ⟨g, o, none⟩ = false) ∧ g < wo.heap.size ∧ Blk wo g 3 cs := fun wo n h hn => by
                      have := h.cell k hkl n (by rw [← hsk]; exact hn)
                      rw [← hsk] at this
                      exact this
                    have HJ := Lib.hid (And.intro hbo (And.intro gB (And.intro hH (And.intro hCel2 hCel3)))); clear hbo gB hH hCel2 hCel3 hsk
                    go_wp2_with fail
                    go_loopw [17] (fun nv wi => ∃ n : Nat, n ≤ sk.2.1 ∧ nv = .int .i64 (n : Int) ∧ Below y0.heap.size y0 wi ∧ Blk wi y1.heap.size 35 #[.int .i64 u, .slice (some ⟨gh, 0, none⟩) vs.length sc, .int .i64 x] ∧ Heads wi y0.heap.size W1.heap.size (.slice (some ⟨gh, 0, none⟩) vs.length sc) vs) (fun nv _ => sk.2.1 - (intOf nv).toNat)
                    case atStart => exact ⟨0, Nat.zero_le _, rfl, HJ.out.1, HJ.out.2.1, HJ.out.2.2.1⟩
                    case round =>
                      rename World => wi
                      obtain ⟨n, hn1, rfl, hbi, gI, hI⟩ := hrel
                      have r1 := gI.three.2.1
                      have r4 := HJ.out.2.2.2.1 wi hI
                      by_cases hnl : n < sk.2.1
                      · obtain ⟨g, c', z, cs, hsk, hg1, hg2, r5, r6, r7, hB⟩ := HJ.out.2.2.2.2 wi n hI hnl
                        obtain ⟨sA2, sn2, sc2⟩ := sk
                        simp only [Prod.mk.injEq, true_and] at hsk
                        obtain ⟨rfl, rfl⟩ := hsk
                        simp only at r4 hnl hskm hn1
                        have hput := fun z => hI.put hB n z
                        have hfar := fun z : Int => gI.far (p := ⟨g, n, none⟩) (fun e => by
                          have e' : y1.heap.size = g := e
                          rw [e'] at gI
                          have := gI.symm.trans hB
                          simp at this) (.int .i64 z)
                        have hbl := fun z : Int => hbi.setCell (p := ⟨g, n, none⟩) hg1 (.int .i64 z)
                        have HP := Lib.hid (And.intro hput (And.intro hfar hbl)); clear hput hfar hbl hI hB gI hbi
                        go_wp2_with fail
                        go_still_tail 16, (by kernel_rfl)
                        go_wp2
                        go_roundw
                        case rel => exact ⟨n + 1, by omega, by go_num, below_drew (HP.out.2.2 _), blk_drew (HP.out.2.1 _), (HP.out.1 _).later (below_drew (Below.refl _ _))⟩
                        case measure => simp [intOf]; omega
                      · have HP := Lib.hid (And.intro hbi (And.intro gI hI)); clear hI gI hbi
                        obtain rfl : n = sk.2.1 := by omega
                        go_wp2
                        go_roundw
                        case rel => exact ⟨k + 1, by omega, by go_num, HP.out.1, HP.out.2.1, HP.out.2.2⟩
                        case measure => simp [intOf]; omega
                  · obtain rfl : k = vs.length := by omega
                    have HP := Lib.hid hbo; clear hbo hH gB
                    go_wp2
                    go_roundw
                    case rel =>
                      have h9 := bt HB.out HP.out
                      exact ⟨b + 1, by omega, by go_num, ⟨w1, HA.out.2.2.2.2, HA.out.2.2.1.later h9⟩, HA.out.2.2.2.1.trans (h9.mono HA.out.2.2.2.1.size)⟩
                    case measure => simp [intOf]; omega
              · obtain rfl : b = a := by omega
                have HA := Lib.hid (And.intro cL (And.intro hT (And.intro hbel ew1))); clear cL hT hbel ew1
                go_wp2_with fail
                try go_at_call 21
                refine (HA.out.1).mono ?_
                rintro e y0 ⟨rfl, by0⟩
                have HB := Lib.hid (And.intro (HA.out.2.1.later by0) (HA.out.2.2.1.trans (by0.mono HA.out.2.2.1.size))); clear by0
                go_wp2_with fail
                try go_at_call 19
                refine (HB.out.1.all1).mono ?_
                rintro e y1 ⟨v1, ⟨rfl, hR1, hT1⟩, hF1, _⟩
                obtain ⟨A1, c1, rfl, _⟩ := hR1.mem
                have HC := Lib.hid (And.intro hR1 hT1); clear hR1 hT1 hF1
                go_wp2_with fail
                try go_at_call 19
                refine (HC.out.2.swap.all1).mono ?_
                rintro e y2 ⟨v2, ⟨rfl, hR2, hT2⟩, hF2, hk2⟩
                have HD := Lib.hid (And.intro (HC.out.1.kept hF2 (fun k hk => hk2 k (Or.inr hk))) (And.intro hR2 hT2)); clear hR2 hT2 hF2 hk2
                obtain ⟨A2, c2, rfl, _⟩ := HD.out.2.1.mem
                go_wp2_with fail
                try go_at_call 15
                refine (all_yes _ _ T _ HD.out.1.reads HD.out.2.1.reads).mono ?_
                rintro e y3 ⟨rfl, by3⟩
                have HE := Lib.hid by3; clear by3
                go_wp2
                go_ret
                have hN : w1.heap.size ≤ y0.heap.size := HB.out.1.bel.size
                have hwN : w.heap.size ≤ w1.heap.size := by rw [HA.out.2.2.2]; exact hwr
                have q1 := below_tr HB.out.2 hwN hN
                have q2 : Below w1.heap.size w1 y2 := HD.out.2.2.bel
                have q3 := HB.out.1.bel
                have q4 : Below w.heap.size w w1 := ⟨HB.out.2.os.symm ▸ q3.os.symm ▸ rfl, by rw [← q3.tape]; exact HB.out.2.tape, by rw [← q3.output]; exact HB.out.2.output, hwN, fun k hk => by rw [← q3.block k (by omega)]; exact HB.out.2.block k hk⟩
                exact ⟨rfl, (q4.trans (q2.mono hwN)).trans (HE.out.mono ((q4.trans (q2.mono hwN)).size))⟩
end Go.Proofs.Yticjfhagpmlieaa
