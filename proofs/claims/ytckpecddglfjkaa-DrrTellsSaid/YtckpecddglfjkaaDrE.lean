/- Turns by deficits: Turn. -/
import Derived.Test.YtckpecddglfjkaaDrD
import Derived.Deep.LoopGhost
import Derived.StillTailTactics
namespace Go.Proofs.Ytckpecddglfjkaa
open Go.ChangeShapes Go.WideShapes Go.ChangeAt Go.RowKit Go.Maps
open Dr
set_option linter.unusedVariables false
set_option linter.unusedSimpArgs false

theorem rest_snoc (l : List Fl) (k : Nat) (hk : k < l.length) : (rest0 (l.take k) ++ l.drop k).set k ((l[k]'hk).1, (l[k]'hk).2.1, 0, (l[k]'hk).2.2.2) = rest0 (l.take (k + 1)) ++ l.drop (k + 1) := by
  have e : (rest0 (l.take k)).length = k := by unfold rest0; rw [List.length_map, List.length_take]; omega
  rw [List.set_append_right _ _ (by omega), e, Nat.sub_self, List.drop_eq_getElem_cons hk, List.set_cons_zero, List.take_succ_eq_append_getElem hk]
  unfold rest0
  rw [List.map_append, List.append_assoc]; rfl
theorem rest_at (l : List Fl) (k : Nat) (hk : k < l.length) : ∃ h : k < (rest0 (l.take k) ++ l.drop k).length, (rest0 (l.take k) ++ l.drop k)[k]'h = l[k]'hk := by
  have e : (rest0 (l.take k)).length = k := by unfold rest0; rw [List.length_map, List.length_take]; omega
  refine ⟨by rw [List.length_append, e, List.length_drop]; omega, ?_⟩
  rw [List.getElem_append_right (by omega)]
  simp [e]
def DrS (w : World) (B d : Nat) (L : List Fl) (fr : Bool) : Prop := ∃ v l c, DrAt w B d v l c fr ∧ rot l c = L
def TurnR (cs : List (Int × Int)) (L : List Fl) (fr : Bool) (id : Int) (ok : Bool) (L' : List Fl) (fr' : Bool) : Prop :=
  (ready (priced cs L) = false ∧ id = 0 ∧ ok = false ∧ L' = rest0 (priced cs L) ∧ fr' = fr) ∨ (ready (priced cs L) = true ∧ ok = true ∧ ∃ n f r, turn n (priced cs L) fr = some (f :: r, fr') ∧ L' = f :: r ∧ id = f.1)
def TurnP (B d : Nat) (cs : List (Int × Int)) (L : List Fl) (fr : Bool) (w : World) (e : Ending) (w' : World) : Prop :=
  ∃ id ok L' fr', (e = .returned (.tuple #[.int .i64 id, .bool ok]) ∧ TurnR cs L fr id ok L' fr' ∧ DrS w' B d L' fr') ∧ Chg B w w'
theorem priced_ok {cs : List (Int × Int)} {L : List Fl} {fr : Bool} (h : OkS L fr) : OkS (priced cs L) fr := by
  obtain ⟨h1, h2, h3, h4⟩ := h
  refine ⟨fun f hf => ?_, ?_, ?_, by unfold priced; rw [List.length_map]; exact h4⟩
  · obtain ⟨g, hg, rfl⟩ := List.mem_map.1 hf
    obtain ⟨a, b, c, _, _, d, e⟩ := h1 g hg
    exact ⟨a, b, c, (cost_pos cs g.1).1, (cost_pos cs g.1).2, d, e⟩
  · cases L with
    | nil => trivial
    | cons a r =>
      refine ⟨h2.1, fun g hg => ?_⟩
      obtain ⟨x, hx, rfl⟩ := List.mem_map.1 hg
      exact h2.2 x hx
  · unfold priced; rw [List.map_map]; exact h3
theorem okS_rot_D {l : List Fl} {c : Nat} {fr : Bool} (h : OkS (rot l c) fr) (hc : c < l.length) : (l[c]'hc).2.2.1 ≤ 2000 := by
  rw [rot_head l c hc] at h
  obtain ⟨h1, h2, _⟩ := h
  obtain ⟨a, b, _⟩ := h1 _ (List.mem_cons_self ..)
  have := h2.1
  cases fr
  · simp only [Bool.false_eq_true, if_false] at this; omega
  · simp only [if_true] at this; omega
theorem step_no {k : Nat} {l : List Fl} {c : Nat} {fr : Bool} {RES : List Fl × Bool} (hc : c < l.length) (hT : turn (k + 1) (rot l c) fr = some RES) (hO : OkS (rot l c) fr) (hs : (serveF (l[c]'hc) fr).1 = false) :
    turn k (rot (l.set c (serveF (l[c]'hc) fr).2.1) ((c + 1) % l.length)) true = some RES ∧ OkS (rot (l.set c (serveF (l[c]'hc) fr).2.1) ((c + 1) % l.length)) true := by
  rw [rot_set_next _ _ hc]
  rw [rot_head l c hc] at hT hO
  refine ⟨?_, hO.pass hs⟩
  unfold turn at hT
  rw [if_neg (by rw [hs]; simp)] at hT
  exact hT
theorem step_yes {k : Nat} {l : List Fl} {c : Nat} {fr : Bool} {RES : List Fl × Bool} (hc : c < l.length) (hT : turn (k + 1) (rot l c) fr = some RES) (hs : (serveF (l[c]'hc) fr).1 = true) :
    RES = (rot (l.set c (serveF (l[c]'hc) fr).2.1) c, (serveF (l[c]'hc) fr).2.2) := by
  rw [rot_set _ _ hc]
  rw [rot_head l c hc] at hT
  unfold turn at hT
  rw [if_pos hs] at hT
  exact (Option.some.inj hT).symm
set_option maxHeartbeats 1000000 in
theorem Turn_any (B d : Nat) (L : List Fl) (fr : Bool) (lv : Value) (cs : List (Int × Int)) (w : World) (h : DrS w B d L fr) (hS : OkS L fr) (hl : At w 2 rowC lv cs) (hok : OkC cs) :
    Calls Try.prog 15 #[.pointer (some ⟨d, 0, none⟩), lv] w (TurnP B d cs L fr w) := by
  obtain ⟨v, l, c, h, rfl⟩ := h
  obtain ⟨A, cap, rfl, _, _, _⟩ := hl.shape
  have hid : ∀ f ∈ l, wfI f.1 := fun f hf => (hS.1 f ((rot_mem _ _ _).2 hf)).2.2.2.2.2
  have cP := price_any B d v l c fr _ cs w h hl hok hid
  have hrd : ready (priced cs l) = ready (priced cs (rot l c)) := by
    unfold ready priced
    rw [← rot_any _ _ c, rot_map]
  have hpr : rot (priced cs l) c = priced cs (rot l c) := by unfold priced; rw [rot_map]
  have hlen : (priced cs l).length = l.length := by unfold priced; rw [List.length_map]
  rcases hr : ready (priced cs (rot l c)) with _ | _
  · rw [hr] at hrd
    unfold PriceP at cP
    rw [hrd] at cP
    have hrs : rot (rest0 (priced cs l)) c = rest0 (priced cs (rot l c)) := by unfold rest0; rw [← hpr, rot_map]
    obtain ⟨pl, hpl⟩ : ∃ pl, pl = priced cs l := ⟨_, rfl⟩
    rw [← hpl] at cP hrs
    have H := Lib.hid (And.intro cP (And.intro hr hrs)); clear cP hr hpr hlen hrd hl hok hid hS h hrs hpl
    go_enter Try.func15, Try.ntmps15
    go_wp2_with (go_at_call 27; ((with_reducible refine (H.out.1).mono ?_); rintro e w1 ⟨rfl, hD, hX⟩; obtain ⟨sA, n, rfl, _, n1, n2⟩ := hD.row.shape; obtain ⟨dv, _, _, dl, df⟩ := hD.cells; have K := Lib.hid (And.intro hD hX); clear hD hX))
    have hml : pl.length ≤ 9223372036854775807 := by unfold maxLen at n2; omega
    clear dv dl df
    go_loopw [16] (fun iv wr => ∃ k : Nat, k ≤ pl.length ∧ iv = .int .i64 k ∧ DrAt wr B d (.slice sA pl.length n) (rest0 (pl.take k) ++ pl.drop k) c fr ∧ Chg B w wr) (fun i _ => pl.length - (intOf i).toNat)
    case atStart => exact ⟨0, Nat.zero_le _, rfl, K.out.1, K.out.2⟩
    case round =>
      clear K
      obtain ⟨k, hk, rfl, hD, hX⟩ := hrel
      by_cases hlt : k < pl.length
      · obtain ⟨hk', hkx⟩ := rest_at pl k hlt
        have hS := rest_snoc pl k hlt
        have hln : (rest0 (pl.take k) ++ pl.drop k).length = pl.length := by unfold rest0; rw [List.length_append, List.length_map, List.length_take, List.length_drop]; omega
        obtain ⟨g, rfl, _, _, _, _⟩ := hD.row.cells (f := rowF) (k := 4) (fun _ => rfl) rfl (by omega)
        obtain ⟨x0, x1, x2, x3, xf, xl⟩ := hD.fl k hk' rfl
        obtain ⟨d0, d1, d2, dl, df⟩ := hD.cells
        have p0 := fun u x (hx : rowF x = (rowF (pl[k]'hlt)).set 2 u) => hD.put k hk' (i := 2) (by decide) (x := x) (u := u) (by rw [hkx]; exact hx) (o := k * 4 + 2) rfl
        have p1 := p0 (.int .i64 0) ((pl[k]'hlt).1, (pl[k]'hlt).2.1, 0, (pl[k]'hlt).2.2.2) rfl
        rw [hS] at p1
        rw [hkx] at x2
        generalize (pl[k]'hlt).2.2.1 = t at x2
        have K := Lib.hid (And.intro hX p1); clear hD hX hS p0 p1 x0 x1 x3 hkx hk' hln
        go_wp2
        go_roundw
        case rel => exact ⟨k + 1, by omega, by go_num, K.out.2.1, K.out.1.trans K.out.2.2⟩
        case measure => simp [intOf]; omega
      · obtain rfl : k = pl.length := by omega
        rw [List.take_length, List.drop_length, List.append_nil] at hD
        have K := Lib.hid (And.intro hD hX); clear hD hX
        go_wp2
        go_ret2
        exact ⟨0, false, _, _, ⟨rfl, Or.inl ⟨H.out.2.1, rfl, rfl, rfl, rfl⟩, ⟨_, _, _, K.out.1, H.out.2.2⟩⟩, K.out.2⟩
  · rw [hr] at hrd
    unfold PriceP at cP
    rw [hrd] at cP
    obtain ⟨n0, RES, hT⟩ := turns (priced cs (rot l c)) fr (priced_ok hS).1 hr
    have H := Lib.hid (And.intro cP (And.intro hr (And.intro hpr (And.intro hlen (And.intro hT (priced_ok (cs := cs) hS)))))); clear cP hr hpr hlen hrd hl hok hid hS h hT
    go_enter Try.func15, Try.ntmps15
    go_wp2_with (go_at_call 27; ((with_reducible refine (H.out.1).mono ?_); rintro e w1 ⟨rfl, hD, hX⟩; have K := Lib.hid (And.intro hD hX); clear hD hX))
    go_loopg [39] n0 (fun k _ wr => ∃ v l c fr, DrAt wr B d v l c fr ∧ turn k (rot l c) fr = some RES ∧ OkS (rot l c) fr ∧ Chg B w wr)
    case atStart => exact ⟨_, _, _, _, K.out.1, by rw [H.out.2.2.1]; exact H.out.2.2.2.2.1, by rw [H.out.2.2.1]; exact H.out.2.2.2.2.2, K.out.2⟩
    case round =>
      clear K
      obtain ⟨v, l, c, fr, hD, hT, hO, hX⟩ := hrel
      obtain ⟨k, rfl⟩ : ∃ k, gk = k + 1 := by
        cases gk with
        | zero => simp [turn] at hT
        | succ k => exact ⟨k, rfl⟩
      have hne : l ≠ [] := fun e => by subst e; simp [rot, turn] at hT
      have hc := hD.cur hne
      obtain ⟨A2, n, rfl, _, n1, n2⟩ := hD.row.shape
      obtain ⟨g, rfl, _, _, _, _⟩ := hD.row.cells (f := rowF) (k := 4) (fun _ => rfl) rfl (by omega)
      obtain ⟨d0, d1, d2, dl, df⟩ := hD.cells
      have cS := serve_any B d g l.length n l c fr wr.drew (hD.heap rfl) hc (hO.1 _ ((rot_mem _ _ _).2 (List.getElem_mem hc))) (okS_rot_D hO hc) (c * 4) rfl
      have hml : l.length ≤ 9223372036854775807 := by unfold maxLen at n2; omega
      have sn := step_no hc hT hO
      have sy := step_yes hc hT
      generalize hy : l[c]'hc = y at *
      rcases hs : (serveF y fr).1 with _ | _
      · unfold ServeP at cS
        rw [hs] at cS
        have M := Lib.hid (And.intro cS (And.intro (sn hs) (And.intro hX hD))); clear cS sn sy hs hX hT hO hD hy
        go_wp2_with fail
        go_still_tail 10, (by kernel_rfl)
        go_wp2_with (go_at_call 28; ((with_reducible refine (M.out.1).mono ?_); rintro e w2 ⟨rfl, hD2, hX2⟩; obtain ⟨y0, y1, y2, yl, yf⟩ := hD2.cells; have K := Lib.hid (And.intro hD2 hX2); clear hD2 hX2))
        clear d0 d1 d2 dl df
        go_still_tail 14, (by kernel_rfl)
        go_wp2
        go_roundg k
        case measure => omega
        case rel =>
          obtain ⟨a1, b1⟩ := K.out.1.turn ((c + 1) % l.length) (fun _ => by rw [List.length_set]; exact Nat.mod_lt _ (by omega))
          obtain ⟨a2, b2⟩ := a1.fresh true
          rw [Int.natCast_emod, Int.natCast_add, Int.natCast_one] at a2 b1 b2
          exact ⟨_, _, _, _, a2.heap rfl, M.out.2.1.1, M.out.2.1.2, (((M.out.2.2.1.heap (w'' := wr.drew) rfl rfl rfl rfl).trans K.out.2).trans (b1.trans b2)).heap rfl rfl rfl rfl⟩
      · unfold ServeP at cS
        rw [hs] at cS
        have hset : ∃ h : c < (l.set c (serveF y fr).2.1).length, (l.set c (serveF y fr).2.1)[c]'h = (serveF y fr).2.1 := ⟨by rw [List.length_set]; exact hc, by rw [List.getElem_set_self]⟩
        have hro := rot_set l c hc (serveF y fr).2.1
        have hOO : OkS (rot (l.set c (serveF y fr).2.1) c) (serveF y fr).2.2 := by
          rw [rot_set _ _ hc]
          rw [rot_head l c hc, hy] at hO
          exact hO.serve hs
        have M := Lib.hid (And.intro cS (And.intro (sy hs) (And.intro hX (And.intro hD (And.intro hset (And.intro hro hOO)))))); clear cS sn sy hs hX hT hO hD hy hset hro hOO
        go_wp2_with fail
        go_still_tail 10, (by kernel_rfl)
        go_wp2_with (go_at_call 28; ((with_reducible refine (M.out.1).mono ?_); rintro e w2 ⟨rfl, hD2, hX2⟩; obtain ⟨y0, y1, y2, yl, yf⟩ := hD2.cells; obtain ⟨hk', hkx⟩ := M.out.2.2.2.2.1; have x0 := (hD2.fl c hk' rfl).1; rw [hkx] at x0; have K := Lib.hid (And.intro hD2 hX2); clear hD2 hX2 hkx hk'))
        clear d0 d1 d2 dl df
        go_quiet (fail)
        go_wp2
        go_ret2
        have hR := M.out.2.1
        have hro := M.out.2.2.2.2.2.1
        rw [hro] at hR
        refine ⟨_, true, _, _, ⟨rfl, Or.inr ⟨H.out.2.1, rfl, n0, (serveF y fr).2.1, l.drop (c + 1) ++ l.take c, by rw [← hR]; exact H.out.2.2.2.2.1, rfl, rfl⟩, ?_⟩, ?_⟩
        · rw [← hro]
          exact ⟨_, _, _, K.out.1.heap rfl, rfl⟩
        · exact ((M.out.2.2.1.heap (w'' := wr.drew) rfl rfl rfl rfl).trans K.out.2).heap rfl rfl rfl rfl
end Go.Proofs.Ytckpecddglfjkaa
