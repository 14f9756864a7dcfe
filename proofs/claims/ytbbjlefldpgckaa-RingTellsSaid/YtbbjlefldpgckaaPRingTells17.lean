/- Texts of the proof of RingTells, part 17. -/
import Derived.Test.YtbbjlefldpgckaaPRingTells14
namespace Go.Proofs.Ytbbjlefldpgckaa
open Go.ChangeShapes Go.WideShapes Go.ChangeAt Go.RowKit Go.Maps
open Ev (V3 rightV OkV)
set_option linter.unusedVariables false
set_option linter.unusedSimpArgs false
set_option maxRecDepth 20000

/-- The map has turned: nothing else of the ring has. -/
theorem RPre.turn {w w' : World} {B d : Nat} {v : Value} {m : Nat} {L : List Raw} {s : Rg} (h : RPre w B d v m L s) (hg : w.grownBy w' (some m)) {cnt : Nat} {rd : Rd} (hm : RdAt w' m cnt rd) (hc : cnt ≤ 16) (hrd : ∀ id r, rd id = some r → 1 ≤ id ∧ id ≤ s.given ∧ r.1 ≤ s.hist.length ∧ r.2 ≤ s.edge) :
    RPre w' B d v m L { s with cnt := cnt, rd := rd } ∧ Chg B w w' := by
  obtain ⟨a1, a2, a3⟩ := h.apart
  have hmap := h.map
  have hF : FrR w w' := FrR.grown hg (fun g hgg cs t fr hcc => by
    obtain rfl : m = g := by simpa using hgg
    obtain ⟨D, ⟨es, clock, hb, _⟩, _⟩ := hmap
    have := hb.symm.trans hcc
    simp at this)
  exact ⟨⟨h.low, h.mlow, h.blk.grown hg (fun e => a2 (by simpa using e.symm)), h.row.grown hg (fun b hb he => a3 b he (by simpa using hb.symm)), h.kept.mono (fun _ _ hn => hn.frr hF), hm, ⟨h.ok.room, hc, hrd, h.ok.edge, h.ok.total, h.ok.given, h.ok.items⟩⟩,
    ⟨grownBy_below hg h.low' (fun k hk => by obtain rfl : m = k := by simpa using hk
                                             exact h.mlow), hF⟩⟩
theorem isLen_add {n : Nat} {rd : Rd} {m : Nat} (h : IsLen n rd m) (id : Int) (lo : Int) (hno : rd id = none) : IsLen n (upd rd id (some (n, lo))) m := by
  refine ⟨fun x r hr => ?_, ?_⟩
  · by_cases he : x = id
    · subst he
      rw [upd_same] at hr
      cases hr
      simp
    · rw [upd_other _ _ he] at hr
      exact h.1 x r hr
  · rcases h.2 with h0 | ⟨x, r, hr, h0⟩
    · exact Or.inl h0
    · refine Or.inr ⟨x, r, ?_, h0⟩
      rw [upd_other _ _ (fun e => by rw [e, hno] at hr; cases hr)]
      exact hr
theorem step_put_rd {ops : Array Oper} {o : Oper} {a : Act} {w : World} {K : Act → World → Prop} {Q : Exit → Act → World → Prop} {E : Prop} (hgd : o.guard = none) (mo xo vo : Operand)
    (hop : o.op = Op.mapUpdate 60 mo xo vo) (b cnt : Nat) (rd : Rd) (hm : a.eval mo = .map (some b)) (h : RdAt w b cnt rd) (hn : cnt < maxLen) (id : Int) (r : Rdr) (hx : a.eval xo = .int .i64 id) (hv : a.eval vo = rv r) (hi : wfI id)
    (hK : ∀ w', RdAt w' b (if (rd id).isSome then cnt else cnt + 1) (upd rd id (some r)) → w.grownBy w' (some b) → K (a.put o.dst undef) w') :
    if Region.wanted o (yielded ops a.tmps) = true then Oper.wp Try.prog o a w K Q else E := by
  rw [if_pos (by simp [Region.wanted, hgd])]
  obtain ⟨w', hrun, r1, r2⟩ := h.put hn r hi
  unfold Oper.wp
  simp [execOp, hop, hm, hx, hv, hrun, Result.andThen]
  exact hK w' r1 r2
theorem add_ok {w : World} {B d : Nat} {v : Value} {m : Nat} {L : List Raw} {s : Rg} (h : RPre w B d v m L { s with given := s.given + 1 }) : ∀ id r, upd s.rd ((s.given : Int) + 1) (some (s.hist.length, s.edge)) id = some r → 1 ≤ id ∧ id ≤ ((s.given + 1 : Nat) : Int) ∧ r.1 ≤ s.hist.length ∧ r.2 ≤ s.edge := by
  intro id r hr
  by_cases he : id = (s.given : Int) + 1
  · subst he
    rw [upd_same] at hr
    cases hr
    exact ⟨by omega, by omega, Nat.le_refl _, Int.le_refl _⟩
  · rw [upd_other _ _ he] at hr
    exact h.ok.rd id r hr
def AddR (s : Rg) (n : Int) (s' : Rg) : Prop :=
  (16 ≤ s.cnt ∧ n = 0 ∧ s' = s) ∨ (s.cnt < 16 ∧ n = (s.given : Int) + 1 ∧ s.rd n = none ∧ s' = { s with given := s.given + 1, cnt := s.cnt + 1, rd := upd s.rd n (some (s.hist.length, s.edge)) })
def AddP (X : Nat → Prop) (B d : Nat) (s : Rg) (w : World) (e : Ending) (w' : World) : Prop := ∃ n s', (e = .returned (.int .i64 n) ∧ AddR s n s' ∧ RX X w' B d s') ∧ Chg B w w' ∧ Kx X w w'
set_option maxHeartbeats 2000000 in
theorem Add_any (X : Nat → Prop) (B d : Nat) (s : Rg) (w : World) (h : RX X w B d s) (hG : s.given < 4000000000000000000) : Calls Try.prog 14 #[.pointer (some ⟨d, 0, none⟩)] w (AddP X B d s w) := by
  obtain ⟨v, m, L, h, hX⟩ := h
  have hX := Lib.hid hX
  obtain ⟨c0, c1, c2, c3, c4, c5, c6, dl, df⟩ := h.pre.cells
  by_cases hf : 16 ≤ s.cnt
  · have hl := fun ty => h.pre.map.len ty
    have hge : (s.cnt : Int) ≥ 16 := by omega
    have H := Lib.hid h; clear h
    go_enter Try.func14, Try.ntmps14
    go_wp2
    go_ret
    exact ⟨0, s, ⟨rfl, Or.inl ⟨hf, rfl, rfl⟩, ⟨_, _, _, H.out, hX.out⟩⟩, Chg.refl _ _, Kx.refl _ _⟩
  · have hl := fun ty => h.pre.map.len ty
    have hge : ¬ 16 ≤ (s.cnt : Int) := by omega
    have hw1 : IntKind.i64.wrap ((s.given : Int) + 1) = (s.given : Int) + 1 := IntWalk.i64_in _ (by omega)
    obtain ⟨x1, x2⟩ := h.pre.cell_given hG
    have hno : s.rd ((s.given : Int) + 1) = none := by
      rcases hr : s.rd ((s.given : Int) + 1) with _ | r
      · rfl
      · have := (h.pre.ok.rd _ _ hr).2.1
        omega
    have hlt : s.cnt < 16 := by omega
    have H := Lib.hid (And.intro h (And.intro x1 (And.intro x2 (And.intro hno hlt)))); clear h x1 x2 hno hlt
    go_enter Try.func14, Try.ntmps14
    go_wp2_with fail
    obtain ⟨w5, hr5, hm5, hg5⟩ := (H.out.2.1.map.heap (w' := (w.setCell ⟨d, 6, none⟩ (.int .i64 ((s.given : Int) + 1))).drew) rfl).put (by unfold maxLen; have := H.out.2.2.2.2; show s.cnt < _; omega) (id := (s.given : Int) + 1) (s.hist.length, s.edge) ⟨by omega, by omega⟩
    have hr5' : (Instr.mapUpdate 60 (.map (some m)) (.int .i64 ((s.given : Int) + 1)) (.agg #[.int .i64 (s.hist.length : Int), .int .i64 s.edge])).run Try.prog (w.setCell ⟨d, 6, none⟩ (.int .i64 ((s.given : Int) + 1))).drew = .ok () w5 := hr5
    clear hr5
    have hcc : (if (s.rd ((s.given : Int) + 1)).isSome then s.cnt else s.cnt + 1) = s.cnt + 1 := by rw [H.out.2.2.2.1]; rfl
    have hm5' : RdAt w5 m (s.cnt + 1) (upd s.rd ((s.given : Int) + 1) (some (s.hist.length, s.edge))) := by rw [← hcc]; exact hm5
    have hT5 := H.out.2.1.turn (show (w.setCell ⟨d, 6, none⟩ (.int .i64 ((s.given : Int) + 1))).grownBy w5 (some m) from ⟨hg5.os, hg5.tape, hg5.output, hg5.size, hg5.block⟩) hm5' H.out.2.2.2.2 (add_ok H.out.2.1)
    obtain ⟨_, _, _, _, _, _, e6, _, _⟩ := hT5.1.cells
    simp only [Int.natCast_add, Int.natCast_one] at e6
    have hg5' : ∀ k, X k → w5.heap[k]? = w.heap[k]? := fun k hk => (hg5.block k (by have := (hX.out k hk).1; show k < (w.setCell _ _).heap.size; simpa [World.setCell] using this) (fun e => (hX.out k hk).2.2.1 (by simpa using e))).trans (Below.heap_setCell _ _ _ _ (hX.out k hk).2.1)
    have K5 := Lib.hid hT5
    have K6 := Lib.hid hg5'
    clear hm5 hm5' hg5 hT5 hcc hg5'
    go_region_law (fail)
    all_goals go_wp2
    all_goals go_ret
    all_goals
      refine ⟨_, _, ⟨rfl, Or.inr ⟨H.out.2.2.2.2, rfl, H.out.2.2.2.1, rfl⟩, ⟨_, _, _, ⟨K5.out.1, isLen_add H.out.1.len _ _ H.out.2.2.2.1, H.out.1.fits, H.out.1.times⟩, fun k hk => ⟨Nat.lt_of_lt_of_le (hX.out k hk).1 (H.out.2.2.1.trans K5.out.2).bel.size, (hX.out k hk).2⟩⟩⟩, H.out.2.2.1.trans K5.out.2, K6.out⟩
end Go.Proofs.Ytbbjlefldpgckaa
namespace Go.Proofs.Ytbbjlefldpgckaa
open Go.ChangeShapes Go.WideShapes Go.ChangeAt Go.RowKit Go.Maps
open Ev (V3 rightV OkV)
set_option linter.unusedVariables false
set_option linter.unusedSimpArgs false
set_option maxRecDepth 20000

theorem isLen_drop {n : Nat} {rd : Rd} {m q : Nat} (h : IsLen n rd m) {id : Int} (hq : IsLen n (upd rd id none) q) : q ≤ m := by
  rcases hq.2 with h0 | ⟨x, r', hx, h0⟩
  · omega
  · by_cases he : x = id
    · subst he
      rw [upd_same] at hx
      cases hx
    · rw [upd_other _ _ he] at hx
      have := h.1 x r' hx
      omega
def DropR (s : Rg) (id : Int) (ok : Bool) (s' : Rg) : Prop :=
  (s.rd id = none ∧ ok = false ∧ s' = s) ∨ ((∃ r, s.rd id = some r) ∧ ok = true ∧ s' = { s with cnt := s.cnt - 1, rd := upd s.rd id none })
def DropP (X : Nat → Prop) (B d : Nat) (s : Rg) (id : Int) (w : World) (e : Ending) (w' : World) : Prop := ∃ ok s', (e = .returned (.bool ok) ∧ DropR s id ok s' ∧ RX X w' B d s') ∧ Chg B w w' ∧ Kx X w w'
set_option maxHeartbeats 1000000 in
theorem Drop_any (X : Nat → Prop) (B d : Nat) (s : Rg) (w : World) (id : Int) (hi : wfI id) (h : RX X w B d s) : Calls Try.prog 26 #[.pointer (some ⟨d, 0, none⟩), .int .i64 id] w (DropP X B d s id w) := by
  have hRX := Lib.hid h
  obtain ⟨v, m, L, h, hX⟩ := h
  have hX := Lib.hid hX
  obtain ⟨_, _, _, _, _, c5, _, dl, df⟩ := h.pre.cells
  have r1 := h.pre.map.ok hi
  rcases hr : s.rd id with _ | ⟨a, b⟩
  · rw [hr] at r1
    have H := Lib.hid (And.intro h hr); clear h hr
    go_enter Try.func26, Try.ntmps26
    go_wp2
    go_ret
    exact ⟨false, s, ⟨rfl, Or.inl ⟨H.out.2, rfl, rfl⟩, (hRX.out.later (ba _ _)).1⟩, Chg.later H.out.1.pre.low' (ba _ _), (hRX.out.later (ba _ _)).2⟩
  · rw [hr] at r1
    have bA := ba w (.cells #[.int .i64 (a : Int), .int .i64 b] 79)
    have hrd : ∀ x r', upd s.rd id none x = some r' → 1 ≤ x ∧ x ≤ s.given ∧ r'.1 ≤ s.hist.length ∧ r'.2 ≤ s.edge := by
      intro x r' hx
      by_cases he : x = id
      · subst he
        rw [upd_same] at hx
        cases hx
      · rw [upd_other _ _ he] at hx
        exact h.pre.ok.rd x r' hx
    have hfq : ∀ q, IsLen s.hist.length (upd s.rd id none) q → q ≤ L.length ∧ q ≤ s.room := fun q hq => by
      have := isLen_drop h.len hq
      have := h.fits
      omega
    have H := Lib.hid (And.intro h (And.intro hr (And.intro bA (And.intro hrd hfq)))); clear h hr bA hrd hfq
    go_enter Try.func26, Try.ntmps26
    go_wp2_with (first
      | (at_delete; refine wpList_drop_rd rfl (.tmp 21) (.tmp 22) rfl m s.cnt s.rd rfl (H.out.1.pre.later H.out.2.2.1).map id rfl hi (by rw [H.out.2.1]; rfl) ?_; intro w5 hm5 hg5; have h5 := (H.out.1.pre.later H.out.2.2.1).turn hg5 hm5 (by have := H.out.1.pre.ok.cnt; omega) H.out.2.2.2.1; have K5 := Lib.hid h5; have K6 := Lib.hid hg5; clear hm5 hg5 h5)
      | (go_at_call 46; refine (forget_any B d v m L _ w5 K5.out.1 H.out.2.2.2.2 H.out.1.times).mono ?_; rintro e w9 ⟨⟨⟨x9, rfl⟩, ⟨v9, L9, hS9, ho9⟩, hk9⟩, C9⟩; have K9 := Lib.hid (And.intro (And.intro hS9 (And.intro ho9 hk9)) C9); clear hS9 ho9 hk9 C9))
    go_ret
    have hCC := (Chg.later H.out.1.pre.low' H.out.2.2.1).trans (K5.out.2.trans K9.out.2)
    exact ⟨true, _, ⟨rfl, Or.inr ⟨⟨_, H.out.2.1⟩, rfl, rfl⟩, ⟨_, _, _, K9.out.1.1, fun k hk => ⟨Nat.lt_of_lt_of_le (hX.out k hk).1 hCC.bel.size, (hX.out k hk).2.1, (hX.out k hk).2.2.1, by rw [K9.out.1.2.1]; exact (hX.out k hk).2.2.2⟩⟩⟩, hCC, fun k hk => ((K9.out.1.2.2 k (Nat.lt_of_lt_of_le (hX.out k hk).1 (Nat.le_trans H.out.2.2.1.size K5.out.2.bel.size)) (hX.out k hk).2.1 (hX.out k hk).2.2.2).trans (K6.out.block k (Nat.lt_of_lt_of_le (hX.out k hk).1 H.out.2.2.1.size) (fun e => (hX.out k hk).2.2.1 (by simpa using e)))).trans (H.out.2.2.1.block k (hX.out k hk).1)⟩
end Go.Proofs.Ytbbjlefldpgckaa
