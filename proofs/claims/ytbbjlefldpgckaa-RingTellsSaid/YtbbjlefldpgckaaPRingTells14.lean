/- Texts of the proof of RingTells, part 14. -/
import Derived.Test.YtbbjlefldpgckaaPRingTells13
namespace Go.Proofs.Ytbbjlefldpgckaa
open Go.ChangeShapes Go.WideShapes Go.ChangeAt Go.RowKit Go.Maps
open Ev (V3 rightV OkV)
set_option linter.unusedVariables false
set_option linter.unusedSimpArgs false
set_option maxRecDepth 20000

theorem RPre.lenL {w : World} {B d : Nat} {v : Value} {m : Nat} {L : List Raw} {s : Rg} (h : RPre w B d v m L s) : L.length ≤ s.hist.length := by
  have := h.kept.length
  rw [List.length_drop] at this
  omega
theorem forget_end {w w1 w5 : World} {B d q : Nat} {v v5 : Value} {m : Nat} {L : List Raw} {s : Rg} (h : RPre w B d v m L s) (b1 : Below w.heap.size w w1) (hq : IsLen s.hist.length s.rd q) (hqL : q ≤ L.length) (hqr : q ≤ s.room) (ht : ∀ x ∈ s.hist, behindI x.1 x.2.1 ≤ s.edge)
    (hO5 : Own w5 B 37 3 rowI v5 (L.drop (L.length - q))) (hg5 : w1.grownBy w5 v.ownBlock) :
    RAt (w5.setCell ⟨d, 1, none⟩ v5) B d v5 m (L.drop (L.length - q)) s ∧ Chg B w (w5.setCell ⟨d, 1, none⟩ v5) ∧ ∀ k, k < w.heap.size → k ≠ d → some k ≠ v.ownBlock → (w5.setCell ⟨d, 1, none⟩ v5).heap[k]? = w.heap[k]? := by
  have h1 := h.later b1
  obtain ⟨a1, a2, a3⟩ := h1.apart
  have hln := h.lenL
  have blk5 := h1.blk.grown hg5 (fun e => a1 d e.symm rfl)
  have F15 : FrR w1 w5 := FrR.grown hg5 (fun g hg cs t fr hc => by
    obtain ⟨_, cs', hc'⟩ := h1.row.block hg
    rw [hc'] at hc
    simp only [Option.some.injEq, Obj.cells.injEq] at hc
    exact Or.inr hc.2.1.symm)
  have C15 : Chg B w1 w5 := ⟨grownBy_below hg5 h1.low' (fun k hk => (h1.row.block hk).1), F15⟩
  have F5 := FrR.set blk5 (Or.inl rfl) 1 v5
  have C5 : Chg B w5 (w5.setCell ⟨d, 1, none⟩ v5) := ⟨(Below.refl _ _).setCell (p := ⟨d, 1, none⟩) h.low _, F5⟩
  have hlen : (L.drop (L.length - q)).length = q := by rw [List.length_drop]; omega
  refine ⟨⟨⟨h.low, h.mlow, ?_, ?_, ?_, ?_, h.ok⟩, by rw [hlen]; exact hq, by rw [hlen]; exact hqr, ht⟩, (Chg.later h.low' b1).trans (C15.trans C5), fun k hk hkd hkv => ?_⟩
  rotate_left 4
  · rw [Below.heap_setCell _ _ _ _ hkd, hg5.block k (Nat.lt_of_lt_of_le hk b1.size) hkv, b1.block k hk]
  · have := blk5.set_ 1 v5
    simpa using this
  · exact hO5.grown (grown_set w5 d 1 v5) (fun b hb he => by
      obtain rfl : d = b := by simpa using hb
      obtain ⟨_, cs', hc⟩ := hO5.block he
      have := hc.symm.trans blk5
      simp at this)
  · rw [hlen]
    have hk := (h1.kept.mono (fun _ _ hn => (NewAt.frr hn F15).frr F5)).drop (L.length - q)
    rw [List.drop_drop] at hk
    have e : s.hist.length - L.length + (L.length - q) = s.hist.length - q := by omega
    rw [e] at hk
    exact hk
  · exact (h1.map.grown hg5 (fun e => a3 m e.symm rfl)).setCell blk5 1 v5
def ForgetP (B d : Nat) (v : Value) (m : Nat) (s : Rg) (w : World) (e : Ending) (w' : World) : Prop := ((∃ x, e = .returned x) ∧ (∃ v' L', RAt w' B d v' m L' s ∧ v'.ownBlock = v.ownBlock) ∧ ∀ k, k < w.heap.size → k ≠ d → some k ≠ v.ownBlock → w'.heap[k]? = w.heap[k]?) ∧ Chg B w w'
set_option maxHeartbeats 1000000 in
theorem forget_any (B d : Nat) (v : Value) (m : Nat) (L : List Raw) (s : Rg) (w : World) (h : RPre w B d v m L s) (hq : ∀ q, IsLen s.hist.length s.rd q → q ≤ L.length ∧ q ≤ s.room) (ht : ∀ x ∈ s.hist, behindI x.1 x.2.1 ≤ s.edge) :
    Calls Try.prog 46 #[.pointer (some ⟨d, 0, none⟩)] w (ForgetP B d v m s w) := by
  have cL := Len_any B d v m L s w.drew (h.later (below_drew (Below.refl _ _)))
  obtain ⟨A, c, rfl, _, hc1, hc2⟩ := h.row.shape
  have hm2 : c ≤ 9223372036854775807 := by unfold maxLen at hc2; omega
  have cD : ∀ (w1 : World) (q : Nat), Below w.heap.size w w1 → q ≤ L.length → Calls Try.prog 55 #[.slice A L.length c, .int .i64 0, .int .i64 ((L.length - q : Nat) : Int)] w1 (DelP B (.slice A L.length c) (L.drop (L.length - q)) w1) := fun w1 q hb hle =>
    Delete_any B _ L (L.length - q) w1 (h.row.later hb) (by omega)
  have hws : ∀ q : Nat, q ≤ L.length → IntKind.i64.wrap ((L.length : Int) - (q : Int)) = ((L.length - q : Nat) : Int) := fun q hle => by
    rw [IntWalk.i64_in _ (by omega)]; omega
  obtain ⟨_, c1, _, _, _, _, _, dl, df⟩ := h.cells
  have H := Lib.hid (And.intro h (And.intro cL (And.intro cD (And.intro hws (And.intro hq ht))))); clear h cL cD hws hq ht
  go_enter Try.func46, Try.ntmps46
  go_wp2_with fail
  go_region_law (first
    | (go_simp; go_at_call 22; ((with_reducible refine H.out.2.1.mono ?_); rintro e w1 ⟨q, ⟨rfl, hq⟩, b1⟩; have hle := (H.out.2.2.2.2.1 q hq).1; have hws := H.out.2.2.2.1 q hle; have b2 := (below_drew (Below.refl w.heap.size w)).trans b1; obtain ⟨_, f1, _, _, _, _, _, fl, ff⟩ := (H.out.1.later b2).cells; have K := Lib.hid (And.intro hq b2); clear hq b1 b2))
    | (go_simp; go_at_call 55; ((with_reducible refine (H.out.2.2.1 w1 q K.out.2 hle).mono ?_); rintro e w5 ⟨v5, ⟨rfl, hO5, hv5⟩, hg5⟩; have blk5 := (H.out.1.later K.out.2).blk.grown hg5 (fun e => (H.out.1.later K.out.2).apart.1 d e.symm rfl); have e1 := blk5.cell 1; have el := blk5.lt; have ef := blk5.frozen; obtain ⟨A5, n5, k5, rfl⟩ := own_shape hO5; have Z := Lib.hid (And.intro hO5 (And.intro hg5 (And.intro blk5 hv5))); clear hO5 hg5 blk5 hv5)))
  all_goals go_wp2
  all_goals refine bodyPost_ret (v := .tuple #[]) (by simp [results, Try.results46, go_sem]) rfl ?_
  all_goals
    obtain ⟨x1, x2, x3⟩ := forget_end H.out.1 K.out.2 K.out.1 hle (H.out.2.2.2.2.1 q K.out.1).2 H.out.2.2.2.2.2 Z.out.1 Z.out.2.1
    exact ⟨⟨⟨_, rfl⟩, ⟨_, _, x1, Z.out.2.2.2⟩, x3⟩, x2⟩
end Go.Proofs.Ytbbjlefldpgckaa
namespace Go.Proofs.Ytbbjlefldpgckaa
open Go.ChangeShapes Go.WideShapes Go.ChangeAt Go.RowKit Go.Maps
open Ev (V3 rightV OkV)
set_option linter.unusedVariables false
set_option linter.unusedSimpArgs false
set_option maxRecDepth 20000

theorem RPre.cell_edge {w : World} {B d : Nat} {v : Value} {m : Nat} {L : List Raw} {s : Rg} (h : RPre w B d v m L s) (e : Int) (h1 : s.edge ≤ e) (h2 : e ≤ 2305843009213693953) :
    RPre (w.setCell ⟨d, 3, none⟩ (.int .i64 e)) B d v m L { s with edge := e } ∧ Chg B w (w.setCell ⟨d, 3, none⟩ (.int .i64 e)) := by
  obtain ⟨r1, r2, r3, r4⟩ := h.rest 3 (.int .i64 e)
  have hb := h.blk.set_ 3 (.int .i64 e)
  refine ⟨⟨h.low, h.mlow, by simpa using hb, r1, r2, r3, ⟨h.ok.room, h.ok.cnt, fun id r hr => ?_, ⟨by have := h.ok.edge.1; show 0 ≤ e; omega, h2⟩, h.ok.total, h.ok.given, h.ok.items⟩⟩, r4⟩
  obtain ⟨a, b, c, d'⟩ := h.ok.rd id r hr
  exact ⟨a, b, c, by show r.2 ≤ e; omega⟩
theorem RPre.cell_given {w : World} {B d : Nat} {v : Value} {m : Nat} {L : List Raw} {s : Rg} (h : RPre w B d v m L s) (h1 : s.given < 4000000000000000000) :
    RPre (w.setCell ⟨d, 6, none⟩ (.int .i64 ((s.given : Int) + 1))) B d v m L { s with given := s.given + 1 } ∧ Chg B w (w.setCell ⟨d, 6, none⟩ (.int .i64 ((s.given : Int) + 1))) := by
  obtain ⟨r1, r2, r3, r4⟩ := h.rest 6 (.int .i64 ((s.given : Int) + 1))
  have hb := h.blk.set_ 6 (.int .i64 ((s.given : Int) + 1))
  refine ⟨⟨h.low, h.mlow, by unfold rgCells; simp only [Int.natCast_add, Int.natCast_one]; simpa using hb, r1, r2, r3, ⟨h.ok.room, h.ok.cnt, fun id r hr => ?_, h.ok.edge, h.ok.total, h1, h.ok.items⟩⟩, r4⟩
  obtain ⟨a, b, c, d'⟩ := h.ok.rd id r hr
  exact ⟨a, by show id ≤ ((s.given + 1 : Nat) : Int); omega, c, d'⟩
theorem RPre.cell_shut {w : World} {B d : Nat} {v : Value} {m : Nat} {L : List Raw} {s : Rg} (h : RPre w B d v m L s) :
    RPre (w.setCell ⟨d, 4, none⟩ (.bool true)) B d v m L { s with shut := true } ∧ Chg B w (w.setCell ⟨d, 4, none⟩ (.bool true)) := by
  obtain ⟨r1, r2, r3, r4⟩ := h.rest 4 (.bool true)
  have hb := h.blk.set_ 4 (.bool true)
  exact ⟨⟨h.low, h.mlow, by simpa using hb, r1, r2, r3, ⟨h.ok.room, h.ok.cnt, h.ok.rd, h.ok.edge, h.ok.total, h.ok.given, h.ok.items⟩⟩, r4⟩
def CloseP (X : Nat → Prop) (B d : Nat) (s : Rg) (w : World) (e : Ending) (w' : World) : Prop := ((∃ x, e = .returned x) ∧ RX X w' B d { s with shut := true }) ∧ Chg B w w' ∧ Kx X w w'
theorem Close_any (X : Nat → Prop) (B d : Nat) (s : Rg) (w : World) (h : RX X w B d s) : Calls Try.prog 29 #[.pointer (some ⟨d, 0, none⟩)] w (CloseP X B d s w) := by
  obtain ⟨v, m, L, h, hX⟩ := h
  have hX := Lib.hid hX
  obtain ⟨_, _, _, _, c4, _, _, dl, df⟩ := h.pre.cells
  have H := Lib.hid h; clear h
  go_enter Try.func29, Try.ntmps29
  go_wp2
  refine bodyPost_ret (v := .tuple #[]) (by simp [results, Try.results29, go_sem]) rfl ?_
  obtain ⟨x1, x2⟩ := H.out.pre.cell_shut
  exact ⟨⟨⟨_, rfl⟩, ⟨_, _, _, ⟨x1, H.out.len, H.out.fits, H.out.times⟩, fun k hk => ⟨Nat.lt_of_lt_of_le (hX.out k hk).1 x2.bel.size, (hX.out k hk).2⟩⟩⟩, x2, Kx.set (fun k hk => (hX.out k hk).2.1) _ _⟩
theorem put_mid {w w3 w5 : World} {B d : Nat} {v v5 : Value} {m : Nat} {L : List Raw} {s : Rg} {mk : Bool} {t : Int} {sv : SV} {l : List V3} (h : RPre w B d v m L s) (b3 : Below w.heap.size w w3) (hT : s.hist.length < 4000000000000000000) (hl6 : l.length ≤ 6 ∧ 0 ≤ t ∧ t ≤ 2305843009213693952)
    (hN : NewAt B w3 (sl sv) l) (hO5 : Own w5 B 37 3 rowI v5 (L ++ [(mk, t, sv)])) (hg5 : w3.grownBy w5 v.ownBlock) :
    RPre ((w5.setCell ⟨d, 1, none⟩ v5).setCell ⟨d, 2, none⟩ (.int .i64 ((s.hist.length : Int) + 1))) B d v5 m (L ++ [(mk, t, sv)]) { s with hist := s.hist ++ [(mk, t, l)] } ∧ Chg B w ((w5.setCell ⟨d, 1, none⟩ v5).setCell ⟨d, 2, none⟩ (.int .i64 ((s.hist.length : Int) + 1))) ∧ ∀ k, k < w.heap.size → k ≠ d → some k ≠ v.ownBlock → ((w5.setCell ⟨d, 1, none⟩ v5).setCell ⟨d, 2, none⟩ (.int .i64 ((s.hist.length : Int) + 1))).heap[k]? = w.heap[k]? := by
  have h1 := h.later b3
  obtain ⟨a1, a2, a3⟩ := h1.apart
  have hln := h.lenL
  have blk5 := h1.blk.grown hg5 (fun e => a1 d e.symm rfl)
  have F35 : FrR w3 w5 := FrR.grown hg5 (fun g hg cs t fr hc => by
    obtain ⟨_, cs', hc'⟩ := h1.row.block hg
    rw [hc'] at hc
    simp only [Option.some.injEq, Obj.cells.injEq] at hc
    exact Or.inr hc.2.1.symm)
  have C35 : Chg B w3 w5 := ⟨grownBy_below hg5 h1.low' (fun k hk => (h1.row.block hk).1), F35⟩
  have blk6 := blk5.set_ 1 v5
  have blk7 := blk6.set_ 2 (.int .i64 ((s.hist.length : Int) + 1))
  have F6 := FrR.set blk5 (Or.inl rfl) 1 v5
  have F7 := FrR.set blk6 (Or.inl rfl) 2 (.int .i64 ((s.hist.length : Int) + 1))
  have own_d : ∀ {W : World} {cs : Array Value} (hO : Own W B 37 3 rowI v5 (L ++ [(mk, t, sv)])) (hB : Blk W d 63 cs) (o : Nat) (u : Value), Own (W.setCell ⟨d, o, none⟩ u) B 37 3 rowI v5 (L ++ [(mk, t, sv)]) := fun {W cs} hO hB o u =>
    hO.grown (grown_set W d o u) (fun b hb he => by
      obtain rfl : d = b := by simpa using hb
      obtain ⟨_, cs', hc⟩ := hO.block he
      have := hc.symm.trans hB
      simp at this)
  refine ⟨⟨h.low, h.mlow, ?_, own_d (own_d hO5 blk5 1 v5) blk6 2 _, ?_, ((h1.map.grown hg5 (fun e => a3 m e.symm rfl)).setCell blk5 1 v5).setCell blk6 2 _, ?_⟩, (Chg.later h.low' b3).trans (C35.trans ⟨((Below.refl _ _).setCell (p := ⟨d, 1, none⟩) h.low _).setCell (p := ⟨d, 2, none⟩) h.low _, F6.trans F7⟩), fun k hk hkd hkv => by rw [Below.heap_setCell _ _ _ _ hkd, Below.heap_setCell _ _ _ _ hkd, hg5.block k (Nat.lt_of_lt_of_le hk b3.size) hkv, b3.block k hk]⟩
  · have : (((s.hist ++ [(mk, t, l)]).length : Nat) : Int) = (s.hist.length : Int) + 1 := by simp
    unfold rgCells
    simp only [this]
    simpa using blk7
  · have hk := (h1.kept.snoc (x := (mk, t, sv)) (y := (mk, t, l)) ⟨rfl, rfl, hN⟩).mono (fun _ _ hn => ((NewAt.frr hn F35).frr F6).frr F7)
    have e : (s.hist ++ [(mk, t, l)]).drop ((s.hist ++ [(mk, t, l)]).length - (L ++ [(mk, t, sv)]).length) = s.hist.drop (s.hist.length - L.length) ++ [(mk, t, l)] := by
      simp only [List.length_append, List.length_cons, List.length_nil]
      rw [List.drop_append_of_le_length (by omega)]
      congr 2
      omega
    show Kept _ B _ ((s.hist ++ [(mk, t, l)]).drop ((s.hist ++ [(mk, t, l)]).length - (L ++ [(mk, t, sv)]).length))
    rw [e]
    exact hk
  · refine ⟨h.ok.room, h.ok.cnt, fun id r hr => ?_, h.ok.edge, by show (s.hist ++ [(mk, t, l)]).length ≤ _; simp; omega, h.ok.given, fun x hx => by
      rcases List.mem_append.1 hx with hx | hx
      · exact h.ok.items x hx
      · rw [List.mem_singleton] at hx; subst hx; exact hl6⟩
    obtain ⟨a, b, c, d'⟩ := h.ok.rd id r hr
    exact ⟨a, b, by show r.1 ≤ (s.hist ++ [(mk, t, l)]).length; simp; omega, d'⟩
def late (s : Rg) (mk : Bool) (t : Int) : Prop := t < s.edge ∨ (mk = true ∧ t = s.edge)
def PutR (s : Rg) (mk : Bool) (t : Int) (l : List V3) (e : Int) (s' : Rg) : Prop :=
  (Ev.rightI mk t l = false ∧ e = 7 ∧ s' = s) ∨ (Ev.rightI mk t l = true ∧ s.shut = true ∧ e = 13 ∧ s' = s) ∨ (Ev.rightI mk t l = true ∧ s.shut = false ∧ late s mk t ∧ e = 8 ∧ s' = s) ∨
  (Ev.rightI mk t l = true ∧ s.shut = false ∧ ¬ late s mk t ∧ IsLen s.hist.length s.rd s.room ∧ e = 9 ∧ s' = s) ∨
  (Ev.rightI mk t l = true ∧ s.shut = false ∧ ¬ late s mk t ∧ (∃ q, IsLen s.hist.length s.rd q ∧ q < s.room) ∧ e = 0 ∧ s' = { s with hist := s.hist ++ [(mk, t, l)], edge := behindI mk t })
def PutP (X : Nat → Prop) (B d : Nat) (s : Rg) (mk : Bool) (t : Int) (l : List V3) (w : World) (e : Ending) (w' : World) : Prop :=
  ∃ c s', (e = .returned (.int .i64 c) ∧ PutR s mk t l c s' ∧ RX X w' B d s') ∧ Chg B w w' ∧ Kx X w w'
theorem isLen_put {n : Nat} {rd : Rd} {m q : Nat} (h : IsLen n rd m) (hq : IsLen (n + 1) rd q) : q ≤ m + 1 := by
  rcases hq.2 with h0 | ⟨id, r, hr, h0⟩
  · omega
  · have := h.1 id r hr; omega
section
variable (X : Nat → Prop) (B d : Nat) (s : Rg) (mk : Bool) (t : Int) (v : Value) (l : List V3) (w : World)
theorem Put_no (h : RX X w B d s) (hv : ValsAt w v l) (hs : ∀ x ∈ l, x.2.2.size ≤ maxLen) (hr : Ev.rightI mk t l = false) :
    Calls Try.prog 15 #[.pointer (some ⟨d, 0, none⟩), item mk t v] w (PutP X B d s mk t l w) := by
  have bA := ba w (.cells #[.bool mk, .int .i64 t, v] 37)
  have cR := Right_i mk t v l _ (hv.later bA) hs
  rw [hr] at cR
  have hB : B ≤ w.heap.size := by obtain ⟨_, _, _, h', _⟩ := h; exact h'.pre.low'
  obtain ⟨A, cap, rfl, _⟩ := hv
  have H := Lib.hid (And.intro cR (And.intro bA (And.intro h (And.intro hr hB)))); clear cR bA h hr hB
  go_enter Try.func15, Try.ntmps15
  go_wp2_with (go_at_call 43; ((with_reducible refine H.out.1.mono ?_); rintro e w1 ⟨rfl, b1⟩))
  go_ret
  exact ⟨7, s, ⟨rfl, Or.inl ⟨H.out.2.2.2.1, rfl, rfl⟩, (H.out.2.2.1.later (bt H.out.2.1 b1)).1⟩, Chg.later H.out.2.2.2.2 (bt H.out.2.1 b1), (H.out.2.2.1.later (bt H.out.2.1 b1)).2⟩
theorem Put_shut (h : RX X w B d s) (hv : ValsAt w v l) (hs : ∀ x ∈ l, x.2.2.size ≤ maxLen) (hr : Ev.rightI mk t l = true) (hsh : s.shut = true) :
    Calls Try.prog 15 #[.pointer (some ⟨d, 0, none⟩), item mk t v] w (PutP X B d s mk t l w) := by
  have bA := ba w (.cells #[.bool mk, .int .i64 t, v] 37)
  have cR := Right_i mk t v l _ (hv.later bA) hs
  rw [hr] at cR
  have hRX := Lib.hid h
  obtain ⟨v0, m, L, h, _⟩ := h
  have hB : B ≤ w.heap.size := h.pre.low'
  obtain ⟨A, cap, rfl, _⟩ := hv
  have H := Lib.hid (And.intro cR (And.intro bA (And.intro h (And.intro hr (And.intro hB hsh))))); clear cR bA h hr hB hsh
  go_enter Try.func15, Try.ntmps15
  go_wp2_with (go_at_call 43; ((with_reducible refine H.out.1.mono ?_); rintro e w1 ⟨rfl, b1⟩; obtain ⟨_, _, _, _, c4, _, _, dl, df⟩ := (H.out.2.2.1.pre.later (bt H.out.2.1 b1)).cells; rw [H.out.2.2.2.2.2] at c4))
  go_ret
  exact ⟨13, s, ⟨rfl, Or.inr (Or.inl ⟨H.out.2.2.2.1, H.out.2.2.2.2.2, rfl, rfl⟩), (hRX.out.later (bt H.out.2.1 b1)).1⟩, Chg.later H.out.2.2.2.2.1 (bt H.out.2.1 b1), (hRX.out.later (bt H.out.2.1 b1)).2⟩
end
end Go.Proofs.Ytbbjlefldpgckaa
