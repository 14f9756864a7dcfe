/- Texts of the proof of RingTells, part 16. -/
import Derived.Test.YtbbjlefldpgckaaPRingTells14
import Derived.Test.YtbbjlefldpgckaaPRingTells15
namespace Go.Proofs.Ytbbjlefldpgckaa
open Go.ChangeShapes Go.WideShapes Go.ChangeAt Go.RowKit Go.Maps
open Ev (V3 rightV OkV)
set_option linter.unusedVariables false
set_option linter.unusedSimpArgs false
set_option maxRecDepth 20000

theorem put_ok_end {w w6 w7 w9 : World} {X : Nat → Prop} {B d q : Nat} {s s1 : Rg} {mk : Bool} {t : Int} {l : List V3} (hs1 : s1 = { s with hist := s.hist ++ [(mk, t, l)] }) (hR : Ev.rightI mk t l = true) (hsh : s.shut = false) (hL : ¬ late s mk t) (hq : IsLen s.hist.length s.rd q) (hqr : q < s.room)
    {x : Ending} (C6 : Chg B w w6) (b7 : Chg B w6 w7) (C9 : Chg B w7 w9) (hS : RX X w9 B d { s1 with edge := behindI mk t }) (hx : x = .returned (.int .i64 0)) (hK : Kx X w w9) : PutP X B d s mk t l w x w9 := by
  subst hs1
  exact ⟨0, _, ⟨hx, Or.inr (Or.inr (Or.inr (Or.inr ⟨hR, hsh, hL, ⟨q, hq, hqr⟩, rfl, rfl⟩))), hS⟩, C6.trans (b7.trans C9), hK⟩
/-- Blocks that are none of the ring's, along the way. -/
theorem put_ok_keep {X : Nat → Prop} {w w6 w7 w9 : World} {d m z3 : Nat} {v v5 v9 : Value} {u : Value} (hX : ∀ k, X k → k < w.heap.size ∧ k ≠ d ∧ k ≠ m ∧ some k ≠ v.ownBlock) (h3 : w.heap.size ≤ z3)
    (h6 : ∀ k, k < w.heap.size → k ≠ d → some k ≠ v.ownBlock → w6.heap[k]? = w.heap[k]?) (h36 : w.heap.size ≤ w6.heap.size) (b7 : Below w6.heap.size w6 w7) (hv5 : v5.ownBlock = v.ownBlock ∨ v5.ownBlock = some z3)
    (h9 : ∀ k, k < (w7.setCell ⟨d, 3, none⟩ u).heap.size → k ≠ d → some k ≠ v5.ownBlock → w9.heap[k]? = (w7.setCell ⟨d, 3, none⟩ u).heap[k]?) (hs9 : w.heap.size ≤ w9.heap.size) (e9 : v9.ownBlock = v5.ownBlock) :
    Kx X w w9 ∧ ∀ k, X k → k < w9.heap.size ∧ k ≠ d ∧ k ≠ m ∧ some k ≠ v9.ownBlock := by
  have hv : ∀ k, X k → some k ≠ v5.ownBlock := fun k hk e => by
    obtain ⟨a, b, c, d'⟩ := hX k hk
    rcases hv5 with h | h
    · exact d' (e.trans h)
    · have := Option.some.inj (e.trans h); omega
  refine ⟨fun k hk => ?_, fun k hk => ?_⟩
  · obtain ⟨a, b, c, d'⟩ := hX k hk
    rw [h9 k (by have := b7.size; simp [World.setCell]; omega) b (hv k hk), Below.heap_setCell _ _ _ _ b, b7.block k (by omega), h6 k a b d']
  · obtain ⟨a, b, c, d'⟩ := hX k hk
    exact ⟨by omega, b, c, by rw [e9]; exact hv k hk⟩
theorem step_append_own_at {P : Program} {ops : Array Oper} {o : Oper} {a : Act} {w : World} {K : Act → World → Prop} {Q : Exit → Act → World → Prop} {E : Prop} (hgd : o.guard = none) (s x : Operand) (t : TypeId)
    (ho : o.op = .call { callee := .builtin .append, args := #[s, x], argTypes := #[t, t] })
    (base : Nat) (e : TypeId) (i : TypeInfo) (z : Value) (size bytes : Nat) (ht : P.underlying t = some (.slice e)) (hi : P.info? e = some i) (hz : i.zero = some z)
    (hsize : i.size = size) (hby : i.bytes = bytes) (hzs : z.cells.size = size) (hsz : 0 < size)
    (v : Value) (n : Nat) (xs : List Value) (hs : a.eval s = v) (hown : w.ownsRow base e size v n xs)
    (ad : Addr) (m c : Nat) (news : List Value) (hx : a.eval x = .slice (some ad) m c) (hl : news.length = m * size) (hnews : ∀ j u, news[j]? = some u → w.cell? (ad.add j) = some u) (h1 : ∀ u ∈ news, u.oneCell' = true)
    (h63 : n + m ≤ maxLen) (hbytes : (n + m) * bytes ≤ 140737488355328) (hbase : base ≤ w.heap.size)
    (h : ∀ v' w', w'.ownsRow base e size v' (n + m) (xs ++ news) → w.grownBy w' v.ownBlock → (v'.ownBlock = v.ownBlock ∨ v'.ownBlock = some w.heap.size) → K (a.put o.dst v') w') :
    if Region.wanted o (yielded ops a.tmps) = true then Oper.wp P o a w K Q else E := by
  rw [if_pos (by simp [Region.wanted, hgd])]
  obtain ⟨v', w', hr, h2, h3, _, h5⟩ := run_append_own_at (P := P) w base t o.type e i z size bytes ht hi hz hsize hby hzs hsz v n xs hown ad m c news hl hnews h1 h63 hbytes hbase
  unfold Oper.wp execOp
  simp only [ho, resolve, invoke, builtin, Sem.run_bind, Sem.run_pure, Result.andThen_ok, List.map_toArray, List.map_cons, List.map_nil, hs, hx, hr]
  exact h v' w' h2 h3 h5
theorem put_mid_at {w w3 w5 : World} {B d : Nat} {v : Value} {m : Nat} {L : List Raw} {s : Rg} (h : RPre w B d v m L s) (b3 : Below w.heap.size w w3) (hg5 : w3.grownBy w5 v.ownBlock) :
    w5.cell? ⟨d, 1, none⟩ = some v ∧ w5.cell? ⟨d, 2, none⟩ = some (.int .i64 (s.hist.length : Int)) ∧ w5.cell? ⟨d, 3, none⟩ = some (.int .i64 s.edge) ∧ d < w5.heap.size ∧ ∀ o, w5.frozen? ⟨d, o, none⟩ = false := by
  have b5 := (h.later b3).blk.grown hg5 (fun e => (h.later b3).apart.1 d e.symm rfl)
  exact ⟨b5.cell 1, b5.cell 2, b5.cell 3, b5.lt, b5.frozen⟩
theorem put_p {w w3 w5 : World} {B d : Nat} {v : Value} {m : Nat} {L : List Raw} {s : Rg} (h : RPre w B d v m L s) {t : TypeId} {cs : Array Value} (hp : Blk w3 w.heap.size t cs) (hg5 : w3.grownBy w5 v.ownBlock) : Blk w5 w.heap.size t cs :=
  hp.grown hg5 (fun e => by
    obtain ⟨_, cs', hc⟩ := h.row.block e.symm
    have := (Array.getElem?_eq_some_iff.1 hc).1
    omega)
theorem new_cells {w : World} {g : Nat} (hg : g = w.heap.size) (t : TypeId) (cs : Array Value) : ∀ j u, cs.toList[j]? = some u → (w.alloc (.cells cs t)).cell? ((⟨g, 0, none⟩ : Addr).add j) = some u := by
  subst hg
  exact blk_cells (Blk.new w t cs)
section
variable (X : Nat → Prop) (B d : Nat) (s : Rg) (mk : Bool) (t : Int) (v : Value) (l : List V3) (w : World)
set_option maxHeartbeats 4000000 in
theorem Put_ok (h : RX X w B d s) (hv : At w 3 row3 v l) (hs : ∀ x ∈ l, x.2.2.size ≤ maxLen) (hr : Ev.rightI mk t l = true) (hsh : s.shut = false) (hL : ¬ late s mk t) {q0 : Nat} (hF : IsLen s.hist.length s.rd q0) (hF2 : q0 < s.room) (hT : s.hist.length < 4000000000000000000) :
    Calls Try.prog 15 #[.pointer (some ⟨d, 0, none⟩), item mk t v] w (PutP X B d s mk t l w) := by
  obtain ⟨j0, hj, hy0, hy1, hy2⟩ := info_parts (P := Try.prog) (e := 37) (z := .agg #[.bool false, .int .i64 0, .slice none 0 0]) (size := 3) (bytes := 40) (by kernel_rfl)
  have bA := ba w (.cells #[.bool mk, .int .i64 t, v] 37)
  have cR := Right_i mk t v l _ ((at_vals hv).later bA) hs
  have hp := Blk.new w 37 #[.bool mk, .int .i64 t, v]
  rw [hr] at cR
  have cF := fun W (hb : Below w.heap.size w W) => Free_any B d s W (h.rs.later hb)
  obtain ⟨p1, p2, p3, p4⟩ := Ev.plain_parts (Ev.rightI_plain hr)
  have cC := fun W (hb : Below w.heap.size w W) => copyOf_any mk t v l W p3 (hv.later hb)
  have cB := fun W => behind_any mk t v W ⟨p1, p2⟩
  obtain ⟨v0, m, L, h, hX⟩ := h
  have hX := Lib.hid hX
  have hB : B ≤ w.heap.size := h.pre.low'
  have hq0 : q0 = L.length := hF.one h.len
  subst hq0
  obtain ⟨A, cap, rfl, _⟩ := hv.shape
  obtain ⟨A0, cap0, rfl, _, k1, k2⟩ := h.pre.row.shape
  have hLr : L.length ≤ 256 := by have := h.pre.ok.room; have := h.fits; omega
  have hE1 : s.edge ≤ behindI mk t := by unfold late at hL; unfold behindI; split <;> omega
  have hE2 : behindI mk t ≤ 2305843009213693953 := by unfold behindI; split <;> omega
  have cG : ∀ (W : World) (v5 : Value) (L1 : List Raw) (s2 : Rg), RPre W B d v5 m L1 s2 → s2.hist = s.hist ++ [(mk, t, l)] → s2.rd = s.rd → s2.room = s.room → L1.length = L.length + 1 → s2.edge = behindI mk t → Calls Try.prog 46 #[.pointer (some ⟨d, 0, none⟩)] W (ForgetP B d v5 m s2 W) := fun W v5 L1 s2 hP e1 e2 e3 e4 e5 => by
    refine forget_any B d v5 m L1 s2 W hP (fun q hq => ?_) (fun x hx => ?_)
    rotate_left
    · rw [e1] at hx
      rw [e5]
      rcases List.mem_append.1 hx with hx | hx
      · have := h.times x hx; omega
      · rw [List.mem_singleton] at hx; subst hx; exact Int.le_refl _
    rw [e1, e2, List.length_append] at hq
    have := isLen_put hF hq
    rw [e3, e4]
    have := h.fits
    omega
  have hw1 : IntKind.i64.wrap ((s.hist.length : Int) + 1) = (s.hist.length : Int) + 1 := IntWalk.i64_in _ (by omega)
  have hz : ((s.room : Int) - (L.length : Int) == 0) = false := by simp; omega
  have hL' := hL
  have H := Lib.hid (And.intro cR (And.intro bA (And.intro h (And.intro hr (And.intro hB (And.intro hsh (And.intro hp (And.intro hL' (And.intro hF (And.intro cF (And.intro cC (And.intro cB (And.intro cG (And.intro hE1 (And.intro hE2 (And.intro hF2 hT)))))))))))))))); clear cR bA h hr hB hsh hp hL' cF cC cB cG hE1 hE2 hv hs p4
  have hp1 := p1; have hp2 := p2; have hp3 := p3; clear p1 p2 p3
  unfold late at hL
  have n1 : ¬ t < s.edge := fun e => hL (Or.inl e)
  have n1b : decide (t < s.edge) = false := decide_eq_false n1
  have n2 : mk = false ∨ (mk = true ∧ ¬ t = s.edge) := by
    cases mk
    · exact Or.inl rfl
    · exact Or.inr ⟨rfl, fun e => hL (Or.inr ⟨rfl, e⟩)⟩
  clear hL
  have n2' : (mk = false ∧ True ∧ True) ∨ (mk = true ∧ decide (t = s.edge) = false ∧ (t == s.edge) = false) := by
    rcases n2 with h | ⟨h, n2⟩
    · exact Or.inl ⟨h, trivial, trivial⟩
    · exact Or.inr ⟨h, decide_eq_false n2, by simpa using n2⟩
  have hdp : ¬ w.heap.size = d := by have := H.out.2.2.1.pre.blk.lt; omega
  have hdp' : ¬ d = w.heap.size := fun e => hdp e.symm
  clear n2
  rcases n2' with ⟨rfl, n2b, n2c⟩ | ⟨rfl, n2b, n2c⟩
  all_goals
    go_enter Try.func15, Try.ntmps15
    go_wp2_with (go_at_call 43; ((with_reducible refine H.out.1.mono ?_); rintro e w1 ⟨rfl, b1⟩; obtain ⟨_, _, _, c3, c4, _, _, dl, df⟩ := (H.out.2.2.1.pre.later (bt H.out.2.1 b1)).cells; rw [H.out.2.2.2.2.2.1] at c4; obtain ⟨p0, p1, p2⟩ := (H.out.2.2.2.2.2.2.1.later b1).three; have pl := (H.out.2.2.2.2.2.2.1.later b1).lt; have pf := (H.out.2.2.2.2.2.2.1.later b1).frozen))
    go_quiet (fail)
    go_wp2_with (go_at_call 21; ((with_reducible refine (H.out.2.2.2.2.2.2.2.2.2.1 _ (below_drewN (bt H.out.2.1 b1) _)).mono ?_); rintro e w2 ⟨q, ⟨rfl, hq, hqr⟩, b2⟩; obtain rfl := hq.one H.out.2.2.2.2.2.2.2.2.1; have b12 := (below_drewN (Below.refl _ w1) _).trans b2; have bp := bt b1 b12; obtain ⟨r0, r1, r2⟩ := (H.out.2.2.2.2.2.2.1.later bp).three; have rl := (H.out.2.2.2.2.2.2.1.later bp).lt; have rf := (H.out.2.2.2.2.2.2.1.later bp).frozen; obtain ⟨_, f1, f2, f3, _, _, _, fl, ff⟩ := (H.out.2.2.1.pre.later (bt H.out.2.1 bp)).cells; have K := Lib.hid (And.intro bp (bt H.out.2.1 bp).size); clear b1 b2 hq b12 bp c3 c4 dl df p0 p1 p2 pl pf))
    go_region_law (first
      | (go_simp; go_at_call 44; refine (H.out.2.2.2.2.2.2.2.2.2.2.1 w2.drew (below_drew (bt H.out.2.1 K.out.1))).mono ?_; rintro e w3 ⟨v3, ⟨rfl, hN3⟩, b3⟩; have b23 := (below_drew (Below.refl w2.heap.size w2)).trans b3; have b3' := bt K.out.1 b23; obtain ⟨r0, r1, r2⟩ := (H.out.2.2.2.2.2.2.1.later b3').three; have rl := (H.out.2.2.2.2.2.2.1.later b3').lt; have rf := (H.out.2.2.2.2.2.2.1.later b3').frozen; obtain ⟨_, g1, g2, g3, _, _, _, gl, gf⟩ := (H.out.2.2.1.pre.later (bt H.out.2.1 b3')).cells; obtain ⟨A3, n3, hv3⟩ := hN3.shape; subst hv3; have K3 := Lib.hid (And.intro hN3 (And.intro (bt H.out.2.1 b3') b3')); clear hN3 b3 b23 b3')
      | (refine step_append_own_at rfl (.tmp 45) (.tmp 48) 61 rfl B 37 j0 (.agg #[.bool false, .int .i64 0, .slice none 0 0]) 3 40 Try.underlying61 hj hy0 hy1 hy2 rfl (by decide) (.slice A0 L.length cap0) L.length _ rfl ((H.out.2.2.1.pre.later (bt K3.out.2.1 (ba w3 _))).row) ⟨_, 0, none⟩ 1 1 (rowI (_, t, (A3, l.length, n3))) rfl rfl (new_cells rfl _ _) (by simp [Value.oneCell']) (by unfold maxLen; omega) (by omega) (by have := H.out.2.2.2.2.1; have := K3.out.2.1.size; simp; omega) ?_; intro v5 w5 hO5 hg5 hat5; have hq5 := put_mid_at H.out.2.2.1.pre (bt K3.out.2.1 (ba w3 _)) hg5; have hpp := put_p H.out.2.2.1.pre ((H.out.2.2.2.2.2.2.1.later K3.out.2.2).alloc _) hg5; have h6 := put_mid (s := s) H.out.2.2.1.pre (bt K3.out.2.1 (ba w3 _)) hT ⟨hp3, hp1, hp2⟩ (((K3.out.1).weak (Nat.le_trans H.out.2.2.2.2.1 K.out.2)).later (ba w3 _)) (Own.more rfl hO5) hg5; obtain ⟨z3, hat6, hz3⟩ : ∃ z3, (v5.ownBlock = (Value.slice A0 L.length cap0).ownBlock ∨ v5.ownBlock = some z3) ∧ w.heap.size ≤ z3 := ⟨_, hat5, (bt K3.out.2.1 (ba w3 _)).size⟩; have hat := Lib.hid (And.intro hat6 hz3); clear hat5 hat6 hz3; obtain ⟨A5, n5, c5, rfl⟩ := own_shape hO5; obtain ⟨e1, e2, e3, el, ef⟩ := hq5; obtain ⟨q0, q1, q2⟩ := hpp.three; have ql := hpp.lt; have K5 := Lib.hid h6; clear hO5 hg5 hpp h6))
    all_goals
      go_wp2_with (first
        | (go_at_call 45; refine (H.out.2.2.2.2.2.2.2.2.2.2.2.1 _).mono ?_; rintro e w7 ⟨rfl, b7⟩; have h7 := K5.out.1.later b7; obtain ⟨_, _, _, x3, _, _, _, xl, xf⟩ := h7.cells; have h8 := h7.cell_edge _ H.out.2.2.2.2.2.2.2.2.2.2.2.2.2.1 H.out.2.2.2.2.2.2.2.2.2.2.2.2.2.2.1; have K8 := Lib.hid (And.intro h8 b7); clear h7 h8 b7)
        | (go_at_call 46; refine (H.out.2.2.2.2.2.2.2.2.2.2.2.2.1 _ _ _ _ K8.out.1.1 rfl rfl rfl (by simp) rfl).mono ?_; rintro e w9 ⟨⟨⟨x9, rfl⟩, ⟨v9, L9, hS9, ho9⟩, hk9⟩, C9⟩; have K9 := Lib.hid (And.intro (And.intro hS9 (And.intro ho9 hk9)) C9); clear hS9 ho9 hk9 C9))
      go_ret
      obtain ⟨y1, y2⟩ := put_ok_keep hX.out hat.out.2 K5.out.2.2 K5.out.2.1.bel.size K8.out.2 hat.out.1 K9.out.1.2.2 (Nat.le_trans K5.out.2.1.bel.size (Nat.le_trans K8.out.2.size (by have := K9.out.2.bel.size; simpa [World.setCell] using this))) K9.out.1.2.1
      exact put_ok_end rfl H.out.2.2.2.1 H.out.2.2.2.2.2.1 H.out.2.2.2.2.2.2.2.1 H.out.2.2.2.2.2.2.2.2.1 hF2 K5.out.2.1 ((Chg.later K5.out.1.low' K8.out.2).trans K8.out.1.2) K9.out.2 ⟨_, _, _, K9.out.1.1, y2⟩ rfl y1
end
end Go.Proofs.Ytbbjlefldpgckaa
namespace Go.Proofs.Ytbbjlefldpgckaa
open Go.ChangeShapes Go.WideShapes Go.ChangeAt Go.RowKit Go.Maps
open Ev (V3 rightV OkV)
set_option linter.unusedVariables false
set_option linter.unusedSimpArgs false

theorem Put_any (X : Nat → Prop) (B d : Nat) (s : Rg) (mk : Bool) (t : Int) (v : Value) (l : List V3) (w : World) (h : RX X w B d s) (hv : At w 3 row3 v l) (hs : ∀ x ∈ l, x.2.2.size ≤ maxLen) (hT : s.hist.length < 4000000000000000000) :
    Calls Try.prog 15 #[.pointer (some ⟨d, 0, none⟩), item mk t v] w (PutP X B d s mk t l w) := by
  rcases hr : Ev.rightI mk t l with _ | _
  · exact Put_no X B d s mk t v l w h (at_vals hv) hs hr
  · rcases hsh : s.shut with _ | _
    · by_cases hL : late s mk t
      · exact Put_late X B d s mk t v l w h (at_vals hv) hs hr hsh hL
      · obtain ⟨q, hq, hqr⟩ : ∃ q, IsLen s.hist.length s.rd q ∧ q ≤ s.room := by
          obtain ⟨_, _, L, h', _⟩ := h
          exact ⟨_, h'.len, h'.fits⟩
        rcases Nat.lt_or_ge q s.room with h1 | h1
        · exact Put_ok X B d s mk t v l w h hv hs hr hsh hL hq h1 hT
        · have e : q = s.room := Nat.le_antisymm hqr h1
          subst e
          exact Put_full X B d s mk t v l w h (at_vals hv) hs hr hsh hL hq
    · exact Put_shut X B d s mk t v l w h (at_vals hv) hs hr hsh
end Go.Proofs.Ytbbjlefldpgckaa
