/- Texts of the proof of RingTells, part 31. -/
import Derived.Test.YtbbjlefldpgckaaPRingTells19
import Derived.Test.YtbbjlefldpgckaaPRingTells30
import Derived.Test.YtbbjlefldpgckaaPRingTells22
import Derived.Test.YtbbjlefldpgckaaPRingTells25
import Derived.Maps.AppendAt
namespace Go.Proofs.Ytbbjlefldpgckaa
open Go.ChangeShapes Go.WideShapes Go.ChangeAt Go.RowKit Go.Maps
open Ev (V3 rightV OkV)
set_option linter.unusedVariables false
set_option linter.unusedSimpArgs false

theorem AddR.same {s s' s'' : Rg} {n n' : Int} (h : AddR s n s') (h' : AddR s n' s'') : n' = n ∧ s'' = s' := by
  rcases Nat.lt_or_ge s.cnt 16 with hc | hc
  · obtain ⟨rfl, rfl⟩ := h.yes hc
    exact h'.yes hc
  · obtain ⟨rfl, rfl⟩ := h.no hc
    exact h'.no hc
theorem DropR.same {s s' s'' : Rg} {id : Int} {b b' : Bool} (h : DropR s id b s') (h' : DropR s id b' s'') : b' = b ∧ s'' = s' := by
  rcases hr : s.rd id with _ | r
  · obtain ⟨rfl, rfl⟩ := h.no hr
    exact h'.no hr
  · obtain ⟨rfl, rfl⟩ := h.yes hr
    exact h'.yes hr
theorem NextR.same {s s' s'' : Rg} {id : Int} {x x' : Option It} (h : NextR s id x s') (h' : NextR s id x' s'') : x' = x ∧ s'' = s' := by
  rcases h with ⟨h0, rfl, rfl⟩ | ⟨r, y, hr, hy, rfl, rfl⟩
  · exact h'.no h0
  · exact h'.yes hr hy
theorem PutR.same {s s' s'' : Rg} {mk : Bool} {t : Int} {l : List V3} {c c' : Int} (h : PutR s mk t l c s') (h' : PutR s mk t l c' s'') : c' = c ∧ s'' = s' := by
  rcases hr : Ev.rightI mk t l with _ | _
  · have no : ∀ {c s'}, PutR s mk t l c s' → c = 7 ∧ s' = s := by
      intro c s' h
      rcases h with ⟨_, h1, h2⟩ | ⟨h1, _⟩ | ⟨h1, _⟩ | ⟨h1, _⟩ | ⟨h1, _⟩
      · exact ⟨h1, h2⟩
      all_goals (rw [hr] at h1; cases h1)
    obtain ⟨rfl, rfl⟩ := no h
    exact no h'
  · rcases hs : s.shut with _ | _
    · by_cases hl : Go.Proofs.Ytbbjlefldpgckaa.late s mk t
      · obtain ⟨rfl, rfl⟩ := h.late hr hs hl
        exact h'.late hr hs hl
      · by_cases hE : ∃ q, IsLen s.hist.length s.rd q ∧ q < s.room
        · obtain ⟨q, hq, hlt⟩ := hE
          have e1 := h.ok hr hs hl hq hlt
          have e2 := h'.ok hr hs hl hq hlt
          exact ⟨e2.1.trans e1.1.symm, e2.2.trans e1.2.symm⟩
        · have no : ∀ {c s'}, PutR s mk t l c s' → c = 9 ∧ s' = s := by
            intro c s' h
            rcases h with ⟨h1, _⟩ | ⟨_, h1, _⟩ | ⟨_, _, h1, _⟩ | ⟨_, _, _, _, h1, h2⟩ | ⟨_, _, _, h1, _⟩
            · rw [hr] at h1; cases h1
            · rw [hs] at h1; cases h1
            · exact absurd h1 hl
            · exact ⟨h1, h2⟩
            · exact absurd h1 hE
          obtain ⟨rfl, rfl⟩ := no h
          exact no h'
    · obtain ⟨rfl, rfl⟩ := h.shut hr hs
      exact h'.shut hr hs
end Go.Proofs.Ytbbjlefldpgckaa
namespace Go.Proofs.Ytbbjlefldpgckaa
open Go.ChangeShapes Go.WideShapes Go.ChangeAt Go.RowKit Go.Maps
open Ev (V3 rightV OkV)
set_option linter.unusedVariables false
set_option linter.unusedSimpArgs false
set_option maxRecDepth 20000

/-- What a call on the document's ring leaves of all else. -/
structure ChM (B : Nat) (w w' : World) : Prop where
  bel : Below B w w'
  frm : FrM w w'
theorem ChM.refl (B : Nat) (w : World) : ChM B w w := ⟨Below.refl _ _, FrM.refl _⟩
theorem ChM.trans {B : Nat} {a b c : World} (h : ChM B a b) (k : ChM B b c) : ChM B a c := ⟨h.bel.trans k.bel, h.frm.trans k.frm⟩
theorem ChM.later {B : Nat} {w w' : World} (hB : B ≤ w.heap.size) (h : Below w.heap.size w w') : ChM B w w' := ⟨h.mono hB, FrM.below h⟩
theorem below_grown {w w' : World} {row : Option Nat} (h : Below w.heap.size w w') : w.grownBy w' row := ⟨h.os, h.tape, h.output, h.size, fun k hk _ => h.block k hk⟩
section
variable {w w' : World} {B p : Nat} {vl vq : Value} {L : List Raw} {Q : List Qr} {s : Rg}
theorem own_nep {α : Type} {b : Nat} {e : TypeId} {k : Nat} {f : α → List Value} {v : Value} {l : List α} {g : Nat} {t : TypeId} {cs : Array Value} (hO : Own w b e k f v l) (hB : Blk w g t cs) (hne : e ≠ t) : v.ownBlock ≠ some g := fun hv => by
  obtain ⟨_, cs', hc⟩ := hO.block hv
  have := hc.symm.trans hB
  simp only [Option.some.injEq, Obj.cells.injEq] at this
  exact hne this.2.1
theorem own_nq {α β : Type} {w : World} {b b' : Nat} {e e' : TypeId} {k k' : Nat} {f : α → List Value} {f' : β → List Value} {v v' : Value} {l : List α} {l' : List β} (h : Own w b e k f v l) (h' : Own w b' e' k' f' v' l') (he : e ≠ e') {g : Nat} (hg : v'.ownBlock = some g) : v.ownBlock ≠ some g := fun hv => by
  obtain ⟨_, cs, hc⟩ := h.block hv
  obtain ⟨_, cs', hc'⟩ := h'.block hg
  have := hc.symm.trans hc'
  simp only [Option.some.injEq, Obj.cells.injEq] at this
  exact he this.2.1
theorem own_n {α : Type} {w : World} {b : Nat} {e : TypeId} {k : Nat} {f : α → List Value} {v : Value} {l : List α} (h : Own w b e k f v l) {n : Nat} (hn : n = l.length) : w.ownsRow b e k v n (l.flatMap f) := by
  subst hn
  exact h
theorem own_setp {α : Type} {b : Nat} {e : TypeId} {k : Nat} {f : α → List Value} {v : Value} {l : List α} {g : Nat} {t : TypeId} {cs : Array Value} (hO : Own w b e k f v l) (hB : Blk w g t cs) (hne : e ≠ t) (o : Nat) (u : Value) : Own (w.setCell ⟨g, o, none⟩ u) b e k f v l :=
  hO.grown (grown_set w g o u) (fun g' hg' => by
    obtain rfl : g = g' := by simpa using hg'
    exact own_nep hO hB hne)
/-- A cell of the ring's block is written. -/
theorem RM.rest (h : RM w B p vl vq L Q s) (o : Nat) (u : Value) : Own (w.setCell ⟨p, o, none⟩ u) B tMi 3 rowI vl L ∧ Its (w.setCell ⟨p, o, none⟩ u) B L s.hist ∧ Own (w.setCell ⟨p, o, none⟩ u) B tMq 3 rowQ vq Q ∧ ChM B w (w.setCell ⟨p, o, none⟩ u) :=
  ⟨own_setp h.l h.blk (by decide) o u, h.its.mono (fun _ _ hn => own_setp hn h.blk (by decide) o u), own_setp h.q h.blk (by decide) o u, ⟨(Below.refl _ _).setCell (p := ⟨p, o, none⟩) h.low _, FrM.set h.blk (Or.inl rfl) o u⟩⟩
theorem RM.given (h : RM w B p vl vq L Q s) (h1 : s.given < 4000000000000000000) :
    RM (w.setCell ⟨p, 3, none⟩ (.int .i64 ((s.given : Int) + 1))) B p vl vq L Q { s with given := s.given + 1 } ∧ ChM B w (w.setCell ⟨p, 3, none⟩ (.int .i64 ((s.given : Int) + 1))) := by
  obtain ⟨r1, r2, r3, r4⟩ := h.rest 3 (.int .i64 ((s.given : Int) + 1))
  have hb := h.blk.set_ 3 (.int .i64 ((s.given : Int) + 1))
  refine ⟨⟨h.low, by unfold mgCells; simp only [Int.natCast_add, Int.natCast_one]; simpa using hb, r1, r2, r3, ⟨h.qok.nd, h.qok.rd, h.qok.cnt⟩, ⟨h.ok.room, h.ok.cnt, fun id r hr => ?_, h.ok.edge, h.ok.total, h1, h.ok.items⟩⟩, r4⟩
  obtain ⟨a, b, c, d'⟩ := h.ok.rd id r hr
  exact ⟨a, by show id ≤ ((s.given + 1 : Nat) : Int); omega, c, d'⟩
/-- The readers' row is another one. -/
theorem RM.newQ (h : RM w B p vl vq L Q s) (hg : w.grownBy w' vq.ownBlock) {v5 : Value} {Q' : List Qr} (hO : Own w' B tMq 3 rowQ v5 Q') {s' : Rg} (e1 : s'.room = s.room) (e2 : s'.hist = s.hist) (e3 : s'.edge = s.edge) (e4 : s'.shut = s.shut) (e5 : s'.given = s.given) (hq : QOk Q' s') (hok : OkG s') :
    RM (w'.setCell ⟨p, 2, none⟩ v5) B p vl v5 L Q' s' ∧ ChM B w (w'.setCell ⟨p, 2, none⟩ v5) := by
  have hne := own_nep h.q h.blk (by decide)
  have hb := h.blk.grown hg (fun e => hne e.symm)
  have hF := FrM.own h.q hg (Or.inr (Or.inr rfl))
  have hlow := h.low'
  refine ⟨⟨h.low, ?_, own_setp (h.l.grown hg (fun g hgg => own_nq h.l h.q (by decide) hgg)) hb (by decide) 2 v5, ?_, own_setp hO hb (by decide) 2 v5, hq, hok⟩, ⟨(grownBy_below hg hlow (fun k hk => (h.q.block hk).1)).trans ((Below.refl _ _).setCell (p := ⟨p, 2, none⟩) h.low _), hF.trans (FrM.set hb (Or.inl rfl) 2 v5)⟩⟩
  · have := hb.set_ 2 v5
    unfold mgCells
    rw [e1, e3, e4, e5]
    simpa using this
  · rw [e2]
    exact h.its.mono (fun u l hn => own_setp (hn.grown hg (fun g hgg => own_nq hn h.q (by decide) hgg)) hb (by decide) 2 v5)
end
theorem QOk.add {Q : List Qr} {s : Rg} (h : QOk Q s) {n : Int} {r : Rdr} (hn : s.rd n = none) {s' : Rg} (e1 : s'.rd = upd s.rd n (some r)) (e2 : s'.cnt = s.cnt + 1) : QOk (Q ++ [(n, r)]) s' := by
  have hno : Q.find? (fun x => x.1 == n) = none := by
    have := h.rd n
    rw [hn] at this
    rcases hf : Q.find? (fun x => x.1 == n) with _ | x
    · exact hf
    · rw [hf] at this; cases this
  have hmem : ∀ x ∈ Q, x.1 ≠ n := fun x hx => by
    have := List.find?_eq_none.1 hno x hx
    simpa using this
  refine ⟨?_, fun id => ?_, by rw [e2, h.cnt]; simp⟩
  · rw [List.map_append, List.nodup_append]
    refine ⟨h.nd, by simp, fun a ha b hb => ?_⟩
    obtain ⟨x, hx, rfl⟩ := List.mem_map.1 ha
    simp only [List.map_cons, List.map_nil, List.mem_singleton] at hb
    subst hb
    exact hmem x hx
  · rw [e1, List.find?_append]
    by_cases he : id = n
    · subst he
      rw [upd_same, hno]
      simp
    · rw [upd_other _ _ he, h.rd]
      rcases hf : Q.find? (fun x => x.1 == id) with _ | x
      · have : ((n, r) : Qr).1 ≠ id := fun e => he e.symm
        have hne : (n == id) = false := by simpa using this
        simp [hf, hne]
      · simp [hf]
set_option maxHeartbeats 2000000 in
theorem mAdd_some {w : World} {B p : Nat} {vl vq : Value} {L : List Raw} {Q : List Qr} {s : Rg} (h : RM w B p vl vq L Q s) (hG : s.given < 4000000000000000000) (hf : s.cnt < 16) :
    Calls Try.prog 34 #[.pointer (some ⟨p, 0, none⟩)] w fun e w' => ∃ n s', (e = .returned (.int .i64 n) ∧ AddR s n s' ∧ MS w' B p s') ∧ ChM B w w' := by
  obtain ⟨j0, hj, hy0, hy1, hy2⟩ := info_parts (P := Try.prog) (e := tMq) (z := .agg #[.int .i64 0, .int .i64 0, .int .i64 0]) (size := 3) (bytes := 24) (by kernel_rfl)
  obtain ⟨c0, c1, c2, c3, c4, c5, dl, df⟩ := h.cells
  obtain ⟨h3, C3⟩ := h.given hG
  obtain ⟨A, c, rfl, _, hc1, hc2⟩ := h.q.shape
  obtain ⟨AL, cL, rfl, _, hl1, hl2⟩ := h.l.shape
  have hql := h.qlen
  have hcq := h.qok.cnt
  have hL := h.llen
  have hT := h.ok.total
  have hno : s.rd ((s.given : Int) + 1) = none := by
    rcases hr : s.rd ((s.given : Int) + 1) with _ | r
    · rfl
    · have := (h.ok.rd _ _ hr).2.1
      omega
  obtain ⟨n, hn⟩ : ∃ n, n = Q.length := ⟨_, rfl⟩
  obtain ⟨nl, hnl⟩ : ∃ nl, nl = L.length := ⟨_, rfl⟩
  rw [← hn] at c2 h h3
  rw [← hnl] at c1 h h3
  have hn16 : n < 16 := by omega
  have hge : ¬ 16 ≤ (n : Int) := by omega
  have hge2 : decide (16 ≤ (n : Int)) = false := decide_eq_false hge
  have hml : nl ≤ 4000000000000000000 := by omega
  have hw1 : IntKind.i64.wrap ((s.given : Int) + 1) = (s.given : Int) + 1 := IntWalk.i64_in _ (by omega)
  have hqok : ∀ s' : Rg, s'.rd = upd s.rd ((s.given : Int) + 1) (some (nl, s.edge)) → s'.cnt = s.cnt + 1 → QOk (Q ++ [((s.given : Int) + 1, nl, s.edge)]) s' := fun s' e1 e2 => h.qok.add hno e1 e2
  have hlo : B ≤ w.heap.size := h.low'
  have H := Lib.hid (And.intro h (And.intro h3 (And.intro C3 (And.intro hn (And.intro hnl (And.intro hno (And.intro hqok (And.intro hL hlo))))))))
  clear h h3 C3 hn hnl hno hqok hL hcq hql hc1 hl1 hT
  have cells3 : ∀ W, Below (w.setCell ⟨p, 3, none⟩ (.int .i64 ((s.given : Int) + 1))).heap.size (w.setCell ⟨p, 3, none⟩ (.int .i64 ((s.given : Int) + 1))) W → W.cell? ⟨p, 1, none⟩ = some (.slice AL nl cL) ∧ W.cell? ⟨p, 2, none⟩ = some (.slice A n c) ∧ W.cell? ⟨p, 3, none⟩ = some (.int .i64 ((s.given : Int) + 1)) ∧ W.cell? ⟨p, 5, none⟩ = some (.int .i64 s.edge) ∧ p < W.heap.size ∧ W.frozen? ⟨p, 2, none⟩ = false := fun W hb => by
    obtain ⟨_, a1, a2, a3, _, a5, al, af⟩ := (H.out.2.1.later hb).cells
    exact ⟨a1, a2, by simpa using a3, a5, al, af 2⟩
  have C := Lib.hid cells3; clear cells3
  go_enter Try.func34, Try.ntmps34
  go_wp2_with fail
  generalize hW : w.setCell ⟨p, 3, none⟩ (.int .i64 ((s.given : Int) + 1)) = W at *
  clear hW c0 c1 c2 c3 c4 c5 dl df
  have hS : Below W.heap.size W W.drew := below_drew (Below.refl _ _)
  obtain ⟨g1, g2, g3, g5, gl, gf⟩ := C.out W (Below.refl _ _)
  have hqr : ∀ X, Below W.heap.size W X → X.ownsRow B tMq 3 (.slice A n c) n (Q.flatMap rowQ) := fun X hb => own_n (H.out.2.1.q.later hb) H.out.2.2.2.1
  have hqr := Lib.hid hqr
  have hWs := H.out.2.2.1.bel.size
  obtain ⟨CC, hCC⟩ : ∃ CC : Array Value, CC = #[.int .i64 ((s.given : Int) + 1), .int .i64 (nl : Int), .int .i64 s.edge] := ⟨_, rfl⟩
  have hnc : ∀ j u, (rowQ ((s.given : Int) + 1, nl, s.edge))[j]? = some u → (W.alloc (.cells #[.int .i64 ((s.given : Int) + 1), .int .i64 (nl : Int), .int .i64 s.edge] tMq)).drew.cell? ((⟨W.heap.size, 0, none⟩ : Addr).add j) = some u := new_cells rfl tMq #[.int .i64 ((s.given : Int) + 1), .int .i64 (nl : Int), .int .i64 s.edge]
  have hnc := Lib.hid hnc
  clear hCC
  go_region_law (first
    | (refine step_append_own_at rfl (.tmp 20) (.tmp 35) 65 rfl B tMq j0 (.agg #[.int .i64 0, .int .i64 0, .int .i64 0]) 3 24 Try.underlying65 hj hy0 hy1 hy2 rfl (by decide) (.slice A n c) n _ rfl (hqr.out _ (below_drew (ba W (.cells #[.int .i64 ((s.given : Int) + 1), .int .i64 (nl : Int), .int .i64 s.edge] tMq)))) ⟨W.heap.size, 0, none⟩ 1 1 (rowQ ((s.given : Int) + 1, nl, s.edge)) rfl rfl hnc.out (by simp [Value.oneCell']) (by unfold maxLen; omega) (by omega) (by simp; omega) ?_; intro v5 w5 hO5 hg5 _; obtain ⟨A5, n5, c5, hv5⟩ := own_shape hO5; have hq := (H.out.2.1.later (below_drew (ba W (.cells #[.int .i64 ((s.given : Int) + 1), .int .i64 (nl : Int), .int .i64 s.edge] tMq)))); have hb5 := hq.blk.grown hg5 (fun e => own_nep hq.q hq.blk (by decide) e.symm); have y3 : w5.cell? ⟨p, 3, none⟩ = some (.int .i64 ((s.given : Int) + 1)) := (by have := hb5.cell 3; simpa [mgCells] using this); have y2 : w5.cell? ⟨p, 2, none⟩ = some (.slice A n c) := (by have := hb5.cell 2; simpa [mgCells] using this); have yl := hb5.lt; have yf := hb5.frozen; subst hv5; have K5 := Lib.hid (And.intro hq (And.intro hg5 (Own.more H.out.2.2.2.1 hO5))); clear hO5 hg5 hq hb5))
  all_goals go_wp2
  all_goals go_ret
  all_goals
    have hN := K5.out.1.newQ (s' := { s with given := s.given + 1, cnt := s.cnt + 1, rd := upd s.rd ((s.given : Int) + 1) (some (nl, s.edge)) }) K5.out.2.1 K5.out.2.2 rfl rfl rfl rfl rfl (H.out.2.2.2.2.2.2.1 _ rfl rfl) (by
      have ho := H.out.2.1.ok
      refine ⟨ho.room, by show s.cnt + 1 ≤ 16; omega, fun id r hr => ?_, ho.edge, ho.total, ho.given, ho.items⟩
      by_cases he : id = (s.given : Int) + 1
      · subst he
        have hr' : upd s.rd ((s.given : Int) + 1) (some (nl, s.edge)) ((s.given : Int) + 1) = some r := hr
        rw [upd_same] at hr'
        obtain rfl := Option.some.inj hr'
        exact ⟨by omega, by show _ ≤ ((s.given + 1 : Nat) : Int); omega, by show nl ≤ s.hist.length; rw [H.out.2.2.2.2.1, H.out.2.2.2.2.2.2.2.1]; exact Nat.le_refl _, Int.le_refl _⟩
      · have hr' : upd s.rd ((s.given : Int) + 1) (some (nl, s.edge)) id = some r := hr
        rw [upd_other _ _ he] at hr'
        exact ho.rd id r hr')
    refine ⟨_, _, ⟨rfl, Or.inr ⟨hf, rfl, H.out.2.2.2.2.2.1, ?_⟩, ⟨_, _, _, _, hN.1⟩⟩, H.out.2.2.1.trans ((ChM.later (Nat.le_trans H.out.2.2.2.2.2.2.2.2 H.out.2.2.1.bel.size) (below_drew (ba W _))).trans hN.2)⟩
    rw [H.out.2.2.2.2.1, H.out.2.2.2.2.2.2.2.1]
end Go.Proofs.Ytbbjlefldpgckaa
