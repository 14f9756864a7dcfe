/- The chapter's examples (17). -/
import Derived.Test.YtckpecddglfjkaaDrL
namespace Go.Proofs.Ytckpecddglfjkaa
open Go.ChangeShapes Go.WideShapes Go.ChangeAt Go.RowKit
open Dr
set_option linter.unusedVariables false
set_option linter.unusedSimpArgs false

theorem okC_ex : OkC [(7, 3), (8, 3)] := ⟨fun c hc => by
  rcases List.mem_cons.1 hc with rfl | hc
  · exact ⟨⟨by decide, by decide⟩, ⟨by decide, by decide⟩⟩
  · obtain rfl : c = (8, 3) := by simpa using hc
    exact ⟨⟨by decide, by decide⟩, ⟨by decide, by decide⟩⟩, by decide⟩
/-- What a law keeps of its Drr: it, its round, and all that is older. -/
structure Kp (w W : World) (d : Nat) (L : List Fl) (fr : Bool) : Prop where
  drs : DrS W w.heap.size d L fr
  ok : OkS L fr
  bel : Below w.heap.size w W
theorem Kp.add {w W W' : World} {d : Nat} {L L' : List Fl} {fr fr' : Bool} {id q e : Int} (h : Kp w W d L fr) (hr : AddR L fr id q e L' fr') (hd : DrS W' w.heap.size d L' fr') (hx : Chg w.heap.size W W') (hn : L.length < 1000) (hi : wfI id) : Kp w W' d L' fr' := ⟨hd, hr.ok h.ok hn hi, h.bel.trans hx.bel⟩
theorem Kp.turn {w W W' : World} {d : Nat} {L L' : List Fl} {fr fr' : Bool} {cs : List (Int × Int)} {id : Int} {ok : Bool} (h : Kp w W d L fr) (hr : TurnR cs L fr id ok L' fr') (hd : DrS W' w.heap.size d L' fr') (hx : Chg w.heap.size W W') : Kp w W' d L' fr' := ⟨hd, hr.ok h.ok, h.bel.trans hx.bel⟩
theorem Kp.drop {w W W' : World} {d : Nat} {L L' : List Fl} {fr fr' : Bool} {id : Int} {ok : Bool} (h : Kp w W d L fr) (hr : DropR L fr id ok L' fr') (hd : DrS W' w.heap.size d L' fr') (hx : Chg w.heap.size W W') : Kp w W' d L' fr' := ⟨hd, hr.ok h.ok, h.bel.trans hx.bel⟩
theorem Kp.later {w W W' : World} {d : Nat} {L : List Fl} {fr : Bool} (h : Kp w W d L fr) (hb : Below W.heap.size W W') : Kp w W' d L fr := by
  obtain ⟨v, l, c, h1, h2⟩ := h.drs
  exact ⟨⟨v, l, c, h1.later hb, h2⟩, h.ok, bt h.bel hb⟩
theorem Kp.start (w W : World) (h : DrS W w.heap.size w.heap.size [] false) (hb : Below w.heap.size w W) : Kp w W w.heap.size [] false := ⟨h, OkS.nil _, hb⟩
set_option maxRecDepth 20000 in
set_option maxHeartbeats 2000000 in
theorem examples_any (w : World) :
    Calls Try.prog 9 #[] w fun e w' => e = .returned (.bool true) ∧ Below w.heap.size w w' := by
  go_enter Try.func9, Try.ntmps9
  go_wp2_with fail
  go_at_call 10
  ((with_reducible refine (New_any _).mono ?_); rintro e w1 ⟨rfl, hD, hb⟩)
  have K := Lib.hid (Kp.start w w1 hD hb); clear hD hb
  go_wp2_with fail
  go_at_call 15
  refine (Turn_any w.heap.size w.heap.size [] false _ [] w1 K.out.drs K.out.ok (At.nil _ _ _) ⟨by simp, by decide⟩).mono ?_
  rintro e w2 ⟨id, ok, L', fr', ⟨rfl, hR, hD⟩, hX⟩
  have K2 := Lib.hid (K.out.turn hR hD hX)
  obtain ⟨rfl, rfl, rfl, rfl⟩ := hR.no rfl
  clear hR hD hX K
  go_wp2_with fail
  go_at_call 11
  refine (Add_any w.heap.size w.heap.size [] false 7 2 w2 K2.out.drs (by decide)).mono ?_
  rintro e w3 ⟨r, L', fr', ⟨rfl, hR, hD⟩, hX⟩
  have K3 := Lib.hid (K2.out.add hR hD hX (by decide) ⟨by decide, by decide⟩)
  obtain ⟨rfl, rfl, rfl⟩ := hR.yes (by decide) (by decide) (by decide)
  clear hR hD hX K2
  go_wp2_with fail
  go_at_call 11
  refine (Add_any w.heap.size w.heap.size [(7, 2, 0, 0)] true 8 3 w3 K3.out.drs (by decide)).mono ?_
  rintro e w4 ⟨r, L', fr', ⟨rfl, hR, hD⟩, hX⟩
  have K4 := Lib.hid (Kp.add (L := [(7, 2, 0, 0)]) (fr := true) K3.out hR hD hX (by decide) ⟨by decide, by decide⟩)
  obtain ⟨rfl, rfl, rfl⟩ := hR.yes (by decide) (by decide) (by decide)
  clear hR hD hX K3
  go_wp2_with fail
  go_at_call 11
  refine (Add_any w.heap.size w.heap.size [(7, 2, 0, 0), (8, 3, 0, 0)] true 7 1 w4 K4.out.drs (by decide)).mono ?_
  rintro e w5 ⟨r, L', fr', ⟨rfl, hR, hD⟩, hX⟩
  have K5 := Lib.hid (Kp.add (L := [(7, 2, 0, 0), (8, 3, 0, 0)]) (fr := true) K4.out hR hD hX (by decide) ⟨by decide, by decide⟩)
  obtain ⟨rfl, rfl, rfl⟩ := hR.twice (by decide) (by decide) (by decide)
  clear hR hD hX K4
  go_wp2_with fail
  go_at_call 11
  refine (Add_any w.heap.size w.heap.size [(7, 2, 0, 0), (8, 3, 0, 0)] true 9 0 w5 K5.out.drs (by decide)).mono ?_
  rintro e w6 ⟨r, L', fr', ⟨rfl, hR, hD⟩, hX⟩
  have K6 := Lib.hid (K5.out.add hR hD hX (by decide) ⟨by decide, by decide⟩)
  obtain ⟨rfl, rfl, rfl⟩ := hR.arg (by decide)
  clear hR hD hX K5
  go_wp2_with fail
  have hl := own_lit (W := w6) (e := 55) (k := 2) (f := rowC) (B := w6.heap.size) (g := w6.heap.size) (n := 2) [(7, 3), (8, 3)] (cs := #[.int .i64 7, .int .i64 3, .int .i64 8, .int .i64 3]) rfl (Nat.le_refl _) rfl (by decide) rfl rfl
  have K7 := Lib.hid (And.intro (K6.out.later (ba w6 (.cells #[.int .i64 7, .int .i64 3, .int .i64 8, .int .i64 3] 55))) hl); clear hl K6
  go_at_call 15
  refine (Turn_any w.heap.size w.heap.size [(7, 2, 0, 0), (8, 3, 0, 0)] true _ [(7, 3), (8, 3)] _ K7.out.1.drs K7.out.1.ok (Own.at_ (f := rowC) (k := 2) (fun _ => rfl) K7.out.2) okC_ex).mono ?_
  rintro e w8 ⟨id, ok, L', fr', ⟨rfl, hR, hD⟩, hX⟩
  have K8 := Lib.hid (And.intro (K7.out.1.turn hR hD hX) (K7.out.2.frm hX.frm (by decide) (by decide)))
  obtain ⟨rfl, rfl, rfl, rfl⟩ := hR.one 5 (f := (8, 3, 0, 3)) (r := [(7, 2, 2, 3)]) (fr2 := false) rfl rfl
  clear hR hD hX K7
  go_wp2_with fail
  go_at_call 15
  refine (Turn_any w.heap.size w.heap.size [(8, 3, 0, 3), (7, 2, 2, 3)] false _ [(7, 3), (8, 3)] _ K8.out.1.drs K8.out.1.ok (Own.at_ (f := rowC) (k := 2) (fun _ => rfl) K8.out.2) okC_ex).mono ?_
  rintro e w9 ⟨id, ok, L', fr', ⟨rfl, hR, hD⟩, hX⟩
  have K9 := Lib.hid (K8.out.1.turn hR hD hX)
  obtain ⟨rfl, rfl, rfl, rfl⟩ := hR.one 5 (f := (7, 2, 1, 3)) (r := [(8, 3, 0, 3)]) (fr2 := false) rfl rfl
  clear hR hD hX K8
  go_wp2_with fail
  go_at_call 19
  refine (Flows_any w.heap.size w.heap.size [(7, 2, 1, 3), (8, 3, 0, 3)] false _ K9.out.drs (by decide)).mono ?_
  rintro e w10 ⟨v, ⟨rfl, hO⟩, hb⟩
  obtain ⟨sA, sc, rfl, _, _, _⟩ := hO.shape
  have hO' : Own w10 w9.heap.size 48 3 rowG (.slice sA 2 sc) [(7, 2, 1), (8, 3, 0)] := hO
  have K10 := Lib.hid (And.intro (K9.out.later hb) hO'); clear hO hO' hb K9
  obtain ⟨gf, rfl, _, _, _, _⟩ := K10.out.2.cells (f := rowG) (k := 3) (fun _ => rfl) rfl (by decide)
  go_wp2_with fail
  go_at_call 13
  refine (Drop_any w.heap.size w.heap.size [(7, 2, 1, 3), (8, 3, 0, 3)] false 8 _ K10.out.1.drs K10.out.1.ok).mono ?_
  rintro e w11 ⟨ok, L', fr', ⟨rfl, hR, hD⟩, hX⟩
  have K11 := Lib.hid (And.intro (K10.out.1.drop hR hD hX) (K10.out.2.frm hX.frm (by decide) (by decide)))
  obtain ⟨rfl, rfl, rfl⟩ : ok = true ∧ L' = [(7, 2, 1, 3)] ∧ fr' = false := by
    rcases hR with ⟨h, _⟩ | ⟨_, h1, h2, h3⟩
    · exact absurd (by decide) h
    · exact ⟨h1, h2, h3⟩
  clear hR hD hX K10
  go_wp2_with fail
  go_at_call 13
  refine (Drop_any w.heap.size w.heap.size [(7, 2, 1, 3)] false 8 _ K11.out.1.drs K11.out.1.ok).mono ?_
  rintro e w12 ⟨ok, L', fr', ⟨rfl, hR, hD⟩, hX⟩
  have K12 := Lib.hid (And.intro (K11.out.1.drop hR hD hX) (K11.out.2.frm hX.frm (by decide) (by decide)))
  obtain rfl : ok = false := by
    rcases hR with ⟨_, h, _⟩ | ⟨h, _⟩
    · exact h
    · exact absurd h (by decide)
  clear hR hD hX K11
  obtain ⟨g2, hg2, _, gl, gfz, hc⟩ := K12.out.2.cells (f := rowG) (k := 3) (fun _ => rfl) rfl (by decide)
  obtain rfl : gf = g2 := by simpa using hg2
  have c0 := hc 0 (by decide) 0 _ rfl
  have c1 := hc 0 (by decide) 1 _ rfl
  have c2 := hc 0 (by decide) 2 _ rfl
  have c3 := hc 1 (by decide) 0 _ rfl
  have c4 := hc 1 (by decide) 1 _ rfl
  have c5 := hc 1 (by decide) 2 _ rfl
  simp only [Nat.reduceMul, Nat.reduceAdd, List.getElem_cons_zero, List.getElem_cons_succ] at c0 c1 c2 c3 c4 c5
  clear hc hg2
  go_wp2
  go_ret
  exact ⟨rfl, K12.out.1.bel⟩
end Go.Proofs.Ytckpecddglfjkaa
