/- The law's own: an event, an item as the document's. -/
import Derived.Test.YtbmkbpehkpdcmaaRef4P
import Derived.Test.YtbmkbpehkpdcmaaCells2
import Derived.Deep.RegionHeld3
import Derived.Maps.AppendAt
namespace Go.Proofs.Ytbmkbpehkpdcmaa
open Go.ChangeShapes Go.WideShapes Go.ChangeAt Go.RowKit
open Ev (V3 rightV OkV)
set_option linter.unusedVariables false
set_option linter.unusedSimpArgs false
set_option maxRecDepth 20000

theorem step_append_own_at {P : Program} {ops : Array Oper} {o : Oper} {a : Act} {w : World} {K : Act → World → Prop} {Q : Exit → Act → World → Prop} {E : Prop} (hgd : o.guard = none) (s x : Operand) (t : TypeId)
    (ho : o.op = .call { callee := .builtin .append, args := #[s, x], argTypes := #[t, t] })
    (base : Nat) (e : TypeId) (i : TypeInfo) (z : Value) (size bytes : Nat) (ht : P.underlying t = some (.slice e)) (hi : P.info? e = some i) (hz : i.zero = some z)
    (hsize : i.size = size) (hby : i.bytes = bytes) (hzs : z.cells.size = size) (hsz : 0 < size)
    (v : Value) (n : Nat) (xs : List Value) (hs : a.eval s = v) (hown : w.ownsRow base e size v n xs)
    (ad : Addr) (m c : Nat) (news : List Value) (hx : a.eval x = .slice (some ad) m c) (hl : news.length = m * size) (hnews : ∀ j u, news[j]? = some u → w.cell? (ad.add j) = some u) (h1 : ∀ u ∈ news, u.oneCell' = true)
    (h63 : n + m ≤ maxLen) (hbytes : (n + m) * bytes ≤ 140737488355328) (hbase : base ≤ w.heap.size)
    (h : ∀ v' w', w'.ownsRow base e size v' (n + m) (xs ++ news) → w.grownBy w' v.ownBlock → (v'.ownBlock = v.ownBlock ∨ v'.ownBlock = some w.heap.size) → K (a.put o.dst v') w') :
    if Region.wanted o (yielded ops a.tmps) = true then Oper.wp P o a w K Q else E := by
  rw [if_pos (by simp [Region.wanted, hgd])]
  obtain ⟨v', w', hr, h2, h3, _, h5⟩ := run_append_own_at (P := P) w base t o.type e i z size bytes ht hi hz hsize hby hzs hsz v n xs hown ad m c news hl hnews h1 h63 hbytes hbase
  unfold Oper.wp execOp
  simp only [ho, resolve, invoke, builtin, Sem.run_bind, Sem.run_pure, Result.andThen_ok, List.map_toArray, List.map_cons, List.map_nil, hs, hx, hr]
  exact h v' w' h2 h3 h5
theorem new_cells {w : World} {g : Nat} (hg : g = w.heap.size) (t : TypeId) (cs : Array Value) : ∀ j u, cs.toList[j]? = some u → (w.alloc (.cells cs t)).cell? ((⟨g, 0, none⟩ : Addr).add j) = some u := by
  subst hg
  exact blk_cells (Blk.new w t cs)
abbrev tRv : TypeId := 83
abbrev tRe : TypeId := 44
abbrev tRi : TypeId := 46
/-- A struct result of two cells: an event of the document's whose row is the call's own. -/
def RefP (t : Int) (l : List V3) (w : World) (e : Ending) (w' : World) : Prop := ∃ v, (e = .returned (ev t v) ∧ Own w' w.heap.size tRv 3 rowV v l) ∧ Below w.heap.size w w'
set_option maxHeartbeats 8000000 in
theorem ref_any (t : Int) (v : Value) (l : List V3) (w : World) (hv : ValsAt w v l) (hl : l.length * 32 ≤ 140737488355328) :
    Calls Try.prog 19 #[ev t v] w (RefP t l w) := by
  obtain ⟨j0, hj, hy0, hy1, hy2⟩ := info_parts (P := Try.prog) (e := tRv) (z := .agg #[.int .i64 0, .int .i64 0, .string ⟨#[]⟩]) (size := 3) (bytes := 32) (by kernel_rfl)
  obtain ⟨A, cap, rfl, h1, h2, h3⟩ := hv
  obtain ⟨n, hn⟩ : ∃ n, n = l.length := ⟨_, rfl⟩
  rw [← hn] at h1 hl ⊢
  have hm : n ≤ 9223372036854775807 := by unfold maxLen at h2; omega
  have H := Lib.hid (And.intro h3 hn); clear h3 hn
  go_enter Try.func19, Try.ntmps19
  go_wp2
  go_loopw [4] (fun iv wr => ∃ (k : Nat) (v : Value), k ≤ n ∧ iv = .int .i64 k ∧ Below w.heap.size w wr ∧ Blk wr w.heap.size 24 #[.int .i64 t, .slice A n cap] ∧ Blk wr (w.heap.size + 1) tRe #[.int .i64 0, .slice none 0 0] ∧ Blk wr (w.heap.size + 1 + 1) tRe #[.int .i64 t, v] ∧ Own wr (w.heap.size + 3) tRv 3 rowV v (l.take k)) (fun i _ => n - (intOf i).toNat)
  case atStart =>
    have q1 := Blk.new w 24 #[.int .i64 t, .slice A n cap]
    have q2 := Blk.new (w.alloc (.cells #[.int .i64 t, .slice A n cap] 24)) tRe #[.int .i64 0, .slice none 0 0]
    have q3 := Blk.new ((w.alloc (.cells #[.int .i64 t, .slice A n cap] 24)).alloc (.cells #[.int .i64 0, .slice none 0 0] tRe)) tRe #[.int .i64 t, .slice none 0 0]
    rw [World.size_alloc] at q2
    rw [World.size_alloc, World.size_alloc] at q3
    exact ⟨0, .slice none 0 0, Nat.zero_le _, rfl, bt (bt (ba _ _) (ba _ _)) (ba _ _), (q1.alloc _).alloc _, q2.alloc _, q3, Own.nil _ _ _ _ _⟩
  case round =>
    obtain ⟨k, u, hk, rfl, hb, q1, q2, q3, hO⟩ := hrel
    obtain ⟨e0, e1⟩ := q1.two
    obtain ⟨f0, f1⟩ := q3.two
    by_cases hlt : k < n
    · have hll : k < l.length := by rw [← H.out.2]; exact hlt
      obtain ⟨a, rfl, hc⟩ := H.out.1 (by omega)
      have hd := (hc k hll)
      have htk : l.take (k + 1) = l.take k ++ [l[k]'hll] := List.take_succ_eq_append_getElem hll
      have hlen : (l.take k).length = k := by rw [List.length_take]; omega
      generalize (l[k]'hll) = x at *
      obtain ⟨x1, x2, x3⟩ := x
      simp only at hd
      obtain ⟨Au, cu, rfl, _, _, _⟩ := hO.shape
      rw [hlen] at f1 q3 hO
      have hkI : (k : Int) < (n : Int) := by omega
      have hkN : ¬ (n : Int) ≤ (k : Int) := by omega
      have hz1 := q3.lt
      have fz := q3.frozen
      have hqr := Lib.hid (fun X (hX : Below wr.heap.size wr X) => (show X.ownsRow (w.heap.size + 3) tRv 3 (.slice Au k cu) k ((l.take k).flatMap rowV) from (by have := hO.later hX; unfold Own at this; rw [hlen] at this; exact this)))
      have hnc := Lib.hid ((new_cells rfl tRv #[.int .i64 x1, .int .i64 x2, .string x3] : ∀ j u, (rowV (x1, x2, x3))[j]? = some u → (wr.alloc (.cells #[.int .i64 x1, .int .i64 x2, .string x3] tRv)).drew.cell? ((⟨wr.heap.size, 0, none⟩ : Addr).add j) = some u))
      have K := Lib.hid (And.intro hb (And.intro q1 (And.intro q2 (And.intro q3 (And.intro hO (And.intro htk hlen)))))); clear hb q1 q2 q3 hO htk hlen hc
      have hE := Lib.hid (fun (X : World) (hp : Blk X w.heap.size 24 #[.int .i64 t, .slice (some a) n cap]) (hX : Below w.heap.size w X) => (And.intro (hp.cell 1) (hd.later hX) : (fun X => X.cell? ⟨w.heap.size, 1, none⟩ = some (.slice (some a) n cap) ∧ X.cell? (a.add (k * 3)) = some (.int .i64 x1) ∧ X.cell? ⟨(a.add (k * 3)).block, (a.add (k * 3)).off + 1, none⟩ = some (.int .i64 x2) ∧ X.cell? ⟨(a.add (k * 3)).block, (a.add (k * 3)).off + 2, none⟩ = some (.string x3)) X))
      have hE0 := Lib.hid (hE.out wr K.out.2.1 K.out.1)
      have hE1 := Lib.hid (hE.out (wr.alloc (.cells #[.int .i64 x1, .int .i64 x2, .string x3] tRv)) (K.out.2.1.alloc _) (bt K.out.1 (ba _ _)))
      obtain ⟨d00, d0, d1, d2⟩ := hE0.out
      clear hd
      go_wp2_with fail
      refine wp_region_noPanic ?_
      refine wp_region_held_drew (S := (fun X => X.cell? ⟨w.heap.size, 1, none⟩ = some (.slice (some a) n cap) ∧ X.cell? (a.add (k * 3)) = some (.int .i64 x1) ∧ X.cell? ⟨(a.add (k * 3)).block, (a.add (k * 3)).off + 1, none⟩ = some (.int .i64 x2) ∧ X.cell? ⟨(a.add (k * 3)).block, (a.add (k * 3)).off + 2, none⟩ = some (.string x3))) (by kernel_rfl) ?_ (fun hHeld => ?_)
      · exact hE0.out
      refine wpAnyH_take (i := 0) (v := ?v0) rfl (by kernel_rfl) (by kernel_rfl) (by kernel_rfl) (fun _ _ _ h => h) (Or.inl ⟨by rfl, ?hy0⟩) (by assumption) ?rest0
      case hy0 => (intro w hSw; (try dsimp only at hSw); go_simp; try with_reducible rfl)
      try simp only [Act.put, List.setIfInBounds_toArray, List.set_cons_zero, List.set_cons_succ]
      refine wpAnyH_take (i := 2) (v := ?v2) rfl (by kernel_rfl) (by kernel_rfl) (by kernel_rfl) (fun _ _ _ h => h) (Or.inl ⟨by rfl, ?hy2⟩) (by assumption) ?rest2
      case hy2 => (intro w hSw; (try dsimp only at hSw); go_simp; try with_reducible rfl)
      try simp only [Act.put, List.setIfInBounds_toArray, List.set_cons_zero, List.set_cons_succ]
      refine wpAnyH_take (i := 3) (v := ?v3) rfl (by kernel_rfl) (by kernel_rfl) (by kernel_rfl) (fun _ _ _ h => h) (Or.inl ⟨by rfl, ?hy3⟩) (by assumption) ?rest3
      case hy3 => (intro w hSw; (try dsimp only at hSw); go_simp; try with_reducible rfl)
      try simp only [Act.put, List.setIfInBounds_toArray, List.set_cons_zero, List.set_cons_succ]
      refine wpAnyH_take (i := 4) (v := ?v4) rfl (by kernel_rfl) (by kernel_rfl) (by kernel_rfl) (fun _ _ _ h => h) (Or.inl ⟨by rfl, ?hy4⟩) (by assumption) ?rest4
      case hy4 => (intro w hSw; (try dsimp only at hSw); go_simp; try with_reducible rfl)
      try simp only [Act.put, List.setIfInBounds_toArray, List.set_cons_zero, List.set_cons_succ]
      refine wpAnyH_take (i := 5) (v := ?v5) rfl (by kernel_rfl) (by kernel_rfl) (by kernel_rfl) (fun _ _ _ h => h) (Or.inl ⟨by rfl, ?hy5⟩) (by assumption) ?rest5
      case hy5 => (intro w hSw; (try dsimp only at hSw); go_simp; try with_reducible rfl)
      try simp only [Act.put, List.setIfInBounds_toArray, List.set_cons_zero, List.set_cons_succ]
      refine wpAnyH_take (i := 6) (v := ?v6) rfl (by kernel_rfl) (by kernel_rfl) (by kernel_rfl) (fun _ _ _ h => h) (Or.inl ⟨by rfl, ?hy6⟩) (by assumption) ?rest6
      case hy6 => (intro w hSw; (try dsimp only at hSw); go_simp; try with_reducible rfl)
      try simp only [Act.put, List.setIfInBounds_toArray, List.set_cons_zero, List.set_cons_succ]
      refine wpAnyH_take (i := 7) (v := ?v7) rfl (by kernel_rfl) (by kernel_rfl) (by kernel_rfl) (fun _ _ _ h => h) (Or.inl ⟨by rfl, ?hy7⟩) (by assumption) ?rest7
      case hy7 => (intro w hSw; (try dsimp only at hSw); go_simp; try with_reducible rfl)
      try simp only [Act.put, List.setIfInBounds_toArray, List.set_cons_zero, List.set_cons_succ]
      refine wpAnyH_take (i := 8) (v := ?v8) rfl (by kernel_rfl) (by kernel_rfl) (by kernel_rfl) (fun _ _ _ h => h) (Or.inl ⟨by rfl, ?hy8⟩) (by assumption) ?rest8
      case hy8 => (intro w hSw; (try dsimp only at hSw); go_simp; try with_reducible rfl)
      try simp only [Act.put, List.setIfInBounds_toArray, List.set_cons_zero, List.set_cons_succ]
      refine wpAnyH_take (i := 9) (v := ?v9) rfl (by kernel_rfl) (by kernel_rfl) (by kernel_rfl) (fun _ _ _ h => h) (Or.inl ⟨by rfl, ?hy9⟩) (by assumption) ?rest9
      case hy9 => (intro w hSw; (try dsimp only at hSw); go_simp; try with_reducible rfl)
      try simp only [Act.put, List.setIfInBounds_toArray, List.set_cons_zero, List.set_cons_succ]
      refine wpAnyH_take (i := 10) (v := ?v10) rfl (by kernel_rfl) (by kernel_rfl) (by kernel_rfl) (fun _ _ _ h => h) (Or.inl ⟨by rfl, ?hy10⟩) (by assumption) ?rest10
      case hy10 => (intro w hSw; (try dsimp only at hSw); go_simp; try with_reducible rfl)
      try simp only [Act.put, List.setIfInBounds_toArray, List.set_cons_zero, List.set_cons_succ]
      refine wpAnyH_take (i := 11) (v := ?v11) rfl (by kernel_rfl) (by kernel_rfl) (by kernel_rfl) (fun _ _ _ h => h) (Or.inl ⟨by rfl, ?hy11⟩) (by assumption) ?rest11
      case hy11 => (intro w hSw; (try dsimp only at hSw); go_simp; try with_reducible rfl)
      try simp only [Act.put, List.setIfInBounds_toArray, List.set_cons_zero, List.set_cons_succ]
      refine wpAnyH_take (i := 12) (v := ?v12) rfl (by kernel_rfl) (by kernel_rfl) (by kernel_rfl) (fun _ _ _ h => h) (Or.inl ⟨by rfl, ?hy12⟩) (by assumption) ?rest12
      case hy12 => (intro w hSw; (try dsimp only at hSw); go_simp; try with_reducible rfl)
      try simp only [Act.put, List.setIfInBounds_toArray, List.set_cons_zero, List.set_cons_succ]
      refine wpAnyH_take (i := 13) (v := ?v13) rfl (by kernel_rfl) (by kernel_rfl) (by kernel_rfl) (fun _ _ _ h => h) (Or.inl ⟨by rfl, ?hy13⟩) (by assumption) ?rest13
      case hy13 => (intro w hSw; (try dsimp only at hSw); go_simp; try with_reducible rfl)
      try simp only [Act.put, List.setIfInBounds_toArray, List.set_cons_zero, List.set_cons_succ]
      refine wpAnyH_take (i := 14) (v := ?v14) rfl (by kernel_rfl) (by kernel_rfl) (by kernel_rfl) (fun _ _ _ h => h) (Or.inl ⟨by rfl, ?hy14⟩) (by assumption) ?rest14
      case hy14 => (intro w hSw; (try dsimp only at hSw); go_simp; try with_reducible rfl)
      try simp only [Act.put, List.setIfInBounds_toArray, List.set_cons_zero, List.set_cons_succ]
      refine wpAnyH_take (i := 15) (v := ?v15) rfl (by kernel_rfl) (by kernel_rfl) (by kernel_rfl) (fun _ _ _ h => h) (Or.inl ⟨by rfl, ?hy15⟩) (by assumption) ?rest15
      case hy15 => (intro w hSw; (try dsimp only at hSw); go_simp; try with_reducible rfl)
      try simp only [Act.put, List.setIfInBounds_toArray, List.set_cons_zero, List.set_cons_succ]
      refine wpAnyH_take (i := 16) (v := ?v16) rfl (by kernel_rfl) (by kernel_rfl) (by kernel_rfl) (fun _ _ _ h => h) (Or.inl ⟨by rfl, ?hy16⟩) (by assumption) ?rest16
      case hy16 => (intro w hSw; (try dsimp only at hSw); go_simp; try with_reducible rfl)
      try simp only [Act.put, List.setIfInBounds_toArray, List.set_cons_zero, List.set_cons_succ]
      refine wpAnyH_take (i := 17) (v := ?v17) rfl (by kernel_rfl) (by kernel_rfl) (by kernel_rfl) (fun _ _ _ h => h) (Or.inl ⟨by rfl, ?hy17⟩) (by assumption) ?rest17
      case hy17 => (intro w hSw; (try dsimp only at hSw); go_simp; try with_reducible rfl)
      try simp only [Act.put, List.setIfInBounds_toArray, List.set_cons_zero, List.set_cons_succ]
      refine wpAnyH_take (i := 18) (v := ?v18) rfl (by kernel_rfl) (by kernel_rfl) (by kernel_rfl) (fun _ _ _ h => h) (Or.inl ⟨by rfl, ?hy18⟩) (by assumption) ?rest18
      case hy18 => (intro w hSw; (try dsimp only at hSw); go_simp; try with_reducible rfl)
      try simp only [Act.put, List.setIfInBounds_toArray, List.set_cons_zero, List.set_cons_succ]
      refine wpAnyH_take (i := 19) (v := ?v19) rfl (by kernel_rfl) (by kernel_rfl) (by kernel_rfl) (fun _ _ _ h => h) (Or.inl ⟨by rfl, ?hy19⟩) (by assumption) ?rest19
      case hy19 => (intro w hSw; (try dsimp only at hSw); go_simp; try with_reducible rfl)
      try simp only [Act.put, List.setIfInBounds_toArray, List.set_cons_zero, List.set_cons_succ]
      refine wpAnyH_take (i := 20) (v := ?v20) rfl (by kernel_rfl) (by kernel_rfl) (by kernel_rfl) (fun _ _ _ h => h) (Or.inl ⟨by rfl, ?hy20⟩) (by assumption) ?rest20
      case hy20 => (intro w hSw; (try dsimp only at hSw); go_simp; try with_reducible rfl)
      try simp only [Act.put, List.setIfInBounds_toArray, List.set_cons_zero, List.set_cons_succ]
      refine wpAnyH_ready (rs := [1, 21]) (by kernel_rfl) (by simp) ?_
      refine AllReadyH.cons rfl (fun K' hK => ?_) (AllReadyH.cons rfl (fun K' hK => ?_) AllReadyH.nil)
      · go_simp
        refine hK.out _ _ ?_ (fun hHeld => ?_)
        · exact hE0.out
        clear hK K'
        try simp only [Act.put, List.setIfInBounds_toArray, List.set_cons_zero, List.set_cons_succ]
        refine wpAnyH_ready (rs := [21]) (by kernel_rfl) (by simp) ?_
        refine AllReadyH.cons rfl (fun K' hK => ?_) AllReadyH.nil
        go_simp
        refine hK.out _ _ ?_ (fun hHeld => ?_)
        · exact hE1.out
        clear hK K'
        try simp only [Act.put, List.setIfInBounds_toArray, List.set_cons_zero, List.set_cons_succ]
        refine wpAnyH_ready (rs := [22]) (by kernel_rfl) (by simp) ?_
        refine AllReadyH.cons rfl (fun K' hK => ?_) AllReadyH.nil
        (first | (refine step_append_own_at rfl (.tmp 16) (.tmp 36) 42 rfl (w.heap.size + 3) tRv j0 (.agg #[.int .i64 0, .int .i64 0, .string ⟨#[]⟩]) 3 32 Try.underlying42 hj hy0 hy1 hy2 rfl (by decide) (.slice Au k cu) k _ rfl (hqr.out _ (below_drew (ba wr (.cells #[.int .i64 x1, .int .i64 x2, .string x3] tRv)))) ⟨wr.heap.size, 0, none⟩ 1 1 (rowV (x1, x2, x3)) rfl rfl hnc.out (by simp [Value.oneCell']) (by unfold maxLen; omega) (by omega) (by simp; omega) ?_; intro v5 w5 hO5 hg5 _; obtain ⟨A5, n5, c5, hv5⟩ := own_shape hO5; have hX4 := (show Below wr.heap.size wr (wr.alloc (.cells #[.int .i64 x1, .int .i64 x2, .string x3] tRv)).drew from below_drew (ba wr (.cells #[.int .i64 x1, .int .i64 x2, .string x3] tRv))); have hOX := (hqr.out _ hX4); have hnb : ∀ b, b < w.heap.size + 3 → some b ≠ (Value.slice Au k cu).ownBlock := (fun b hb => own_ne hOX hb); have p1 := (K.out.2.1.later hX4).grown hg5 (hnb _ (by omega)); have p2 := (K.out.2.2.1.later hX4).grown hg5 (hnb _ (by omega)); have p3 := (K.out.2.2.2.1.later hX4).grown hg5 (hnb _ (by omega)); obtain ⟨y0, y1⟩ := p3.two; have yl := p3.lt; have yf := p3.frozen; have hb5 := (bt K.out.1 hX4).trans (grownBy_below hg5 (by simp; omega) (fun b hb => Nat.le_of_not_lt (fun hlt' => hnb b (by omega) hb.symm))); have hE5 := Lib.hid (hE.out w5 p1 hb5); subst hv5; have hE6 := Lib.hid (hE.out (w5.setCell ⟨w.heap.size + 1 + 1, 1, none⟩ (.slice A5 n5 c5)) (p1.far (p := ⟨w.heap.size + 1 + 1, 1, none⟩) (by show w.heap.size ≠ w.heap.size + 1 + 1; omega) _) (hb5.setCell (p := ⟨w.heap.size + 1 + 1, 1, none⟩) (by show w.heap.size ≤ w.heap.size + 1 + 1; omega) _)); have K5 := Lib.hid (And.intro p1 (And.intro p2 (And.intro p3 (And.intro hb5 (Own.more K.out.2.2.2.2.2.2.symm hO5))))); clear hO5 hg5 hX4 hOX hnb p1 p2 p3 hb5))
        refine hK.out _ _ ?_ (fun hHeld => ?_)
        · exact hE5.out
        clear hK K'
        try simp only [Act.put, List.setIfInBounds_toArray, List.set_cons_zero, List.set_cons_succ]
        refine wpAnyH_take (i := 23) (v := ?v23) rfl (by kernel_rfl) (by kernel_rfl) (by kernel_rfl) (fun _ _ _ h => h) (Or.inl ⟨by rfl, ?hy23⟩) (by assumption) ?rest23
        case hy23 => (intro w hSw; (try dsimp only at hSw); go_simp; try with_reducible rfl)
        try simp only [Act.put, List.setIfInBounds_toArray, List.set_cons_zero, List.set_cons_succ]
        refine wpAnyH_ready (rs := [24]) (by kernel_rfl) (by simp) ?_
        refine AllReadyH.cons rfl (fun K' hK => ?_) AllReadyH.nil
        go_simp
        refine hK.out _ _ ?_ (fun hHeld => ?_)
        · exact hE6.out
        clear hK K'
        try simp only [Act.put, List.setIfInBounds_toArray, List.set_cons_zero, List.set_cons_succ]
        refine wpAnyH_done (by kernel_rfl) ?_ _
        all_goals refine NoPanic.normal ?_
        all_goals go_wp2
        all_goals
          go_roundw
          case rel =>
            refine ⟨k + 1, .slice A5 n5 c5, by omega, by go_num, ?_, ?_, ?_, ?_, ?_⟩
            · exact K5.out.2.2.2.1.setCell (p := ⟨w.heap.size + 1 + 1, 1, none⟩) (by show w.heap.size ≤ w.heap.size + 1 + 1; omega) _
            · exact K5.out.1.far (p := ⟨w.heap.size + 1 + 1, 1, none⟩) (by show w.heap.size ≠ w.heap.size + 1 + 1; omega) _
            · exact K5.out.2.1.far (p := ⟨w.heap.size + 1 + 1, 1, none⟩) (by show w.heap.size + 1 ≠ w.heap.size + 1 + 1; omega) _
            · have := K5.out.2.2.1.set_ 1 (.slice A5 n5 c5)
              simpa using this
            · rw [K.out.2.2.2.2.2.1]
              exact K5.out.2.2.2.2.far (p := ⟨w.heap.size + 1 + 1, 1, none⟩) (by show w.heap.size + 1 + 1 < w.heap.size + 3; omega) _
          case measure => simp [intOf]; omega
      · go_simp
        refine hK.out _ _ ?_ (fun hHeld => ?_)
        · exact hE1.out
        clear hK K'
        try simp only [Act.put, List.setIfInBounds_toArray, List.set_cons_zero, List.set_cons_succ]
        refine wpAnyH_ready (rs := [1]) (by kernel_rfl) (by simp) ?_
        refine AllReadyH.cons rfl (fun K' hK => ?_) AllReadyH.nil
        go_simp
        refine hK.out _ _ ?_ (fun hHeld => ?_)
        · exact hE1.out
        clear hK K'
        try simp only [Act.put, List.setIfInBounds_toArray, List.set_cons_zero, List.set_cons_succ]
        refine wpAnyH_ready (rs := [22]) (by kernel_rfl) (by simp) ?_
        refine AllReadyH.cons rfl (fun K' hK => ?_) AllReadyH.nil
        (first | (refine step_append_own_at rfl (.tmp 16) (.tmp 36) 42 rfl (w.heap.size + 3) tRv j0 (.agg #[.int .i64 0, .int .i64 0, .string ⟨#[]⟩]) 3 32 Try.underlying42 hj hy0 hy1 hy2 rfl (by decide) (.slice Au k cu) k _ rfl (hqr.out _ (below_drew (ba wr (.cells #[.int .i64 x1, .int .i64 x2, .string x3] tRv)))) ⟨wr.heap.size, 0, none⟩ 1 1 (rowV (x1, x2, x3)) rfl rfl hnc.out (by simp [Value.oneCell']) (by unfold maxLen; omega) (by omega) (by simp; omega) ?_; intro v5 w5 hO5 hg5 _; obtain ⟨A5, n5, c5, hv5⟩ := own_shape hO5; have hX4 := (show Below wr.heap.size wr (wr.alloc (.cells #[.int .i64 x1, .int .i64 x2, .string x3] tRv)).drew from below_drew (ba wr (.cells #[.int .i64 x1, .int .i64 x2, .string x3] tRv))); have hOX := (hqr.out _ hX4); have hnb : ∀ b, b < w.heap.size + 3 → some b ≠ (Value.slice Au k cu).ownBlock := (fun b hb => own_ne hOX hb); have p1 := (K.out.2.1.later hX4).grown hg5 (hnb _ (by omega)); have p2 := (K.out.2.2.1.later hX4).grown hg5 (hnb _ (by omega)); have p3 := (K.out.2.2.2.1.later hX4).grown hg5 (hnb _ (by omega)); obtain ⟨y0, y1⟩ := p3.two; have yl := p3.lt; have yf := p3.frozen; have hb5 := (bt K.out.1 hX4).trans (grownBy_below hg5 (by simp; omega) (fun b hb => Nat.le_of_not_lt (fun hlt' => hnb b (by omega) hb.symm))); have hE5 := Lib.hid (hE.out w5 p1 hb5); subst hv5; have hE6 := Lib.hid (hE.out (w5.setCell ⟨w.heap.size + 1 + 1, 1, none⟩ (.slice A5 n5 c5)) (p1.far (p := ⟨w.heap.size + 1 + 1, 1, none⟩) (by show w.heap.size ≠ w.heap.size + 1 + 1; omega) _) (hb5.setCell (p := ⟨w.heap.size + 1 + 1, 1, none⟩) (by show w.heap.size ≤ w.heap.size + 1 + 1; omega) _)); have K5 := Lib.hid (And.intro p1 (And.intro p2 (And.intro p3 (And.intro hb5 (Own.more K.out.2.2.2.2.2.2.symm hO5))))); clear hO5 hg5 hX4 hOX hnb p1 p2 p3 hb5))
        refine hK.out _ _ ?_ (fun hHeld => ?_)
        · exact hE5.out
        clear hK K'
        try simp only [Act.put, List.setIfInBounds_toArray, List.set_cons_zero, List.set_cons_succ]
        refine wpAnyH_take (i := 23) (v := ?vb23) rfl (by kernel_rfl) (by kernel_rfl) (by kernel_rfl) (fun _ _ _ h => h) (Or.inl ⟨by rfl, ?hyb23⟩) (by assumption) ?restb23
        case hyb23 => (intro w hSw; (try dsimp only at hSw); go_simp; try with_reducible rfl)
        try simp only [Act.put, List.setIfInBounds_toArray, List.set_cons_zero, List.set_cons_succ]
        refine wpAnyH_ready (rs := [24]) (by kernel_rfl) (by simp) ?_
        refine AllReadyH.cons rfl (fun K' hK => ?_) AllReadyH.nil
        go_simp
        refine hK.out _ _ ?_ (fun hHeld => ?_)
        · exact hE6.out
        clear hK K'
        try simp only [Act.put, List.setIfInBounds_toArray, List.set_cons_zero, List.set_cons_succ]
        refine wpAnyH_done (by kernel_rfl) ?_ _
        all_goals refine NoPanic.normal ?_
        all_goals go_wp2
        all_goals
          go_roundw
          case rel =>
            refine ⟨k + 1, .slice A5 n5 c5, by omega, by go_num, ?_, ?_, ?_, ?_, ?_⟩
            · exact K5.out.2.2.2.1.setCell (p := ⟨w.heap.size + 1 + 1, 1, none⟩) (by show w.heap.size ≤ w.heap.size + 1 + 1; omega) _
            · exact K5.out.1.far (p := ⟨w.heap.size + 1 + 1, 1, none⟩) (by show w.heap.size ≠ w.heap.size + 1 + 1; omega) _
            · exact K5.out.2.1.far (p := ⟨w.heap.size + 1 + 1, 1, none⟩) (by show w.heap.size + 1 ≠ w.heap.size + 1 + 1; omega) _
            · have := K5.out.2.2.1.set_ 1 (.slice A5 n5 c5)
              simpa using this
            · rw [K.out.2.2.2.2.2.1]
              exact K5.out.2.2.2.2.far (p := ⟨w.heap.size + 1 + 1, 1, none⟩) (by show w.heap.size + 1 + 1 < w.heap.size + 3; omega) _
          case measure => simp [intOf]; omega
    · obtain rfl : k = n := by omega
      obtain ⟨g0, g1⟩ := q2.two
      rw [List.take_of_length_le (by rw [← H.out.2]; exact Nat.le_refl _)] at hO
      obtain ⟨Au, cu, rfl, _, _, _⟩ := hO.shape
      rw [← H.out.2] at f1 q3 hO
      have gl := q2.lt
      have gf := q2.frozen
      have K := Lib.hid (And.intro hb (And.intro q2 hO)); clear hb q1 q2 q3 hO
      go_wp2
      obtain ⟨z0, z1⟩ := (K.out.2.1.put2 (.int .i64 t) (.slice Au k cu)).two
      refine bodyPost_ret (v := ev t (.slice Au k cu)) (by simp only [results, Try.results19]; simp [go_sem, Act.put, z0, z1]) rfl ?_
      have hO := K.out.2.2
      exact ⟨_, ⟨rfl, ((hO.far (p := ⟨w.heap.size + 1, 0, none⟩) (by show w.heap.size + 1 < w.heap.size + 3; omega) _).far (p := ⟨w.heap.size + 1, 1, none⟩) (by show w.heap.size + 1 < w.heap.size + 3; omega) _).lift (by omega)⟩, below_put2 K.out.1 (by omega) _ _⟩
end Go.Proofs.Ytbmkbpehkpdcmaa
