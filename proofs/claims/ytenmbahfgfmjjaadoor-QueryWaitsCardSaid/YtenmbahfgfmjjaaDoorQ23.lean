/- Texts that several proofs stand on, part 23. -/
import Derived.Test.YtenmbahfgfmjjaaDoorQ21
import Derived.Test.YtenmbahfgfmjjaaDoorQ22
import Derived.Deep.QuietTactic
import Derived.BigQuiet
namespace Go.Proofs.YtenmbahfgfmjjaaDoor
open Go.ChangeShapes Go.WideShapes Go.ChangeAt Go.RowKit Go.Maps
set_option linter.unusedVariables false
set_option linter.unusedSimpArgs false

theorem CellsOf.row5 {α : Type} {w : World} {k : Nat} {f : α → List Value} {l : List α} {a : Addr} (h : CellsOf w k f a l) (j : Nat) (hj : j < l.length) {x y z u v : Value} (hx : f (l[j]'hj) = [x, y, z, u, v]) : w.cell? (a.add (j * k)) = some x ∧ w.cell? ⟨(a.add (j * k)).block, (a.add (j * k)).off + 1, none⟩ = some y ∧ w.cell? ⟨(a.add (j * k)).block, (a.add (j * k)).off + 2, none⟩ = some z ∧ w.cell? ⟨(a.add (j * k)).block, (a.add (j * k)).off + 3, none⟩ = some u ∧ w.cell? ⟨(a.add (j * k)).block, (a.add (j * k)).off + 4, none⟩ = some v :=
  ⟨h j hj 0 x (by rw [hx]; rfl), by rw [addr_in _ _ _ (by omega)]; exact h j hj 1 y (by rw [hx]; rfl), by rw [addr_in _ _ _ (by omega)]; exact h j hj 2 z (by rw [hx]; rfl), by rw [addr_in _ _ _ (by omega)]; exact h j hj 3 u (by rw [hx]; rfl), by rw [addr_in _ _ _ (by omega)]; exact h j hj 4 v (by rw [hx]; rfl)⟩
theorem take_snoc {α : Type} {T : List α} {t : Nat} (h : t < T.length) : T.take (t + 1) = T.take t ++ [T[t]'h] := by
  rw [List.take_add_one, List.getElem?_eq_getElem h]; rfl
theorem inputs_more {ps : List Pt} {i : Nat} (h : i < ps.length) : inputs (ps.take (i + 1)) = (ps[i]'h).ss.foldl inPut (inputs (ps.take i)) := by
  unfold inputs
  rw [take_snoc h, List.foldl_append]; rfl
theorem inPut_len (l : List ByteArray) (s : ByteArray) : (inPut l s).length ≤ l.length + 1 := by
  unfold inPut
  split
  · omega
  · simp
theorem inPuts_len : ∀ (ss l : List ByteArray), (ss.foldl inPut l).length ≤ l.length + ss.length
  | [], l => by simp
  | s :: ss, l => by
    have h1 := inPuts_len ss (inPut l s)
    have h2 := inPut_len l s
    simp only [List.foldl_cons, List.length_cons]; omega
theorem inputs_len {ps : List Pt} {M : Nat} (h : ∀ p ∈ ps, p.ss.length ≤ M) : ∀ i, i ≤ ps.length → (inputs (ps.take i)).length ≤ i * M
  | 0, _ => by simp [inputs]
  | i + 1, hi => by
    rw [inputs_more (by omega)]
    have h1 := inputs_len h i (by omega)
    have h2 := inPuts_len (ps[i]'(by omega)).ss (inputs (ps.take i))
    have h3 := h _ (List.getElem_mem (show i < ps.length by omega))
    rw [Nat.add_mul]; omega
theorem one_scV (s : ByteArray) : ∀ u ∈ scV s, u.oneCell' = true := fun u hu => by simp at hu; subst hu; rfl
theorem new_cellsI {w : World} {g : Nat} (hg : g = w.heap.size) (t : TypeId) (cs : Array Value) : ∀ j u, cs.toList[j]? = some u → (w.alloc (.cells cs t)).cell? ((⟨g, 0, none⟩ : Addr).add j) = some u := by
  subst hg
  exact blk_cells (Blk.new w t cs)
theorem at_newS (w : World) (s : ByteArray) : At (w.alloc (.cells #[.string s] 9)) 1 scV (.slice (some ⟨w.heap.size, 0, none⟩) 1 1) [s] := by
  refine ⟨some ⟨w.heap.size, 0, none⟩, 1, rfl, by simp, by unfold maxLen; omega, fun h => by simp at h, fun b hb j hj i v hv => ?_⟩
  obtain rfl : (⟨w.heap.size, 0, none⟩ : Addr) = b := by simpa using hb
  have hj0 : j = 0 := by simpa using hj
  subst hj0
  simp only [List.getElem_cons_zero] at hv
  rw [Nat.zero_mul, Nat.zero_add]
  exact new_cellsI rfl 9 _ i v hv
theorem ownBI {α : Type} {w : World} {b : Nat} {e : TypeId} {k : Nat} {f : α → List Value} {v : Value} {l : List α} (h : Own w b e k f v l) {g : Nat} (hg : v.ownBlock = some g) : b ≤ g ∧ ∃ cs, w.heap[g]? = some (.cells cs e (0, 0)) := by
  rcases h.2 with ⟨rfl, _⟩ | ⟨g', cap, cur, rfl, h1, h2, _⟩
  · simp [Value.ownBlock] at hg
  · simp [Value.ownBlock] at hg
    subst hg
    exact ⟨h1, _, h2⟩
/-- The map's block is no row of texts. -/
theorem MetS.grown {w w' : World} {m cnt : Nat} {l : List ByteArray} (h : MetS w m cnt l) {row : Option Nat} (hg : w.grownBy w' row) (hr : ∀ b, row = some b → ∃ cs e, w.heap[b]? = some (.cells cs e (0, 0))) : MetS w' m cnt l := by
  obtain ⟨D, h1, h2⟩ := h
  have hmb : row ≠ some m := fun e => by
    obtain ⟨cs, e', hc⟩ := hr m e
    obtain ⟨es, clock, g1, _⟩ := h1
    rw [hc] at g1
    simp at g1
  exact ⟨D, h1.kept hg (fun e => hmb e.symm), h2⟩
set_option maxHeartbeats 2000000 in
theorem Waits_any (q : Qy) (pv ov : Value) (w : World) (h : PtsAt w pv q.ps) (hn : q.ps.length ≤ 1000000) :
    Calls Tryd.prog 13 #[qv q pv ov] w fun e w' => e = .returned (.bool (waits q.ps)) ∧ Below w.heap.size w w' := by
  obtain ⟨r, h1, h2, h3⟩ := h
  obtain ⟨A, c, rfl, a1, a2, _⟩ := h1.shape
  obtain ⟨n, hnl⟩ : ∃ n, n = r.length := ⟨_, rfl⟩
  have hN : q.ps.length = n := by rw [hnl, ← h2, List.length_map]
  rw [← hnl] at h1 ⊢
  have b0 := ba w (.cells #[.string q.nm, .bool q.st, .slice A n c, .int .i64 q.wi, .string q.by_, ov] 27)
  by_cases h0 : 0 < n
  · have hw : waits q.ps = (r[n - 1]'(by omega)).1.nt := by
      unfold waits
      rw [List.getLast?_eq_getElem?, hN, ← h2, List.getElem?_map, List.getElem?_eq_getElem (by omega)]
      rfl
    obtain ⟨a, rfl, hca⟩ := (h1.later b0).cells rfl (by omega)
    obtain ⟨e0, e9⟩ := hca.row5 (n - 1) (by omega) rfl
    rw [← hw] at e0
    obtain ⟨m, hm⟩ : ∃ m, m = n - 1 := ⟨_, rfl⟩
    rw [← hm] at e0
    have hmI : (n : Int) - 1 = (m : Int) := by omega
    have hmn : (m : Int) < (n : Int) := by omega
    have hwr : IntKind.i64.wrap (m : Int) = (m : Int) := IntWalk.i64_in _ (by omega)
    have hd : decide (0 < n) = true := decide_eq_true h0
    have H := Lib.hid b0; clear b0 h1 h2 h3 e9 hca hw hm hN hnl
    go_enter Tryd.func13, Tryd.ntmps13
    go_wp2_with fail
    go_ret
    exact ⟨rfl, H.out⟩
  · obtain rfl : n = 0 := by omega
    have hw : waits q.ps = false := by
      have : q.ps = [] := List.eq_nil_of_length_eq_zero hN
      rw [this]; rfl
    have H := Lib.hid (And.intro b0 hw); clear b0 h1 h2 h3 hnl hw
    go_enter Tryd.func13, Tryd.ntmps13
    go_wp2_with fail
    go_ret
    refine ⟨?_, H.out.1⟩
    rw [H.out.2]; rfl
set_option maxRecDepth 20000 in
set_option maxHeartbeats 4000000 in
theorem Inputs_any (q : Qy) (pv ov : Value) (w : World) (h : PtsAt w pv q.ps) (hn : q.ps.length ≤ 1000) (hs : ∀ p ∈ q.ps, p.ss.length ≤ 1000) :
    Calls Tryd.prog 12 #[qv q pv ov] w fun e w' => ∃ r, (e = .returned r ∧ Own w' w.heap.size 9 1 scV r (inputs q.ps)) ∧ Below w.heap.size w w' := by
  obtain ⟨js, sj, sy0, sy1, sy2⟩ := info_parts (P := Tryd.prog) (e := 9) (z := .string ⟨#[]⟩) (size := 1) (bytes := 16) (by kernel_rfl)
  obtain ⟨r, h1, h2, h3⟩ := h
  obtain ⟨A, c, rfl, a1, a2, _⟩ := h1.shape
  obtain ⟨n, hnl⟩ : ∃ n, n = r.length := ⟨_, rfl⟩
  have hN : q.ps.length = n := by rw [hnl, ← h2, List.length_map]
  rw [← hnl] at h1 ⊢
  rw [hN] at hn
  have b1 := ba w (.cells #[.string q.nm, .bool q.st, .slice A n c, .int .i64 q.wi, .string q.by_, ov] 27)
  have hM0 := MetS.made (w.alloc (.cells #[.string q.nm, .bool q.st, .slice A n c, .int .i64 q.wi, .string q.by_, ov] 27))
  rw [World.size_alloc] at hM0
  have bM := ba (w.alloc (.cells #[.string q.nm, .bool q.st, .slice A n c, .int .i64 q.wi, .string q.by_, ov] 27)) (.map #[] 0)
  have H := Lib.hid (And.intro h1 (And.intro h2 (And.intro h3 (And.intro hnl (And.intro hN hs))))); clear h1 h2 h3 hnl hs a1
  have K := Lib.hid (And.intro hM0 (bt b1 bM)); clear hM0 bM b1
  have hmm := @run_makeMap Tryd.prog
  go_enter Tryd.func12, Tryd.ntmps12
  go_wp2_with fail
  clear hmm
  generalize hgm : w.heap.size + 1 = gm at *
  go_loopw [3, 13] (fun ov_ iv wr => ∃ i : Nat, i ≤ n ∧ iv = .int .i64 (i : Int) ∧ Own wr w.heap.size 9 1 scV ov_ (inputs (q.ps.take i)) ∧ (∃ S, MetS wr gm (inputs (q.ps.take i)).length S ∧ ∀ s, s ∈ S ↔ s ∈ inputs (q.ps.take i)) ∧ Below w.heap.size w wr ∧ w.heap.size ≤ gm) (fun _ iv _ => n - (intOf iv).toNat)
  case atStart => exact ⟨0, Nat.zero_le _, rfl, Own.nil _ _ _ _ _, ⟨[], K.out.1, fun s => Iff.rfl⟩, K.out.2, by omega⟩
  case round =>
    rename World => wr0
    clear K
    obtain ⟨i, hi, rfl, hO, ⟨S, hM, hS⟩, hb, hg0⟩ := hrel
    by_cases hlt : i < n
    · have hir : i < r.length := by have := H.out.2.2.2.1; omega
      have hiq : i < q.ps.length := by omega
      obtain ⟨a, rfl, hca⟩ := (H.out.1.later hb).cells rfl (by omega)
      obtain ⟨e0, e1, e2, e3, e4⟩ := hca.row5 i hir rfl
      have hpx := H.out.2.2.1 _ (List.getElem_mem hir)
      have hss : (r[i]'hir).1 = q.ps[i]'hiq := by
        have : (r.map (·.1))[i]'(by simpa using hir) = q.ps[i]'hiq := by simp only [H.out.2.1]
        rw [List.getElem_map] at this; exact this
      have hsl := H.out.2.2.2.2.2 _ (List.getElem_mem hiq)
      have hmore := inputs_more hiq
      have hlen := inputs_len H.out.2.2.2.2.2 i (by omega)
      generalize r[i]'hir = x at *
      obtain ⟨⟨nt, pl, ss, v, pd⟩, ⟨sA, sn, sc⟩, ⟨dA, dn, dc⟩⟩ := x
      rw [← hss] at hsl hmore
      simp only at e0 e1 e2 e3 e4 hsl hmore
      obtain ⟨g1, g2, g3, g4⟩ := hpx
      simp only at g1 g4
      obtain ⟨B1, cc, hv, q4, q5, _⟩ := g1.shape
      simp only [Value.slice.injEq] at hv
      obtain ⟨q1, q2, q3⟩ := hv
      subst q2
      subst q3
      subst q1
      obtain ⟨sn, hsn⟩ : ∃ sn, sn = ss.length := ⟨_, rfl⟩
      rw [← hsn] at e2 g1 hsl
      change wr0.cell? ⟨(a.add (i * 5)).block, (a.add (i * 5)).off + 2, none⟩ = some (.slice sA sn sc) at e2
      change wr0.cell? ⟨(a.add (i * 5)).block, (a.add (i * 5)).off + 4, none⟩ = some (.slice dA dn dc) at e4
      generalize inputs (q.ps.take i) = l0 at *
      have bA := ba wr0 (.cells #[.bool nt, .bool pl, .slice sA sn sc, .string v, .slice dA dn dc] 37)
      have U := Lib.hid (And.intro g1 (And.intro g4 (And.intro hmore (And.intro hsn (And.intro (hO.later bA) (And.intro (⟨S, hM.later bA, hS⟩ : ∃ S, MetS (wr0.alloc (.cells #[.bool nt, .bool pl, .slice sA sn sc, .string v, .slice dA dn dc] 37)) gm l0.length S ∧ ∀ s, s ∈ S ↔ s ∈ l0) (bt hb bA))))))); clear g1 g2 g3 g4 hmore hsn hO hM hS hb bA hca hss
      go_wp2_with fail
      generalize wr0.alloc _ = wx at *
      clear e0 e1 e2 e3 e4
      go_loopw [3, 20] (fun ov_ kv wr => ∃ k : Nat, k ≤ sn ∧ kv = .int .i64 (k : Int) ∧ Own wr w.heap.size 9 1 scV ov_ ((ss.take k).foldl inPut l0) ∧ (∃ S, MetS wr gm ((ss.take k).foldl inPut l0).length S ∧ ∀ s, s ∈ S ↔ s ∈ (ss.take k).foldl inPut l0) ∧ Below w.heap.size w wr) (fun _ kv _ => sn - (intOf kv).toNat)
      case atStart => exact ⟨0, Nat.zero_le _, rfl, U.out.2.2.2.2.1, U.out.2.2.2.2.2.1, U.out.2.2.2.2.2.2⟩
      case round =>
        rename World => wr1
        obtain ⟨k, hk, rfl, hO, ⟨S, hM, hS⟩, hb⟩ := hrel
        by_cases hlt2 : k < sn
        · have hks : k < ss.length := by have := U.out.2.2.2.1; omega
          obtain ⟨a2, rfl, hc2⟩ := (U.out.1.later hb).cells rfl (by omega)
          have z0 := hc2.row1 k hks rfl
          rw [Nat.mul_one] at z0
          have hsz := U.out.2.1 _ (List.getElem_mem hks)
          have hst : (ss.take (k + 1)).foldl inPut l0 = inPut ((ss.take k).foldl inPut l0) (ss[k]'hks) := by rw [take_snoc hks, List.foldl_append]; rfl
          have hln := inPuts_len (ss.take k) l0
          rw [List.length_take] at hln
          generalize ss[k]'hks = s at *
          generalize (ss.take k).foldl inPut l0 = l1 at *
          obtain ⟨b, hlk, hbS⟩ := hM.look hsz
          cases b with
          | true =>
            have hin : inPut l1 s = l1 := by unfold inPut; rw [if_pos ((hS s).1 (hbS.1 rfl))]
            have V := Lib.hid (And.intro hO (And.intro (⟨S, hM, hS⟩ : ∃ S, MetS wr1 gm l1.length S ∧ ∀ s, s ∈ S ↔ s ∈ l1) (And.intro hb (hst.trans hin)))); clear hO hM hS hb hst hin hbS hc2
            go_wp2_with fail
            go_roundw
            case rel => exact ⟨k + 1, by omega, by go_num, by rw [V.out.2.2.2]; exact V.out.1, by rw [V.out.2.2.2]; exact V.out.2.1, V.out.2.2.1⟩
            case measure => simp [intOf]; omega
          | false =>
            have hno : s ∉ l1 := fun h => by have := hbS.2 ((hS s).2 h); cases this
            have hin : inPut l1 s = l1 ++ [s] := by unfold inPut; rw [if_neg hno]
            obtain ⟨vA, vn, vc, rfl⟩ := own_shape hO
            have V := Lib.hid (And.intro hO (And.intro hM (And.intro hS (And.intro hb (And.intro (hst.trans hin) (And.intro hno hsz)))))); clear hO hM hS hb hst hin hbS hc2 hno
            go_wp2_with (first
              | (at_mapUpdate; refine wpList_mapUpdate_met _ rfl _ _ _ rfl gm l1.length S rfl V.out.2.1 (by unfold maxLen; omega) s rfl rfl hsz ?_; intro w6 hM6 hg6; have b6 : Below w.heap.size w w6 := V.out.2.2.2.1.trans (grownBy_below hg6 V.out.2.2.2.1.size (fun k hk => by obtain rfl := Option.some.inj hk; exact hg0)); have hO6 := V.out.1.grown hg6 (fun b hb e => by obtain rfl := Option.some.inj hb; obtain ⟨_, cs, hc⟩ := ownBI V.out.1 e; obtain ⟨D, ⟨es, clock, g1, _⟩, _⟩ := V.out.2.1; rw [hc] at g1; simp at g1); have Z := Lib.hid (And.intro hM6 (And.intro b6 (And.intro hO6 hg6))); clear hM6 b6 hO6 hg6; have hB1 := at_newS w6 s; have hbA := ba w6 (.cells #[.string s] 9))
              | (at_builtin; refine wpList_append_loc _ rfl (.tmp 30) (.tmp 32) 33 rfl w.heap.size 9 js (.string ⟨#[]⟩) 1 16 Tryd.underlying33 sj sy0 sy1 sy2 rfl (by decide) (f := scV) (fun _ => rfl) one_scV _ l1 rfl (Z.out.2.2.1.later hbA) (some ⟨w6.heap.size, 0, none⟩) 1 1 [s] rfl rfl hB1 (by unfold maxLen; omega) (by omega) (by have := Z.out.2.1.size; simp only [World.size_alloc]; omega) ?_; intro v7 w7 hO7 hg7 hq7; have Y := Lib.hid (And.intro hO7 hg7); clear hO7 hg7 hq7))
            have bA := bt Z.out.2.1 hbA
            have b7 := bA.trans (grownBy_below Y.out.2 bA.size (fun k hk => (ownBI Z.out.2.2.1 hk).1))
            have hM7 : MetS w7 gm (l1.length + 1) (s :: S) := (Z.out.1.later hbA).grown Y.out.2 (fun b hb => by obtain ⟨_, cs, hc⟩ := ownBI (Z.out.2.2.1.later hbA) hb; exact ⟨cs, _, hc⟩)
            go_roundw
            case rel => exact ⟨k + 1, by omega, by go_num, by rw [V.out.2.2.2.2.1]; exact Y.out.1, ⟨s :: S, by rw [V.out.2.2.2.2.1, List.length_append]; exact hM7, fun t => by rw [V.out.2.2.2.2.1, List.mem_cons, List.mem_append, List.mem_singleton, V.out.2.2.1]; exact Or.comm⟩, b7⟩
            case measure => simp [intOf]; omega
        · obtain rfl : k = sn := by omega
          have hfl : (ss.take k).foldl inPut l0 = inputs (q.ps.take (i + 1)) := by
            rw [U.out.2.2.1, List.take_of_length_le (by have := U.out.2.2.2.1; omega)]
          have V := Lib.hid (And.intro (hfl ▸ hO) (And.intro (hfl ▸ (⟨S, hM, hS⟩ : ∃ S, MetS wr1 gm ((ss.take k).foldl inPut l0).length S ∧ ∀ s, s ∈ S ↔ s ∈ (ss.take k).foldl inPut l0)) hb)); clear hO hM hS hb hfl
          go_wp2_with fail
          go_roundw
          case rel => exact ⟨i + 1, by omega, by go_num, V.out.1, V.out.2.1, V.out.2.2, hg0⟩
          case measure => simp [intOf]; omega
    · obtain rfl : i = n := by omega
      have hfl : inputs (q.ps.take i) = inputs q.ps := by rw [List.take_of_length_le (by omega)]
      have V := Lib.hid (And.intro (hfl ▸ hO) hb); clear hO hM hS hb hfl
      go_wp2_with fail
      go_ret
      exact ⟨_, ⟨rfl, V.out.1⟩, V.out.2⟩
end Go.Proofs.YtenmbahfgfmjjaaDoor
