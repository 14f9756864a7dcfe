/- Layer 11: View, an event by bytes, the same events. -/
import Derived.Test.YtkmboffbohndjaaCkG
import Derived.Test.YtkmboffbohndjaaKeep
import Derived.Deep.QuietTactic
import Derived.Deep.DeepCutAuto
import Derived.Deep.CutBlock
import Derived.Deep.RegionHeld3
import Derived.StillTailTactics
import Derived.Laws.MakeOwn
namespace Go.Proofs.Ytkmboffbohndjaa
open Go.ChangeShapes Go.WideShapes Go.ChangeAt Go.RowKit Go.Maps
set_option linter.unusedVariables false
set_option linter.unusedSimpArgs false

abbrev VL := Int × Int × ByteArray
abbrev vlF (v : VL) : List Value := [.int .i64 v.1, .int .i64 v.2.1, .string v.2.2]
theorem vlF_one (x : VL) : ∀ u ∈ vlF x, u.oneCell' = true := fun u hu => by
  simp only [vlF, List.mem_cons, List.not_mem_nil, or_false] at hu
  rcases hu with rfl | rfl | rfl <;> rfl
abbrev z3 : VL := (0, 0, ⟨#[]⟩)
/-- What an event of V shows of fields f, where its own are F. -/
def seeV (F : List Fld) (V : List VL) (x : Fld) : VL := if h : 0 ≤ atF F x.1 ∧ (atF F x.1).toNat < V.length then V[(atF F x.1).toNat]'h.2 else z3
def viewL (F : List Fld) (V : List VL) (f : List Fld) : List VL := f.map (seeV F V)
theorem made_vals (n : Nat) : (madeCells (Value.agg #[.int .i64 0, .int .i64 0, .string ⟨#[]⟩]).cells (n * 3)).toList = (List.replicate n z3).flatMap vlF := by
  refine List.ext_getElem? fun j => ?_
  by_cases h : j < n * 3
  · have hj : j / 3 < (List.replicate n z3).length := by rw [List.length_replicate]; omega
    have e := flat_get (f := vlF) (k := 3) (fun _ => rfl) (List.replicate n z3) (j / 3) (j % 3) hj (by omega)
    rw [show j / 3 * 3 + j % 3 = j by omega] at e
    rw [e, List.getElem_replicate]
    have hs : (Value.agg #[.int .i64 0, .int .i64 0, .string ⟨#[]⟩]).cells.size = 3 := rfl
    unfold madeCells
    rw [hs]
    simp only [Array.toList_map, List.getElem?_map, Array.toList_range, List.getElem?_range h, Option.map_some]
    have : j % 3 = 0 ∨ j % 3 = 1 ∨ j % 3 = 2 := by omega
    rcases this with h | h | h <;> rw [h] <;> rfl
  · rw [List.getElem?_eq_none (by rw [Array.length_toList, size_madeCells]; omega), List.getElem?_eq_none (by rw [flat_len (f := vlF) (k := 3) (fun _ => rfl), List.length_replicate]; omega)]
theorem made_own (w : World) (n : Nat) (hn : n ≤ maxLen) : Own (w.alloc (.cells (madeCells (Value.agg #[.int .i64 0, .int .i64 0, .string ⟨#[]⟩]).cells (n * 3)) 35)) w.heap.size 35 3 vlF (.slice (some ⟨w.heap.size, 0, none⟩) n n) (List.replicate n z3) := by
  refine ⟨by rw [List.length_replicate, flat_len (f := vlF) (k := 3) (fun _ => rfl), List.length_replicate], Or.inr ⟨w.heap.size, n, _, by rw [List.length_replicate], Nat.le_refl _, heap_alloc_new w _, by rw [List.length_replicate]; exact Nat.le_refl _, hn, by rw [size_madeCells], ?_⟩⟩
  rw [List.length_replicate, ← made_vals, List.take_of_length_le (by rw [Array.length_toList, size_madeCells]; exact Nat.le_refl _)]
theorem flat_set {α : Type} {f : α → List Value} {k : Nat} (hf : ∀ x, (f x).length = k) {i : Nat} (hi : i < k) {u : Value} {x : α} : ∀ (l : List α) (j : Nat) (hj : j < l.length), f x = (f (l[j]'hj)).set i u → (l.set j x).flatMap f = (l.flatMap f).set (j * k + i) u
  | [], j, hj, _ => absurd hj (by simp)
  | a :: r, 0, hj, h => by
    simp only [List.set_cons_zero, List.flatMap_cons, Nat.zero_mul, Nat.zero_add]
    rw [List.set_append_left _ _ (by rw [hf]; exact hi), h]; rfl
  | a :: r, j + 1, hj, h => by
    simp only [List.set_cons_succ, List.flatMap_cons]
    rw [List.set_append_right _ _ (by rw [hf, Nat.add_mul]; omega), flat_set hf hi r j (by simpa using hj) h, hf]
    congr 2
    rw [Nat.add_mul]; omega
theorem Own.put {α : Type} {f : α → List Value} {k : Nat} (hf : ∀ x, (f x).length = k) {w : World} {b : Nat} {e : TypeId} {g n c : Nat} {l : List α} (h : Own w b e k f (.slice (some ⟨g, 0, none⟩) n c) l) (j : Nat) (hj : j < l.length) {i : Nat} (hi : i < k) {x : α} {u : Value} (hx : f x = (f (l[j]'hj)).set i u) :
    Own (w.setCell ⟨g, j * k + i, none⟩ u) b e k f (.slice (some ⟨g, 0, none⟩) n c) (l.set j x) := by
  obtain ⟨_, _, he, _, _, _⟩ := h.shape
  simp only [Value.slice.injEq] at he
  obtain ⟨_, rfl, rfl⟩ := he
  have := World.ownsRow.stored h (j * k + i) u
  unfold Own
  rw [List.length_set, flat_set hf hi l j hj hx]
  exact this.1
/-- A value is written whole. -/
theorem Own.putV {w : World} {b : Nat} {e : TypeId} {g n c : Nat} {l : List VL} (h : Own w b e 3 vlF (.slice (some ⟨g, 0, none⟩) n c) l) (j : Nat) (hj : j < l.length) (x : VL) :
    Own (((w.setCell ⟨g, j * 3, none⟩ (.int .i64 x.1)).setCell ⟨g, j * 3 + 1, none⟩ (.int .i64 x.2.1)).setCell ⟨g, j * 3 + 2, none⟩ (.string x.2.2)) b e 3 vlF (.slice (some ⟨g, 0, none⟩) n c) (l.set j x) := by
  have h1 := h.put (f := vlF) (fun _ => rfl) j hj (i := 0) (by omega) (x := (x.1, (l[j]'hj).2)) (u := .int .i64 x.1) rfl
  have h2 := h1.put (f := vlF) (fun _ => rfl) j (by rw [List.length_set]; exact hj) (i := 1) (by omega) (x := (x.1, x.2.1, (l[j]'hj).2.2)) (u := .int .i64 x.2.1) (by rw [List.getElem_set_self]; rfl)
  have h3 := h2.put (f := vlF) (fun _ => rfl) j (by rw [List.length_set, List.length_set]; exact hj) (i := 2) (by omega) (x := x) (u := .string x.2.2) (by rw [List.getElem_set_self]; rfl)
  rw [List.set_set, List.set_set] at h3
  exact h3
theorem view_next (F : List Fld) (V : List VL) (f : List Fld) (j : Nat) (hj : j < f.length) : (viewL F V (f.take j) ++ List.replicate (f.length - j) z3).set j (seeV F V (f[j]'hj)) = viewL F V (f.take (j + 1)) ++ List.replicate (f.length - (j + 1)) z3 := by
  have hl : (viewL F V (f.take j)).length = j := by unfold viewL; rw [List.length_map, List.length_take]; omega
  rw [List.set_append_right _ _ (by omega), hl, Nat.sub_self, show f.length - j = (f.length - (j + 1)) + 1 by omega, List.replicate_succ, List.set_cons_zero, List.take_succ_eq_append_getElem hj]
  unfold viewL
  rw [List.map_append]; simp
theorem view_skip (F : List Fld) (V : List VL) (f : List Fld) (j : Nat) (hj : j < f.length) (h : seeV F V (f[j]'hj) = z3) : viewL F V (f.take j) ++ List.replicate (f.length - j) z3 = viewL F V (f.take (j + 1)) ++ List.replicate (f.length - (j + 1)) z3 := by
  rw [show f.length - j = (f.length - (j + 1)) + 1 by omega, List.replicate_succ, List.take_succ_eq_append_getElem hj]
  unfold viewL
  rw [List.map_append]; simp [h]
theorem view_len (F : List Fld) (V : List VL) (f : List Fld) (j : Nat) (hj : j ≤ f.length) : (viewL F V (f.take j) ++ List.replicate (f.length - j) z3).length = f.length := by
  unfold viewL; rw [List.length_append, List.length_map, List.length_take, List.length_replicate]; omega
set_option maxRecDepth 20000 in
set_option maxHeartbeats 8000000 in
theorem View_any (nm : ByteArray) (fv gv vv : Value) (F f : List Fld) (t : Int) (V : List VL) (w : World) (hF : At w 2 fldF fv F) (hf : At w 2 fldF gv f) (hV : At w 3 vlF vv V) (hn : f.length ≤ 1000) :
    Calls Try.prog 16 #[.agg #[.string nm, fv], gv, .agg #[.int .i64 t, vv]] w fun e w' => ∃ rv, (e = .returned (.agg #[.int .i64 t, rv]) ∧ Own w' w.heap.size 35 3 vlF rv (viewL F V f)) ∧ Below w.heap.size w w' := by
  obtain ⟨js, sj, sy0, sy1, sy2⟩ := info_parts (P := Try.prog) (e := 35) (z := .agg #[.int .i64 0, .int .i64 0, .string ⟨#[]⟩]) (size := 3) (bytes := 32) (by kernel_rfl)
  obtain ⟨fA, fc, rfl, f1, f2, _⟩ := hF.shape
  obtain ⟨gA, gc, rfl, g1, g2, _⟩ := hf.shape
  obtain ⟨vA, vc, rfl, v1, v2, _⟩ := hV.shape
  obtain ⟨n, hnl⟩ : ∃ n, n = f.length := ⟨_, rfl⟩
  obtain ⟨m, hml⟩ : ∃ m, m = V.length := ⟨_, rfl⟩
  obtain ⟨k, hkl⟩ : ∃ k, k = F.length := ⟨_, rfl⟩
  rw [← hkl] at hF ⊢
  rw [← hnl] at hf ⊢
  rw [← hml] at hV ⊢
  have hmk : ∀ W : World, (Instr.makeSlice 51 (.int .i64 (n : Int)) (.int .i64 (n : Int))).run Try.prog W = .ok (.slice (some ⟨W.heap.size, 0, none⟩) n n) (W.alloc (.cells (madeCells (Value.agg #[.int .i64 0, .int .i64 0, .string ⟨#[]⟩]).cells (n * 3)) 35)) := fun W => by
    have := run_make (P := Try.prog) W 51 35 js (.agg #[.int .i64 0, .int .i64 0, .string ⟨#[]⟩]) Try.underlying51 sj sy0 .i64 .i64 n n (by omega) (Int.le_refl _) (by rw [sy2]; omega) (by omega)
    rw [sy1] at this; simpa using this
  have hmo := fun W : World => made_own W n (by unfold maxLen; omega)
  generalize madeCells (Value.agg #[.int .i64 0, .int .i64 0, .string ⟨#[]⟩]).cells (n * 3) = M at *
  obtain ⟨W1, hW1⟩ : ∃ W1, W1 = ((w.alloc (.cells #[.string nm, .slice fA k fc] 46)).alloc (.cells #[.int .i64 t, .slice vA m vc] 53)).alloc (.cells #[.int .i64 0, .slice none 0 0] 53) := ⟨_, rfl⟩
  have b1 : Below w.heap.size w W1 := by rw [hW1]; exact bt (ba _ _) (bt (ba _ _) (ba _ _))
  have hB0 : Blk W1 w.heap.size 46 #[.string nm, .slice fA k fc] := by rw [hW1]; exact ((Blk.new w _ _).later (ba _ _)).later (ba _ _)
  have hB1 : Blk W1 (w.heap.size + 1) 53 #[.int .i64 t, .slice vA m vc] := by
    rw [hW1]
    have := (Blk.new (w.alloc (.cells #[.string nm, .slice fA k fc] 46)) 53 #[.int .i64 t, .slice vA m vc]).later (ba _ (.cells #[.int .i64 0, .slice none 0 0] 53))
    simpa using this
  have hB2 : Blk W1 (w.heap.size + 1 + 1) 53 #[.int .i64 0, .slice none 0 0] := by
    rw [hW1]
    have := Blk.new ((w.alloc (.cells #[.string nm, .slice fA k fc] 46)).alloc (.cells #[.int .i64 t, .slice vA m vc] 53)) 53 #[.int .i64 0, .slice none 0 0]
    simpa using this
  have hs1 : W1.heap.size = w.heap.size + 1 + 1 + 1 := by rw [hW1]; simp
  have H := Lib.hid (And.intro hnl (And.intro hml (And.intro hkl (And.intro (hF.later b1) (And.intro (hf.later b1) (And.intro (hV.later b1) (And.intro b1 (And.intro hB0 (And.intro hB1 (And.intro hB2 hmo)))))))))); clear hnl hml hkl hF hf hV b1 hB0 hB2 hmo f1 f2 g1 g2 v1 v2
  go_enter Try.func16, Try.ntmps16
  go_upto_region 1 with fail
  rw [← hW1]
  clear hW1
  have KW := Lib.hid (Keep.start W1 (fun X => Blk X (w.heap.size + 1) 53 #[.int .i64 t, .slice vA m vc]) hB1 (fun _ _ hb h => h.later hb)); clear hB1
  have HS1 := Lib.hid hs1; clear hs1
  have HBe : ∃ B, B = w.heap.size + 1 := ⟨_, rfl⟩
  obtain ⟨B, hBe⟩ := HBe
  rw [← hBe] at KW ⊢
  have HB := Lib.hid hBe; clear hBe
  go_cut [7] from 10 to 47 (fun pv wx => ∃ g r : Nat, pv = .pointer (some ⟨g, 0, none⟩) ∧ Below W1.heap.size W1 wx ∧ W1.heap.size ≤ g ∧ Blk wx g 53 #[.int .i64 t, .slice (some ⟨r, 0, none⟩) n n] ∧ Own wx W1.heap.size 35 3 vlF (.slice (some ⟨r, 0, none⟩) n n) (List.replicate n z3))
  case first =>
    have p0 := KW.out.p.cell
    refine wp_region_noPanic ?_
    go_region_held3 (fun w' => ∀ i, w'.cell? ⟨B, i, none⟩ = (#[.int .i64 t, .slice vA m vc] : Array Value)[i]?) (exact (KW.out.go (by first | exact Below.refl _ _ | exact below_drew (Below.refl _ _) | exact ba _ _ | exact below_drew (ba _ _) | exact bt (below_drew (Below.refl _ _)) (ba _ _) | exact bt (ba _ _) (ba _ _) | exact bt (below_drew (Below.refl _ _)) (bt (ba _ _) (ba _ _)))).p.cell) (fail)
    all_goals
      refine NoPanic.normal ?_
      go_wp2_with fail
      go_meet
      first
      | exact ⟨W1.heap.size + 1, W1.heap.size, rfl, below_drew (bt (ba _ _) (ba _ _)), Nat.le_succ _, by
          have h := Blk.new (W1.alloc (.cells M 35)) 53 #[.int .i64 t, .slice (some ⟨W1.heap.size, 0, none⟩) n n]
          rw [World.size_alloc] at h; exact h, (H.out.2.2.2.2.2.2.2.2.2.2 W1).later (bt (ba _ _) (below_drew (Below.refl _ _)))⟩
      | exact ⟨W1.heap.size, W1.heap.size + 1, rfl, below_drew (bt (ba _ _) (ba _ _)), Nat.le_refl _, (Blk.new W1 53 #[.int .i64 t, .slice (some ⟨W1.heap.size + 1, 0, none⟩) n n]).later (bt (ba _ _) (below_drew (Below.refl _ _))), by
          have h := H.out.2.2.2.2.2.2.2.2.2.2 (W1.alloc (.cells #[.int .i64 t, .slice (some ⟨W1.heap.size + 1, 0, none⟩) n n] 53))
          rw [World.size_alloc] at h; exact h.lift (Nat.le_succ _)⟩
  case rest =>
    rename World => wz
    obtain ⟨g, r, rfl, hb, hgl, hG, hO⟩ := hcut
    have D := Lib.hid (And.intro hb (And.intro hgl (And.intro hG hO))); clear hb hgl hG hO
    go_wp2_with fail
    go_loopw [18] (fun jv wr => ∃ j : Nat, j ≤ n ∧ jv = .int .i64 (j : Int) ∧ Below W1.heap.size W1 wr ∧ Blk wr g 53 #[.int .i64 t, .slice (some ⟨r, 0, none⟩) n n] ∧ Own wr W1.heap.size 35 3 vlF (.slice (some ⟨r, 0, none⟩) n n) (viewL F V (f.take j) ++ List.replicate (f.length - j) z3)) (fun jv _ => n - (intOf jv).toNat)
    case atStart => exact ⟨0, Nat.zero_le _, rfl, D.out.1, D.out.2.2.1, by rw [List.take_zero, Nat.sub_zero, ← H.out.1]; exact D.out.2.2.2⟩
    case round =>
      rename World => wr
      obtain ⟨j, hj, rfl, hb, hG, hO⟩ := hrel
      by_cases hlt : j < n
      · have hjf : j < f.length := by have := H.out.1; omega
        obtain ⟨a, rfl, hcf⟩ := (H.out.2.2.2.2.1.later hb).cells rfl (by omega)
        obtain ⟨y0, y1⟩ := hcf.row2 j hjf rfl
        have cA := fun X (hX : Below W1.heap.size W1 X) => At_any nm (f[j]'hjf).1 (.slice fA k fc) F X (rowsF_of_at (H.out.2.2.2.1.later hX))
        have hnx := view_next F V f j hjf
        have hsk := view_skip F V f j hjf
        obtain ⟨q, hq⟩ : ∃ q, q = atF F (f[j]'hjf).1 := ⟨_, rfl⟩
        have cA' : ∀ X, Below W1.heap.size W1 X → Calls Try.prog 13 #[.agg #[.string nm, .slice fA k fc], .string (f[j]'hjf).1] X fun e w' => e = .returned (.int .i64 q) ∧ Below X.heap.size X w' := fun X hX => by rw [hq]; exact cA X hX
        have hse : seeV F V (f[j]'hjf) = if h : 0 ≤ q ∧ q.toNat < V.length then V[q.toNat]'h.2 else z3 := by subst hq; rfl
        clear cA hq
        generalize seeV F V (f[j]'hjf) = sv at *
        change wr.cell? (a.add (j * 2)) = some (.string (f[j]'hjf).1) at y0
        generalize (f[j]'hjf).1 = s at *
        have C := Lib.hid (And.intro cA' (And.intro hnx (And.intro hsk (And.intro hse (And.intro hb (And.intro hG hO)))))); clear cA' hnx hsk hse hb hG hO y1 hcf
        have S0 := Lib.hid (fun X (hX : Below wr.heap.size wr X) => (And.intro (fun i => ((H.out.2.2.2.2.2.2.2.1.later C.out.2.2.2.2.1).later hX).cell i) (show X.cell? (a.add (j * 2)) = some (.string s) by rw [hX.cell (World.block_lt_of_cell? wr _ y0)]; exact y0)))
        have Z := Lib.hid (Below.refl wr.heap.size wr)
        go_upto_region 5 with fail
        go_cut [9] from 21 to 46 (fun qv wx => qv = .int .i64 q ∧ Below wr.heap.size wr wx)
        case first =>
          have p0 := (S0.out _ Z.out).1
          refine wp_region_noPanic ?_
          go_region_held3 (fun w' => (∀ i, w'.cell? ⟨w.heap.size, i, none⟩ = (#[.string nm, .slice fA k fc] : Array Value)[i]?) ∧ w'.cell? (a.add (j * 2)) = some (.string s)) (exact S0.out _ (by first | exact Z.out | exact below_drew Z.out)) (first
            | (go_at_call 13; ((with_reducible refine (C.out.1 _ (by first | exact bt C.out.2.2.2.2.1 Z.out | exact bt C.out.2.2.2.2.1 (below_drew Z.out))).mono ?_); rintro e w6 ⟨rfl, hb⟩; (first | replace Z := Lib.hid (bt Z.out hb) | replace Z := Lib.hid (bt (below_drew Z.out) hb)); clear hb)))
          all_goals
            refine NoPanic.normal ?_
            go_wp2_with fail
            go_meet
            exact ⟨rfl, Z.out⟩
        case rest =>
          rename World => w7
          obtain ⟨rfl, hb7⟩ := hcut
          have bw7 := bt C.out.2.2.2.2.1 hb7
          have p0 := (KW.out.go bw7).p.cell
          have hO7 := C.out.2.2.2.2.2.2.later hb7
          have hG7 := C.out.2.2.2.2.2.1.later hb7
          have q0 := hG7.cell
          have hln := view_len F V f j (by omega)
          by_cases h0 : 0 ≤ q
          · obtain ⟨qn, rfl⟩ : ∃ qn : Nat, q = (qn : Int) := ⟨q.toNat, by omega⟩
            by_cases h1 : qn < m
            · have hqv : qn < V.length := by have := H.out.2.1; omega
              have hse := C.out.2.2.2.1
              rw [dif_pos ⟨h0, by rw [Int.toNat_natCast]; exact hqv⟩] at hse
              simp only [Int.toNat_natCast] at hse
              obtain ⟨va, rfl, hvc⟩ := (H.out.2.2.2.2.2.1.later bw7).cells rfl (by omega)
              obtain ⟨e0, e1, e2⟩ := hvc.row3 qn hqv rfl
              rw [← hse] at e0 e1 e2
              obtain ⟨g', hg', hgN, hglt, hfz, hoc⟩ := hO7.cells (f := vlF) (k := 3) (fun _ => rfl) rfl (by omega)
              obtain rfl : r = g' := by simpa using hg'
              have c0 := hoc j (by omega) 0 _ rfl
              have c1 := hoc j (by omega) 1 _ rfl
              have c2 := hoc j (by omega) 2 _ rfl
              rw [Nat.add_zero] at c0
              have hpv := hO7.putV j (by omega) sv
              rw [C.out.2.1] at hpv
              obtain ⟨sv1, sv2, sv3⟩ := sv
              have d1 : decide (qn < m) = true := decide_eq_true h1
              have d2 : decide (j < n) = true := decide_eq_true hlt
              have d3 : (qn : Int) < (m : Int) := by omega
              have hne : g ≠ r := fun e => by
                subst e
                have h3 := hO7.2
                rcases h3 with ⟨h3, _⟩ | ⟨g2, cap, cur, h3, h4, h5, _⟩
                · simp at h3
                · simp only [Value.slice.injEq, Option.some.injEq, Addr.mk.injEq] at h3
                  obtain ⟨⟨rfl, _⟩, _⟩ := h3
                  rw [show w7.heap[g]? = some (Obj.cells #[.int .i64 t, .slice (some ⟨g, 0, none⟩) n n] 53 (0, 0)) from hG7] at h5
                  simp at h5
              have Y := Lib.hid (And.intro hpv (And.intro hG7 (And.intro bw7 (And.intro hgN hne)))); clear hpv hG7 bw7 hgN hne hO7 hoc hse hvc hg'
              go_wp2_with fail
              go_still_tail 9, (by kernel_rfl)
              go_wp2_with fail
              go_roundw
              case rel =>
                refine ⟨j + 1, by omega, by go_num, below_drew ((((Y.out.2.2.1).setCell (p := ⟨r, j * 3, none⟩) Y.out.2.2.2.1 _).setCell (p := ⟨r, j * 3 + 1, none⟩) Y.out.2.2.2.1 _).setCell (p := ⟨r, j * 3 + 2, none⟩) Y.out.2.2.2.1 _), ((Y.out.2.1.far (p := ⟨r, j * 3, none⟩) Y.out.2.2.2.2 _).far (p := ⟨r, j * 3 + 1, none⟩) Y.out.2.2.2.2 _).far (p := ⟨r, j * 3 + 2, none⟩) Y.out.2.2.2.2 _, Y.out.1.later (below_drew (Below.refl _ _))⟩
              case measure => simp [intOf]; omega
            · have hse := C.out.2.2.2.1
              rw [dif_neg (fun h => h1 (by have := h.2; rw [Int.toNat_natCast] at this; have := H.out.2.1; omega))] at hse
              have hsk := C.out.2.2.1 hse
              have d1 : decide (qn < m) = false := decide_eq_false h1
              have d3 : ¬ (qn : Int) < (m : Int) := by omega
              have Y := Lib.hid (And.intro (hsk ▸ hO7) (And.intro hG7 bw7)); clear hsk hG7 bw7 hO7 hse
              go_wp2_with fail
              go_roundw
              case rel => exact ⟨j + 1, by omega, by go_num, Y.out.2.2, Y.out.2.1, Y.out.1⟩
              case measure => simp [intOf]; omega
          · have hse := C.out.2.2.2.1
            rw [dif_neg (fun h => h0 h.1)] at hse
            have hsk := C.out.2.2.1 hse
            have d1 : decide (0 ≤ q) = false := decide_eq_false h0
            have Y := Lib.hid (And.intro (hsk ▸ hO7) (And.intro hG7 bw7)); clear hsk hG7 bw7 hO7 hse
            go_wp2_with fail
            go_roundw
            case rel => exact ⟨j + 1, by omega, by go_num, Y.out.2.2, Y.out.2.1, Y.out.1⟩
            case measure => simp [intOf]; omega
      · obtain rfl : n = j := by omega
        rw [← H.out.1, Nat.sub_self, List.take_of_length_le (by rw [← H.out.1]; exact Nat.le_refl _)] at hO
        rw [show List.replicate 0 z3 = [] from rfl, List.append_nil] at hO
        have q0 := hG.cell
        have hB2 : Blk wr (B + 1) 53 #[.int .i64 0, .slice none 0 0] := by rw [HB.out]; exact H.out.2.2.2.2.2.2.2.2.2.1.later hb
        have r1 := hB2.cell
        have r2 := hB2.frozen
        have r3 := hB2.lt
        have hlw : B + 1 < W1.heap.size := by have := HS1.out; have := HB.out; omega
        have Y := Lib.hid (And.intro ((((hO.far (p := ⟨B + 1, 0, none⟩) hlw (.int .i64 t)).far (p := ⟨B + 1, 1, none⟩) hlw (.slice (some ⟨r, 0, none⟩) n n)).lift (base' := w.heap.size) (by have := HS1.out; omega))) (bt H.out.2.2.2.2.2.2.1 hb)); clear hO hG hb hB2 hlw
        go_wp2_with fail
        exact bodyPost_ret (v := .agg #[.int .i64 t, .slice (some ⟨r, 0, none⟩) n n]) (by simp [results, Try.results16, go_sem, r1, r2, r3]) rfl ⟨_, ⟨rfl, Y.out.1⟩, (Y.out.2.setCell (p := ⟨B + 1, 0, none⟩) (by have := HB.out; show w.heap.size ≤ B + 1; omega) _).setCell (p := ⟨B + 1, 1, none⟩) (by have := HB.out; show w.heap.size ≤ B + 1; omega) _⟩
end Go.Proofs.Ytkmboffbohndjaa
