/- StreamAll: the walk. -/
import Derived.Test.YtdpgdpfalfiijaaDoorSAll
import Derived.Test.YtdpgdpfalfiijaaDoorWalkStreamFields
namespace Go.Proofs.YtdpgdpfalfiijaaDoor
open Go.ChangeShapes Go.WideShapes Go.ChangeAt Go.RowKit
set_option linter.unusedVariables false
set_option linter.unusedSimpArgs false

abbrev Stm2 := ByteArray × SV
abbrev rowS2 (x : Stm2) : List Value := [.string x.1, sl x.2]
/-- The rows of the law's streams, and what they read as. -/
def FlsOk (w : World) (xs : List Stm2) (ls : List SF) : Prop :=
  xs.length = ls.length ∧ ∀ j (hj : j < xs.length) (hj2 : j < ls.length), (xs[j]'hj).1 = (ls[j]'hj2).1 ∧ Own w 0 60 2 rowF2 (sl (xs[j]'hj).2) (ls[j]'hj2).2
theorem FlsOk.later {w w' : World} {xs : List Stm2} {ls : List SF} (h : FlsOk w xs ls) (hb : Below w.heap.size w w') : FlsOk w' xs ls := ⟨h.1, fun j hj hj2 => ⟨(h.2 j hj hj2).1, (h.2 j hj hj2).2.later hb⟩⟩
theorem FlsOk.nil (w : World) : FlsOk w [] [] := ⟨rfl, fun j hj => absurd hj (by simp)⟩
theorem FlsOk.more {w : World} {xs : List Stm2} {ls : List SF} (h : FlsOk w xs ls) (n : ByteArray) (s : SV) (F : List Fld) (hs : Own w 0 60 2 rowF2 (sl s) F) : FlsOk w (xs ++ [(n, s)]) (ls ++ [(n, F)]) := by
  refine ⟨by simp [h.1], fun j hj hj' => ?_⟩
  by_cases hlt : j < xs.length
  · rw [List.getElem_append_left hlt, List.getElem_append_left (by rw [← h.1]; exact hlt)]
    exact h.2 j hlt _
  · have e : j = xs.length := by simp at hj; omega
    subst e
    have e1 : (xs ++ [(n, s)])[xs.length]'hj = (n, s) := by simp
    have e2 : (ls ++ [(n, F)])[xs.length]'hj' = (n, F) := by rw [List.getElem_append_right (by rw [h.1]; omega)]; simp
    rw [e1, e2]; exact ⟨rfl, hs⟩
theorem Own.away {α β : Type} {w : World} {b c : Nat} {e e' : TypeId} {k k' : Nat} {f : α → List Value} {g : β → List Value} {v u : Value} {l : List α} {m : List β} (h : Own w b e k f v l) (h' : Own w c e' k' g u m) (hne : e ≠ e') (x : Nat) (hx : u.ownBlock = some x) : v.ownBlock ≠ some x := by
  intro hy
  rcases h.2 with ⟨rfl, _⟩ | ⟨i, cap, cur, rfl, h1, h2, _⟩
  · simp [Value.ownBlock] at hy
  · rcases h'.2 with ⟨rfl, _⟩ | ⟨i', cap', cur', rfl, h1', h2', _⟩
    · simp [Value.ownBlock] at hx
    · simp [Value.ownBlock] at hx hy
      subst hx; subst hy
      rw [h2] at h2'
      simp at h2'
      exact hne h2'.2
theorem FlsOk.grown {β : Type} {w w' : World} {xs : List Stm2} {ls : List SF} (h : FlsOk w xs ls) {c : Nat} {e' : TypeId} {k' : Nat} {g : β → List Value} {u : Value} {m : List β} (h' : Own w c e' k' g u m) (hne : 60 ≠ e') (hg : w.grownBy w' u.ownBlock) : FlsOk w' xs ls :=
  ⟨h.1, fun j hj hj2 => ⟨(h.2 j hj hj2).1, (h.2 j hj hj2).2.grown hg (fun b hb => Own.away (h.2 j hj hj2).2 h' hne b hb)⟩⟩
theorem stms_of {w : World} {b : Nat} {v : Value} {xs : List Stm2} {ls : List SF} (hO : Own w b 28 2 rowS2 v xs) (hF : FlsOk w xs ls) : StmsAt w v ls := by
  obtain ⟨A, c, rfl, h0, h1, h2⟩ := hO.shape
  refine ⟨xs.map fun x => (x.1, sl x.2), ⟨A, c, by simp, by simpa using h1, h2, fun hp => ?_⟩, by simp [hF.1], fun j hj hj2 => ?_⟩
  · obtain ⟨a, rfl, hc⟩ := (Own.at_ (f := rowS2) (k := 2) (fun _ => rfl) hO).cells rfl (by simpa using hp)
    refine ⟨a, rfl, fun j hj => ?_⟩
    have := hc.row2 j (by simpa using hj) rfl
    simp only [List.getElem_map]
    exact this
  · simp only [List.getElem_map]
    have := hF.2 j (by simpa using hj) hj2
    exact ⟨this.1, NewF.rows (base := 0) this.2⟩
theorem bytes_tail {P : Program} {w : World} {t : TypeId} (ht : P.underlying t = some (.slice (P.elem t))) (hk : ∀ W, (sizeOf (P.elem t)).run P W = .ok 1 W) {A : Option Addr} {n c : Nat} {l : List UInt8} (h : BytesAt w (.slice A n c) l) (hn : n = l.length) (k : Nat) (hkl : k < l.length) :
    ∃ A' c', (∀ W, (Instr.slice t (.slice A n c) (some (.int .i64 (k : Int))) none none).run P W = .ok (.slice A' (l.length - k) c') W) ∧ BytesAt w (.slice A' (l.length - k) c') (l.drop k) := by
  subst hn
  rcases h with ⟨he, rfl⟩ | ⟨a, cap, he, h1, h2, h3⟩
  · exact absurd hkl (by simp)
  · simp only [Value.slice.injEq] at he
    obtain ⟨rfl, _, rfl⟩ := he
    refine ⟨some (a.add (k * 1)), c - k, fun W => ?_, Or.inr ⟨a.add (k * 1), c - k, by simp, by simp; omega, by omega, fun j hj => ?_⟩⟩
    · rw [run_slice_l W t (some a) l.length c ht .i64 k (by omega) (by omega), hk]
      simp [Result.andThen, Go.sliced]
      omega
    · rw [add_twice, Nat.mul_one]
      simp only [List.getElem_drop]
      exact h3 (k + j) (by simp at hj; omega)
abbrev Tab10 : Obj := .cells #[.string ⟨#[48]⟩, .string ⟨#[49]⟩, .string ⟨#[50]⟩, .string ⟨#[51]⟩, .string ⟨#[52]⟩, .string ⟨#[53]⟩, .string ⟨#[54]⟩, .string ⟨#[55]⟩, .string ⟨#[56]⟩, .string ⟨#[57]⟩] 9
theorem ten_at (W : World) (k : Nat) (hk : k < 10) : (W.alloc Tab10).cell? ⟨W.heap.size, k, none⟩ = some (.string (digT.getD k ⟨#[]⟩)) := by
  rw [World.cell?_alloc_new]
  rcases (by omega : k = 0 ∨ k = 1 ∨ k = 2 ∨ k = 3 ∨ k = 4 ∨ k = 5 ∨ k = 6 ∨ k = 7 ∨ k = 8 ∨ k = 9) with rfl | rfl | rfl | rfl | rfl | rfl | rfl | rfl | rfl | rfl <;> rfl
theorem dig_size (k : Nat) (hk : k < 10) : (digT.getD k ⟨#[]⟩).size = 1 := by
  rcases (by omega : k = 0 ∨ k = 1 ∨ k = 2 ∨ k = 3 ∨ k = 4 ∨ k = 5 ∨ k = 6 ∨ k = 7 ∨ k = 8 ∨ k = 9) with rfl | rfl | rfl | rfl | rfl | rfl | rfl | rfl | rfl | rfl <;> rfl
theorem flat_setS (s : ByteArray) : ∀ (xs : List Stm2) (q : Nat) (hq : q < xs.length), (xs.flatMap rowS2).set (q * 2) (.string s) = (xs.set q (s, (xs[q]'hq).2)).flatMap rowS2
  | [], q, h => absurd h (by simp)
  | x :: r, 0, _ => by simp
  | x :: r, q + 1, h => by
    have := flat_setS s r q (by simpa using h)
    rw [show (q + 1) * 2 = q * 2 + 1 + 1 by omega]
    simp only [List.flatMap_cons, rowS2, List.cons_append, List.nil_append, List.set_cons_succ, List.getElem_cons_succ]
    rw [this]
theorem own_setS {w : World} {b : Nat} {e : TypeId} {g n c : Nat} {xs : List Stm2} (h : Own w b e 2 rowS2 (.slice (some ⟨g, 0, none⟩) n c) xs) (q : Nat) (hq : q < xs.length) (s : ByteArray) :
    Own (w.setCell ⟨g, q * 2, none⟩ (.string s)) b e 2 rowS2 (.slice (some ⟨g, 0, none⟩) n c) (xs.set q (s, (xs[q]'hq).2)) ∧ w.grownBy (w.setCell ⟨g, q * 2, none⟩ (.string s)) (some g) := by
  obtain ⟨_, _, he, _, _, _⟩ := h.shape
  simp only [Value.slice.injEq] at he
  obtain ⟨_, rfl, rfl⟩ := he
  have := World.ownsRow.stored h (q * 2) (.string s)
  refine ⟨?_, this.2⟩
  unfold Own
  rw [List.length_set, ← flat_setS s xs q hq]; exact this.1
theorem FlsOk.set {w : World} {xs : List Stm2} {ls : List SF} (h : FlsOk w xs ls) (q : Nat) (hq : q < xs.length) (hq2 : q < ls.length) (s : ByteArray) : FlsOk w (xs.set q (s, (xs[q]'hq).2)) (ls.set q (s, (ls[q]'hq2).2)) := by
  refine ⟨by simp [h.1], fun j hj hj2 => ?_⟩
  rw [List.getElem_set, List.getElem_set]
  by_cases hjq : q = j
  · subst hjq
    rw [if_pos rfl, if_pos rfl]
    exact ⟨rfl, (h.2 q hq hq2).2⟩
  · rw [if_neg hjq, if_neg hjq]
    exact h.2 j (by simpa using hj) (by simpa using hj2)
/-- What is known of the streams behind the store of a name. -/
def BadB (n : Int) (nx : Nat) : Bool := decide (250 < n) && decide (0 < nx)
def AfterBY (w0 w : World) (v : Value) (n : Int) (nx : Nat) (wx : World) : Prop := ∃ (xs : List Stm2) (ls : List SF), Own wx w0.heap.size 28 2 rowS2 v xs ∧ FlsOk wx xs ls ∧ xs.length = nx ∧ Below w0.heap.size w0 wx ∧
  (BadB n nx = true → ∃ x ∈ ls, rightN x.1 x.2 ≠ 0) ∧ (BadB n nx = false → ∀ x ∈ ls, rightN x.1 x.2 = 0) ∧ ∀ x ∈ ls, x.1.size ≤ maxLen ∧ OkF x.2
theorem szB (W : World) : (sizeOf (Tryd.prog.elem 23)).run Tryd.prog W = .ok 1 W := by kernel_rfl
theorem undB : Tryd.prog.underlying 23 = some (.slice (Tryd.prog.elem 23)) := by kernel_rfl
set_option maxRecDepth 20000 in
set_option maxHeartbeats 4000000 in
theorem walk_StreamAll (v : Value) (l : List UInt8) (n : Int) (w : World) (hv : BytesAt w v l) (hl : l.length ≤ 140737488351232) (n0 : 0 ≤ n) (n1 : n ≤ 255) (hT : Tab w) :
    Calls Tryd.prog 8 #[v, .int .u8 n] w fun e w' => e = .returned (.bool true) ∧ Below w.heap.size w w' := by
  obtain ⟨m, hm⟩ := hT
  have cEx := examples_any m w hm
  obtain ⟨A, nl, cap, hve, hn, hc⟩ : ∃ (A : Option Addr) (n cap : Nat), v = .slice A n cap ∧ n = l.length ∧ (0 < n → ∃ a, A = some a ∧ ∀ j (hj : j < l.length), w.cell? (a.add j) = some (.int .u8 (l[j].toNat : Int))) := by
    rcases hv with ⟨rfl, rfl⟩ | ⟨a, cap, rfl, h1, h2, h3⟩
    · exact ⟨none, 0, 0, rfl, rfl, fun h => absurd h (by omega)⟩
    · exact ⟨some a, _, cap, rfl, rfl, fun _ => ⟨a, rfl, h3⟩⟩
  subst hve
  obtain rfl : nl = l.length := hn
  have H := Lib.hid (And.intro hc (And.intro hv cEx)); clear hc hv cEx hm
  go_enter Tryd.func8, Tryd.ntmps8
  go_wp2_with (go_at_call 9; ((with_reducible refine (H.out.2.2).mono ?_); rintro e w0 ⟨rfl, b0⟩; have HB := Lib.hid b0; clear b0))
  go_loopw [6, 7] (fun av iv wr => ∃ (k : Nat) (xs : List Stm2), k ≤ l.length ∧ k ≤ 10 ∧ iv = .int .i64 k ∧ Own wr w.heap.size 28 2 rowS2 av xs ∧ FlsOk wr xs ((sfs l).take k) ∧ xs.length = k ∧ Below w.heap.size w wr) (fun _ i _ => 10 - (intOf i).toNat)
  case atStart => exact ⟨0, [], Nat.zero_le _, Nat.zero_le _, rfl, Own.nil _ _ _ _ _, FlsOk.nil _, rfl, HB.out⟩
  case round =>
    rename World => wr0
    clear HB
    obtain ⟨k, xs, hk, hk10, rfl, hO, hF, hxl, hb⟩ := hrel
    obtain ⟨B, d, rfl, b1, b2, b3⟩ := hO.shape
    by_cases hlt : k < l.length ∧ k < 10
    · obtain ⟨hlt, hlt10⟩ := hlt
      obtain ⟨a, rfl, hc⟩ := H.out.1 (by omega)
      have hcell := cell_stays (hc k hlt) hb
      obtain ⟨A', c', hrun, hbt⟩ := bytes_tail (P := Tryd.prog) undB szB H.out.2.1 rfl k hlt
      have hsn := sfs_snoc l k hlt hlt10
      have hx := (l[k]'hlt).toNat_lt
      have cS := fun W (h : Below wr0.heap.size wr0 W) => own_any (l[k]'hlt).toNat (.slice A' (l.length - k) c') (l.drop k) W (by omega) ((hbt.later hb).later h) (by simp; omega)
      generalize (l[k]'hlt).toNat = c at *
      obtain ⟨nt, hnt⟩ : ∃ n, n = l.length - k := ⟨_, rfl⟩
      rw [← hnt] at hrun cS
      have K := Lib.hid (And.intro hO (And.intro hF (And.intro hb (And.intro cS (And.intro hsn hxl))))); clear hO hF hb cS hsn hbt hc hnt hxl b1 b2 b3
      have hd10 : decide ((k : Int) < 10) = true := decide_eq_true (by omega)
      go_upto_region 8 with fail
      go_cut [8] (fun pv wx => ∃ g A n q, pv = .pointer (some ⟨g, 0, none⟩) ∧ wr0.heap.size ≤ g ∧ Blk wx g 28 #[.string (ownN c), .slice A n q] ∧ Own wx 0 60 2 rowF2 (.slice A n q) (ownF 0 (l.drop k)) ∧ Below wr0.heap.size wr0 wx)
      case first =>
        go_region_held3 (fun w' => w'.cell? (a.add k) = some (.int .u8 (c : Int)))
          (first
            | go_keep
            | exact cell_stays hcell b5
            | exact cell_stays hcell (bt b5 (ba _ _))
            | exact cell_stays hcell (below_put2 b5 (Nat.le_refl _) _ _))
          ((go_at_call 10; ((with_reducible refine (K.out.2.2.2.1 _ (by first | exact below_drew (Below.refl _ _) | exact below_drew (ba _ _))).mono ?_); rintro e w5 ⟨u5, ⟨rfl, hu5⟩, b5⟩; obtain ⟨A5, n5, c5, rfl⟩ := own_shape hu5; first | (replace b5 : Below wr0.heap.size wr0 w5 := ⟨b5.os, b5.tape, b5.output, b5.size, b5.block⟩) | (have hC5 : Blk w5 wr0.heap.size 28 #[.string ⟨#[]⟩, .slice none 0 0] := (Blk.new wr0 28 #[.string ⟨#[]⟩, .slice none 0 0]).later ⟨b5.os, b5.tape, b5.output, b5.size, b5.block⟩; replace b5 : Below wr0.heap.size wr0 w5 := bt (ba wr0 (.cells #[.string ⟨#[]⟩, .slice none 0 0] 28)) ⟨b5.os, b5.tape, b5.output, b5.size, b5.block⟩; have z0 := hC5.cell 0; have z1 := hC5.cell 1; have z2 := hC5.frozen 0; have z3 := hC5.frozen 1; have hC6 := Lib.hid hC5; clear hC5))))
        all_goals
          go_wp2_with fail
          go_meet
          first
            | exact ⟨_, _, _, _, rfl, b5.size, Blk.new w5 _ _, Own.lift (f := rowF2) (Own.later (f := rowF2) hu5 (ba _ _)) (Nat.zero_le _), bt b5 (ba _ _)⟩
            | exact ⟨_, _, _, _, rfl, Nat.le_refl _, hC6.out.put2 _ _, Own.lift (f := rowF2) (Own.put2 (f := rowF2) hu5 hC6.out (by decide) _ _) (Nat.zero_le _), below_put2 b5 (Nat.le_refl _) _ _⟩
      case rest =>
        obtain ⟨g, Q, q1, q2, rfl, hgs, hB, hFl, bW⟩ := hcut
        have hNs := name_size (right_ok (own_right c [])).1
        have hcell2 := cell_stays hcell bW
        have KB := Lib.hid (And.intro hB (And.intro hFl bW))
        have hglt := hB.lt
        clear hB hFl bW hcell hrun
        go_upto_if 40 with fail
        go_cut [] (fun wx => Blk wx g 28 #[.string (newN c k), .slice Q q1 q2] ∧ Own wx 0 60 2 rowF2 (.slice Q q1 q2) (ownF 0 (l.drop k)) ∧ Below wr0.heap.size wr0 wx)
        case first =>
          by_cases hc : 127 < c
          · have hci : (127 : Int) < (c : Int) := by omega
            have hnew : newN c k = (ownN c).extract 0 (min (ownN c).size 15) ++ digT.getD k ⟨#[]⟩ := by unfold newN; rw [if_pos hc]
            have HN := Lib.hid hnew
            clear hnew
            have x0 := KB.out.1.cell 0
            have x2 := KB.out.1.frozen 0
            have t0 := ten_at wc k hlt10
            have hds := dig_size k hlt10
            generalize digT.getD k ⟨#[]⟩ = D at *
            generalize ownN c = N at *
            have y0 := (ba wc Tab10).cell (p := ⟨g, 0, none⟩) hglt
            rw [x0] at y0
            have y2 := (ba wc Tab10).frozen (p := ⟨g, 0, none⟩) hglt
            rw [x2] at y2
            have hsl : ∀ W, (Instr.slice 9 (.string N) none (some (.int .i64 (min (N.size : Int) 15))) none).run Tryd.prog W = .ok (.string (N.extract 0 (min N.size 15))) W := fun W => by
              have h := slice_upto Tryd.prog W 9 Tryd.underlying9 N (min (N.size : Int) 15) (by omega) (by omega)
              rw [show (min (N.size : Int) 15).toNat = min N.size 15 by omega] at h
              exact h
            have hEs : (N.extract 0 (min N.size 15)).size ≤ 15 := by rw [ByteArray.size_extract]; omega
            generalize N.extract 0 (min N.size 15) = E at *
            have hcat : ¬ 9223372036854775807 < E.size + D.size := by omega
            have hcat2 : ¬ 9223372036854775807 < E.size + 1 := by omega
            have hk10i : (k : Int) < 10 := by omega
            clear hNs hEs
            go_wp2_with fail
            go_region_law (fail)
            all_goals
              go_wp2_with fail
              go_meet
              rw [HN.out]
              have hB1 : Blk (wc.setCell ⟨g, 0, none⟩ (.string (E ++ D))) g 28 #[.string (E ++ D), .slice Q q1 q2] := by
                have := KB.out.1.set_ 0 (.string (E ++ D)); simpa using this
              exact ⟨blk_drew (hB1.later (ba _ _)), World.ownsRow.drew ((Own.put1 (f := rowF2) KB.out.2.1 KB.out.1 (by decide) 0 _).later (ba _ _)), below_drew (bt (KB.out.2.2.setCell (p := ⟨g, 0, none⟩) hgs _) (ba _ _))⟩
          · have hci : ¬ (127 : Int) < (c : Int) := by omega
            have hnew : newN c k = ownN c := by unfold newN; rw [if_neg hc]
            have HN := Lib.hid hnew
            clear hnew
            go_wp2_with fail
            go_meet
            rw [HN.out]
            exact KB.out
        case rest =>
          obtain ⟨hB, hFl, bW⟩ := hcut
          have x0 := hB.cell 0
          have x1 := hB.cell 1
          have KC := Lib.hid (And.intro hFl bW)
          clear hB hFl bW KB hglt hcell2 hNs
          have hxs : xs.length ≤ 10 := by have := K.out.2.2.2.2.2; omega
          obtain ⟨i0, hi, hz0, hz1, hz2⟩ := info_parts (P := Tryd.prog) (e := 28) (z := .agg #[.string ⟨#[]⟩, .slice none 0 0]) (size := 2) (bytes := 40) (by kernel_rfl)
          go_wp2_with (at_builtin; refine wpList_append_own _ rfl (.tmp 54) (.tmp 56) 22 rfl w.heap.size 28 i0 (.agg #[.string ⟨#[]⟩, .slice none 0 0]) 2 40 Tryd.underlying22 hi hz0 hz1 hz2 rfl (by decide) _ xs.length _ rfl (K.out.1.later (bt KC.out.2 (ba _ _))) ⟨_, 0, none⟩ 1 1 (rowS2 (newN c k, Q, q1, q2)) rfl rfl (new_cells rfl _ #[.string (newN c k), .slice Q q1 q2]) (by simp [Value.oneCell']) (by unfold maxLen; omega) (by omega) (by have := K.out.2.2.1.size; have := KC.out.2.size; simp only [World.size_alloc]; omega) ?_; intro v5 w5 hO5 hg5 _; obtain ⟨A5, n5, c5, rfl⟩ := own_shape hO5)
          have hBB := bt KC.out.2 (ba wc (.cells #[.string (newN c k), .slice Q q1 q2] 28))
          have hOb := K.out.1.later hBB
          go_roundw
          case rel => exact ⟨k + 1, xs ++ [(newN c k, Q, q1, q2)], by omega, by omega, by go_num, Own.more rfl hO5, by rw [K.out.2.2.2.2.1]; exact ((K.out.2.1.later hBB).more _ (Q, q1, q2) _ (KC.out.1.later (ba _ _))).grown hOb (by decide) hg5, by rw [List.length_append, K.out.2.2.2.2.2]; rfl, own_past (bt K.out.2.2.1 hBB) hg5 K.out.1⟩
          case measure => simp [intOf]; omega
    · have hT : (sfs l).take k = sfs l := List.take_of_length_le (by rw [sfs_len]; omega)
      rw [hT] at hF
      have hlen : (sfs l).length = k := by rw [sfs_len]; omega
      have hright := sfs_right l
      generalize sfs l = ls at *
      have hcond : ¬ k < l.length ∨ (k < l.length ∧ ¬ k < 10) := by omega
      obtain ⟨nx, hnx⟩ : ∃ n, n = xs.length := ⟨_, rfl⟩
      rw [← hnx] at hO ⊢
      have hnk : nx ≤ 10 := by omega
      have hxn : xs.length = nx := hnx.symm
      have hln : ls.length = nx := by omega
      have hsz : ∀ x ∈ ls, x.1.size ≤ maxLen ∧ OkF x.2 := fun x hx => ⟨by have := name_size (right_ok (hright x hx)).1; unfold maxLen; omega, right_okF (hright x hx)⟩
      have K := Lib.hid (And.intro hO (And.intro hF (And.intro hb (And.intro hright (And.intro hln (And.intro hxn hsz)))))); clear hO hF hb hright hlen hxl hnx hT hxn hln hsz b1 b2 b3 hlt
      rcases hcond with hc1 | ⟨hc1, hc2⟩
      all_goals
        go_upto_region 12 with fail
        go_cut [64] (fun v wx => v = .bool (BadB n nx) ∧ wr0 = wx)
        case first =>
          have h0 : decide ((0 : Int) < (nx : Int)) = decide (0 < nx) := by by_cases h : 0 < nx <;> simp [h]
          by_cases h1 : 250 < n
          · by_cases h2 : 0 < nx
            · have h3 : (0 : Int) < (nx : Int) := by omega
              have hB1 : BadB n nx = true := by unfold BadB; rw [decide_eq_true h1, decide_eq_true h2]; rfl
              go_wp2_with fail
              go_meet
              exact ⟨by rw [hB1], rfl⟩
            · have h3 : ¬ (0 : Int) < (nx : Int) := by omega
              have hB1 : BadB n nx = false := by unfold BadB; rw [decide_eq_true h1, decide_eq_false h2]; rfl
              go_wp2_with fail
              go_meet
              exact ⟨by rw [hB1], rfl⟩
          · have hB1 : BadB n nx = false := by unfold BadB; rw [decide_eq_false h1]; rfl
            go_wp2_with fail
            go_meet
            exact ⟨by rw [hB1], rfl⟩
        case rest =>
          obtain ⟨hv, hw⟩ := hcut
          subst hv
          subst hw
          obtain ⟨bb, hbb⟩ : ∃ b, b = BadB n nx := ⟨_, rfl⟩
          rw [← hbb]
          go_upto_if 64 with fail
          go_cut [] (fun wx => AfterBY w w (.slice B nx d) n nx wx)
          case first =>
            rcases bb with _ | _
            · have HA := Lib.hid (show AfterBY w w (.slice B nx d) n nx wr0 from ⟨xs, ls, K.out.1, K.out.2.1, K.out.2.2.2.2.2.1, K.out.2.2.1, fun h => by rw [← hbb] at h; exact absurd h (by simp), fun _ => K.out.2.2.2.1, K.out.2.2.2.2.2.2⟩)
              clear hbb
              go_wp2_with fail
              go_meet
              exact HA.out
            · obtain ⟨hb1, hb2⟩ : 250 < n ∧ 0 < nx := by
                unfold BadB at hbb
                simpa using hbb.symm
              obtain ⟨g, rfl, _, hglt, hfr, hcs⟩ := K.out.1.cells (f := rowS2) (k := 2) (fun _ => rfl) rfl (by have := K.out.2.2.2.2.2.1; omega)
              obtain ⟨q, hq, hqn⟩ : ∃ q : Nat, n % (nx : Int) = (q : Int) ∧ q < nx := ⟨(n % (nx : Int)).toNat, by have := Int.emod_nonneg n (show (nx : Int) ≠ 0 by omega); omega, by have := Int.emod_lt_of_pos n (show (0 : Int) < (nx : Int) by omega); omega⟩
              have hqx : q < xs.length := by have := K.out.2.2.2.2.2.1; omega
              have hql : q < ls.length := by have := K.out.2.2.2.2.1; omega
              have c0 := hcs q hqx 0 _ rfl
              have f0 := hfr (q * 2)
              rw [Nat.add_zero] at c0
              have hn9 : IntKind.i64.wrap n = n := IntWalk.i64_in _ (by omega)
              have hz : ¬ (nx : Int) = 0 := by omega
              have hzz : ¬ nx = 0 := by omega
              have hset := own_setS K.out.1 q hqx ⟨#[66, 89]⟩
              have hF1 := K.out.2.1.grown K.out.1 (by decide) (w' := wr0.setCell ⟨g, q * 2, none⟩ (.string ⟨#[66, 89]⟩)) hset.2
              have hF2 := hF1.set q hqx hql ⟨#[66, 89]⟩
              have hAf : AfterBY w w (.slice (some ⟨g, 0, none⟩) nx d) n nx (wr0.setCell ⟨g, q * 2, none⟩ (.string ⟨#[66, 89]⟩)) := by
                refine ⟨_, _, hset.1, hF2, by rw [List.length_set]; exact K.out.2.2.2.2.2.1, own_past K.out.2.2.1 (v := .slice (some ⟨g, 0, none⟩) nx d) hset.2 K.out.1, fun _ => ⟨_, List.mem_iff_getElem.2 ⟨q, by simpa using hql, rfl⟩, ?_⟩, fun h => by rw [← hbb] at h; exact absurd h (by simp), fun x hx => ?_⟩
                · rw [List.getElem_set, if_pos rfl]; exact right_by _
                · rcases List.mem_or_eq_of_mem_set hx with h | h
                  · exact K.out.2.2.2.2.2.2 x h
                  · rw [h]; exact ⟨by show (2 : Nat) ≤ maxLen; unfold maxLen; omega, (K.out.2.2.2.2.2.2 _ (List.getElem_mem hql)).2⟩
              have HA := Lib.hid hAf
              clear hset hF1 hF2 hAf hcs hfr hbb
              go_wp2_with fail
              go_meet
              exact HA.out
          case rest =>
            clear K hbb bb
            obtain ⟨ys, ms, hO, hF, hyl, hb, ht, hf, hsz⟩ := hcut
            have hml : ms.length = nx := by rw [← hF.1]; exact hyl
            have cA := All_any _ ms wc (stms_of hO hF) hsz
            have K := Lib.hid (And.intro hO (And.intro hF (And.intro hb (And.intro ht (And.intro hf hsz))))); clear hO hF hb ht hf hsz
            go_wp2_with (go_at_call 18; ((with_reducible refine (cA.mono ?_)); rintro e w5 ⟨rfl, b5⟩))
            have hS5 := (stms_of K.out.1 K.out.2.1).later b5
            have hO5 := K.out.1.later b5
            have hF5 : FlsOk w5 ys ms := K.out.2.1.later b5
            have KS := Lib.hid (And.intro hS5 (And.intro hO5 (And.intro hF5 (bt K.out.2.2.1 b5))))
            clear hS5 hO5 hF5 b5 cA
            go_loopw [10, 11] (fun uv iv wr => ∃ (k : Nat) (b : Bool), k ≤ nx ∧ iv = .int .i64 k ∧ uv = .bool b ∧ (b = true ↔ Unlike (ms.take k)) ∧ Below w5.heap.size w5 wr) (fun _ i _ => nx - (intOf i).toNat)
            case atStart => exact ⟨0, true, Nat.zero_le _, rfl, rfl, by simp [Unlike], Below.refl _ _⟩
            case round =>
              obtain ⟨k2, b, hk2, rfl, rfl, hU, hw⟩ := hrel
              by_cases hkx : k2 < nx
              · obtain ⟨g, rfl, _, hglt, hfr, hcs⟩ := KS.out.2.1.cells (f := rowS2) (k := 2) (fun _ => rfl) rfl (by omega)
                have ck := cell_stays (hcs k2 (by omega) 0 _ rfl) hw
                rw [Nat.add_zero, (KS.out.2.2.1.2 k2 (by omega) (by omega)).1] at ck
                have KC := Lib.hid (And.intro hfr hcs); clear hfr hcs
                go_wp2_with fail
                go_loopw [10, 12] (fun uv iv wr => ∃ (j : Nat) (b : Bool), j ≤ k2 ∧ iv = .int .i64 j ∧ uv = .bool b ∧ (b = true ↔ (Unlike (ms.take k2) ∧ ∀ j' (hj' : j' < ms.length), j' < j → (ms[j']'hj').1 ≠ (ms[k2]'(by omega)).1)) ∧ Below w5.heap.size w5 wr) (fun _ i _ => k2 - (intOf i).toNat)
                case atStart => exact ⟨0, b, Nat.zero_le _, rfl, rfl, by rw [hU]; simp, hw⟩
                case round =>
                  obtain ⟨j, b', hj, rfl, rfl, hU', hw2⟩ := hrel
                  by_cases hjk : j < k2
                  · have cj := cell_stays (KC.out.2 j (by omega) 0 _ rfl) hw2
                    have ck := cell_stays (KC.out.2 k2 (by omega) 0 _ rfl) hw2
                    rw [Nat.add_zero, (KS.out.2.2.1.2 k2 (by omega) (by omega)).1] at ck
                    rw [Nat.add_zero, (KS.out.2.2.1.2 j (by omega) (by omega)).1] at cj
                    have hjc : (j : Int) < (nx : Int) := by omega
                    have hstep : ∀ c : Bool, (c = true ↔ (ms[j]'(by omega)).1 ≠ (ms[k2]'(by omega)).1) → ((b' && c) = true ↔ (Unlike (ms.take k2) ∧ ∀ j' (hj' : j' < ms.length), j' < j + 1 → (ms[j']'hj').1 ≠ (ms[k2]'(by omega)).1)) := by
                      intro c hc
                      rw [Bool.and_eq_true, hU', hc]
                      constructor
                      · rintro ⟨⟨p, q⟩, r⟩
                        refine ⟨p, fun j' hj' hl => ?_⟩
                        by_cases e : j' = j
                        · subst e; exact r
                        · exact q j' hj' (by omega)
                      · rintro ⟨p, q⟩
                        exact ⟨⟨p, fun j' hj' hl => q j' hj' (by omega)⟩, q j (by omega) (by omega)⟩
                    generalize hsk : (ms[k2]'(by omega)).1 = sk at *
                    generalize hsj : (ms[j]'(by omega)).1 = sj at *
                    have KH := Lib.hid hstep
                    clear hstep hU' hU
                    rcases b' with _ | _
                    · go_wp2_with fail
                      go_quiet (fail)
                      all_goals
                        go_wp2_with fail
                        go_roundw
                        case rel => exact ⟨j + 1, _, by omega, by go_num, rfl, by have := KH.out (decide (sj ≠ sk)) (by simp); simpa using this, by first | exact hw2 | exact below_drewN hw2 _⟩
                        case measure => simp [intOf]; omega
                    · by_cases he : sk = sj
                      · go_wp2_with fail
                        go_quiet (fail)
                        all_goals
                          go_wp2_with fail
                          go_roundw
                          case rel => exact ⟨j + 1, _, by omega, by go_num, rfl, by have := KH.out (decide (sj ≠ sk)) (by simp); simpa [he] using this, by first | exact hw2 | exact below_drewN hw2 _⟩
                          case measure => simp [intOf]; omega
                      · have hne : ¬ sk.toList = sj.toList := fun h => he (toList_inj h)
                        have hne2 : ¬ sj = sk := fun h => he h.symm
                        go_wp2_with fail
                        go_quiet (fail)
                        all_goals
                          go_wp2_with fail
                          go_roundw
                          case rel => exact ⟨j + 1, _, by omega, by go_num, rfl, by have := KH.out (decide (sj ≠ sk)) (by simp); simpa [he, hne2, hne] using this, by first | exact hw2 | exact below_drewN hw2 _⟩
                          case measure => simp [intOf]; omega
                  · have hjk2 : j = k2 := by omega
                    subst hjk2
                    have hU2 := (unlike_step (ls := ms) (i := j) (by omega))
                    go_wp2_with fail
                    go_roundw
                    case rel => exact ⟨j + 1, b', by omega, by go_num, rfl, by rw [hU', hU2], by first | exact hw2 | exact below_drewN hw2 _⟩
                    case measure => simp [intOf]; omega
              · have hk3 : k2 = nx := by omega
                subst hk3
                have htk : ms.take k2 = ms := List.take_of_length_le (by omega)
                rw [htk] at hU
                by_cases h8 : 8 < k2
                · have e4 : allN ms = 4 := by unfold allN; rw [if_pos (by omega)]
                  rw [e4]
                  go_wp2_with fail
                  go_ret
                  exact ⟨rfl, bt KS.out.2.2.2 hw⟩
                · have haz := all_zero (ls := ms) (by omega)
                  have hkey : (decide (allN ms = 0)) = (b && !(BadB n k2)) := by
                    rcases hB : BadB n k2 with _ | _
                    · have h1 := K.out.2.2.2.2.1 hB
                      have : allN ms = 0 ↔ b = true := by rw [haz, hU]; exact ⟨fun h => h.2, fun h => ⟨h1, h⟩⟩
                      cases b <;> simp [this]
                    · obtain ⟨x, hx, hr⟩ := K.out.2.2.2.1 hB
                      have : ¬ allN ms = 0 := fun h => hr ((haz.1 h).1 x hx)
                      simp [this]
                  have h8i : ¬ (8 : Int) < (k2 : Int) := by omega
                  generalize hgA : allN ms = e0 at *
                  have KZ := Lib.hid (And.intro haz hkey)
                  clear haz hkey hU htk
                  go_wp2_with fail
                  go_loopw [13] (fun iv wr => ∃ (k4 : Nat), k4 ≤ k2 ∧ iv = .int .i64 k4 ∧ StmsAt wr (.slice B k2 d) ms ∧ Own wr w.heap.size 28 2 rowS2 (.slice B k2 d) ys ∧ FlsOk wr ys ms ∧ Below w.heap.size w wr) (fun i _ => k2 - (intOf i).toNat)
                  case atStart => exact ⟨0, Nat.zero_le _, rfl, KS.out.1.later hw, KS.out.2.1.later hw, KS.out.2.2.1.later hw, bt KS.out.2.2.2 hw⟩
                  case round =>
                    obtain ⟨k4, hk4, rfl, hSt, hOw, hFl, hbw⟩ := hrel
                    by_cases hk5 : k4 < k2
                    · obtain ⟨g, rfl, _, hglt, hfr, hcs⟩ := hOw.cells (f := rowS2) (k := 2) (fun _ => rfl) rfl (by omega)
                      have c0 := hcs k4 (by omega) 0 _ rfl
                      have c1 := hcs k4 (by omega) 1 _ rfl
                      rw [Nat.add_zero, (hFl.2 k4 (by omega) (by omega)).1] at c0
                      have KR := Lib.hid (And.intro hSt (And.intro hOw (And.intro hFl hbw))); clear hSt hOw hFl hbw hcs hfr
                      by_cases he0 : e0 = 0
                      · have hkm : k4 < ms.length := by omega
                        have hky : k4 < ys.length := by omega
                        obtain ⟨hA1, hA2⟩ := KZ.out.1.1 he0
                        have hR := hA1 _ (List.getElem_mem hkm)
                        have hP := atS_place hA2 k4 hkm
                        have hsz := K.out.2.2.2.2.2 _ (List.getElem_mem hkm)
                        have cR := fun W (h : Below wr.heap.size wr W) => Right_any (ms[k4]'hkm).1 (sl (ys[k4]'hky).2) (ms[k4]'hkm).2 W ((NewF.rows (base := 0) (KR.out.2.2.1.2 k4 hky hkm).2).later h) hsz.1 hsz.2
                        have cF := fun W (h : Below wr.heap.size wr W) => FindS_any (ms[k4]'hkm).1 _ ms W (KR.out.1.later h)
                        rw [hR] at cR
                        rw [hP] at cF
                        subst he0
                        have KF := Lib.hid (And.intro cR cF)
                        clear cR cF hA1 hA2 hR hP hsz
                        generalize (ms[k4]'hkm).1 = nn at *
                        generalize (ys[k4]'hky).2 = sv at *
                        go_wp2_with fail
                        go_at_call 22
                        ((with_reducible refine (KF.out.1 _ (Below.refl _ _)).mono ?_); rintro e w1 ⟨rfl, b1⟩)
                        have d0 := cell_stays c0 b1
                        have KB := Lib.hid b1
                        clear b1 c0 c1
                        go_wp2_with fail
                        go_at_call 20
                        ((with_reducible refine (KF.out.2 _ KB.out).mono ?_); rintro e w2 ⟨rfl, bq⟩)
                        have bZ := bt KB.out bq
                        go_wp2
                        go_roundw
                        case rel => exact ⟨k4 + 1, by omega, by go_num, KR.out.1.later bZ, KR.out.2.1.later bZ, KR.out.2.2.1.later bZ, bt KR.out.2.2.2 bZ⟩
                        case measure => simp [intOf]; omega
                      · go_wp2_with fail
                        go_roundw
                        case rel => exact ⟨k4 + 1, by omega, by go_num, KR.out⟩
                        case measure => simp [intOf]; omega
                    · have hz := KZ.out.2
                      by_cases h1 : 250 < n
                      · by_cases h2 : 0 < k2
                        · have h3 : (0 : Int) < (k2 : Int) := by omega
                          have hB : BadB n k2 = true := by unfold BadB; rw [decide_eq_true h1, decide_eq_true h2]; rfl
                          rw [hB] at hz
                          cases b <;> by_cases h9 : e0 = 0
                          all_goals first
                            | (exfalso; revert hz; simp [h9]; done)
                            | (clear hz hB; go_wp2_with fail; go_ret; exact ⟨by first | rfl | (subst h9; rfl) | (simp [h9]; done) | (rw [show (e0 == 0) = false from beq_eq_false_iff_ne.2 h9]; rfl), hbw⟩)
                        · have h3 : ¬ (0 : Int) < (k2 : Int) := by omega
                          have hB : BadB n k2 = false := by unfold BadB; rw [decide_eq_true h1, decide_eq_false h2]; rfl
                          rw [hB] at hz
                          cases b <;> by_cases h9 : e0 = 0
                          all_goals first
                            | (exfalso; revert hz; simp [h9]; done)
                            | (clear hz hB; go_wp2_with fail; go_ret; exact ⟨by first | rfl | (subst h9; rfl) | (simp [h9]; done) | (rw [show (e0 == 0) = false from beq_eq_false_iff_ne.2 h9]; rfl), hbw⟩)
                      · have hB : BadB n k2 = false := by unfold BadB; rw [decide_eq_false h1]; rfl
                        rw [hB] at hz
                        cases b <;> by_cases h9 : e0 = 0
                        all_goals first
                          | (exfalso; revert hz; simp [h9]; done)
                          | (clear hz hB; go_wp2_with fail; go_ret; exact ⟨by first | rfl | (subst h9; rfl) | (simp [h9]; done) | (rw [show (e0 == 0) = false from beq_eq_false_iff_ne.2 h9]; rfl), hbw⟩)
end Go.Proofs.YtdpgdpfalfiijaaDoor
