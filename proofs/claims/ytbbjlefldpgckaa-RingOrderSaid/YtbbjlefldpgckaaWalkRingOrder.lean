/- The walk of RingOrder. -/
import Derived.Test.YtbbjlefldpgckaaRgO
import Derived.Test.YtbbjlefldpgckaaOrder25
import Derived.Maps.AppendAt
namespace Go.Proofs.Ytbbjlefldpgckaa
open Go.ChangeShapes Go.WideShapes Go.ChangeAt Go.RowKit Go.Maps
open Ev (V3 rightV OkV)
set_option linter.unusedVariables false
set_option linter.unusedSimpArgs false
set_option maxRecDepth 20000

def ids (R : List Rd3) : List Int := (List.range R.length).map (fun i : Nat => (i : Int) + 1)
def frs (R : List Rd3) : List Int := R.map (fun r => (r.1 : Int))
def gts (R : List Rd3) : List Int := R.map (fun r => (r.2.1 : Int))
theorem ids_len (R : List Rd3) : (ids R).length = R.length := by simp [ids]
theorem frs_len (R : List Rd3) : (frs R).length = R.length := by simp [frs]
theorem gts_len (R : List Rd3) : (gts R).length = R.length := by simp [gts]
theorem ids_add (R : List Rd3) (x : Rd3) : ids (R ++ [x]) = ids R ++ [(R.length : Int) + 1] := by simp [ids, List.range_succ]
theorem frs_add (R : List Rd3) (x : Rd3) : frs (R ++ [x]) = frs R ++ [(x.1 : Int)] := by simp [frs]
theorem gts_add (R : List Rd3) (x : Rd3) : gts (R ++ [x]) = gts R ++ [(x.2.1 : Int)] := by simp [gts]
theorem ids_at (R : List Rd3) (k : Nat) (h : k < (ids R).length) : (ids R)[k]'h = (k : Int) + 1 := by simp [ids]
theorem frs_at (R : List Rd3) (k : Nat) (h : k < (frs R).length) (h' : k < R.length) : (frs R)[k]'h = ((R[k]'h').1 : Int) := by simp [frs]
theorem gts_at (R : List Rd3) (k : Nat) (h : k < (gts R).length) (h' : k < R.length) : (gts R)[k]'h = ((R[k]'h').2.1 : Int) := by simp [gts]
theorem ids_set (R : List Rd3) (k : Nat) (x : Rd3) : ids (R.set k x) = ids R := by simp [ids]
theorem frs_set (R : List Rd3) {k : Nat} (hk : k < R.length) {x : Rd3} (hx : x.1 = (R[k]'hk).1) : frs (R.set k x) = frs R := by
  unfold frs
  rw [List.map_set, hx]
  refine List.ext_getElem (by simp) (fun i h1 h2 => ?_)
  rw [List.getElem_set]
  split
  · rename_i e; subst e; simp
  · rfl
theorem gts_set (R : List Rd3) (k : Nat) (x : Rd3) : gts (R.set k x) = (gts R).set k (x.2.1 : Int) := by simp [gts, List.map_set]
theorem rows_at {w : World} {b g n c : Nat} {l : List Int} {m : Nat} (h : Own w b 3 1 i64r (.slice (some ⟨g, 0, none⟩) n c) l) (hm : l.length = m) : w.ownsRow b 3 1 (.slice (some ⟨g, 0, none⟩) n c) m (l.flatMap i64r) := by
  subst hm
  exact h
theorem int_cellv {w : World} {b g n c : Nat} {l : List Int} (h : Own w b 3 1 i64r (.slice (some ⟨g, 0, none⟩) n c) l) {k : Nat} (hk : k < l.length) {x : Int} (hx : l[k]'hk = x) : w.cell? ⟨g, k, none⟩ = some (.int .i64 x) := by
  rw [← hx]; exact int_cellg h k hk
theorem lit_row (W : World) (b : Nat) (hb : b ≤ W.heap.size) (x : Int) {g : Nat} (hg : g = W.heap.size) : Own (W.alloc (.cells #[.int .i64 x] 3)) b 3 1 i64r (.slice (some ⟨g, 0, none⟩) 1 1) [x] :=
  own_lit (W := W) (e := 3) (k := 1) (f := i64r) (B := b) (g := g) (n := 1) [x] (cs := #[.int .i64 x]) hg (by omega) rfl (by decide) rfl rfl
theorem start3 (W : World) (b : Nat) (hb : b ≤ W.heap.size) : T3 (((W.alloc (.cells #[.int .i64 1] 3)).alloc (.cells #[.int .i64 0] 3)).alloc (.cells #[.int .i64 0] 3)) b W.heap.size 1 1 [1] (W.heap.size + 1) 1 1 [0] (W.heap.size + 1 + 1) 1 1 [0] :=
  ⟨(lit_row W b hb 1 rfl).later ((ba _ _).trans ((ba _ _).mono (by simp))), (lit_row (W.alloc (.cells #[.int .i64 1] 3)) b (by simp; omega) 0 (by simp)).later (ba _ _), lit_row ((W.alloc (.cells #[.int .i64 1] 3)).alloc (.cells #[.int .i64 0] 3)) b (by simp; omega) 0 (by simp), by omega, by omega, by omega⟩
theorem own_fz {w : World} {b g n c : Nat} {l : List Int} (h : Own w b 3 1 i64r (.slice (some ⟨g, 0, none⟩) n c) l) : (∀ o, w.frozen? ⟨g, o, none⟩ = false) ∧ g < w.heap.size := by
  obtain ⟨_, cs, hc⟩ := h.block (g := g) rfl
  have hB : Blk w g 3 cs := hc
  exact ⟨hB.frozen, hB.lt⟩
structure Inv (R : List Rd3) (n nr : Nat) : Prop where
  len : nr = R.length
  lo : 1 ≤ nr
  hi : nr ≤ 4
  le : ∀ r ∈ R, r.1 + r.2.1 ≤ n
theorem Inv.more {R : List Rd3} {n nr : Nat} (h : Inv R n nr) : Inv R (n + 1) nr := ⟨h.len, h.lo, h.hi, fun r hr => Nat.le_succ_of_le (h.le r hr)⟩
theorem Inv.add {R : List Rd3} {n nr : Nat} (h : Inv R n nr) (h4 : nr < 4) (lo : Int) : Inv (R ++ [(n, 0, lo)]) n (nr + 1) := ⟨by simp [h.len], by omega, h4, fun r hr => by
  rcases List.mem_append.1 hr with hr | hr
  · exact h.le r hr
  · rw [List.mem_singleton] at hr; subst hr; exact Nat.le_refl _⟩
theorem Inv.set {R : List Rd3} {n nr : Nat} (h : Inv R n nr) {k : Nat} {a g : Nat} (hlt : a + g < n) (lo : Int) : Inv (R.set k (a, g + 1, lo)) n nr := ⟨by simp [h.len], h.lo, h.hi, fun r hr => by
  rcases List.mem_or_eq_of_mem_set hr with hr | rfl
  · exact h.le r hr
  · show a + (g + 1) ≤ n; omega⟩
set_option maxHeartbeats 4000000 in
theorem walk_RingOrder (capacity : Int) (v0 : Value) (q : List UInt8) (w : World) (c0 : 0 ≤ capacity) (c1 : capacity ≤ 255) (h0 : BytesAt w v0 q) (b0 : q.length ≤ 140737488351232) :
    Calls Try.prog 4 #[.int .u8 capacity, v0] w fun e w' => e = .returned (.bool true) ∧ Below w.heap.size w w' := by
  obtain ⟨A0, n0, rfl, a0, a1, hc0⟩ := bytes_cell h0
  obtain ⟨m, hm⟩ : ∃ m, m = min q.length 120 := ⟨_, rfl⟩
  have hm60 : m ≤ 120 := by omega
  obtain ⟨c, hc, hc1, hc8⟩ : ∃ c : Nat, 1 + capacity % 6 = (c : Int) ∧ 1 ≤ c ∧ c ≤ 6 := ⟨(capacity % 6).toNat + 1, by omega, by omega, by omega⟩
  obtain ⟨i0, hi0, hz0, hz1, hz2⟩ := info_parts (P := Try.prog) (e := 3) (z := .int .i64 0) (size := 1) (bytes := 8) (by kernel_rfl)
  have H := Lib.hid (And.intro hc0 (And.intro h0 (And.intro hm (And.intro hi0 (And.intro hz0 (And.intro hz1 hz2)))))); clear hc0 h0 hm hi0 hz0 hz1 hz2
  obtain ⟨ql, hq0⟩ : ∃ ql, ql = q.length := ⟨_, rfl⟩
  rw [← hq0] at b0 a0 ⊢
  have hql := Lib.hid hq0; clear hq0
  have HK := Lib.hid hc; clear hc
  go_enter Try.func4, Try.ntmps4
  go_wp2_with (go_at_call 9; ((with_reducible refine (examples_any _).mono ?_); rintro e x1 ⟨rfl, bx1⟩))
  have B1 := Lib.hid bx1; clear bx1
  rw [HK.out]
  go_at_call 10
  refine (New_any c hc1 (by omega) _).mono ?_
  rintro e x2 ⟨d, ⟨rfl, hS⟩, b2⟩
  have K2 := Lib.hid (⟨hS.rx, b2⟩ : Kr (fun _ => False) x1 x2 d (g0 c)); clear hS b2
  go_wp2_with fail
  go_at_call 14
  refine (Add_any _ x1.heap.size d (g0 c) x2 K2.out.rx (by show (0 : Nat) < _; decide)).mono ?_
  rintro e x3 ⟨n, s', ⟨rfl, hR, hS⟩, hX, hk'⟩
  obtain ⟨rfl, rfl⟩ : n = 1 ∧ s' = ro c 0 [(0, 0, 0)] := by
    have h' : AddR (ro c 0 []) n s' := by
      have e : (rdo [] : Rd) = fun _ => none := by funext x; unfold rdo; split <;> rfl
      show AddR (⟨c, [], 0, false, rdo [], 0, 0⟩ : Rg) n s'
      rw [e]; exact hR
    exact ro_add h' (by decide)
  have K3 := Lib.hid (K2.out.go hS hX); clear hS hX hR hk' K2
  have T3' := Lib.hid (And.intro (start3 x3 x1.heap.size K3.out.bel.size) (K3.out.later ((ba x3 (.cells #[.int .i64 1] 3)).trans (((ba _ (.cells #[.int .i64 0] 3)).trans ((ba _ (.cells #[.int .i64 0] 3)).mono (by simp))).mono (by simp))))); clear K3
  go_wp2_with fail
  go_loopw [8, 9, 10, 11, 12] (fun rv fv gv pv iv wr => ∃ (i n nr : Nat) (R : List Rd3) (ga ca gf cf gg cg : Nat), i ≤ m ∧ n ≤ i ∧ Inv R n nr ∧ rv = .slice (some ⟨ga, 0, none⟩) nr ca ∧ fv = .slice (some ⟨gf, 0, none⟩) nr cf ∧ gv = .slice (some ⟨gg, 0, none⟩) nr cg ∧ pv = .int .i64 n ∧ iv = .int .i64 i ∧ T3 wr x1.heap.size ga nr ca (ids R) gf nr cf (frs R) gg nr cg (gts R) ∧ Kr (fun _ => False) x1 wr d (ro c n R)) (fun _ _ _ _ i _ => m - (intOf i).toNat)
  case atStart => exact ⟨0, 0, 1, [(0, 0, 0)], _, _, _, _, _, _, Nat.zero_le _, Nat.le_refl _, ⟨rfl, Nat.le_refl _, by decide, fun r hr => by rw [List.mem_singleton] at hr; subst hr; exact Nat.le_refl _⟩, rfl, rfl, rfl, rfl, rfl, T3'.out.1, T3'.out.2⟩
  case round =>
    clear T3'
    obtain ⟨i, n, nr, R, ga, ca, gf, cf, gg, cg, hi, hni, hV, rfl, rfl, rfl, rfl, rfl, hT, hK⟩ := hrel
    have hnr4 := hV.hi
    have hnr1 := hV.lo
    have hil := (ids_len R).trans hV.len.symm
    have hfl := (frs_len R).trans hV.len.symm
    have hgl := (gts_len R).trans hV.len.symm
    have V := Lib.hid hV
    have L := Lib.hid (And.intro hil (And.intro hfl hgl)); clear hil hfl hgl hV
    have T := Lib.hid (And.intro hT hK); clear hT hK
    by_cases hlt : i < ql ∧ i < 120
    · obtain ⟨c1', c2⟩ := hlt
      have him : i < m := by have := H.out.2.2.1; have := hql.out; omega
      obtain ⟨aa, rfl, hcell⟩ := H.out.1 i (by rw [← hql.out]; exact c1')
      have hld : wr.cell? (aa.add i) = some (.int .u8 ((q[i]'(by rw [← hql.out]; exact c1')).toNat : Int)) := by
        rw [(bt B1.out T.out.2.bel).cell (World.block_lt_of_cell? w _ hcell)]; exact hcell
      have hz8 := (q[i]'(by rw [← hql.out]; exact c1')).toNat_lt
      generalize (q[i]'(by rw [← hql.out]; exact c1')).toNat = z at *
      clear hcell
      obtain ⟨k, hk0⟩ : ∃ k, k = z / 4 % nr := ⟨_, rfl⟩
      have hkn : k < nr := by rw [hk0]; exact Nat.mod_lt _ hnr1
      have hke : (z : Int) / 4 % (nr : Int) = (k : Int) := by rw [hk0]; simp
      have hne : ¬ (nr : Int) = 0 := by omega
      have hnb : ((nr : Int) == 0) = false := by simpa using hne
      have hn0' : ¬ nr = 0 := by omega
      clear hk0
      have hq4 : (z : Int) % 4 = 0 ∨ (z : Int) % 4 = 1 ∨ (z : Int) % 4 = 2 ∨ (z : Int) % 4 = 3 := by omega
      rcases hq4 with hz | hz | hz | hz
      rotate_left 2
      · have hkl : k < R.length := by rw [← V.out.len]; exact hkn
        obtain ⟨⟨a, g, lo⟩, hRk⟩ : ∃ r, R[k]'hkl = r := ⟨_, rfl⟩
        have hle : a + g ≤ n := V.out.le (a, g, lo) (hRk ▸ List.getElem_mem hkl)
        have cA := int_cellv T.out.1.a (k := k) (by rw [ids_len]; exact hkl) (ids_at R k _)
        have E := Lib.hid (And.intro (fun (W : World) (h : T3 W x1.heap.size ga nr ca (ids R) gf nr cf (frs R) gg nr cg (gts R)) => And.intro (int_cellv h.f (k := k) (by rw [frs_len]; exact hkl) ((frs_at R k _ hkl).trans (by rw [hRk]))) (int_cellv h.g (k := k) (by rw [gts_len]; exact hkl) ((gts_at R k _ hkl).trans (by rw [hRk])))) (And.intro (fun lo' => frs_set R hkl (x := (a, g + 1, lo')) (by rw [hRk])) (And.intro (fun x s' h h2 => ro_next (c := c) (n := n) hkl hRk (x := x) (s' := s') h h2) (fun x s' h h2 => ro_none (c := c) (n := n) hkl hRk (x := x) (s' := s') h h2)))); clear hRk
        go_wp2_with fail
        go_at_call 17
        refine (Next_any _ x1.heap.size d _ wr ((k : Int) + 1) ⟨by omega, by omega⟩ T.out.2.rx).mono ?_
        rintro e x5 ⟨x, s', v', ⟨he, hR, hN, hS⟩, hX, hk'⟩
        by_cases hlt2 : a + g < n
        · obtain ⟨rfl, rfl⟩ := E.out.2.2.1 _ _ hR hlt2
          have hN' := (hN _ rfl).weak (Nat.zero_le _)
          obtain ⟨A1, n1, hv⟩ := hN'.shape
          obtain rfl : v' = .slice A1 1 n1 := hv
          obtain rfl : e = .returned (.tuple #[item false ((a + g : Nat) : Int) (.slice A1 1 n1), .bool true]) := he
          have T5 := Lib.hid (And.intro (T.out.1.frr hX.frm) (And.intro (T.out.2.go hS hX) hN')); clear hS hX hR hk' hN hN' T cA
          obtain ⟨j, hj⟩ : ∃ j, j = a + g := ⟨_, rfl⟩
          rw [← hj] at hlt2 hle T5 ⊢
          have hjI : (a : Int) + (g : Int) = (j : Int) := by omega
          have J := Lib.hid (And.intro hjI hj); clear hjI hj
          go_wp2_with fail
          obtain ⟨W, hW⟩ : ∃ W, W = x5.alloc (.cells #[.bool false, .int .i64 (j : Int), .slice A1 1 n1] 37) := ⟨_, rfl⟩
          rw [← hW]
          have hbW : Below x5.heap.size x5 W := by rw [hW]; exact ba _ _
          have hpW : Blk W x5.heap.size 37 #[.bool false, .int .i64 (j : Int), .slice A1 1 n1] := by rw [hW]; exact Blk.new _ _ _
          have T6 := Lib.hid (And.intro (T5.out.1.later hbW) (And.intro (T5.out.2.1.later hbW) (And.intro hpW (T5.out.2.2.later hbW)))); clear hbW hpW hW T5
          refine wp_of_eq (c' := ((Try.f4.body.bind (regionN 25)).getD .skip)) ?_ (by kernel_rfl)
          refine order25t _ _ _ _ _ _ _ _ _ _ _ _ _ _ _ _ _ _ _ _ _ _ _ _ _ _ _ _ _ _ _ _ _ _ _ _ _ _ _ _ _ _ _ _ _ _ _ _ _ _ _ _ _ _ _ _ _ _ _ _ _ _ _ _ _ _ _ _ _ _ _ _ _ _ _ _ _ _ _ _ _ _ _ _ _ _ _ _ _ _ _ _ _ _ _ _ _ _ _ _ _ _ _ _ _ _ _ _ _ _ _ _ _ _ _ _ _ _ _ _ _ _ _ _ _ _ _ _ _ _ _ _ _ _ _ _ _ _ _ _ _ _ _ _ _ _ _ _ _ _ _ _ hkn hnr4 J.out.1 (by omega) (by omega) (by omega) (by omega) (E.out.1 _ T6.out.1).1 (E.out.1 _ T6.out.1).2 hlt2 T6.out.2.2.1 T6.out.2.2.2 (fun _ _ _ _ _ _ _ _ _ _ _ _ _ _ _ _ _ _ _ _ _ _ _ _ _ _ _ _ _ _ _ _ _ _ _ _ _ _ _ w8 h8 => ?_)
          have T7 := Lib.hid (And.intro (T6.out.1.later h8) (T6.out.2.1.later h8)); clear T6 h8
          have cG := (E.out.1 _ T7.out.1).2
          obtain ⟨fG, lG⟩ := own_fz T7.out.1.g
          have hg200 : (g : Int) ≤ 1000 := by have := J.out.2; omega
          go_wp2
          go_roundw
          case rel =>
            refine ⟨i + 1, n, nr, R.set k (a, g + 1, (j : Int) + 1), ga, ca, gf, cf, gg, cg, by omega, by omega, V.out.set (by have := J.out.2; omega) _, rfl, rfl, rfl, rfl, by go_num, ?_, T7.out.2.row T7.out.1.g (grown_set _ _ _ _)⟩
            rw [ids_set, E.out.2.1, gts_set]
            have e1 : (((a, g + 1, (j : Int) + 1) : Rd3).2.1 : Int) = (g : Int) + 1 := by simp
            rw [e1]
            exact T7.out.1.setG k _
          case measure => simp [intOf]; omega
        · obtain ⟨rfl, rfl⟩ := E.out.2.2.2 _ _ hR (by omega)
          obtain rfl : e = .returned (.tuple #[item false 0 (.slice none 0 0), .bool false]) := he
          have T5 := Lib.hid (And.intro (T.out.1.frr hX.frm) (T.out.2.go hS hX)); clear hS hX hR hk' hN T cA
          obtain ⟨j, hj⟩ : ∃ j, j = a + g := ⟨_, rfl⟩
          rw [← hj] at hlt2 hle
          have hjI : (a : Int) + (g : Int) = (j : Int) := by omega
          have J := Lib.hid hjI; clear hjI hj
          go_wp2_with fail
          obtain ⟨W, hW⟩ : ∃ W, W = x5.alloc (.cells #[.bool false, .int .i64 0, .slice none 0 0] 37) := ⟨_, rfl⟩
          rw [← hW]
          have hbW : Below x5.heap.size x5 W := by rw [hW]; exact ba _ _
          have T6 := Lib.hid (And.intro (T5.out.1.later hbW) (T5.out.2.later hbW)); clear hbW hW T5
          refine wp_of_eq (c' := ((Try.f4.body.bind (regionN 25)).getD .skip)) ?_ (by kernel_rfl)
          refine order25f _ _ _ _ _ _ _ _ _ _ _ _ _ _ _ _ _ _ _ _ _ _ _ _ _ _ _ _ _ _ _ _ _ _ _ _ _ _ _ _ _ _ _ _ _ _ _ _ _ _ _ _ _ _ _ _ _ _ _ _ _ _ _ _ _ _ _ _ _ _ _ _ _ _ _ _ _ _ _ _ _ _ _ _ _ _ _ _ _ _ _ _ _ _ _ _ _ _ _ _ _ _ _ _ _ _ _ _ _ _ _ _ _ _ _ _ _ _ _ _ _ _ _ _ _ _ _ _ _ _ _ _ _ _ _ _ _ _ _ _ _ _ _ _ _ _ _ _ _ _ _ _ _ hkn hnr4 J.out (by omega) (by omega) (by omega) (by omega) (E.out.1 _ T6.out.1).1 (E.out.1 _ T6.out.1).2 hlt2 (fun _ _ _ _ _ _ _ _ _ _ _ _ _ _ _ _ _ _ _ _ _ _ _ _ _ _ _ _ _ _ _ _ _ _ _ _ _ _ _ w8 h8 => ?_)
          have T7 := Lib.hid (And.intro (T6.out.1.later h8) (T6.out.2.later h8)); clear T6 h8
          go_wp2
          go_roundw
          case rel => exact ⟨i + 1, n, nr, R, _, _, _, _, _, _, by omega, by omega, V.out, rfl, rfl, rfl, rfl, by go_num, T7.out.1, T7.out.2⟩
          case measure => simp [intOf]; omega
      · by_cases h4 : nr < 4
        · have h4b : decide (nr < 4) = true := decide_eq_true h4
          go_wp2_with fail
          go_at_call 14
          refine (Add_any _ x1.heap.size d _ wr T.out.2.rx (by show R.length < _; have := V.out.len; omega)).mono ?_
          rintro e x4 ⟨id, s', ⟨rfl, hR, hS⟩, hX, hk'⟩
          obtain ⟨rfl, rfl⟩ := ro_add hR (by have := V.out.len; omega)
          have T4 := Lib.hid (And.intro (T.out.1.frr hX.frm) (T.out.2.go hS hX)); clear hS hX hR hk' T
          rw [← V.out.len]
          go_wp2_with (first
            | (at_builtin; refine wpList_append_own_at _ rfl (.tmp 139) (.tmp 142) 44 rfl x1.heap.size 3 i0 (.int .i64 0) 1 8 Try.underlying44 H.out.2.2.2.1 H.out.2.2.2.2.1 H.out.2.2.2.2.2.1 H.out.2.2.2.2.2.2 rfl (by decide) (.slice (some ⟨ga, 0, none⟩) nr ca) nr _ rfl (rows_at (T4.out.1.later (ba x4 (.cells #[.int .i64 ((nr : Int) + 1)] 3))).a L.out.1) ⟨x4.heap.size, 0, none⟩ 1 1 [.int .i64 ((nr : Int) + 1)] rfl rfl (blk_cells (Blk.new x4 3 #[.int .i64 ((nr : Int) + 1)])) (fun u hu => by rw [List.mem_singleton] at hu; subst hu; rfl) (by have := V.out.hi; unfold maxLen; omega) (by have := V.out.hi; omega) (by have := T4.out.2.bel.size; simp; omega) ?_; intro v5 w5 hO hg _ hat; obtain ⟨g5, c5, rfl, hO2, hat2⟩ := own_app hO L.out.1.symm hat; have T5 := Lib.hid (And.intro ((T4.out.1.later (ba x4 (.cells #[.int .i64 ((nr : Int) + 1)] 3))).growA hg hO2 hat2) ((T4.out.2.later (ba x4 (.cells #[.int .i64 ((nr : Int) + 1)] 3))).row (T4.out.1.later (ba x4 (.cells #[.int .i64 ((nr : Int) + 1)] 3))).a hg)); clear hO hg hat hO2 hat2)
            | (at_builtin; refine wpList_append_own_at _ rfl (.tmp 144) (.tmp 146) 44 rfl x1.heap.size 3 i0 (.int .i64 0) 1 8 Try.underlying44 H.out.2.2.2.1 H.out.2.2.2.2.1 H.out.2.2.2.2.2.1 H.out.2.2.2.2.2.2 rfl (by decide) (.slice (some ⟨gf, 0, none⟩) nr cf) nr _ rfl (rows_at (T5.out.1.later (ba w5 (.cells #[.int .i64 ((n : Int))] 3))).f L.out.2.1) ⟨w5.heap.size, 0, none⟩ 1 1 [.int .i64 ((n : Int))] rfl rfl (blk_cells (Blk.new w5 3 #[.int .i64 ((n : Int))])) (fun u hu => by rw [List.mem_singleton] at hu; subst hu; rfl) (by have := V.out.hi; unfold maxLen; omega) (by have := V.out.hi; omega) (by have := T5.out.2.bel.size; simp; omega) ?_; intro v6 w6 hO hg _ hat; obtain ⟨g6, c6, rfl, hO2, hat2⟩ := own_app hO L.out.2.1.symm hat; have T6 := Lib.hid (And.intro ((T5.out.1.later (ba w5 (.cells #[.int .i64 ((n : Int))] 3))).growF hg hO2 hat2) ((T5.out.2.later (ba w5 (.cells #[.int .i64 ((n : Int))] 3))).row (T5.out.1.later (ba w5 (.cells #[.int .i64 ((n : Int))] 3))).f hg)); clear hO hg hat hO2 hat2)
            | (at_builtin; refine wpList_append_own_at _ rfl (.tmp 148) (.tmp 149) 44 rfl x1.heap.size 3 i0 (.int .i64 0) 1 8 Try.underlying44 H.out.2.2.2.1 H.out.2.2.2.2.1 H.out.2.2.2.2.2.1 H.out.2.2.2.2.2.2 rfl (by decide) (.slice (some ⟨gg, 0, none⟩) nr cg) nr _ rfl (rows_at (T6.out.1.later (ba w6 (.cells #[.int .i64 (0)] 3))).g L.out.2.2) ⟨w6.heap.size, 0, none⟩ 1 1 [.int .i64 (0)] rfl rfl (blk_cells (Blk.new w6 3 #[.int .i64 (0)])) (fun u hu => by rw [List.mem_singleton] at hu; subst hu; rfl) (by have := V.out.hi; unfold maxLen; omega) (by have := V.out.hi; omega) (by have := T6.out.2.bel.size; simp; omega) ?_; intro v7 w7 hO hg _ hat; obtain ⟨g7, c7, rfl, hO2, hat2⟩ := own_app hO L.out.2.2.symm hat; have T7 := Lib.hid (And.intro ((T6.out.1.later (ba w6 (.cells #[.int .i64 (0)] 3))).growG hg hO2 hat2) ((T6.out.2.later (ba w6 (.cells #[.int .i64 (0)] 3))).row (T6.out.1.later (ba w6 (.cells #[.int .i64 (0)] 3))).g hg)); clear hO hg hat hO2 hat2))
          go_roundw
          case rel =>
            refine ⟨i + 1, n, nr + 1, R ++ [(n, 0, (n : Int))], g5, c5, g6, c6, g7, c7, by omega, by omega, V.out.add h4 _, by go_num, by go_num, by go_num, rfl, by go_num, ?_, T7.out.2⟩
            rw [ids_add, frs_add, gts_add, ← V.out.len]
            exact T7.out.1
          case measure => simp [intOf]; omega
        · have h4b : decide (nr < 4) = false := decide_eq_false h4
          go_wp2
          go_roundw
          case rel => exact ⟨i + 1, n, nr, R, _, _, _, _, _, _, by omega, by omega, V.out, rfl, rfl, rfl, rfl, by go_num, T.out.1, T.out.2⟩
          case measure => simp [intOf]; omega
      all_goals
        go_wp2_with fail
        go_at_call 16
        refine (one_any _ _ _).mono ?_
        rintro e x5 ⟨v5, ⟨rfl, hN⟩, b5⟩
        have T5 := Lib.hid (And.intro (T.out.1.later b5) (And.intro (T.out.2.later b5) hN)); clear T b5 hN
        go_wp2_with fail
        go_at_call 15
        refine (Put_any _ x1.heap.size d _ false (n : Int) v5 (oneV (n : Int)) _ T5.out.2.1.rx (new_at T5.out.2.2) (one_size _) (by show (ho n).length < _; rw [ho_len]; omega)).mono ?_
        rintro e x6 ⟨y, s', ⟨rfl, hR, hS⟩, hX, hk'⟩
        rcases ro_put hR (by omega) with ⟨rfl, rfl⟩ | ⟨rfl, rfl⟩
        · have T6 := Lib.hid (And.intro (T5.out.1.frr hX.frm) (T5.out.2.1.go hS hX)); clear hS hX hR hk' T5
          go_wp2
          go_roundw
          case rel => exact ⟨i + 1, n, nr, R, _, _, _, _, _, _, by omega, by omega, V.out, rfl, rfl, rfl, rfl, by go_num, T6.out.1, T6.out.2⟩
          case measure => simp [intOf]; omega
        · have T6 := Lib.hid (And.intro (T5.out.1.frr hX.frm) (T5.out.2.1.go hS hX)); clear hS hX hR hk' T5
          go_wp2
          go_roundw
          case rel => exact ⟨i + 1, n + 1, nr, R, _, _, _, _, _, _, by omega, by omega, V.out.more, rfl, rfl, rfl, by go_num, by go_num, T6.out.1, T6.out.2⟩
          case measure => simp [intOf]; omega
    · have hway : ¬ i < ql ∨ (i < ql ∧ ¬ i < 120) := by omega
      clear hlt
      rcases hway with c1' | ⟨c1', c2⟩
      all_goals
        go_wp2_with fail
        go_at_call 19
        refine (Total_any x1.heap.size d _ _ T.out.2.rs).mono ?_
        rintro e x11 ⟨he, hb⟩
        obtain rfl : e = .returned (.int .i64 (n : Int)) := he.trans (by rw [ho_len])
        have T2 := Lib.hid (T.out.2.later hb); clear hb T he
        go_wp2
        go_ret
        exact ⟨rfl, bt B1.out T2.out.bel⟩
end Go.Proofs.Ytbbjlefldpgckaa
