/- The walk of DrrReady. -/
import Derived.Test.YtckpecddglfjkaaDrN
import Derived.Test.YtckpecddglfjkaaLists
namespace Go.Proofs.Ytckpecddglfjkaa
open Go.ChangeShapes Go.WideShapes Go.ChangeAt Go.RowKit
open Dr
set_option linter.unusedVariables false
set_option linter.unusedSimpArgs false

/-- Costs by bytes, less 100. -/
def rdL (l : List UInt8) : List (Int × Int) := l.zipIdx.map fun x => ((x.2 : Int), (x.1.toNat : Int) - 100)
theorem rdL_len (l : List UInt8) : (rdL l).length = l.length := by unfold rdL; rw [List.length_map, List.length_zipIdx]
theorem rdL_get (l : List UInt8) (k : Nat) (h : k < l.length) : (rdL l)[k]? = some ((k : Int), ((l[k]'h).toNat : Int) - 100) := by
  unfold rdL
  rw [List.getElem?_map, List.getElem?_zipIdx, List.getElem?_eq_getElem h]
  simp
theorem rdL_snoc (l : List UInt8) (k : Nat) (h : k < l.length) : rdL (l.take (k + 1)) = rdL (l.take k) ++ [((k : Int), ((l[k]'h).toNat : Int) - 100)] := by
  unfold rdL
  rw [List.take_succ_eq_append_getElem h, List.zipIdx_append, List.map_append, List.length_take, Nat.min_eq_left (by omega)]
  simp
theorem cost_rdL (l : List UInt8) (k : Nat) (h : k < l.length) : costOf (rdL l) (k : Int) = max 0 (min (((l[k]'h).toNat : Int) - 100) 512) := by
  have gen : ∀ (m : List UInt8) (b : Nat) (j : Nat) (hj : j < m.length), costOf (m.zipIdx b |>.map fun x => ((x.2 : Int), (x.1.toNat : Int) - 100)) ((b + j : Nat) : Int) = max 0 (min (((m[j]'hj).toNat : Int) - 100) 512) := by
    intro m
    induction m with
    | nil => intro b j hj; exact absurd hj (by simp)
    | cons a r ih =>
      intro b j hj
      simp only [List.zipIdx_cons, List.map_cons]
      unfold costOf
      cases j with
      | zero => simp
      | succ j =>
        rw [if_neg (by simp only; omega)]
        have := ih (b + 1) j (by simpa using hj)
        rw [show b + (j + 1) = b + 1 + j by omega, this]
        simp
  have := gen l 0 k h
  rw [Nat.zero_add] at this
  exact this
theorem cost_none (l : List UInt8) (x : Int) (h : ∀ k : Nat, k < l.length → x ≠ (k : Int)) : costOf (rdL l) x = 0 := by
  have gen : ∀ (cs : List (Int × Int)), (∀ c ∈ cs, c.1 ≠ x) → costOf cs x = 0 := by
    intro cs
    induction cs with
    | nil => intro _; rfl
    | cons a r ih =>
      intro hc
      unfold costOf
      rw [if_neg (hc a (List.mem_cons_self ..))]
      exact ih (fun c hcr => hc c (List.mem_cons_of_mem _ hcr))
  refine gen _ (fun c hc => ?_)
  obtain ⟨j, hj, rfl⟩ := List.getElem_of_mem hc
  have hl := hj
  rw [rdL_len] at hl
  have := rdL_get l j hl
  rw [List.getElem?_eq_getElem hj] at this
  rw [Option.some.inj this]
  exact fun e => h j hl e.symm
def anyB (l : List UInt8) : Bool := l.any fun b => decide (100 < (b.toNat : Int))
theorem anyB_snoc (l : List UInt8) (k : Nat) (h : k < l.length) : anyB (l.take (k + 1)) = (anyB (l.take k) || decide (100 < ((l[k]'h).toNat : Int))) := by
  unfold anyB
  rw [List.take_succ_eq_append_getElem h, List.any_append]; simp
theorem ready_rdL {L : List Fl} {m : Nat} (hids : ∀ x : Int, x ∈ L.map (·.1) ↔ 0 ≤ x ∧ x < (m : Int)) (l : List UInt8) (hl : l.length ≤ m) : ready (priced (rdL l) L) = anyB l := by
  rw [Bool.eq_iff_iff]
  unfold ready priced anyB
  rw [List.any_map, List.any_eq_true, List.any_eq_true]
  constructor
  · rintro ⟨f, hf, hc⟩
    simp only [Function.comp, decide_eq_true_eq] at hc
    by_cases hx : ∃ k : Nat, k < l.length ∧ f.1 = (k : Int)
    · obtain ⟨k, hk, e⟩ := hx
      rw [e, cost_rdL l k hk] at hc
      exact ⟨_, List.getElem_mem hk, by simp only [decide_eq_true_eq]; omega⟩
    · rw [cost_none l f.1 (fun k hk e => hx ⟨k, hk, e⟩)] at hc
      omega
  · rintro ⟨b, hb, hc⟩
    obtain ⟨k, hk, rfl⟩ := List.getElem_of_mem hb
    simp only [decide_eq_true_eq] at hc
    obtain ⟨f, hf, e⟩ := List.mem_map.1 ((hids (k : Int)).2 ⟨by omega, by omega⟩)
    refine ⟨f, hf, ?_⟩
    simp only [Function.comp, decide_eq_true_eq]
    rw [e, cost_rdL l k hk]
    omega
theorem rdL_ok (l : List UInt8) (h : l.length ≤ 5) : OkC (rdL l) := by
  refine ⟨fun c hc => ?_, by rw [rdL_len]; unfold maxLen; omega⟩
  obtain ⟨j, hj, rfl⟩ := List.getElem_of_mem hc
  have hl := hj
  rw [rdL_len] at hl
  have := rdL_get l j hl
  rw [List.getElem?_eq_getElem hj] at this
  rw [Option.some.inj this]
  have := (l[j]'hl).toNat_lt
  exact ⟨⟨by simp only; omega, by simp only; omega⟩, ⟨by simp only; omega, by simp only; omega⟩⟩
set_option maxRecDepth 20000 in
set_option maxHeartbeats 4000000 in
theorem walk_DrrReady (v0 : Value) (q : List UInt8) (v1 : Value) (ll : List (List UInt8)) (w : World) (h0 : BytesAt w v0 q) (b0 : q.length ≤ 140737488351232) (h1 : ∃ vs, At w 1 slc v1 vs ∧ Ats w 1 rowB vs ll) (b1 : ∀ L ∈ ll, L.length ≤ 140737488355328) :
    Calls Try.prog 5 #[v0, v1] w fun e w' => e = .returned (.bool true) ∧ Below w.heap.size w w' := by
  obtain ⟨A0, n0, rfl, a0, a1, hcell⟩ := bytes_cell h0
  obtain ⟨vs, hv, hE⟩ := h1
  obtain ⟨A1, n1, rfl, _, v2, _⟩ := hv.shape
  have hvl := hE.1
  obtain ⟨j0, hj, hy0, hy1, hy2⟩ := info_parts (P := Try.prog) (e := 55) (z := .agg #[.int .i64 0, .int .i64 0]) (size := 2) (bytes := 16) (by kernel_rfl)
  obtain ⟨m, hm⟩ : ∃ m, m = min q.length 5 := ⟨_, rfl⟩
  have hmin : (if (5 : Int) < (q.length : Int) then (5 : Int) else (q.length : Int)) = (m : Int) := by split <;> omega
  have hm5 : m ≤ 5 := by omega
  have hqm : q.length ≤ 9223372036854775807 := by omega
  have hvm : vs.length ≤ 9223372036854775807 := by have := hv.shape; obtain ⟨_, _, e, x1, x2, _⟩ := this; unfold maxLen at x2; omega
  have H := Lib.hid (And.intro h0 (And.intro hm (And.intro hv (And.intro hE (And.intro hvl b1))))); clear h0 hm hv hE hvl hcell b1
  go_enter Try.func5, Try.ntmps5
  go_wp2_with (first
    | (go_at_call 9; ((with_reducible refine (examples_any _).mono ?_); rintro e x1 ⟨rfl, bx1⟩))
    | (go_at_call 20; refine (round_any _ q _ (H.out.1.later bx1)).mono ?_; rintro e x2 ⟨rfl, hK⟩; have K := Lib.hid (And.intro bx1 hK); clear bx1 hK))
  go_loopw [8] (fun iv wr => ∃ (k : Nat) (L : List Fl) (fr : Bool), k ≤ vs.length ∧ k ≤ 30 ∧ iv = .int .i64 k ∧ Kp x1 wr x1.heap.size L fr ∧ (L.map key).Perm ((roundL q).map key)) (fun i _ => 30 - (intOf i).toNat)
  case atStart => exact ⟨0, _, _, by omega, by omega, rfl, K.out.2, List.Perm.refl _⟩
  case round =>
    obtain ⟨k, L, fr, hk, hk30, rfl, hK, hP⟩ := hrel
    by_cases hlt : k < vs.length
    · by_cases h30 : k < 30
      · have h30i : (k : Int) < 30 := by omega
        have hkl : k < ll.length := by rw [← H.out.2.2.2.2.1]; exact hlt
        obtain ⟨a, rfl, hc⟩ := H.out.2.2.1.cells rfl (by omega)
        have c0 := (hc.later (bt K.out.1 hK.bel)).row1 k hlt rfl
        rw [Nat.mul_one] at c0
        have hAt := at_bytes (((H.out.2.2.2.1).2 k hlt hkl).later (bt K.out.1 hK.bel))
        have hcl := H.out.2.2.2.2.2 _ (List.getElem_mem hkl)
        generalize vs[k]'hlt = s at *
        generalize ll[k]'hkl = c at *
        obtain ⟨sA, sn, sc⟩ := s
        replace c0 : wr.cell? (a.add k) = some (.slice sA sn sc) := c0
        replace hAt : BytesAt wr (.slice sA sn sc) c := hAt
        obtain ⟨sA', sc', he, _, _, hby⟩ := bytes_cell hAt
        simp only [Value.slice.injEq] at he
        obtain ⟨rfl, rfl, rfl⟩ := he
        have hc63 : c.length ≤ 9223372036854775807 := by omega
        have hblk := World.block_lt_of_cell? wr _ c0
        have hxw := hK.bel.size
        have M := Lib.hid (And.intro c0 (And.intro hK (And.intro hP (And.intro hby hxw)))); clear hK hP hAt hc c0 hby hcl
        go_wp2_with fail
        go_loopw [9, 10, 11] (fun lv av iv w2 => ∃ (j : Nat), j ≤ c.length ∧ j ≤ m ∧ iv = .int .i64 j ∧ av = .bool (anyB (c.take j)) ∧ Own w2 wr.heap.size 55 2 rowC lv (rdL (c.take j)) ∧ Below wr.heap.size wr w2) (fun _ _ i _ => m - (intOf i).toNat)
        case atStart => exact ⟨0, Nat.zero_le _, Nat.zero_le _, rfl, rfl, Own.nil _ _ _ _ _, Below.refl _ _⟩
        case round =>
          rename World => w2
          obtain ⟨j, hjc, hjm, rfl, rfl, hO, hb⟩ := hrel
          have c1 : w2.cell? (a.add k) = some (.slice sA c.length sc) := by rw [hb.cell hblk]; exact M.out.1
          obtain ⟨D, g, rfl, _, _, _⟩ := hO.shape
          have hln : (rdL (c.take j)).length = j := by rw [rdL_len, List.length_take]; omega
          rw [hln] at hO ⊢
          by_cases hj12 : j < c.length ∧ j < m
          · obtain ⟨hj1, hj2⟩ := hj12
            · obtain ⟨ab, rfl, hcb⟩ := M.out.2.2.2.1 j hj1
              have y0 : w2.cell? (ab.add j) = some (.int .u8 ((c[j]'hj1).toNat : Int)) := by rw [hb.cell (World.block_lt_of_cell? wr _ hcb)]; exact hcb
              have hsn := rdL_snoc c j hj1
              have han := anyB_snoc c j hj1
              have hu8 := (c[j]'hj1).toNat_lt
              generalize c[j]'hj1 = bb at *
              obtain ⟨qi, hqi⟩ : ∃ qi : Int, qi = (bb.toNat : Int) := ⟨_, rfl⟩
              rw [← hqi] at y0 hsn han hcb
              have g0 : 0 ≤ qi := by omega
              have g1 : qi ≤ 255 := by omega
              have hjm2 : (j : Int) < (m : Int) := by omega
              obtain ⟨rb, hrb⟩ : ∃ rb, rb = anyB (c.take j) := ⟨_, rfl⟩
              rw [← hrb]
              have hk1 : j + 1 ≤ maxLen ∧ (j + 1) * 16 ≤ 140737488355328 := by unfold maxLen; omega
              have hs2 := hb.size
              have y1 : ∀ o, (w2.alloc o).cell? (a.add k) = some (.slice (some ab) c.length sc) := fun o => by rw [(ba w2 o).cell (World.block_lt_of_cell? w2 _ c1)]; exact c1
              have y2 : ∀ o, (w2.alloc o).cell? (ab.add j) = some (.int .u8 qi) := fun o => by rw [(ba w2 o).cell (World.block_lt_of_cell? w2 _ y0)]; exact y0
              have N := Lib.hid (And.intro hO (And.intro hb (And.intro hsn (And.intro han (And.intro hln (And.intro hk1 (And.intro hs2 (And.intro hrb (And.intro c1 y0))))))))); clear hO hb hsn han hln hk1 hs2 hrb hqi hu8
              have HCB := Lib.hid hcb; clear hcb
              have s1 : IntKind.i64.wrap (qi - 100) = qi - 100 := IntWalk.i64_in _ (by omega)
              cases rb <;> by_cases hgt : 100 < qi
              all_goals
                go_wp2_with (at_builtin; refine wpList_append_own _ rfl (.tmp 50) (.tmp 62) 30 rfl wr.heap.size 55 j0 (.agg #[.int .i64 0, .int .i64 0]) 2 16 Try.underlying30 hj hy0 hy1 hy2 rfl (by decide) (.slice D j g) j _ rfl (by have := N.out.1.later (ba w2 (.cells #[.int .i64 (j : Int), .int .i64 (qi - 100)] 55)); unfold Own at this; rw [N.out.2.2.2.2.1] at this; exact this) ⟨_, 0, none⟩ 1 1 (rowC ((j : Int), qi - 100)) rfl rfl (new_cells rfl _ _) (by simp [Value.oneCell']) N.out.2.2.2.2.2.1.1 N.out.2.2.2.2.2.1.2 (by have := N.out.2.2.2.2.2.2.1; simp only [World.size_alloc]; omega) ?_; intro v5 w5 hO5 hg5 _; obtain ⟨A5, n5, c5, rfl⟩ := own_shape hO5; have b5 := own_past (bt N.out.2.1 (ba w2 (.cells #[.int .i64 (j : Int), .int .i64 (qi - 100)] 55))) hg5 N.out.1; have z1 : w5.cell? (a.add k) = some (.slice (some ab) c.length sc) := (by rw [b5.cell hblk]; exact M.out.1); have z2 : w5.cell? (ab.add j) = some (.int .u8 qi) := (by rw [b5.cell (World.block_lt_of_cell? wr _ HCB.out)]; exact HCB.out); have Z5 := Lib.hid (And.intro hO5 b5); clear hO5 hg5 b5)
                go_roundw
                case rel => exact ⟨j + 1, by omega, by omega, by go_num, by rw [N.out.2.2.2.1, ← N.out.2.2.2.2.2.2.2.1]; simp [hgt], by rw [N.out.2.2.1]; exact Own.more N.out.2.2.2.2.1.symm Z5.out.1, Z5.out.2⟩
                case measure => simp [intOf]; omega
          · have hEx : ¬ j < c.length ∨ (j < c.length ∧ ¬ j < m) := by omega
            have hlen5 : (c.take j).length ≤ m := by rw [List.length_take]; omega
            have N := Lib.hid (And.intro hO (And.intro hb (And.intro hln hlen5))); clear hO hb hln hlen5 hj12
            rcases hEx with hA | hB
            all_goals first
              | (have hj1 := hA
                 go_wp2_with fail)
              | (obtain ⟨hj1, hj2⟩ := hB
                 have hexit : ¬ (j : Int) < (m : Int) := by omega
                 go_wp2_with fail)
            all_goals
              have hrd := ready_rdL (roundL_perm_ids M.out.2.2.1 H.out.2.1).2 (c.take j) N.out.2.2.2
              have cT := T_any x1 w2 x1.heap.size L fr _ _ (M.out.2.1.later N.out.2.1) (Own.at_ (f := rowC) (k := 2) (fun _ => rfl) N.out.1) (rdL_ok _ (Nat.le_trans N.out.2.2.2 hm5))
              refine cT.mono ?_
              clear cT
              rintro e x4 ⟨id, ok, L', fr', ⟨rfl, hR, hK4⟩, hF⟩
              have hO4 := N.out.1.frm hF (by decide) (by decide)
              have hP4 := hR.keys.trans M.out.2.2.1
              have hLn := (roundL_perm_ids hP4 H.out.2.1).1
              obtain ⟨av, hav⟩ : ∃ av, av = anyB (c.take j) := ⟨_, rfl⟩
              rw [← hav] at hrd ⊢
              cases av
              · obtain ⟨rfl, rfl, hL', _⟩ := hR.no hrd
                have hz : ∀ i (h : i < (L'.map gl).length), ((L'.map gl)[i]'h).2.2 = 0 := by
                  intro i h
                  have hm' := List.getElem_mem h
                  obtain ⟨f, hf, e⟩ := List.mem_map.1 hm'
                  rw [← e]
                  rw [hL'] at hf
                  obtain ⟨g, _, rfl⟩ := List.mem_map.1 hf
                  rfl
                have M4 := Lib.hid (And.intro hK4 (And.intro hP4 (And.intro hz hLn))); clear hR hK4 hF hP4 hz hLn hO4 hrd hav hL'
                go_wp2_with fail
                go_at_call 19
                refine (F_any x1 x4 x1.heap.size L' fr' M4.out.1).mono ?_
                rintro e x5 ⟨fv, ⟨rfl, hOf, hK5⟩, bx5⟩
                obtain ⟨fA, fc, rfl, _, _, _⟩ := hOf.shape
                have hfl : (L'.map gl).length = m := by rw [List.length_map]; exact M4.out.2.2.2
                rw [hfl]
                rw [hfl] at hOf
                have M5 := Lib.hid (And.intro hK5 (And.intro hOf hfl)); clear hK5 hOf bx5 hfl
                go_wp2_with fail
                go_loopw [15] (fun iv w3 => ∃ (i : Nat), i ≤ m ∧ iv = .int .i64 i ∧ Below x5.heap.size x5 w3) (fun i _ => m - (intOf i).toNat)
                case atStart => exact ⟨0, Nat.zero_le _, rfl, Below.refl _ _⟩
                case round =>
                  rename World => w3
                  obtain ⟨i, hi, rfl, hb⟩ := hrel
                  by_cases hlt2 : i < m
                  · have hiG : i < (L'.map gl).length := by rw [M5.out.2.2]; exact hlt2
                    obtain ⟨gf, rfl, _, _, _, _⟩ := M5.out.2.1.cells (f := rowG) (k := 3) (fun _ => rfl) rfl (by omega)
                    obtain ⟨_, _, y2⟩ := (M5.out.2.1.later hb).three i hiG
                    rw [M4.out.2.2.1 i hiG] at y2
                    have N := Lib.hid hb; clear hb
                    go_wp2
                    go_roundw
                    case rel => exact ⟨i + 1, by omega, by go_num, N.out⟩
                    case measure => simp [intOf]; omega
                  · obtain rfl : i = m := by omega
                    have N := Lib.hid (M5.out.1.later hb); clear hb
                    go_wp2
                    go_roundw
                    case rel => exact ⟨k + 1, L', fr', by omega, by omega, by go_num, N.out, M4.out.2.1⟩
                    case measure => simp [intOf]; omega
              · obtain rfl : ok = true := by
                  rcases hR with ⟨h, _⟩ | ⟨_, h, _⟩
                  · rw [hrd] at h; cases h
                  · exact h
                obtain ⟨hid1, hid2⟩ := hR.mem
                obtain ⟨kq, hkq, rfl⟩ : ∃ kq : Nat, kq < (c.take j).length ∧ id = (kq : Int) := by
                  apply Classical.byContradiction
                  intro hno
                  rw [cost_none (c.take j) id (fun k hk e => hno ⟨k, hk, e⟩)] at hid2
                  omega
                rw [cost_rdL _ kq hkq] at hid2
                have hkj : kq < j := by rw [List.length_take] at hkq; omega
                have hkl' : kq < (rdL (c.take j)).length := by rw [rdL_len]; exact hkq
                have hget := rdL_get (c.take j) kq hkq
                rw [List.getElem?_eq_getElem hkl'] at hget
                have hget := Option.some.inj hget
                obtain ⟨gc, rfl, _, _, _, hcl⟩ := hO4.cells (f := rowC) (k := 2) (fun _ => rfl) rfl (by omega)
                have y1 := hcl kq hkl' 1 _ rfl
                rw [hget] at y1
                obtain ⟨nv, hnv⟩ : ∃ nv : Int, nv = (((c.take j)[kq]'hkq).toNat : Int) - 100 := ⟨_, rfl⟩
                simp only [← hnv] at y1
                have hn1 : 1 ≤ nv := by omega
                have M4 := Lib.hid (And.intro hK4 (And.intro hP4 (And.intro hLn hget))); clear hget
                clear hR hK4 hF hP4 hLn hO4 hrd hav hid1 hid2 hcl hnv
                have t1 : ¬ (kq : Int) < 0 := by omega
                have t2 : ¬ (j : Int) ≤ (kq : Int) := by omega
                have t3 : ¬ nv < 1 := by omega
                have t4 : decide ((kq : Int) < 0) = false := decide_eq_false t1
                have t5 : decide ((j : Int) ≤ (kq : Int)) = false := decide_eq_false t2
                have t6 : decide (nv < 1) = false := decide_eq_false t3
                have t7 : ¬ j ≤ kq := by omega
                have t8 : (kq : Int) < (j : Int) := by omega
                go_wp2_with fail
                go_at_call 19
                refine (F_any x1 x4 x1.heap.size L' fr' M4.out.1).mono ?_
                rintro e x5 ⟨fv, ⟨rfl, hOf, hK5⟩, bx5⟩
                obtain ⟨fA, fc, rfl, _, _, _⟩ := hOf.shape
                have hfl : (L'.map gl).length = m := by rw [List.length_map]; exact M4.out.2.2.1
                rw [hfl]
                have M5 := Lib.hid hK5; clear hK5 hOf bx5 hfl
                go_wp2_with fail
                go_loopw [15] (fun iv w3 => ∃ (i : Nat), i ≤ m ∧ iv = .int .i64 i ∧ Below x5.heap.size x5 w3) (fun i _ => m - (intOf i).toNat)
                case atStart => exact ⟨0, Nat.zero_le _, rfl, Below.refl _ _⟩
                case round =>
                  rename World => w3
                  obtain ⟨i, hi, rfl, hb⟩ := hrel
                  have N := Lib.hid (M5.out.later hb); clear hb
                  by_cases hlt2 : i < m
                  · go_wp2
                    go_roundw
                    case rel => exact ⟨k + 1, L', fr', by omega, by omega, by go_num, N.out, M4.out.2.1⟩
                    case measure => simp [intOf]; omega
                  · go_wp2
                    go_roundw
                    case rel => exact ⟨k + 1, L', fr', by omega, by omega, by go_num, N.out, M4.out.2.1⟩
                    case measure => simp [intOf]; omega
      · obtain rfl : k = 30 := by omega
        have N := Lib.hid hK; clear hK hP
        go_wp2
        go_ret
        exact ⟨rfl, bt K.out.1 N.out.bel⟩
    · obtain rfl : k = vs.length := by omega
      have N := Lib.hid hK; clear hK hP
      go_wp2
      go_ret
      exact ⟨rfl, bt K.out.1 N.out.bel⟩
end Go.Proofs.Ytckpecddglfjkaa
