/- The walk of QueryInputs. -/
import Derived.Test.YtenmbahfgfmjjaaDoorQ36
import Derived.Test.YtenmbahfgfmjjaaDoorQ39
import Derived.Test.YtenmbahfgfmjjaaDoorQ23
import Derived.BigQuiet
import Derived.BigGuard

namespace Go.Proofs.YtenmbahfgfmjjaaDoor
open Go.ChangeShapes Go.WideShapes Go.ChangeAt Go.RowKit Go.Maps
set_option linter.unusedVariables false
set_option linter.unusedSimpArgs false

theorem inPuts_prefix : ∀ (ss l : List ByteArray), l <+: ss.foldl inPut l
  | [], l => List.prefix_refl _
  | s :: ss, l => by
    rw [List.foldl_cons]
    refine List.IsPrefix.trans ?_ (inPuts_prefix ss _)
    unfold inPut
    split
    · exact List.prefix_refl _
    · exact List.prefix_append _ _
theorem inputs_prefix (ps : List Pt) (i : Nat) : inputs (ps.take i) <+: inputs ps := by
  have h : ∀ (t l : List Pt) (x : List ByteArray), x <+: t.foldl (fun l p => p.ss.foldl inPut l) x := by
    intro t l
    induction t with
    | nil => intro x; exact List.prefix_refl _
    | cons p t ih => intro x; rw [List.foldl_cons]; exact List.IsPrefix.trans (inPuts_prefix _ _) (ih _)
  have e : inputs ps = (ps.drop i).foldl (fun l p => p.ss.foldl inPut l) (inputs (ps.take i)) := by
    unfold inputs
    rw [← List.foldl_append, List.take_append_drop]
  rw [e]
  exact h _ [] _
theorem pre_get {α : Type} {a b : List α} (h : a <+: b) {i : Nat} (hi : i < a.length) : ∃ hj : i < b.length, b[i]'hj = a[i]'hi := by
  obtain ⟨t, rfl⟩ := h
  exact ⟨by rw [List.length_append]; omega, by rw [List.getElem_append_left hi]⟩
/-- Which streams are met, when k of Part i have been. -/
noncomputable def curI (ps : List Pt) (i k : Nat) (h : i < ps.length) : List ByteArray := ((ps[i]'h).ss.take k).foldl inPut (inputs (ps.take i))
theorem curI_zero (ps : List Pt) (i : Nat) (h : i < ps.length) : curI ps i 0 h = inputs (ps.take i) := rfl
theorem curI_all (ps : List Pt) (i k : Nat) (h : i < ps.length) (hk : (ps[i]'h).ss.length ≤ k) : curI ps i k h = inputs (ps.take (i + 1)) := by
  unfold curI
  rw [List.take_of_length_le hk, inputs_more h]
theorem curI_more (ps : List Pt) (i k : Nat) (h : i < ps.length) (hk : k < (ps[i]'h).ss.length) : curI ps i (k + 1) h = inPut (curI ps i k h) ((ps[i]'h).ss[k]'hk) := by
  unfold curI
  rw [take_snoc hk, List.foldl_append]; rfl
theorem curI_prefix (ps : List Pt) (i k : Nat) (h : i < ps.length) : curI ps i k h <+: inputs ps := by
  refine List.IsPrefix.trans ?_ (inputs_prefix ps (i + 1))
  rw [inputs_more h]
  unfold curI
  have e := List.take_append_drop k (ps[i]'h).ss
  conv => rhs; rw [← e, List.foldl_append]
  exact inPuts_prefix _ _
/-- Where a Part's streams lie, in whatever world that comes. -/
theorem parts_row {w0 : World} {A : Option Addr} {c n : Nat} {ps : List Pt} (h : PtsAt w0 (.slice A n c) ps) (hn : n = ps.length) (h0 : 0 < n) :
    ∃ a, A = some a ∧ ∀ (i : Nat) (hi : i < ps.length), ∃ (sA : Option Addr) (sc : Nat), (∀ W, Below w0.heap.size w0 W → W.cell? ⟨(a.add (i * 5)).block, (a.add (i * 5)).off + 2, none⟩ = some (.slice sA (ps[i]'hi).ss.length sc)) ∧
      (0 < (ps[i]'hi).ss.length → ∃ a2, sA = some a2 ∧ ∀ (k : Nat) (hk : k < (ps[i]'hi).ss.length) (W : World), Below w0.heap.size w0 W → W.cell? (a2.add k) = some (.string ((ps[i]'hi).ss[k]'hk))) := by
  obtain ⟨r, h1, rfl, h3⟩ := h
  rw [List.length_map] at hn
  subst hn
  obtain ⟨a, ha, hc⟩ := h1.cells rfl (by omega)
  refine ⟨a, ha, fun i hi => ?_⟩
  have hi' : i < r.length := by rw [List.length_map] at hi; exact hi
  obtain ⟨e0, e1, e2, e3, e4⟩ := hc.row5 i hi' rfl
  obtain ⟨g1, _⟩ := h3 _ (List.getElem_mem hi')
  have hp : (r.map (·.1))[i]'hi = (r[i]'hi').1 := List.getElem_map ..
  generalize (r.map (·.1))[i]'hi = p at hp ⊢
  clear e0 e1 e3 e4 hi h3
  generalize r[i]'hi' = x at *
  obtain ⟨⟨nt, pl, ss, v, pd⟩, ⟨sA, sn, sc⟩, ⟨dA, dn, dc⟩⟩ := x
  simp only at e2 g1 hp
  subst hp
  simp only
  obtain ⟨B1, cc, hv, q4, q5, _⟩ := g1.shape
  simp only [Value.slice.injEq] at hv
  obtain ⟨rfl, rfl, rfl⟩ := hv
  change w0.cell? ⟨(a.add (i * 5)).block, (a.add (i * 5)).off + 2, none⟩ = some (.slice sA ss.length sc) at e2
  refine ⟨sA, sc, fun W hW => by rw [hW.cell (World.block_lt_of_cell? w0 _ e2)]; exact e2, fun hs => ?_⟩
  obtain ⟨a2, ha2, hc2⟩ := g1.cells rfl hs
  refine ⟨a2, ha2, fun k hk W hW => ?_⟩
  have z := hc2.row1 k hk rfl
  rw [Nat.mul_one] at z
  rw [hW.cell (World.block_lt_of_cell? w0 _ z)]; exact z
theorem mem_take_succ {α : Type} {l : List α} {n : Nat} (h : n < l.length) (s : α) : s ∈ l.take (n + 1) ↔ s ∈ l.take n ∨ s = l[n]'h := by
  rw [take_snoc h, List.mem_append, List.mem_singleton]
set_option maxRecDepth 20000 in
set_option maxHeartbeats 8000000 in
theorem walk_QueryInputs (v : Value) (l : List UInt8) (w : World) (hv : BytesAt w v l) (hl : l.length ≤ 140737488351232) (hT : Tab w) :
    Calls Tryd.prog 4 #[v] w fun e w' => e = .returned (.bool true) ∧ Below w.heap.size w w' := by
  obtain ⟨VA, Vn, Vc, rfl⟩ : ∃ A n c, v = .slice A n c := by
    rcases hv with ⟨rfl, _⟩ | ⟨a, cap, rfl, _⟩ <;> exact ⟨_, _, _, rfl⟩
  have K := Lib.hid (And.intro hT hv); clear hT hv
  go_enter Tryd.func4, Tryd.ntmps4
  go_wp2_with fail
  try go_at_call 7
  refine (examples_any _ K.out.1).mono ?_
  rintro e w1 ⟨rfl, b1⟩
  have hv1 := K.out.2.later b1
  have B1 := Lib.hid b1; clear b1
  go_wp2_with fail
  try go_at_call 8
  refine (asked_any ⟨#[113]⟩ _ l 6 _ hl hv1 (by decide) (by omega) (by omega)).mono ?_
  rintro e w2 ⟨q, pv, ov, rfl, hQ, b2, hA⟩
  obtain ⟨A, c, rfl, a1, a2⟩ := hQ.1.shape
  obtain ⟨A2, c2, rfl, _, _⟩ := hQ.2.1.shape
  obtain ⟨n, hn⟩ : ∃ n, n = q.ps.length := ⟨_, rfl⟩
  obtain ⟨m2, hm2⟩ : ∃ m, m = q.os.length := ⟨_, rfl⟩
  have hn6 : n ≤ 6 := by have := hA.2.2.1; omega
  have hn1 : 1 ≤ n := by have := hA.2.1; omega
  have hss : ∀ p ∈ q.ps, p.ss.length ≤ 4 := fun p hp => (partB_parts (hA.2.2.2.2.2.2.2.1 p hp).1).2.1
  rw [← hn, ← hm2] at hQ
  rw [← hn, ← hm2]
  have ba2 := ba w2 (.cells #[.string q.nm, .bool q.st, .slice A n c, .int .i64 q.wi, .string q.by_, .slice A2 m2 c2] 27)
  have hBq := Blk.new w2 27 #[.string q.nm, .bool q.st, .slice A n c, .int .i64 q.wi, .string q.by_, .slice A2 m2 c2]
  have cI := fun W (hW : Below w2.heap.size w2 W) => Inputs_any q _ (.slice A2 m2 c2) W (hQ.1.later hW) (by omega) (fun p hp => by have := hss p hp; omega)
  have U := Lib.hid (And.intro (bt B1.out b2) (And.intro hQ.1 (And.intro hBq (And.intro hn (And.intro hss (And.intro ba2 cI)))))); clear hQ b2 hA hBq hss ba2 cI a1 a2 hn hm2 hv1
  go_wp2_with fail
  try go_at_call 12
  have c0 := U.out.2.2.2.2.2.2 _ U.out.2.2.2.2.2.1
  refine c0.mono ?_
  clear c0
  rintro e w3 ⟨rv, ⟨rfl, hO⟩, b3⟩
  have hIN := hO.at_ (f := scV) (k := 1) (fun _ => rfl)
  obtain ⟨RA, rc, rfl, x1, x2, _⟩ := hIN.shape
  obtain ⟨m, hm⟩ : ∃ m, m = (inputs q.ps).length := ⟨_, rfl⟩
  have hm24 : m ≤ 24 := by
    have := inputs_len U.out.2.2.2.2.1 q.ps.length (Nat.le_refl _)
    rw [List.take_of_length_le (Nat.le_refl _), ← hm] at this
    have := U.out.2.2.2.1; omega
  rw [← hm] at hIN
  rw [← hm]
  have hrow := parts_row (U.out.2.1.later (bt U.out.2.2.2.2.2.1 b3)) U.out.2.2.2.1 (by omega)
  obtain ⟨a, rfl, hrow⟩ := hrow
  have hqb : ∀ W, Below w3.heap.size w3 W → W.cell? ⟨w2.heap.size, 2, none⟩ = some (.slice (some a) n c) := fun W hW => ((U.out.2.2.1.later b3).later hW).cell 2
  have hin : ∀ (j : Nat) (hj : j < (inputs q.ps).length), ∃ r, RA = some r ∧ ∀ W, Below w3.heap.size w3 W → W.cell? (r.add j) = some (.string ((inputs q.ps)[j]'hj)) := fun j hj => by
    obtain ⟨r, hr, hc⟩ := hIN.cells rfl (by omega)
    refine ⟨r, hr, fun W hW => ?_⟩
    have z := hc.row1 j hj rfl
    rw [Nat.mul_one] at z
    rw [hW.cell (World.block_lt_of_cell? w3 _ z)]; exact z
  have V := Lib.hid (And.intro (bt (bt U.out.1 U.out.2.2.2.2.2.1) b3) (And.intro U.out.2.2.2.1 (And.intro U.out.2.2.2.2.1 (And.intro hm (And.intro hqb (And.intro hrow hin)))))); clear b3 hO hIN x1 x2 hrow hqb hin hm U
  generalize hqg : w2.heap.size = g at *
  clear hqg
  go_wp2_with fail
  go_loopw [6, 7] (fun av iv wr => ∃ i : Nat, i ≤ n ∧ iv = .int .i64 (i : Int) ∧ av = .int .i64 ((inputs (q.ps.take i)).length : Int) ∧ Below w3.heap.size w3 wr) (fun _ iv _ => n - (intOf iv).toNat)
  case atStart => exact ⟨0, Nat.zero_le _, rfl, by simp [inputs], Below.refl _ _⟩
  case round =>
    rename World => wr0
    obtain ⟨i, hi, rfl, rfl, hb0⟩ := hrel
    have z0 := V.out.2.2.2.2.1 _ hb0
    by_cases hlt : i < n
    · have hiq : i < q.ps.length := by have := V.out.2.1; omega
      obtain ⟨sA, sc, hc1, hc2⟩ := V.out.2.2.2.2.2.1 i hiq
      obtain ⟨sn, hsn⟩ : ∃ sn, sn = (q.ps[i]'hiq).ss.length := ⟨_, rfl⟩
      have hsn4 : sn ≤ 4 := by rw [hsn]; exact V.out.2.2.1 _ (List.getElem_mem hiq)
      rw [← hsn] at hc1
      have R := Lib.hid (And.intro hsn (And.intro hc1 (And.intro hc2 hb0))); clear hsn hc1 hc2 hb0
      rw [← curI_zero q.ps i hiq]
      go_wp2_with fail
      go_loopw [6, 8] (fun av kv wr => ∃ k : Nat, k ≤ sn ∧ kv = .int .i64 (k : Int) ∧ av = .int .i64 ((curI q.ps i k hiq).length : Int) ∧ Below w3.heap.size w3 wr) (fun _ kv _ => sn - (intOf kv).toNat)
      case atStart => exact ⟨0, Nat.zero_le _, rfl, rfl, R.out.2.2.2⟩
      case round =>
        rename World => wr1
        clear z0
        obtain ⟨k, hk, rfl, rfl, hb1⟩ := hrel
        have z0 := V.out.2.2.2.2.1 _ hb1
        have z1 := R.out.2.1 _ hb1
        by_cases hlt2 : k < sn
        · have hks : k < (q.ps[i]'hiq).ss.length := by have := R.out.1; omega
          obtain ⟨a2, rfl, hc3⟩ := R.out.2.2.1 (by omega)
          have z2 := fun W hW => hc3 k hks W hW
          have hpre := curI_prefix q.ps i k hiq
          have hmore := curI_more q.ps i k hiq hks
          have hpre2 := curI_prefix q.ps i (k + 1) hiq
          generalize (q.ps[i]'hiq).ss[k]'hks = s at z2 hmore
          obtain ⟨C, hC⟩ : ∃ C, C = curI q.ps i k hiq := ⟨_, rfl⟩
          rw [← hC] at hpre hmore ⊢
          obtain ⟨t, ht⟩ : ∃ t, t = C.length := ⟨_, rfl⟩
          rw [← ht]
          have htm : t ≤ m := by rw [ht, V.out.2.2.2.1]; exact hpre.length_le
          have S := Lib.hid (And.intro hpre (And.intro hmore (And.intro hpre2 (And.intro ht (And.intro z2 hb1))))); clear hpre hmore hpre2 ht z2 hb1 hc3 hC
          go_wp2_with fail
          go_loopw [9, 10] (fun mv nv wr => ∃ (j : Nat) (b : Bool), j ≤ t ∧ nv = .int .i64 (j : Int) ∧ mv = .bool b ∧ (b = true ↔ s ∈ C.take j) ∧ Below w3.heap.size w3 wr) (fun _ nv _ => t - (intOf nv).toNat)
          case atStart => exact ⟨0, false, Nat.zero_le _, rfl, rfl, by simp, S.out.2.2.2.2.2⟩
          case round =>
            rename World => wr2
            clear z0 z1
            obtain ⟨j, b, hj, rfl, rfl, hbs, hb2⟩ := hrel
            have z0 := V.out.2.2.2.2.1 _ hb2
            have z1 := R.out.2.1 _ hb2
            have z2 := S.out.2.2.2.2.1 _ hb2
            by_cases hlt3 : j < t
            · have hjC : j < C.length := by have := S.out.2.2.2.1; omega
              obtain ⟨hjI, hjE⟩ := pre_get S.out.1 hjC
              obtain ⟨r, rfl, hc4⟩ := V.out.2.2.2.2.2.2 j hjI
              have z3 := hc4 _ hb2
              rw [hjE] at z3
              have hms := mem_take_succ hjC s
              generalize C[j]'hjC = u at z3 hms
              have d1 : decide (j < m) = true := decide_eq_true (by omega)
              have d2 : (j : Int) < (m : Int) := by omega
              have d3 : decide (i < n) = true := decide_eq_true hlt
              have d4 : (i : Int) < (n : Int) := by omega
              have d5 : decide (k < sn) = true := decide_eq_true hlt2
              have d6 : (k : Int) < (sn : Int) := by omega
              have T := Lib.hid (And.intro hbs (And.intro hms hb2)); clear hbs hms hb2 hc4 hjE
              cases b with
              | true =>
                go_wp2_with fail
                go_quiet (fail)
                go_wp2_with fail
                go_roundw
                case rel => exact ⟨j + 1, true, by omega, by go_num, rfl, ⟨fun _ => T.out.2.1.2 (Or.inl (T.out.1.1 (by trivial))), fun _ => rfl⟩, below_drewN T.out.2.2 _⟩
                case measure => simp [intOf]; omega
              | false =>
                have hno : ¬ s ∈ C.take j := fun h => by have := T.out.1.2 h; cases this
                by_cases hus : u = s
                · subst hus
                  go_wp2_with fail
                  go_quiet (fail)
                  go_wp2_with fail
                  go_roundw
                  case rel => exact ⟨j + 1, true, by omega, by go_num, rfl, by rw [T.out.2.1]; simp, below_drewN T.out.2.2 _⟩
                  case measure => simp [intOf]; omega
                · have hne : ¬ u.toList = s.toList := fun h => hus (toList_inj h)
                  have hne2 : (u.toList == s.toList) = false := by simpa using hne
                  go_wp2_with fail
                  go_quiet (fail)
                  go_wp2_with fail
                  go_roundw
                  case rel => exact ⟨j + 1, false, by omega, by go_num, rfl, by rw [T.out.2.1]; simp [hno, Ne.symm hus], below_drewN T.out.2.2 _⟩
                  case measure => simp [intOf]; omega
            · obtain rfl : j = t := by omega
              have hin : s ∈ C.take j ↔ s ∈ C := by rw [List.take_of_length_le (by have := S.out.2.2.2.1; omega)]
              have T := Lib.hid (And.intro (hbs.trans hin) hb2); clear hbs hin hb2
              cases b with
              | true =>
                have e1 : curI q.ps i (k + 1) hiq = C := by rw [S.out.2.1]; unfold inPut; rw [if_pos (T.out.1.1 rfl)]
                go_wp2_with fail
                go_roundw
                case rel => exact ⟨k + 1, by omega, by go_num, by rw [e1, ← S.out.2.2.2.1], T.out.2⟩
                case measure => simp [intOf]; omega
              | false =>
                have hno : ¬ s ∈ C := fun h => by have := T.out.1.2 h; cases this
                have e1 : curI q.ps i (k + 1) hiq = C ++ [s] := by rw [S.out.2.1]; unfold inPut; rw [if_neg hno]
                have hjI : j < (curI q.ps i (k + 1) hiq).length := by rw [e1, List.length_append, ← S.out.2.2.2.1]; simp
                obtain ⟨hjI2, hjE⟩ := pre_get S.out.2.2.1 hjI
                obtain ⟨r, rfl, hc4⟩ := V.out.2.2.2.2.2.2 j hjI2
                have z3 := hc4 _ T.out.2
                have e2 : (curI q.ps i (k + 1) hiq)[j]'hjI = s := by
                  simp only [e1]
                  rw [List.getElem_append_right (by have := S.out.2.2.2.1; omega)]
                  simp
                rw [hjE, e2] at z3
                have hjm : j < m := by rw [V.out.2.2.2.1]; exact hjI2
                have d1 : decide (m ≤ j) = false := decide_eq_false (by omega)
                have d1' : decide ((m : Int) ≤ (j : Int)) = false := decide_eq_false (by omega)
                have d2 : (j : Int) < (m : Int) := by omega
                have d3 : decide (i < n) = true := decide_eq_true hlt
                have d4 : (i : Int) < (n : Int) := by omega
                have d5 : decide (k < sn) = true := decide_eq_true hlt2
                have d6 : (k : Int) < (sn : Int) := by omega
                clear hc4 hjE e2
                go_wp2_with fail
                go_quiet (fail)
                go_wp2_with fail
                go_roundw
                case rel => exact ⟨k + 1, by omega, by go_num, by rw [e1, List.length_append, ← S.out.2.2.2.1]; rfl, below_drewN T.out.2 _⟩
                case measure => simp [intOf]; omega
        · obtain rfl : k = sn := by omega
          have e1 := curI_all q.ps i k hiq (by have := R.out.1; omega)
          have T := Lib.hid hb1; clear hb1
          go_wp2_with fail
          go_roundw
          case rel => exact ⟨i + 1, by omega, by go_num, by rw [← e1], T.out⟩
          case measure => simp [intOf]; omega
    · obtain rfl : i = n := by omega
      have e1 : (inputs (q.ps.take i)).length = m := by rw [V.out.2.2.2.1, List.take_of_length_le (by have := V.out.2.1; omega)]
      have T := Lib.hid hb0; clear hb0
      rw [e1]
      clear e1
      go_wp2_with fail
      go_ret
      exact ⟨rfl, bt V.out.1 T.out⟩
end Go.Proofs.YtenmbahfgfmjjaaDoor
