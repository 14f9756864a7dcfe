/- CheckKinds: the walk. -/
import Derived.Test.YtkmboffbohndjaaCkX
import Derived.Deep.DeepCutAuto
import Derived.Deep.CutBlock
namespace Go.Proofs.Ytkmboffbohndjaa
open Go.ChangeShapes Go.WideShapes Go.ChangeAt Go.RowKit Go.Maps
set_option linter.unusedVariables false
set_option linter.unusedSimpArgs false

abbrev yf : ByteArray := ⟨#[102]⟩
abbrev yg : ByteArray := ⟨#[103]⟩
abbrev yh : ByteArray := ⟨#[104]⟩
abbrev opsC : Array Value := #[.string ⟨#[124, 124]⟩, .string ⟨#[38, 38]⟩, .string ⟨#[61, 61]⟩, .string ⟨#[33, 61]⟩, .string ⟨#[60]⟩, .string ⟨#[60, 61]⟩, .string ⟨#[62]⟩, .string ⟨#[62, 61]⟩, .string ⟨#[43]⟩, .string ⟨#[45]⟩, .string ⟨#[42]⟩, .string ⟨#[47]⟩, .string ⟨#[37]⟩]
theorem Ops_any (w : World) : Calls Try.prog 7 #[] w fun e w' => e = .returned (.slice (some ⟨w.heap.size, 0, none⟩) 13 13) ∧ w' = w.alloc (.cells opsC 9) := by
  go_enter Try.func7, Try.ntmps7
  go_wp2
  go_ret
  exact ⟨rfl, rfl⟩
/-- Whether an operation takes operands of these kinds; which kind it then has. -/
def okF (L : Int) (plus : Bool) (x y : Int) : Bool := decide (x = y) && (!decide (L ≤ 2) || decide (x = 2)) && (!decide (5 ≤ L) || (decide (x = 1) || (decide (x = 3) && plus)))
def wantF (L x : Int) : Int := if 5 ≤ L then x else 2
theorem op_kinds (q : Nat) (h : q < 13) : ∃ (X : ByteArray) (b : Bool), (opsC : Array Value)[q]? = some (.string X) ∧ 1 ≤ lvl X ∧ X.size ≤ 2 ∧ ((b = true ∧ X.toList = [43]) ∨ (b = false ∧ ¬ X.toList = [43] ∧ (X.toList == [43]) = false)) ∧
    ∀ x y : Int, 1 ≤ x → x ≤ 3 → 1 ≤ y → y ≤ 3 → binaryK X x y = if okF (lvl X) b x y = true then (wantF (lvl X) x, 0) else (0, 6) := by
  have key : ∀ (X : ByteArray) (b : Bool) (l : Int), lvl X = l → ([1, 2, 3].all fun x => [1, 2, 3].all fun y => decide (binaryK X x y = if okF l b x y = true then (wantF l x, 0) else (0, 6))) = true → ∀ x y : Int, 1 ≤ x → x ≤ 3 → 1 ≤ y → y ≤ 3 → binaryK X x y = if okF (lvl X) b x y = true then (wantF (lvl X) x, 0) else (0, 6) := by
    intro X b l hl h x y hx1 hx2 hy1 hy2
    rw [hl]
    have hx : x ∈ [(1 : Int), 2, 3] := by
      have : x = 1 ∨ x = 2 ∨ x = 3 := by omega
      rcases this with rfl | rfl | rfl <;> simp
    have hy : y ∈ [(1 : Int), 2, 3] := by
      have : y = 1 ∨ y = 2 ∨ y = 3 := by omega
      rcases this with rfl | rfl | rfl <;> simp
    exact of_decide_eq_true (List.all_eq_true.1 (List.all_eq_true.1 h x hx) y hy)
  rcases (by omega : q = 0 ∨ q = 1 ∨ q = 2 ∨ q = 3 ∨ q = 4 ∨ q = 5 ∨ q = 6 ∨ q = 7 ∨ q = 8 ∨ q = 9 ∨ q = 10 ∨ q = 11 ∨ q = 12) with rfl | rfl | rfl | rfl | rfl | rfl | rfl | rfl | rfl | rfl | rfl | rfl | rfl
  · exact ⟨⟨#[124, 124]⟩, false, rfl, of_decide_eq_true (by kernel_rfl), by decide, Or.inr ⟨rfl, of_decide_eq_true (by kernel_rfl), by kernel_rfl⟩, key _ _ 1 (by kernel_rfl) (by decide +kernel)⟩
  · exact ⟨⟨#[38, 38]⟩, false, rfl, of_decide_eq_true (by kernel_rfl), by decide, Or.inr ⟨rfl, of_decide_eq_true (by kernel_rfl), by kernel_rfl⟩, key _ _ 2 (by kernel_rfl) (by decide +kernel)⟩
  · exact ⟨⟨#[61, 61]⟩, false, rfl, of_decide_eq_true (by kernel_rfl), by decide, Or.inr ⟨rfl, of_decide_eq_true (by kernel_rfl), by kernel_rfl⟩, key _ _ 3 (by kernel_rfl) (by decide +kernel)⟩
  · exact ⟨⟨#[33, 61]⟩, false, rfl, of_decide_eq_true (by kernel_rfl), by decide, Or.inr ⟨rfl, of_decide_eq_true (by kernel_rfl), by kernel_rfl⟩, key _ _ 3 (by kernel_rfl) (by decide +kernel)⟩
  · exact ⟨⟨#[60]⟩, false, rfl, of_decide_eq_true (by kernel_rfl), by decide, Or.inr ⟨rfl, of_decide_eq_true (by kernel_rfl), by kernel_rfl⟩, key _ _ 4 (by kernel_rfl) (by decide +kernel)⟩
  · exact ⟨⟨#[60, 61]⟩, false, rfl, of_decide_eq_true (by kernel_rfl), by decide, Or.inr ⟨rfl, of_decide_eq_true (by kernel_rfl), by kernel_rfl⟩, key _ _ 4 (by kernel_rfl) (by decide +kernel)⟩
  · exact ⟨⟨#[62]⟩, false, rfl, of_decide_eq_true (by kernel_rfl), by decide, Or.inr ⟨rfl, of_decide_eq_true (by kernel_rfl), by kernel_rfl⟩, key _ _ 4 (by kernel_rfl) (by decide +kernel)⟩
  · exact ⟨⟨#[62, 61]⟩, false, rfl, of_decide_eq_true (by kernel_rfl), by decide, Or.inr ⟨rfl, of_decide_eq_true (by kernel_rfl), by kernel_rfl⟩, key _ _ 4 (by kernel_rfl) (by decide +kernel)⟩
  · exact ⟨⟨#[43]⟩, true, rfl, of_decide_eq_true (by kernel_rfl), by decide, Or.inl ⟨rfl, by kernel_rfl⟩, key _ _ 5 (by kernel_rfl) (by decide +kernel)⟩
  · exact ⟨⟨#[45]⟩, false, rfl, of_decide_eq_true (by kernel_rfl), by decide, Or.inr ⟨rfl, of_decide_eq_true (by kernel_rfl), by kernel_rfl⟩, key _ _ 5 (by kernel_rfl) (by decide +kernel)⟩
  · exact ⟨⟨#[42]⟩, false, rfl, of_decide_eq_true (by kernel_rfl), by decide, Or.inr ⟨rfl, of_decide_eq_true (by kernel_rfl), by kernel_rfl⟩, key _ _ 6 (by kernel_rfl) (by decide +kernel)⟩
  · exact ⟨⟨#[47]⟩, false, rfl, of_decide_eq_true (by kernel_rfl), by decide, Or.inr ⟨rfl, of_decide_eq_true (by kernel_rfl), by kernel_rfl⟩, key _ _ 6 (by kernel_rfl) (by decide +kernel)⟩
  · exact ⟨⟨#[37]⟩, false, rfl, of_decide_eq_true (by kernel_rfl), by decide, Or.inr ⟨rfl, of_decide_eq_true (by kernel_rfl), by kernel_rfl⟩, key _ _ 6 (by kernel_rfl) (by decide +kernel)⟩
abbrev lK (x y : Int) : List SF := [(ya, [(yf, x), (yg, y)]), (ya, [(yh, 1)])]
theorem lK_ok {x y : Int} (x1 : 1 ≤ x) (x3 : x ≤ 3) (y1 : 1 ≤ y) (y3 : y ≤ 3) : SlotsOk (lK x y) := by
  intro s hs
  simp only [lK, List.mem_cons, List.not_mem_nil, or_false] at hs
  rcases hs with rfl | rfl
  · refine ⟨show ya.size ≤ maxLen by decide, show 2 ≤ 100 by decide, fun f hf => ?_⟩
    simp only [List.mem_cons, List.not_mem_nil, or_false] at hf
    rcases hf with rfl | rfl
    · exact ⟨show yf.size ≤ maxLen by decide, wf_mk ⟨by simp only; omega, by simp only; omega⟩⟩
    · exact ⟨show yg.size ≤ maxLen by decide, wf_mk ⟨by simp only; omega, by simp only; omega⟩⟩
  · refine ⟨by decide, by decide, fun f hf => ?_⟩
    simp only [List.mem_cons, List.not_mem_nil, or_false] at hf
    rcases hf with rfl
    exact ⟨by decide, wf_mk ⟨by decide, by decide⟩⟩
theorem spotF (x y : Int) : spotK (lK x y) ya yf true = some x := by
  simp [spotK, slotOf, fieldK, lK, sameB, List.find?_cons]
theorem spotG (x y : Int) : spotK (lK x y) ya yg true = some y := by
  simp [spotK, slotOf, fieldK, lK, sameB, List.find?_cons]
theorem spotH (x y : Int) : spotK (lK x y) ya yh true = none := by
  simp [spotK, slotOf, fieldK, lK, sameB, List.find?_cons]
theorem spotN (x y : Int) : spotK (lK x y) ya ⟨#[]⟩ false = some 1 := by
  simp [spotK, slotOf, fieldK, lK, sameB, List.find?_cons]
theorem kindBin (X : ByteArray) (x y : Int) : kindT (lK x y) (.bin X (.ref ya yf) (.ref ya yg)) = binaryK X x y := by
  simp only [kindT, spotF, spotG, told]
  simp
theorem kindH (x y : Int) : kindT (lK x y) (.ref ya yh) = (0, 5) := by
  simp only [kindT, spotH, told]
theorem kindN (x y : Int) : kindT (lK x y) (.cnt ya) = (1, 0) := by
  simp only [kindT, spotN, told]
theorem kindU (s : ByteArray) (x y : Int) : kindT (lK x y) (.un s (.ref ya yf)) = unaryK s x := by
  simp only [kindT, spotF, told]
  simp
theorem sat_lK {W : World} {g1 g2 g3 : Nat} {x y : Int} (h1 : Blk W g1 26 #[.string yf, .int .i64 x, .string yg, .int .i64 y]) (h2 : Blk W g2 26 #[.string yh, .int .i64 1])
    (h3 : Blk W g3 29 #[.string ya, .slice (some ⟨g1, 0, none⟩) 2 2, .string ya, .slice (some ⟨g2, 0, none⟩) 1 1]) : SAt W (.slice (some ⟨g3, 0, none⟩) 2 2) (lK x y) := by
  refine ⟨[((ya, [(yf, x), (yg, y)]), (some ⟨g1, 0, none⟩, 2, 2)), ((ya, [(yh, 1)]), (some ⟨g2, 0, none⟩, 1, 1))], at_blkC (k := 2) (f := sxF) (fun _ => rfl) _ h3 rfl (by unfold maxLen; omega) rfl, rfl, fun s hs => ?_⟩
  simp only [List.mem_cons, List.not_mem_nil, or_false] at hs
  rcases hs with rfl | rfl
  · exact at_blkC (k := 2) (f := fldF) (fun _ => rfl) [(yf, x), (yg, y)] h1 (n := 2) rfl (by unfold maxLen; omega) rfl
  · exact at_blkC (k := 2) (f := fldF) (fun _ => rfl) [(yh, 1)] h2 (n := 1) rfl (by unfold maxLen; omega) rfl
theorem Kind_v {t : Tr} {K v lv : Value} {l : List SF} {k E : Int} (ev_ : t.val K = v) (ek : kindT l t = (k, E)) (w : World) (h : TrAt w t K) (ho : t.ok = true) (hl : SAt w lv l) (hn : l.length ≤ 100) (hf : SlotsOk l) :
    Calls Try.prog 8 #[v, lv] w fun e w' => e = .returned (tup k E) ∧ Below w.heap.size w w' := by
  subst ev_
  have := Kind_any t K lv l w h ho hl hn hf
  rw [ek] at this; exact this
set_option maxRecDepth 20000 in
set_option maxHeartbeats 16000000 in
theorem walk_CheckKinds (p a b : Int) (c : Bool) (p0 : 0 ≤ p) (p1 : p ≤ 255) (a0 : 0 ≤ a) (a1 : a ≤ 255) (b0 : 0 ≤ b) (b1 : b ≤ 255) (w : World) :
    Calls Try.prog 3 #[.int .u8 p, .int .u8 a, .int .u8 b, .bool c] w fun e w' => e = .returned (.bool true) ∧ Below w.heap.size w w' := by
  have K := Lib.hid (Keep.start w (fun X => True) trivial (fun _ _ _ h => h))
  go_enter Try.func3, Try.ntmps3
  go_wp2_with fail
  try go_at_call 6
  refine (examples_any _).mono ?_
  rintro e w1 ⟨rfl, hb⟩
  replace K := Lib.hid (K.out.go hb); clear hb
  go_wp2_with fail
  try go_at_call 7
  refine (Ops_any _).mono ?_
  rintro e w2 ⟨rfl, rfl⟩
  replace K := Lib.hid ((K.out.more 9 opsC).keepRow (List.mem_cons_self ..))
  generalize w1.alloc _ = w2 at *
  generalize w1.heap.size = g at *
  obtain ⟨X, bp, hX, hL, hsz, hpl, hbin⟩ := op_kinds (p % 13).toNat (by omega)
  have kc1 : w2.cell? ⟨g, (p % 13).toNat, none⟩ = some (.string X) := (K.out.p.2.cell _).trans hX
  obtain ⟨x, hx⟩ : ∃ x, x = 1 + a % 3 := ⟨_, rfl⟩
  obtain ⟨y, hy⟩ : ∃ y, y = 1 + b % 3 := ⟨_, rfl⟩
  have x1 : 1 ≤ x := by omega
  have x3 : x ≤ 3 := by omega
  have y1 : 1 ≤ y := by omega
  have y3 : y ≤ 3 := by omega
  have hB := hbin x y x1 x3 y1 y3
  have hso := lK_ok x1 x3 y1 y3
  have D := Lib.hid (And.intro hB (And.intro hso (And.intro hx hy))); clear hB hso hx hy hbin hX
  go_upto_region 10 with fail
  rw [← D.out.2.2.1, ← D.out.2.2.2]
  obtain ⟨W3, hW3⟩ : ∃ W3, W3 = ((w2.alloc (.cells #[.string yf, .int .i64 x, .string yg, .int .i64 y] 26)).alloc (.cells #[.string yh, .int .i64 1] 26)).alloc (.cells #[.string ya, .slice (some ⟨w2.heap.size, 0, none⟩) 2 2, .string ya, .slice (some ⟨w2.heap.size + 1, 0, none⟩) 1 1] 29) := ⟨_, rfl⟩
  have K3 := ((K.out.more 26 #[.string yf, .int .i64 x, .string yg, .int .i64 y]).more 26 #[.string yh, .int .i64 1]).more 29 #[.string ya, .slice (some ⟨w2.heap.size, 0, none⟩) 2 2, .string ya, .slice (some ⟨w2.heap.size + 1, 0, none⟩) 1 1]
  have h1 := K3.blk (List.mem_cons_of_mem _ (List.mem_cons_of_mem _ (List.mem_cons_self ..)))
  have h2 := K3.blk (List.mem_cons_of_mem _ (List.mem_cons_self ..))
  have h3 := K3.blk (List.mem_cons_self ..)
  simp only [World.size_alloc] at h2 h3
  have hS := sat_lK h1 h2 h3
  have K4 := K3.and (Q := fun X => SAt X (.slice (some ⟨w2.heap.size + 1 + 1, 0, none⟩) 2 2) (lK x y)) hS (fun _ _ hb h => h.later hb)
  rw [← hW3] at K4
  replace K := Lib.hid K4; clear K3 K4 h1 h2 h3 hS
  have cO : (Tr.bin X (.ref ya yf) (.ref ya yg)).ok = true := by
    unfold Tr.ok; rw [show (Tr.ref ya yf).ok = true by decide +kernel, show (Tr.ref ya yg).ok = true by decide +kernel]; simp; omega
  obtain ⟨⟨k1, E1⟩, hKE⟩ : ∃ u : Int × Int, u = if okF (lvl X) bp x y = true then (wantF (lvl X) x, 0) else (0, 6) := ⟨_, rfl⟩
  have D2 := Lib.hid (And.intro cO (And.intro (D.out.1.trans hKE.symm) (And.intro D.out.2.1 hKE))); clear cO hKE
  go_upto_region 11 with fail
  rw [← hW3]
  clear hW3 D
  generalize w2.heap.size + 1 + 1 = g4 at *
  clear kc1
  go_wp2_with fail
  try go_at_call 10
  refine (eref_any ya yf _).mono ?_
  rintro e w4 ⟨rfl, hb⟩
  replace K := Lib.hid (K.out.go hb); clear hb
  go_wp2_with fail
  try go_at_call 10
  refine (eref_any ya yg _).mono ?_
  rintro e w5 ⟨rfl, hb⟩
  replace K := Lib.hid (K.out.go hb); clear hb
  go_wp2_with fail
  try go_at_call 9
  refine (two_tr X (.ref ya yf) (.ref ya yg) nilk nilk _ rfl rfl).mono ?_
  rintro e w6 ⟨⟨KV, rfl, hK⟩, hb⟩
  obtain ⟨kA, kn, kc, rfl⟩ := hK.sl
  rw [show (Tr.bin X (.ref ya yf) (.ref ya yg)).val (.slice kA kn kc) = ev 4 X 0 0 e0 e0 e0 (.slice kA kn kc) from rfl]
  replace K := Lib.hid (K.out.go hb); clear hb
  go_wp2_with fail
  try go_at_call 8
  refine (Kind_v (t := .bin X (.ref ya yf) (.ref ya yg)) rfl ((kindBin X x y).trans D2.out.2.1) _ hK D2.out.1 K.out.p.2 (show 2 ≤ 100 by decide) D2.out.2.2.1).mono ?_
  rintro e w7 ⟨rfl, hb⟩
  replace K := Lib.hid (K.out.go hb); clear hb hK
  go_wp2_with fail
  try go_at_call 10
  refine (eref_any ya yh _).mono ?_
  rintro e w8 ⟨rfl, hb⟩
  replace K := Lib.hid (K.out.go hb); clear hb
  go_wp2_with fail
  try go_at_call 8
  refine (Kind_v (t := .ref ya yh) rfl (kindH x y) _ rfl (by decide +kernel) K.out.p.2 (show 2 ≤ 100 by decide) D2.out.2.2.1).mono ?_
  rintro e w9 ⟨rfl, hb⟩
  replace K := Lib.hid (K.out.go hb); clear hb
  go_wp2_with fail
  try go_at_call 8
  refine (Kind_v (t := .cnt ya) rfl (kindN x y) _ rfl (by decide +kernel) K.out.p.2 (show 2 ≤ 100 by decide) D2.out.2.2.1).mono ?_
  rintro e w10 ⟨rfl, hb⟩
  replace K := Lib.hid (K.out.go hb); clear hb
  go_wp2_with fail
  try go_at_call 11
  refine (Level_any X _).mono ?_
  rintro e w11 ⟨rfl, rfl⟩
  obtain ⟨L, hLL⟩ : ∃ L, L = lvl X := ⟨_, rfl⟩
  rw [← hLL] at hL D2 ⊢
  clear hLL
  go_upto_if 85 with fail
  go_cut [23] from 28 to 182 (fun ov wx => ∃ o : Bool, ov = .bool o ∧ o = (decide (x = y) && (!decide (L ≤ 2) || decide (x = 2))) ∧ w10 = wx)
  case first =>
    by_cases hL2 : L ≤ 2
    · by_cases hxy : x = y
      · by_cases hx2 : x = 2
        · subst hxy; subst hx2
          go_wp2_with fail
          go_meet
          exact ⟨_, rfl, by simp [hL2], rfl⟩
        · subst hxy
          have d2 : (x == 2) = false := by simpa using hx2
          go_wp2_with fail
          go_meet
          exact ⟨_, rfl, by simp [hL2, hx2], rfl⟩
      · have d1 : (x == y) = false := by simpa using hxy
        go_wp2_with fail
        go_meet
        exact ⟨_, rfl, by simp [hxy], rfl⟩
    · have d1 : decide (L ≤ 2) = false := decide_eq_false hL2
      go_wp2_with fail
      go_meet
      exact ⟨_, rfl, by rw [d1, Bool.not_false, Bool.true_or, Bool.and_true]; rfl, rfl⟩
  case rest =>
    rename World => wz
    obtain ⟨o, rfl, ho, rfl⟩ := hcut
    have HO := Lib.hid ho; clear ho
    go_upto_if 92 with fail
    go_cut [22, 23] from 28 to 182 (fun nv ov wx => ∃ n : Int, nv = .int .i64 n ∧ n = wantF L x ∧ ov = .bool (okF L bp x y) ∧ w10 = wx)
    case first =>
      have ho := HO.out
      clear HO
      by_cases hL5 : 5 ≤ L
      · have hL2 : decide (L ≤ 2) = false := decide_eq_false (by omega)
        rw [hL2] at ho
        have d5 : decide (5 ≤ L) = true := decide_eq_true hL5
        have hw : wantF L x = x := by unfold wantF; rw [if_pos hL5]
        have ho' : o = decide (x = y) := by rw [ho]; simp
        clear ho
        by_cases hxy : x = y
        · rw [decide_eq_true hxy] at ho'
          subst ho'
          subst hxy
          by_cases hx1 : x = 1
          · subst hx1
            go_wp2_with fail
            go_meet
            exact ⟨_, rfl, hw.symm, by congr 1; unfold okF; rw [hL2, decide_eq_true rfl, d5]; simp, rfl⟩
          · have e1 : (x == 1) = false := by simpa using hx1
            by_cases hx3 : x = 3
            · subst hx3
              rcases hpl with ⟨hp1, hp2⟩ | ⟨hp1, hp2, hp3⟩
              · go_wp2_with fail
                go_meet
                exact ⟨_, rfl, hw.symm, by congr 1; unfold okF; rw [hL2, decide_eq_true rfl, d5, hp1]; simp, rfl⟩
              · go_wp2_with fail
                go_meet
                exact ⟨_, rfl, hw.symm, by congr 1; unfold okF; rw [hL2, decide_eq_true rfl, d5, hp1]; simp, rfl⟩
            · have e3 : (x == 3) = false := by simpa using hx3
              go_wp2_with fail
              go_meet
              exact ⟨_, rfl, hw.symm, by congr 1; unfold okF; rw [hL2, decide_eq_true rfl, d5, decide_eq_false hx1, decide_eq_false hx3]; simp, rfl⟩
        · rw [decide_eq_false hxy] at ho'
          subst ho'
          go_wp2_with fail
          go_meet
          exact ⟨_, rfl, hw.symm, by congr 1; unfold okF; rw [decide_eq_false hxy]; simp, rfl⟩
      · have d5 : decide (5 ≤ L) = false := decide_eq_false hL5
        have hw : wantF L x = 2 := by unfold wantF; rw [if_neg hL5]
        have hk : okF L bp x y = o := by unfold okF; rw [d5, ho]; simp
        have HK := Lib.hid hk
        clear ho hk
        go_wp2_with fail
        go_meet
        exact ⟨_, rfl, hw.symm, by rw [HK.out], rfl⟩
    case rest =>
      rename World => wz
      clear HO
      obtain ⟨n, rfl, hn, rfl, rfl⟩ := hcut
      obtain ⟨ok, hok⟩ : ∃ b, b = okF L bp x y := ⟨_, rfl⟩
      rw [← hok] at D2 ⊢
      rw [← hn] at D2
      clear hok hn hpl
      go_upto_if 107 with fail
      go_cut [24, 25] from 28 to 182 (fun sv nv wx => ∃ (s : ByteArray) (m : Int), sv = .string s ∧ nv = .int .i64 m ∧ (Tr.un s (.ref ya yf)).ok = true ∧ (∀ z, unaryK s z = if z = m then (z, 0) else (0, 6)) ∧ w10 = wx)
      case first =>
        cases c with
        | true =>
          go_wp2_with fail
          go_meet
          exact ⟨⟨#[33]⟩, 2, rfl, rfl, by decide +kernel, fun z => by unfold unaryK; simp [sameB], rfl⟩
        | false =>
          go_wp2_with fail
          go_meet
          exact ⟨⟨#[45]⟩, 1, rfl, rfl, by decide +kernel, fun z => by unfold unaryK; simp [sameB], rfl⟩
      case rest =>
        rename World => wz
        obtain ⟨s, m, rfl, rfl, hso, hsu, rfl⟩ := hcut
        obtain ⟨⟨k2, E2⟩, hKE⟩ : ∃ u : Int × Int, u = unaryK s x := ⟨_, rfl⟩
        have hE : (x = m ∧ k2 = x ∧ E2 = 0) ∨ (¬ x = m ∧ (x == m) = false ∧ k2 = 0 ∧ E2 = 6) := by
          rw [hsu] at hKE
          by_cases h : x = m
          · rw [if_pos h] at hKE; obtain ⟨rfl, rfl⟩ := Prod.mk.inj hKE; exact Or.inl ⟨h, rfl, rfl⟩
          · rw [if_neg h] at hKE; obtain ⟨rfl, rfl⟩ := Prod.mk.inj hKE; exact Or.inr ⟨h, by simpa using h, rfl, rfl⟩
        have HE := Lib.hid (And.intro hso (And.intro hE hKE)); clear hso hsu hE hKE
        go_wp2_with fail
        try go_at_call 10
        refine (eref_any ya yf _).mono ?_
        rintro e w12 ⟨rfl, hb⟩
        have K5 := (K.out.go hb).more 38 #[.int .i64 1, .string e0, .int .i64 0, .int .i64 0, .string e0, .string ya, .string yf, nilk]
        have hT : TrAt (w12.alloc (.cells #[.int .i64 1, .string e0, .int .i64 0, .int .i64 0, .string e0, .string ya, .string yf, nilk] 38)) (.un s (.ref ya yf)) (.slice (some ⟨w12.heap.size, 0, none⟩) 1 1) :=
          ⟨⟨w12.heap.size, 0, none⟩, 1, rfl, Nat.le_refl _, by unfold maxLen; omega, nilk, rfl, (K5.head.1 0), (K5.head.1 1), (K5.head.1 2), (K5.head.1 3), (K5.head.1 4), (K5.head.1 5), (K5.head.1 6), (K5.head.1 7)⟩
        replace K := Lib.hid K5.nil; clear hb K5
        go_wp2_with fail
        try go_at_call 8
        refine (Kind_v (t := .un s (.ref ya yf)) rfl ((kindU s x y).trans HE.out.2.2.symm) _ hT HE.out.1 K.out.p.2 (show 2 ≤ 100 by decide) D2.out.2.2.1).mono ?_
        rintro e w13 ⟨rfl, hb⟩
        replace K := Lib.hid (K.out.go hb); clear hb hT
        have hE1 : (ok = true ∧ k1 = n ∧ E1 = 0) ∨ (ok = false ∧ k1 = 0 ∧ E1 = 6) := by
          have h := D2.out.2.2.2
          cases ok with
          | true => rw [if_pos rfl] at h; obtain ⟨rfl, rfl⟩ := Prod.mk.inj h; exact Or.inl ⟨rfl, rfl, rfl⟩
          | false => rw [if_neg (by decide)] at h; obtain ⟨rfl, rfl⟩ := Prod.mk.inj h; exact Or.inr ⟨rfl, rfl, rfl⟩
        have hE2 := HE.out.2.1
        clear D2 HE
        rcases hE2 with ⟨q1, rfl, rfl⟩ | ⟨q1, q2, rfl, rfl⟩
        · subst q1
          rcases hE1 with ⟨rfl, rfl, rfl⟩ | ⟨rfl, rfl, rfl⟩
          all_goals
            go_wp2_with fail
            go_ret
            exact ⟨rfl, K.out.bel⟩
        · rcases hE1 with ⟨rfl, rfl, rfl⟩ | ⟨rfl, rfl, rfl⟩
          all_goals
            go_wp2_with fail
            go_ret
            exact ⟨rfl, K.out.bel⟩
end Go.Proofs.Ytkmboffbohndjaa
