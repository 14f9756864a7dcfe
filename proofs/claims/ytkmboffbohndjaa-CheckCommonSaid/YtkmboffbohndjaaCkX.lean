/- Layer 11: the chapter's examples. -/
import Derived.Test.YtkmboffbohndjaaCkS
import Derived.Test.YtkmboffbohndjaaCells3
namespace Go.Proofs.Ytkmboffbohndjaa
open Go.ChangeShapes Go.WideShapes Go.ChangeAt Go.RowKit Go.Maps
set_option linter.unusedVariables false
set_option linter.unusedSimpArgs false

theorem Check_ex (lv pv ov : Value) (w : World) (hv : SAt w lv ls3) (hq : QyAt w pv ov (exC yk)) :
    Calls Try.prog 18 #[lv, .agg #[.string yq, .bool false, pv, .int .i64 0, .string yk, ov]] w fun e w' => ∃ (FA : Option Addr) (fc : Nat), e = .returned (.tuple #[.agg #[.string yq, .slice FA 1 fc], .int .i64 0]) ∧ Own w' w.heap.size 26 2 fldF (.slice FA 1 fc) [(yz, 1)] ∧ Below w.heap.size w w' := by
  refine (Check_any lv ls3 (exC yk) pv ov w hv hq (exC_ok yk) (by decide) ls3_ok.1 ls3_ok.2 (fun p hp => ?_) (by decide) (by decide)).mono ?_
  · simp only [exC, exC1, exC2, List.mem_cons, List.not_mem_nil, or_false] at hp
    rcases hp with rfl | rfl <;> decide
  · rintro e w' ⟨A, n, c, rfl, hO, hb⟩
    rw [ck1] at hO ⊢
    obtain ⟨FA, fc, hv, _, _, _⟩ := hO.shape
    simp only [Value.slice.injEq] at hv
    obtain ⟨rfl, rfl, rfl⟩ := hv
    exact ⟨_, _, rfl, hO, hb⟩
theorem Check_err (lv pv ov : Value) (ls : List SF) (by_ : ByteArray) (E : Int) (w : World) (hv : SAt w lv ls) (hq : QyAt w pv ov (exC by_)) (hn : ls.length ≤ 100) (hf : OkS ls) (hnm : ∀ x ∈ ls, x.1.size ≤ maxLen) (hE : (checkE ls (exC by_)).2 = E) :
    Calls Try.prog 18 #[lv, .agg #[.string yq, .bool false, pv, .int .i64 0, .string by_, ov]] w fun e w' => ∃ (s : ByteArray) (FA : Option Addr) (fn fc : Nat), e = .returned (.tuple #[.agg #[.string s, .slice FA fn fc], .int .i64 E]) ∧ Below w.heap.size w w' := by
  refine (Check_any lv ls (exC by_) pv ov w hv hq (exC_ok by_) hn hf hnm (fun p hp => ?_) (show 2 ≤ 50 by decide) (show 1 ≤ 100 by decide)).mono ?_
  · simp only [exC, exC1, exC2, List.mem_cons, List.not_mem_nil, or_false] at hp
    rcases hp with rfl | rfl <;> decide
  · rintro e w' ⟨A, n, c, rfl, hO, hb⟩
    rw [hE]
    exact ⟨_, _, _, _, rfl, hb⟩
theorem streams_ex (w : World) : Calls Try.prog 14 #[] w fun e w' => ∃ b : Nat, e = .returned (.slice (some ⟨b, 0, none⟩) 3 3) ∧ SAt w' (.slice (some ⟨b, 0, none⟩) 3 3) ls3 ∧ Below w.heap.size w w' :=
  (streams_any w).mono (fun e w' h => ⟨_, h⟩)
/-- What the examples stand on. -/
structure CX (pv ov : Value) (q1 : Nat) (CQ : Array Value) (X : World) : Prop where
  q : ∀ by_ : ByteArray, by_.size ≤ maxLen → QyAt X pv ov (exC by_)
  b : Blk X q1 65 CQ
theorem CX.later {pv ov : Value} {q1 : Nat} {CQ : Array Value} {w w' : World} (h : CX pv ov q1 CQ w) (hb : Below w.heap.size w w') : CX pv ov q1 CQ w' := ⟨fun b hs => (h.q b hs).later hb, h.b.later hb⟩
theorem Keep.second {w W : World} {N : Nat} {l : List RowB} {P : World → Prop} {x : RowB} {g : Nat} {t : TypeId} {c : Array Value} (h : Keep w W N (x :: (g, t, c) :: l) P) : Blk W g t c := h.blk (List.mem_cons_of_mem _ (List.mem_cons_self ..))
theorem Keep.cells2 {w W : World} {N : Nat} {l : List RowB} {P : World → Prop} {x : RowB} {g : Nat} {t : TypeId} {c : Array Value} (h : Keep w W N (x :: (g, t, c) :: l) P) : (∀ j, W.cell? ⟨g, j, none⟩ = c[j]?) ∧ (∀ j, W.frozen? ⟨g, j, none⟩ = false) ∧ g < W.heap.size :=
  h.cells (List.mem_cons_of_mem _ (List.mem_cons_self ..))
theorem Keep.nil {w W : World} {N : Nat} {bs : List RowB} {P : World → Prop} (h : Keep w W N bs P) : Keep w W N [] P := ⟨h.bel, h.low, fun b hm => by simp at hm, List.Pairwise.nil, h.was, h.stays⟩
/-- What the later examples stand on. -/
structure CY (pv ov : Value) (q1 q2 g : Nat) (FA : Option Addr) (fc : Nat) (CQ CR : Array Value) (X : World) : Prop where
  cx : CX pv ov q1 CQ X
  bg : Blk X g 46 #[.string yq, .slice FA 1 fc]
  fs : At X 2 fldF (.slice FA 1 fc) [(yz, 1)]
  b2 : Blk X q2 65 CR
theorem CY.later {pv ov : Value} {q1 q2 g : Nat} {FA : Option Addr} {fc : Nat} {CQ CR : Array Value} {w w' : World} (h : CY pv ov q1 q2 g FA fc CQ CR w) (hb : Below w.heap.size w w') : CY pv ov q1 q2 g FA fc CQ CR w' := ⟨h.cx.later hb, h.bg.later hb, h.fs.later hb, h.b2.later hb⟩
theorem SAt.first1 {w : World} {A : Option Addr} (h : SAt w (.slice A 3 3) ls3) : SAt w (.slice A 1 3) [(yA, F1)] := by
  obtain ⟨r, h1, h2, h3⟩ := h
  have hl : r.length = 3 := by have := congrArg List.length h2; simpa [ls3] using this
  obtain ⟨a, ha, hc⟩ := h1.cells rfl (by omega)
  match r, hl with
  | [x, y, z], _ =>
    have hx : x.1 = (yA, F1) := by have := congrArg List.head? h2; simpa [ls3] using this
    refine ⟨[x], ⟨A, 3, rfl, by simp, by unfold maxLen; omega, fun h => by rw [ha] at h; simp at h, fun b hb j hj i u hu => ?_⟩, by simp [hx], fun y hy => ?_⟩
    · obtain rfl : a = b := by rw [ha] at hb; simpa using hb
      obtain rfl : j = 0 := by simpa using hj
      exact hc 0 (by simp) i u hu
    · obtain rfl := List.mem_singleton.1 hy
      exact h3 _ (List.mem_cons_self ..)
theorem l1_ok : OkS [(yA, F1)] ∧ (∀ x ∈ ([(yA, F1)] : List SF), x.1.size ≤ maxLen) :=
  ⟨fun x hx => by obtain rfl := List.mem_singleton.1 hx; exact ls3_ok.1 _ (List.mem_cons_self ..), fun x hx => by obtain rfl := List.mem_singleton.1 hx; exact ls3_ok.2 _ (List.mem_cons_self ..)⟩
theorem step_appS {ops : Array Oper} {o : Oper} {a : Act} {w : World} {K : Act → World → Prop} {Q : Exit → Act → World → Prop} {E : Prop} (hgd : o.guard = none) (s x : Operand) (t : TypeId)
    (ho : o.op = .call { callee := .builtin .append, args := #[s, x], argTypes := #[t, t] }) (ht : Try.prog.underlying t = some (.slice 46))
    (A : Option Addr) (hs : a.eval s = .slice A 3 3) (hS : SAt w (.slice A 3 3) ls3) (g : Nat) (hx : a.eval x = .slice (some ⟨g, 0, none⟩) 1 1) (hg : Blk w g 46 #[.string yq, .slice none 0 0])
    (hK : ∀ v' w', (∃ A' c', v' = .slice A' 4 c' ∧ SAt w' (.slice A' 4 c') (ls3 ++ [(yq, [])])) → Below w.heap.size w w' → K (a.put o.dst v') w') :
    if Region.wanted o (yielded ops a.tmps) = true then Oper.wp Try.prog o a w K Q else E := by
  obtain ⟨js, sj, sy0, sy1, sy2⟩ := info_parts (P := Try.prog) (e := 46) (z := .agg #[.string ⟨#[]⟩, .slice none 0 0]) (size := 2) (bytes := 40) (by kernel_rfl)
  obtain ⟨r, h1, h2, h3⟩ := hS
  have hl : r.length = 3 := by have := congrArg List.length h2; simpa [ls3] using this
  refine step_append_full hgd s x t ho 46 js (.agg #[.string ⟨#[]⟩, .slice none 0 0]) 2 40 ht sj sy0 sy1 sy2 rfl (by decide) (f := sxF) (fun _ => rfl) sxF_one A 3 r hl.symm hs h1 ⟨g, 0, none⟩ 1 ((yq, []), (none, 0, 0)) hx (fun j u hu => by rw [addr_pl, Nat.zero_add, hg.cell j, ← Array.getElem?_toList]; exact hu) (by unfold maxLen; omega) (by omega) (by decide) ?_
  intro v' w' hO hg'
  have hb : Below w.heap.size w w' := grownBy_below hg' (Nat.le_refl _) (fun k hk => by simp at hk)
  have hat := hO.at_ (f := sxF) (k := 2) (fun _ => rfl)
  obtain ⟨A', c', hv, _, _, _⟩ := hat.shape
  rw [List.length_append, hl] at hv
  change v' = .slice A' 4 c' at hv
  subst hv
  refine hK _ _ ⟨A', c', rfl, r ++ [((yq, []), (none, 0, 0))], hat, by rw [List.map_append, h2]; rfl, fun y hy => ?_⟩ hb
  rcases List.mem_append.1 hy with hy | hy
  · exact (h3 y hy).later hb
  · obtain rfl := List.mem_singleton.1 hy
    exact At.nil _ _ _
theorem l4_ok : (ls3 ++ [(yq, [])]).length ≤ 100 ∧ OkS (ls3 ++ [(yq, [])]) ∧ (∀ x ∈ ls3 ++ [(yq, [])], x.1.size ≤ maxLen) := by
  refine ⟨by decide, fun x hx => ?_, fun x hx => ?_⟩
  · rcases List.mem_append.1 hx with hx | hx
    · exact ls3_ok.1 x hx
    · obtain rfl := List.mem_singleton.1 hx
      exact ⟨by simp, fun f hf => by simp at hf⟩
  · rcases List.mem_append.1 hx with hx | hx
    · exact ls3_ok.2 x hx
    · obtain rfl := List.mem_singleton.1 hx
      show yq.size ≤ maxLen; decide
theorem snil (w : World) : SAt w (.slice none 0 0) [] := ⟨[], At.nil _ _ _, rfl, fun x hx => by simp at hx⟩
theorem Check_nil (w : World) :
    Calls Try.prog 18 #[.slice none 0 0, .agg #[.string ⟨#[]⟩, .bool false, .slice none 0 0, .int .i64 0, .string ⟨#[]⟩, .slice none 0 0]] w fun e w' => ∃ (s : ByteArray) (FA : Option Addr) (fn fc : Nat), e = .returned (.tuple #[.agg #[.string s, .slice FA fn fc], .int .i64 1]) ∧ Below w.heap.size w w' := by
  refine (Check_any (.slice none 0 0) [] exN (.slice none 0 0) (.slice none 0 0) w (snil w) ⟨⟨[], At.nil _ _ _, rfl, fun x hx => by simp at hx⟩, ⟨[], At.nil _ _ _, rfl, fun x hx => by simp at hx⟩, by decide, by decide⟩ exN_ok (by decide) (fun x hx => by simp at hx) (fun x hx => by simp at hx) (fun p hp => by simp [exN] at hp) (by decide) (by decide)).mono ?_
  rintro e w' ⟨A, n, c, rfl, hO, hb⟩
  rw [ck5]
  exact ⟨_, _, _, _, rfl, hb⟩
abbrev refC (v f : ByteArray) : List Value := [.int .i64 1, .string e0, .int .i64 0, .int .i64 0, .string e0, .string v, .string f, nilk]
set_option maxRecDepth 20000 in
set_option maxHeartbeats 8000000 in
theorem examples_any (w : World) :
    Calls Try.prog 6 #[] w fun e w' => e = .returned (.bool true) ∧ Below w.heap.size w w' := by
  have b0 := bt (ba w (.cells #[.string yA] 9)) (ba (w.alloc (.cells #[.string yA] 9)) (.cells #[.string yB, .string yC] 9))
  have B0 := (Blk.new w 9 #[.string yA]).later (ba (w.alloc (.cells #[.string yA] 9)) (.cells #[.string yB, .string yC] 9))
  have B1 := Blk.new (w.alloc (.cells #[.string yA] 9)) 9 #[.string yB, .string yC]
  rw [World.size_alloc] at B1
  have K := Lib.hid (And.intro B0 (And.intro B1 b0)); clear B0 B1 b0
  go_enter Try.func6, Try.ntmps6
  go_wp2_with fail
  try go_at_call 10
  refine (eref_any ya yx _).mono ?_
  rintro e w2 ⟨rfl, b2⟩
  replace K := Lib.hid (And.intro (K.out.1.later b2) (And.intro (K.out.2.1.later b2) (bt K.out.2.2 b2))); clear b2
  go_wp2_with fail
  try go_at_call 10
  refine (eref_any yb yk _).mono ?_
  rintro e w3 ⟨rfl, b3⟩
  replace K := Lib.hid (And.intro (K.out.1.later b3) (And.intro (K.out.2.1.later b3) (bt K.out.2.2 b3))); clear b3
  go_wp2_with fail
  try go_at_call 9
  refine (two_tr yl (.ref ya yx) (.ref yb yk) nilk nilk _ rfl rfl).mono ?_
  rintro e w4 ⟨⟨KV, rfl, hK⟩, b4⟩
  obtain ⟨kA, kn, kc, rfl⟩ := hK.sl
  rw [show (Tr.bin yl (.ref ya yx) (.ref yb yk)).val (.slice kA kn kc) = ev 4 yl 0 0 e0 e0 e0 (.slice kA kn kc) from rfl]
  obtain ⟨X1, hX1⟩ : ∃ X1, X1 = w4.alloc (.cells #[.int .i64 4, .string yl, .int .i64 0, .int .i64 0, .string e0, .string e0, .string e0, .slice kA kn kc] 38) := ⟨_, rfl⟩
  obtain ⟨X2, hX2⟩ : ∃ X2, X2 = X1.alloc (.cells #[.bool false, .bool false, .slice (some ⟨w.heap.size, 0, none⟩) 1 1, .string ya, .slice none 0 0, .bool false, .bool false, .slice (some ⟨w.heap.size + 1, 0, none⟩) 2 2, .string yb, .slice (some ⟨w4.heap.size, 0, none⟩) 1 1] 59) := ⟨_, rfl⟩
  have c1 : Below w4.heap.size w4 X1 := by rw [hX1]; exact ba _ _
  have c2 : Below X1.heap.size X1 X2 := by rw [hX2]; exact ba _ _
  have s1 : X1.heap.size = w4.heap.size + 1 := by rw [hX1]; exact World.size_alloc _ _
  have B2 : Blk X2 w4.heap.size 38 #[.int .i64 4, .string yl, .int .i64 0, .int .i64 0, .string e0, .string e0, .string e0, .slice kA kn kc] := by
    have : Blk X1 w4.heap.size 38 #[.int .i64 4, .string yl, .int .i64 0, .int .i64 0, .string e0, .string e0, .string e0, .slice kA kn kc] := by rw [hX1]; exact Blk.new _ _ _
    exact this.later c2
  have B3 : Blk X2 (w4.heap.size + 1) 59 #[.bool false, .bool false, .slice (some ⟨w.heap.size, 0, none⟩) 1 1, .string ya, .slice none 0 0, .bool false, .bool false, .slice (some ⟨w.heap.size + 1, 0, none⟩) 2 2, .string yb, .slice (some ⟨w4.heap.size, 0, none⟩) 1 1] := by rw [hX2, ← s1]; exact Blk.new _ _ _
  have c3 := bt b4 (bt c1 c2)
  have hPs : ∀ by_, PtsAt X2 (.slice (some ⟨w4.heap.size + 1, 0, none⟩) 2 2) (exC by_).ps := fun by_ => by
    refine ⟨[(exC1, (some ⟨w.heap.size, 0, none⟩, 1, 1), (none, 0, 0)), (exC2, (some ⟨w.heap.size + 1, 0, none⟩, 2, 2), (some ⟨w4.heap.size, 0, none⟩, 1, 1))], at_blkC (k := 5) (f := ptF) (fun _ => rfl) _ B3 rfl (by unfold maxLen; omega) rfl, rfl, fun x hx => ?_⟩
    simp only [List.mem_cons, List.not_mem_nil, or_false] at hx
    rcases hx with rfl | rfl
    · refine ⟨at_blkC (k := 1) (f := scV) (fun _ => rfl) _ (K.out.1.later c3) rfl (show 1 ≤ maxLen by unfold maxLen; omega) rfl, ⟨[], At.nil _ _ _, rfl, fun x hx => by simp at hx⟩, (show ya.size ≤ maxLen by decide), fun s hs => ?_⟩
      simp only [exC1, List.mem_cons, List.not_mem_nil, or_false] at hs
      subst hs; decide
    · refine ⟨at_blkC (k := 1) (f := scV) (fun _ => rfl) _ (K.out.2.1.later c3) rfl (show 2 ≤ maxLen by unfold maxLen; omega) rfl, ⟨[(.bin yl (.ref ya yx) (.ref yb yk), .slice kA kn kc)], at_blkC (k := 8) (f := exF) (fun _ => rfl) _ B2 rfl (show 1 ≤ maxLen by unfold maxLen; omega) rfl, rfl, fun x hx => ?_⟩, (show yb.size ≤ maxLen by decide), fun s hs => ?_⟩
      · simp only [List.mem_cons, List.not_mem_nil, or_false] at hx
        subst hx; exact hK.later (bt c1 c2)
      · simp only [exC2, List.mem_cons, List.not_mem_nil, or_false] at hs
        rcases hs with rfl | rfl <;> decide
  have H := Lib.hid (And.intro hPs (bt K.out.2.2 c3)); clear hPs K c3 B2 B3 s1 c1 c2 hK b4
  rw [hX1] at hX2
  go_wp2_with fail
  rw [← hX2]
  clear hX2 hX1 X1
  try go_at_call 10
  refine (eref_any yb yk _).mono ?_
  rintro e w5 ⟨rfl, b5⟩
  obtain ⟨X3, hX3⟩ : ∃ X3, X3 = w5.alloc (.cells (Value.string yz :: refC yb yk).toArray 62) := ⟨_, rfl⟩
  obtain ⟨X4, hX4⟩ : ∃ X4, X4 = X3.alloc (.cells #[.string yq, .bool false, .slice (some ⟨w4.heap.size + 1, 0, none⟩) 2 2, .int .i64 0, .string yk, .slice (some ⟨w5.heap.size, 0, none⟩) 1 1] 65) := ⟨_, rfl⟩
  have c1 : Below w5.heap.size w5 X3 := by rw [hX3]; exact ba _ _
  have c2 : Below X3.heap.size X3 X4 := by rw [hX4]; exact ba _ _
  have s1 : X3.heap.size = w5.heap.size + 1 := by rw [hX3]; exact World.size_alloc _ _
  have B4 : Blk X4 w5.heap.size 62 (Value.string yz :: refC yb yk).toArray := by
    have : Blk X3 w5.heap.size 62 (Value.string yz :: refC yb yk).toArray := by rw [hX3]; exact Blk.new _ _ _
    exact this.later c2
  have B5 : Blk X4 (w5.heap.size + 1) 65 #[.string yq, .bool false, .slice (some ⟨w4.heap.size + 1, 0, none⟩) 2 2, .int .i64 0, .string yk, .slice (some ⟨w5.heap.size, 0, none⟩) 1 1] := by rw [hX4, ← s1]; exact Blk.new _ _ _
  have hCX : CX (.slice (some ⟨w4.heap.size + 1, 0, none⟩) 2 2) (.slice (some ⟨w5.heap.size, 0, none⟩) 1 1) (w5.heap.size + 1) #[.string yq, .bool false, .slice (some ⟨w4.heap.size + 1, 0, none⟩) 2 2, .int .i64 0, .string yk, .slice (some ⟨w5.heap.size, 0, none⟩) 1 1] X4 := by
    refine ⟨fun by_ hs => ⟨(H.out.1 by_).later (bt b5 (bt c1 c2)), ⟨[(⟨yz, .ref yb yk⟩, nilk)], at_blkC (k := 9) (f := otF) (fun _ => rfl) _ B4 rfl (by unfold maxLen; omega) rfl, rfl, fun x hx => ?_⟩, show yq.size ≤ maxLen by decide, hs⟩, B5⟩
    simp only [List.mem_cons, List.not_mem_nil, or_false] at hx
    subst hx
    exact ⟨rfl, show yz.size ≤ maxLen by decide⟩
  have HB := Lib.hid (bt H.out.2 (bt b5 (bt c1 c2)))
  have HC := Lib.hid hCX
  clear hCX B4 B5 c1 c2 s1 b5 H
  rw [hX3] at hX4
  go_upto_region 2 with fail
  rw [← hX4]
  clear hX4 hX3 X3
  generalize w5.heap.size + 1 = q1 at *
  generalize w5.heap.size = o1 at *
  generalize w4.heap.size + 1 = p1 at *
  have K := Lib.hid (Keep.start X4 (CX (.slice (some ⟨p1, 0, none⟩) 2 2) (.slice (some ⟨o1, 0, none⟩) 1 1) q1 #[.string yq, .bool false, .slice (some ⟨p1, 0, none⟩) 2 2, .int .i64 0, .string yk, .slice (some ⟨o1, 0, none⟩) 1 1]) HC.out (fun _ _ hb h => h.later hb))
  clear HC
  go_cut [2, 3] from 18 to 139 (fun gv ev wx => ∃ (g N2 : Nat) (FA : Option Addr) (fc : Nat), gv = .pointer (some ⟨g, 0, none⟩) ∧ ev = .int .i64 0 ∧ Keep X4 wx N2 [] (fun X => CX (.slice (some ⟨p1, 0, none⟩) 2 2) (.slice (some ⟨o1, 0, none⟩) 1 1) q1 #[.string yq, .bool false, .slice (some ⟨p1, 0, none⟩) 2 2, .int .i64 0, .string yk, .slice (some ⟨o1, 0, none⟩) 1 1] X ∧ Blk X g 46 #[.string yq, .slice FA 1 fc] ∧ At X 2 fldF (.slice FA 1 fc) [(yz, 1)]))
  case first =>
    have p0 := K.out.p.b.cell
    refine wp_region_noPanic ?_
    go_region_held3 (fun w' => ∀ i, w'.cell? ⟨q1, i, none⟩ = (#[.string yq, .bool false, .slice (some ⟨p1, 0, none⟩) 2 2, .int .i64 0, .string yk, .slice (some ⟨o1, 0, none⟩) 1 1] : Array Value)[i]?) (exact (show CX (.slice (some ⟨p1, 0, none⟩) 2 2) (.slice (some ⟨o1, 0, none⟩) 1 1) q1 #[.string yq, .bool false, .slice (some ⟨p1, 0, none⟩) 2 2, .int .i64 0, .string yk, .slice (some ⟨o1, 0, none⟩) 1 1] _ by first | exact K.out.p | exact K.out.drw.p | exact (K.out.more _ _).p | exact (K.out.more _ _).drw.p | exact (K.out.dmore _ _).p | exact ((K.out.put (l1 := []) (l2 := []) 0 _).put (l1 := []) (l2 := []) 1 _).p).b.cell) (first
      | (go_at_call 14; ((with_reducible refine (streams_ex _).mono ?_); rintro e w6 ⟨sb, rfl, hS, hb⟩; have HS := Lib.hid hS; clear hS; (first | replace K := Lib.hid (K.out.go hb) | replace K := Lib.hid (K.out.drw.go hb) | replace K := Lib.hid ((K.out.more _ _).go hb) | replace K := Lib.hid ((K.out.more _ _).drw.go hb) | replace K := Lib.hid ((K.out.dmore _ _).go hb)); clear hb; (try obtain ⟨q0, q1', q2⟩ := K.out.head); (try have HQ := Lib.hid q2)))
      | (go_at_call 18; ((with_reducible refine (Check_ex _ _ _ _ (by first | exact HS.out | exact HS.out.later (below_drew (Below.refl _ _)) | exact HS.out.later (ba _ _) | exact HS.out.later (below_drew (ba _ _)) | exact HS.out.later (bt (below_drew (Below.refl _ _)) (ba _ _))) ((show CX (.slice (some ⟨p1, 0, none⟩) 2 2) (.slice (some ⟨o1, 0, none⟩) 1 1) q1 #[.string yq, .bool false, .slice (some ⟨p1, 0, none⟩) 2 2, .int .i64 0, .string yk, .slice (some ⟨o1, 0, none⟩) 1 1] _ by first | exact K.out.p | exact K.out.drw.p | exact (K.out.more _ _).p | exact (K.out.more _ _).drw.p | exact (K.out.dmore _ _).p).q yk (show yk.size ≤ maxLen by decide))).mono ?_); rintro e w7 ⟨FA, fc, rfl, hO, hb⟩; have HO := Lib.hid hO; clear hO; (first | replace K := Lib.hid (K.out.go hb) | replace K := Lib.hid (K.out.drw.go hb) | replace K := Lib.hid ((K.out.more _ _).go hb) | replace K := Lib.hid ((K.out.more _ _).drw.go hb) | replace K := Lib.hid ((K.out.dmore _ _).go hb)); clear hb; (try clear q0 q1' q2); (try obtain ⟨q0, q1', q2⟩ := K.out.head))))
    all_goals
      refine NoPanic.normal ?_
      go_wp2_with fail
      go_meet
      first
      | exact ⟨w7.heap.size, _, FA, fc, rfl, rfl, (K.out.more _ _).both (Blk.new w7 46 #[.string yq, .slice FA 1 fc]) ((HO.out.at_ (f := fldF) (k := 2) (fun _ => rfl)).later (ba _ _)) (fun _ _ hb h => h.later hb) (fun _ _ hb h => h.later hb)⟩
      | exact ⟨w6.heap.size, _, FA, fc, rfl, rfl, ((K.out.put (l1 := []) (l2 := []) 0 _).put (l1 := []) (l2 := []) 1 _).both (((K.out.put (l1 := []) (l2 := []) 0 (.string yq)).put (l1 := []) (l2 := []) 1 (.slice FA 1 fc)).blk (List.mem_cons_self ..)) (((HO.out.far (p := ⟨w6.heap.size, 0, none⟩) (by simp) _).far (p := ⟨w6.heap.size, 1, none⟩) (by simp) _).at_ (f := fldF) (k := 2) (fun _ => rfl)) (fun _ _ hb h => h.later hb) (fun _ _ hb h => h.later hb)⟩
      | exact ⟨X4.heap.size, _, FA, fc, rfl, rfl, ((K.out.put (l1 := []) (l2 := []) 0 _).put (l1 := []) (l2 := []) 1 _).both (((K.out.put (l1 := []) (l2 := []) 0 (.string yq)).put (l1 := []) (l2 := []) 1 (.slice FA 1 fc)).blk (List.mem_cons_self ..)) (((HO.out.far (p := ⟨X4.heap.size, 0, none⟩) HQ.out _).far (p := ⟨X4.heap.size, 1, none⟩) HQ.out _).at_ (f := fldF) (k := 2) (fun _ => rfl)) (fun _ _ hb h => h.later hb) (fun _ _ hb h => h.later hb)⟩
  case rest =>
    rename World => wz
    clear K
    obtain ⟨g, N2, FA, fc, rfl, rfl, hK⟩ := hcut
    have K := Lib.hid hK
    clear hK
    have k2 := ((K.out.more 65 #[.string yq, .bool false, .slice (some ⟨p1, 0, none⟩) 2 2, .int .i64 0, .string yx, .slice (some ⟨o1, 0, none⟩) 1 1]).keepRow (List.mem_cons_self ..)).weak (Q := CY (.slice (some ⟨p1, 0, none⟩) 2 2) (.slice (some ⟨o1, 0, none⟩) 1 1) q1 wz.heap.size g FA fc #[.string yq, .bool false, .slice (some ⟨p1, 0, none⟩) 2 2, .int .i64 0, .string yk, .slice (some ⟨o1, 0, none⟩) 1 1] #[.string yq, .bool false, .slice (some ⟨p1, 0, none⟩) 2 2, .int .i64 0, .string yx, .slice (some ⟨o1, 0, none⟩) 1 1]) (fun X h => ⟨h.1.1, h.1.2.1, h.1.2.2, h.2⟩) (fun _ _ hb h => h.later hb)
    have p0 := K.out.p.1.b.cell
    go_upto_region 5 with fail
    obtain ⟨X5, hX5⟩ : ∃ X5, X5 = wz.alloc (.cells #[.string yq, .bool false, .slice (some ⟨p1, 0, none⟩) 2 2, .int .i64 0, .string yx, .slice (some ⟨o1, 0, none⟩) 1 1] 65) := ⟨_, rfl⟩
    rw [← hX5] at k2 ⊢
    clear hX5 p0
    replace K := Lib.hid k2; clear k2
    generalize wz.heap.size = q2 at *
    generalize X5.heap.size = N3 at *
    go_cut [5, 6] from 38 to 139 (fun gv ev wx => ∃ N2 : Nat, ev = .int .i64 5 ∧ Keep X4 wx N2 [] (CY (.slice (some ⟨p1, 0, none⟩) 2 2) (.slice (some ⟨o1, 0, none⟩) 1 1) q1 q2 g FA fc #[.string yq, .bool false, .slice (some ⟨p1, 0, none⟩) 2 2, .int .i64 0, .string yk, .slice (some ⟨o1, 0, none⟩) 1 1] #[.string yq, .bool false, .slice (some ⟨p1, 0, none⟩) 2 2, .int .i64 0, .string yx, .slice (some ⟨o1, 0, none⟩) 1 1]))
    case first =>
      have p0 := K.out.p.b2.cell
      refine wp_region_noPanic ?_
      go_region_held3 (fun w' => ∀ i, w'.cell? ⟨q2, i, none⟩ = (#[.string yq, .bool false, .slice (some ⟨p1, 0, none⟩) 2 2, .int .i64 0, .string yx, .slice (some ⟨o1, 0, none⟩) 1 1] : Array Value)[i]?) (exact (show CY (.slice (some ⟨p1, 0, none⟩) 2 2) (.slice (some ⟨o1, 0, none⟩) 1 1) q1 q2 g FA fc #[.string yq, .bool false, .slice (some ⟨p1, 0, none⟩) 2 2, .int .i64 0, .string yk, .slice (some ⟨o1, 0, none⟩) 1 1] #[.string yq, .bool false, .slice (some ⟨p1, 0, none⟩) 2 2, .int .i64 0, .string yx, .slice (some ⟨o1, 0, none⟩) 1 1] _ by first | exact K.out.p | exact K.out.drw.p | exact (K.out.more _ _).p | exact (K.out.more _ _).drw.p | exact (K.out.dmore _ _).p | exact ((K.out.put (l1 := []) (l2 := []) 0 _).put (l1 := []) (l2 := []) 1 _).p).b2.cell) (first
        | (go_at_call 14; ((with_reducible refine (streams_ex _).mono ?_); rintro e w6 ⟨sb, rfl, hS, hb⟩; have HS := Lib.hid hS; clear hS; (first | replace K := Lib.hid (K.out.go hb) | replace K := Lib.hid (K.out.drw.go hb) | replace K := Lib.hid ((K.out.more _ _).go hb) | replace K := Lib.hid ((K.out.more _ _).drw.go hb) | replace K := Lib.hid ((K.out.dmore _ _).go hb)); clear hb; (try obtain ⟨q0, q1', q2'⟩ := K.out.head)))
        | (go_at_call 18; ((with_reducible refine (Check_err _ _ _ ls3 yx 5 _ (by first | exact HS.out | exact (HS.out.later (below_drew (Below.refl _ _))) | exact (HS.out.later (ba _ _)) | exact (HS.out.later (below_drew (ba _ _))) | exact (HS.out.later (bt (below_drew (Below.refl _ _)) (ba _ _)))) ((show CY (.slice (some ⟨p1, 0, none⟩) 2 2) (.slice (some ⟨o1, 0, none⟩) 1 1) q1 q2 g FA fc #[.string yq, .bool false, .slice (some ⟨p1, 0, none⟩) 2 2, .int .i64 0, .string yk, .slice (some ⟨o1, 0, none⟩) 1 1] #[.string yq, .bool false, .slice (some ⟨p1, 0, none⟩) 2 2, .int .i64 0, .string yx, .slice (some ⟨o1, 0, none⟩) 1 1] _ by first | exact K.out.p | exact K.out.drw.p | exact (K.out.more _ _).p | exact (K.out.more _ _).drw.p | exact (K.out.dmore _ _).p).cx.q yx (show yx.size ≤ maxLen by decide)) (by decide) ls3_ok.1 ls3_ok.2 ck2).mono ?_); rintro e w7 ⟨sN, FB, fn, fd, rfl, hb⟩; (first | replace K := Lib.hid (K.out.go hb) | replace K := Lib.hid (K.out.drw.go hb) | replace K := Lib.hid ((K.out.more _ _).go hb) | replace K := Lib.hid ((K.out.more _ _).drw.go hb) | replace K := Lib.hid ((K.out.dmore _ _).go hb)); clear hb; (try clear q0 q1' q2'); (try obtain ⟨q0, q1', q2'⟩ := K.out.head))))
      all_goals
        refine NoPanic.normal ?_
        go_wp2_with fail
        go_meet
        first
        | exact ⟨_, rfl, (K.out.more _ _).nil⟩
        | exact ⟨_, rfl, ((K.out.put (l1 := []) (l2 := []) 0 _).put (l1 := []) (l2 := []) 1 _).nil⟩
    rename_i gv wz
    try clear K
    obtain ⟨N3, rfl, hK⟩ := hcut
    have K := Lib.hid hK
    clear hK
    go_upto_region 6 with fail
    go_cut [7, 8] from 45 to 139 (fun gv ev wx => ∃ N2 : Nat, ev = .int .i64 5 ∧ Keep X4 wx N2 [] (CY (.slice (some ⟨p1, 0, none⟩) 2 2) (.slice (some ⟨o1, 0, none⟩) 1 1) q1 q2 g FA fc #[.string yq, .bool false, .slice (some ⟨p1, 0, none⟩) 2 2, .int .i64 0, .string yk, .slice (some ⟨o1, 0, none⟩) 1 1] #[.string yq, .bool false, .slice (some ⟨p1, 0, none⟩) 2 2, .int .i64 0, .string yx, .slice (some ⟨o1, 0, none⟩) 1 1]))
    case first =>
      have p0 := K.out.p.cx.b.cell
      refine wp_region_noPanic ?_
      go_region_held3 (fun w' => ∀ i, w'.cell? ⟨q1, i, none⟩ = (#[.string yq, .bool false, .slice (some ⟨p1, 0, none⟩) 2 2, .int .i64 0, .string yk, .slice (some ⟨o1, 0, none⟩) 1 1] : Array Value)[i]?) (exact (show CY (.slice (some ⟨p1, 0, none⟩) 2 2) (.slice (some ⟨o1, 0, none⟩) 1 1) q1 q2 g FA fc #[.string yq, .bool false, .slice (some ⟨p1, 0, none⟩) 2 2, .int .i64 0, .string yk, .slice (some ⟨o1, 0, none⟩) 1 1] #[.string yq, .bool false, .slice (some ⟨p1, 0, none⟩) 2 2, .int .i64 0, .string yx, .slice (some ⟨o1, 0, none⟩) 1 1] _ by first | exact K.out.p | exact K.out.drw.p | exact (K.out.more _ _).p | exact (K.out.more _ _).drw.p | exact (K.out.dmore _ _).p | exact ((K.out.put (l1 := []) (l2 := []) 0 _).put (l1 := []) (l2 := []) 1 _).p).cx.b.cell) (first
        | (go_at_call 14; ((with_reducible refine (streams_ex _).mono ?_); rintro e w6 ⟨sb, rfl, hS, hb⟩; have HS := Lib.hid hS; clear hS; (first | replace K := Lib.hid (K.out.go hb) | replace K := Lib.hid (K.out.drw.go hb) | replace K := Lib.hid ((K.out.more _ _).go hb) | replace K := Lib.hid ((K.out.more _ _).drw.go hb) | replace K := Lib.hid ((K.out.dmore _ _).go hb)); clear hb; (try obtain ⟨q0, q1', q2'⟩ := K.out.head)))
        | (go_at_call 18; ((with_reducible refine (Check_err _ _ _ [(yA, F1)] yk 5 _ (by first | exact HS.out.first1 | exact (HS.out.later (below_drew (Below.refl _ _))).first1 | exact (HS.out.later (ba _ _)).first1 | exact (HS.out.later (below_drew (ba _ _))).first1 | exact (HS.out.later (bt (below_drew (Below.refl _ _)) (ba _ _))).first1) ((show CY (.slice (some ⟨p1, 0, none⟩) 2 2) (.slice (some ⟨o1, 0, none⟩) 1 1) q1 q2 g FA fc #[.string yq, .bool false, .slice (some ⟨p1, 0, none⟩) 2 2, .int .i64 0, .string yk, .slice (some ⟨o1, 0, none⟩) 1 1] #[.string yq, .bool false, .slice (some ⟨p1, 0, none⟩) 2 2, .int .i64 0, .string yx, .slice (some ⟨o1, 0, none⟩) 1 1] _ by first | exact K.out.p | exact K.out.drw.p | exact (K.out.more _ _).p | exact (K.out.more _ _).drw.p | exact (K.out.dmore _ _).p).cx.q yk (show yk.size ≤ maxLen by decide)) (by decide) l1_ok.1 l1_ok.2 ck3).mono ?_); rintro e w7 ⟨sN, FB, fn, fd, rfl, hb⟩; (first | replace K := Lib.hid (K.out.go hb) | replace K := Lib.hid (K.out.drw.go hb) | replace K := Lib.hid ((K.out.more _ _).go hb) | replace K := Lib.hid ((K.out.more _ _).drw.go hb) | replace K := Lib.hid ((K.out.dmore _ _).go hb)); clear hb; (try clear q0 q1' q2'); (try obtain ⟨q0, q1', q2'⟩ := K.out.head))))
      all_goals
        refine NoPanic.normal ?_
        go_wp2_with fail
        go_meet
        first
        | exact ⟨_, rfl, (K.out.more _ _).nil⟩
        | exact ⟨_, rfl, ((K.out.put (l1 := []) (l2 := []) 0 _).put (l1 := []) (l2 := []) 1 _).nil⟩
    rename_i gv wz
    try clear K
    obtain ⟨N3, rfl, hK⟩ := hcut
    have K := Lib.hid hK
    clear hK
    go_upto_region 7 with fail
    go_cut [9, 10] from 52 to 139 (fun gv ev wx => ∃ N2 : Nat, ev = .int .i64 11 ∧ Keep X4 wx N2 [] (CY (.slice (some ⟨p1, 0, none⟩) 2 2) (.slice (some ⟨o1, 0, none⟩) 1 1) q1 q2 g FA fc #[.string yq, .bool false, .slice (some ⟨p1, 0, none⟩) 2 2, .int .i64 0, .string yk, .slice (some ⟨o1, 0, none⟩) 1 1] #[.string yq, .bool false, .slice (some ⟨p1, 0, none⟩) 2 2, .int .i64 0, .string yx, .slice (some ⟨o1, 0, none⟩) 1 1]))
    case first =>
      have p0 := K.out.p.cx.b.cell
      refine wp_region_noPanic ?_
      go_region_held3 (fun w' => ∀ i, w'.cell? ⟨q1, i, none⟩ = (#[.string yq, .bool false, .slice (some ⟨p1, 0, none⟩) 2 2, .int .i64 0, .string yk, .slice (some ⟨o1, 0, none⟩) 1 1] : Array Value)[i]?) (exact (show CY (.slice (some ⟨p1, 0, none⟩) 2 2) (.slice (some ⟨o1, 0, none⟩) 1 1) q1 q2 g FA fc #[.string yq, .bool false, .slice (some ⟨p1, 0, none⟩) 2 2, .int .i64 0, .string yk, .slice (some ⟨o1, 0, none⟩) 1 1] #[.string yq, .bool false, .slice (some ⟨p1, 0, none⟩) 2 2, .int .i64 0, .string yx, .slice (some ⟨o1, 0, none⟩) 1 1] _ by first | exact K.out.p | exact K.out.drw.p | exact (K.out.more _ _).p | exact (K.out.more _ _).drw.p | exact (K.out.dmore _ _).p | exact ((K.out.more _ _).more _ _).p | exact ((K.out.dmore _ _).more _ _).p | exact ((K.out.more _ _).dmore _ _).p | exact ((K.out.more _ _).more _ _).drw.p | exact ((K.out.put (l1 := []) (l2 := _) 0 _).put (l1 := []) (l2 := _) 1 _).p | exact ((K.out.put (l1 := [_]) (l2 := []) 0 _).put (l1 := [_]) (l2 := []) 1 _).p).cx.b.cell) (first
        | (go_at_call 14; ((with_reducible refine (streams_ex _).mono ?_); rintro e w6 ⟨sb, rfl, hS, hb⟩; have HS := Lib.hid hS; clear hS; (first | replace K := Lib.hid (K.out.go hb) | replace K := Lib.hid (K.out.drw.go hb) | replace K := Lib.hid ((K.out.more _ _).go hb) | replace K := Lib.hid ((K.out.more _ _).drw.go hb) | replace K := Lib.hid ((K.out.dmore _ _).go hb) | replace K := Lib.hid (((K.out.more _ _).more _ _).go hb) | replace K := Lib.hid (((K.out.dmore _ _).more _ _).go hb) | replace K := Lib.hid (((K.out.more _ _).dmore _ _).go hb) | replace K := Lib.hid (((K.out.more _ _).more _ _).drw.go hb)); clear hb; (try simp only [World.size_alloc, World.size_drew] at K); (try clear q0 q1' q2'); (try clear s0 s1 s2); (try obtain ⟨q0, q1', q2'⟩ := K.out.head); (try obtain ⟨s0, s1, s2⟩ := K.out.cells2)))
        | (go_at_call 18; ((with_reducible refine (Check_err _ _ _ (ls3 ++ [(yq, [])]) yk 11 _ (H4.out.later (by with_reducible repeat first | exact Below.refl _ _ | refine below_drew ?_ | refine bt ?_ (ba _ _))) ((show CY (.slice (some ⟨p1, 0, none⟩) 2 2) (.slice (some ⟨o1, 0, none⟩) 1 1) q1 q2 g FA fc #[.string yq, .bool false, .slice (some ⟨p1, 0, none⟩) 2 2, .int .i64 0, .string yk, .slice (some ⟨o1, 0, none⟩) 1 1] #[.string yq, .bool false, .slice (some ⟨p1, 0, none⟩) 2 2, .int .i64 0, .string yx, .slice (some ⟨o1, 0, none⟩) 1 1] _ by first | exact K.out.p | exact K.out.drw.p | exact (K.out.more _ _).p | exact (K.out.more _ _).drw.p | exact (K.out.dmore _ _).p | exact ((K.out.more _ _).more _ _).p | exact ((K.out.dmore _ _).more _ _).p | exact ((K.out.more _ _).dmore _ _).p | exact ((K.out.more _ _).more _ _).drw.p | exact ((K.out.put (l1 := []) (l2 := _) 0 _).put (l1 := []) (l2 := _) 1 _).p | exact ((K.out.put (l1 := [_]) (l2 := []) 0 _).put (l1 := [_]) (l2 := []) 1 _).p).cx.q yk (show yk.size ≤ maxLen by decide)) l4_ok.1 l4_ok.2.1 l4_ok.2.2 ck4).mono ?_); rintro e w7 ⟨sN, FB, fn, fd, rfl, hb⟩; (first | replace K := Lib.hid (K.out.go hb) | replace K := Lib.hid (K.out.drw.go hb) | replace K := Lib.hid ((K.out.more _ _).go hb) | replace K := Lib.hid ((K.out.more _ _).drw.go hb) | replace K := Lib.hid ((K.out.dmore _ _).go hb) | replace K := Lib.hid (((K.out.more _ _).more _ _).go hb) | replace K := Lib.hid (((K.out.dmore _ _).more _ _).go hb) | replace K := Lib.hid (((K.out.more _ _).dmore _ _).go hb) | replace K := Lib.hid (((K.out.more _ _).more _ _).drw.go hb)); clear hb; (try simp only [World.size_alloc, World.size_drew] at K); (try clear q0 q1' q2'); (try clear s0 s1 s2); (try obtain ⟨q0, q1', q2'⟩ := K.out.head); (try obtain ⟨s0, s1, s2⟩ := K.out.cells2)))
        | ((refine step_appS rfl (.tmp 53) (.tmp 55) 44 rfl Try.underlying44 _ rfl (HS.out.later (by with_reducible repeat first | exact Below.refl _ _ | refine below_drew ?_ | refine bt ?_ (ba _ _))) _ rfl (by first | (have h := Blk.new (w6.alloc (.cells #[.string ⟨#[]⟩, .slice none 0 0] 46)) 46 #[.string yq, .slice none 0 0]; simp only [World.size_alloc, World.size_drew] at h; exact h) | (have h := Blk.new (w6.drew.alloc (.cells #[.string ⟨#[]⟩, .slice none 0 0] 46)) 46 #[.string yq, .slice none 0 0]; simp only [World.size_alloc, World.size_drew] at h; exact h) | exact K.out.blk (List.mem_cons_self ..) | exact K.out.second | exact (K.out.more _ _).blk (List.mem_cons_self ..) | exact (K.out.more _ _).second | exact (K.out.more _ _).drw.blk (List.mem_cons_self ..) | exact (K.out.more _ _).drw.second | exact (K.out.dmore _ _).blk (List.mem_cons_self ..) | exact (K.out.dmore _ _).second | exact ((K.out.more _ _).more _ _).blk (List.mem_cons_self ..) | exact ((K.out.more _ _).more _ _).second | exact ((K.out.dmore _ _).more _ _).blk (List.mem_cons_self ..) | exact ((K.out.dmore _ _).more _ _).second | exact ((K.out.more _ _).dmore _ _).blk (List.mem_cons_self ..) | exact ((K.out.more _ _).dmore _ _).second | exact ((K.out.more _ _).more _ _).drw.blk (List.mem_cons_self ..) | exact ((K.out.more _ _).more _ _).drw.second) ?_; rintro v5 w5 ⟨A4, c4, rfl, h4⟩ hb; have H4 := Lib.hid h4; clear h4; (first | replace K := Lib.hid (K.out.go hb) | replace K := Lib.hid (K.out.drw.go hb) | replace K := Lib.hid ((K.out.more _ _).go hb) | replace K := Lib.hid ((K.out.more _ _).drw.go hb) | replace K := Lib.hid ((K.out.dmore _ _).go hb) | replace K := Lib.hid (((K.out.more _ _).more _ _).go hb) | replace K := Lib.hid (((K.out.dmore _ _).more _ _).go hb) | replace K := Lib.hid (((K.out.more _ _).dmore _ _).go hb) | replace K := Lib.hid (((K.out.more _ _).more _ _).drw.go hb)); clear hb; (try simp only [World.size_alloc, World.size_drew] at K); (try clear q0 q1' q2'); (try clear s0 s1 s2); (try obtain ⟨q0, q1', q2'⟩ := K.out.head); (try obtain ⟨s0, s1, s2⟩ := K.out.cells2))))
      all_goals
        refine NoPanic.normal ?_
        go_wp2_with fail
        go_meet
        first
        | exact ⟨_, rfl, (K.out.more _ _).nil⟩
        | exact ⟨_, rfl, ((K.out.put (l1 := []) (l2 := _) 0 _).put (l1 := []) (l2 := _) 1 _).nil⟩
        | exact ⟨_, rfl, ((K.out.put (l1 := [_]) (l2 := []) 0 _).put (l1 := [_]) (l2 := []) 1 _).nil⟩
    rename_i gv7 wz7
    try clear K
    obtain ⟨N3, rfl, hK⟩ := hcut
    have K := Lib.hid hK
    clear hK
    go_wp2_with fail
    try go_at_call 18
    refine (Check_nil _).mono ?_
    rintro e w8 ⟨sN, FB, fn, fd, rfl, hb⟩
    replace K := Lib.hid ((K.out.go hb).go (ba w8 (.cells #[.string sN, .slice FB fn fd] 46))); clear hb
    go_wp2_with fail
    try go_at_call 14
    refine (streams_ex _).mono ?_
    rintro e w9 ⟨sb, rfl, hS, hb⟩
    replace K := Lib.hid (K.out.go hb); clear hb
    go_wp2_with fail
    try go_at_call 12
    refine (Common_any _ ls3 _ hS (by decide) ls3_ok.1).mono ?_
    rintro e w10 ⟨rv, ⟨rfl, hO⟩, hb⟩
    rw [ck6] at hO
    obtain ⟨RA, rc, hr, _, _, _⟩ := hO.shape
    change rv = .slice RA 1 rc at hr
    subst hr
    obtain ⟨ra, rfl, hrc⟩ := (hO.at_ (f := fldF) (k := 2) (fun _ => rfl)).cells rfl (by decide)
    have r0 : w10.cell? (ra.add (0 * 2)) = some (.string yk) := (hrc.row2 0 (by decide) rfl).1
    replace K := Lib.hid ((K.out.go hb).and (Q := fun X => X.cell? (ra.add (0 * 2)) = some (.string yk)) r0 (fun A B hb h => by rw [hb.cell (World.block_lt_of_cell? A _ h)]; exact h)); clear hb hO hrc hS r0
    go_wp2_with fail
    try go_at_call 19
    refine (lit_any 1 _).mono ?_
    rintro e w11 ⟨rfl, hb⟩
    replace K := Lib.hid (K.out.go hb); clear hb
    go_wp2_with fail
    try go_at_call 19
    refine (lit_any 2 _).mono ?_
    rintro e w12 ⟨rfl, hb⟩
    replace K := Lib.hid (K.out.go hb); clear hb
    go_wp2_with fail
    try go_at_call 9
    refine (two_tr ⟨#[43]⟩ (.lit 1 1 e0) (.lit 1 2 e0) nilk nilk _ rfl rfl).mono ?_
    rintro e w13 ⟨⟨KV, rfl, hK⟩, hb⟩
    replace K := Lib.hid (K.out.go hb); clear hb
    go_wp2_with fail
    try go_at_call 8
    refine (Kind_any (.bin ⟨#[43]⟩ (.lit 1 1 e0) (.lit 1 2 e0)) KV nilk [] _ hK (by decide +kernel) (snil _) (by decide) (fun x hx => by simp at hx)).mono ?_
    rintro e w14 ⟨rfl, hb⟩
    rw [ck7]
    replace K := Lib.hid (K.out.go hb); clear hb hK
    go_wp2_with fail
    try go_at_call 10
    refine (eref_any ya yx _).mono ?_
    rintro e w15 ⟨rfl, hb⟩
    replace K := Lib.hid (K.out.go hb); clear hb
    go_wp2_with fail
    try go_at_call 8
    refine (Kind_any (.ref ya yx) nilk nilk [] _ rfl (by decide +kernel) (snil _) (by decide) (fun x hx => by simp at hx)).mono ?_
    rintro e w16 ⟨rfl, hb⟩
    rw [ck8]
    replace K := Lib.hid (K.out.go hb); clear hb
    have g0 := K.out.p.1.bg.cell
    have za : ∀ b : Addr, b.add (0 * 2) = b := fun b => by rw [Nat.zero_mul]; unfold Addr.add; split <;> simp_all
    have r0 : w16.cell? ra = some (.string yk) := by have := K.out.p.2; rw [za] at this; exact this
    obtain ⟨fa, rfl, hfc⟩ := K.out.p.1.fs.cells rfl (by decide)
    obtain ⟨f0', f1'⟩ := hfc.row2 0 (by decide) rfl
    rw [za] at f0' f1'
    have f0 : w16.cell? fa = some (.string yz) := f0'
    have f1 : w16.cell? ⟨fa.block, fa.off + 1, none⟩ = some (.int .i64 1) := f1'
    clear hfc f0' f1' za
    go_wp2_with fail
    go_ret
    exact ⟨rfl, bt HB.out K.out.bel⟩
end Go.Proofs.Ytkmboffbohndjaa
