/- Contracts of package stream: what is right. -/
import Derived.Test.YtkmboffbohndjaaStrmM
namespace Go.Proofs.Ytkmboffbohndjaa
open Go.ChangeShapes Go.WideShapes Go.ChangeAt Go.RowKit
set_option linter.unusedVariables false
set_option linter.unusedSimpArgs false

theorem wpList_mapUpdate_metF (w : World) {ops : Array Oper} {rest : List Oper} {o : Oper} {a : Act} {Q : Exit → Act → World → Prop}
    (hg : o.guard = none) (m x v : Operand) (hop : o.op = Op.mapUpdate 100 m x v)
    (b n : Nat) (l : List Fld) (hm : a.eval m = .map (some b)) (hown : MetAt w b n l) (hn : n < maxLen) (s : ByteArray) (k : Int) (hx : a.eval x = .agg #[.string s, .int .i64 k]) (hv : a.eval v = .bool true) (hs : s.size ≤ maxLen) (hk : (Lit.int .i64 k).wf = true)
    (hK : ∀ w', MetAt w' b (n + 1) ((s, k) :: l) → w.grownBy w' (some b) → wpList Try.prog ops Q rest (a.put o.dst undef) w') :
    wpList Try.prog ops Q (o :: rest) a w := by
  refine wpList_plain hg fun K' hK' => ?_
  obtain ⟨w', hrun, r1, r2⟩ := hown.put hn hs hk
  unfold Oper.wp
  simp [execOp, hop, hm, hx, hv, hrun, Result.andThen]
  exact hK' _ _ (hK w' r1 r2)

def hasB (l : List Fld) (s : ByteArray) : Bool := l.any fun y => isN s y.1
theorem hasB_iff {l : List Fld} (h : ∀ x ∈ l, 1 ≤ x.2 ∧ x.2 ≤ 3) (s : ByteArray) : hasB l s = true ↔ ((s, 1) ∈ l ∨ (s, 2) ∈ l ∨ (s, 3) ∈ l) := by
  unfold hasB isN
  rw [List.any_eq_true]
  constructor
  · rintro ⟨⟨y, k⟩, hy, e⟩
    have : y = s := toList_inj (by simpa using e)
    subst this
    obtain ⟨a, b⟩ := h _ hy
    simp only at a b
    rcases (by omega : k = 1 ∨ k = 2 ∨ k = 3) with rfl | rfl | rfl
    · exact Or.inl hy
    · exact Or.inr (Or.inl hy)
    · exact Or.inr (Or.inr hy)
  · rintro (h | h | h)
    · exact ⟨_, h, by simp⟩
    · exact ⟨_, h, by simp⟩
    · exact ⟨_, h, by simp⟩
theorem isMet_any (b n : Nat) (l : List Fld) (s : ByteArray) (w : World) (hm : MetAt w b n l) (hs : s.size ≤ maxLen) (hl : ∀ x ∈ l, 1 ≤ x.2 ∧ x.2 ≤ 3) :
    Calls Try.prog 47 #[.map (some b), .string s] w fun e w' => e = .returned (.bool (hasB l s)) ∧ w = w' := by
  obtain ⟨B1, r1, e1⟩ := hm.look hs (k := 1) (by decide)
  obtain ⟨B2, r2, e2⟩ := hm.look hs (k := 2) (by decide)
  obtain ⟨B3, r3, e3⟩ := hm.look hs (k := 3) (by decide)
  have hB : hasB l s = (B1 || B2 || B3) := by
    rw [Bool.eq_iff_iff, hasB_iff hl, ← e1, ← e2, ← e3]
    simp [or_assoc]
  rw [hB]
  clear hB e1 e2 e3 hm hl
  cases B1 <;> cases B2 <;> cases B3
  all_goals
    go_enter Try.func47, Try.ntmps47
    go_wp2
    go_ret
    exact ⟨rfl, rfl⟩

/-- What is wrong with fields, where some are met. -/
def errF : List Fld → List Fld → Int
  | _, [] => 0
  | met, (s, k) :: r => if nameB s = false then 5 else if ¬ (1 ≤ k ∧ k ≤ 3) then 6 else if hasB met s = true then 11 else errF ((s, k) :: met) r
def rightN (n : ByteArray) (l : List Fld) : Int := if nameB n = false then 5 else if 6 < l.length then 4 else errF [] l
theorem kindL_q (k : Int) : ((kindL k).toList == [63]) = !(decide (1 ≤ k) && decide (k ≤ 3)) := by
  unfold kindL
  rcases (by omega : k = 1 ∨ k = 2 ∨ k = 3 ∨ (k ≠ 1 ∧ k ≠ 2 ∧ k ≠ 3)) with rfl | rfl | rfl | ⟨h1, h2, h3⟩
  · show ((⟨#[105, 110, 116]⟩ : ByteArray).toList == [63]) = _
    rw [Lib.toList_data]; rfl
  · show ((⟨#[98, 111, 111, 108]⟩ : ByteArray).toList == [63]) = _
    rw [Lib.toList_data]; rfl
  · show ((⟨#[116, 101, 120, 116]⟩ : ByteArray).toList == [63]) = _
    rw [Lib.toList_data]; rfl
  · rw [if_neg h1, if_neg h2, if_neg h3]
    have : (decide (1 ≤ k) && decide (k ≤ 3)) = false := by
      by_cases h : 1 ≤ k
      · rw [decide_eq_false (show ¬ k ≤ 3 by omega)]; simp
      · rw [decide_eq_false h]; rfl
    rw [this, Lib.toList_data]; rfl
theorem kindL_not {k : Int} (h : ¬ (1 ≤ k ∧ k ≤ 3)) : kindL k = ⟨#[63]⟩ := by
  unfold kindL; rw [if_neg (by omega), if_neg (by omega), if_neg (by omega)]
theorem kindL_ne {k : Int} (h : 1 ≤ k ∧ k ≤ 3) : ¬ (kindL k).toList = [63] ∧ ((kindL k).toList == [63]) = false := by
  have h2 := kindL_q k
  rw [decide_eq_true h.1, decide_eq_true h.2] at h2
  exact ⟨by simpa using h2, h2⟩
set_option maxRecDepth 20000 in
theorem RightSt_any (n : ByteArray) (v : Value) (l : List Fld) (w : World) (hv : RowsAt rowF w v l) (hn : n.size ≤ maxLen) (hs : ∀ x ∈ l, x.1.size ≤ maxLen ∧ (Lit.int .i64 x.2).wf = true) :
    Calls Try.prog 36 #[.agg #[.string n, v]] w fun e w' => e = .returned (.int .i64 (rightN n l)) ∧ Below w.heap.size w w' := by
  have cN := fun W => IsName_any n W hn
  obtain ⟨A, cap, rfl, h1, h2, h3⟩ := hv
  have hm : l.length ≤ 9223372036854775807 := by unfold maxLen at h2; omega
  have hmm := @run_makeMap Try.prog
  rcases hN : nameB n with _ | _
  · rw [hN] at cN
    have e : rightN n l = 5 := by unfold rightN; rw [if_pos hN]
    rw [e]
    clear h3
    have H := Lib.hid cN; clear cN hN e
    go_enter Try.func36, Try.ntmps36
    go_wp2_with (go_at_call 37; ((with_reducible refine (H.out _).mono ?_); rintro e w1 ⟨rfl, rfl⟩))
    go_ret
    exact ⟨rfl, ba _ _⟩
  rw [hN] at cN
  by_cases h6 : 6 < l.length
  · have e : rightN n l = 4 := by unfold rightN; rw [if_neg (by rw [hN]; simp), if_pos h6]
    rw [e]
    clear h3
    have H := Lib.hid cN; clear cN hN e
    go_enter Try.func36, Try.ntmps36
    go_wp2_with (go_at_call 37; ((with_reducible refine (H.out _).mono ?_); rintro e w1 ⟨rfl, rfl⟩))
    go_ret
    exact ⟨rfl, ba _ _⟩
  have e : rightN n l = errF [] l := by unfold rightN; rw [if_neg (by rw [hN]; simp), if_neg h6]
  rw [e]
  have hM0 := MetAt.made (w.alloc (.cells #[.string n, .slice A l.length cap] 46))
  rw [show (w.alloc (.cells #[.string n, .slice A l.length cap] 46)).heap.size = w.heap.size + 1 by simp] at hM0
  have hB0 := bt (ba w (.cells #[.string n, .slice A l.length cap] 46)) (ba _ (.map #[] 0))
  have H := Lib.hid (And.intro cN (And.intro hs (And.intro h3 (And.intro hM0 hB0)))); clear cN hN e h3 hs hM0 hB0
  go_enter Try.func36, Try.ntmps36
  go_wp2_with (go_at_call 37; ((with_reducible refine (H.out.1 _).mono ?_); rintro e w1 ⟨rfl, rfl⟩))
  go_loopw [18] (fun i wr => ∃ (k : Nat) (met : List Fld), k ≤ l.length ∧ i = .int .i64 k ∧ errF [] l = errF met (l.drop k) ∧ (∀ x ∈ met, 1 ≤ x.2 ∧ x.2 ≤ 3) ∧ MetAt wr (w.heap.size + 1) k met ∧ Below w.heap.size w wr) (fun i _ => l.length - (intOf i).toNat)
  case atStart => exact ⟨0, [], Nat.zero_le _, rfl, rfl, by simp, H.out.2.2.2.1, H.out.2.2.2.2⟩
  case round =>
    obtain ⟨k, met, hk, rfl, he, hkd, hM, hb⟩ := hrel
    by_cases hlt : k < l.length
    · obtain ⟨a, rfl, hc⟩ := H.out.2.2.1 (by omega)
      obtain ⟨c0, c1⟩ := (hc k hlt).later hb
      obtain ⟨hsz, hwf⟩ := H.out.2.1 _ (List.getElem_mem hlt)
      have hd : errF met (l.drop k) = if nameB (l[k]'hlt).1 = false then 5 else if ¬ (1 ≤ (l[k]'hlt).2 ∧ (l[k]'hlt).2 ≤ 3) then 6 else if hasB met (l[k]'hlt).1 = true then 11 else errF (((l[k]'hlt).1, (l[k]'hlt).2) :: met) (l.drop (k + 1)) := by
        rw [List.drop_eq_getElem_cons hlt]; rfl
      clear hc
      generalize (l[k]'hlt).1 = s at *
      generalize (l[k]'hlt).2 = y at *
      have cN := fun W => IsName_any s W hsz
      have cK := fun W => kindName_any y W
      have cM := fun W (h : MetAt W (w.heap.size + 1) k met) => isMet_any _ k met s W h hsz hkd
      have hM1 := hM.later (ba wr (.cells #[.string s, .int .i64 y] 26))
      have hb1 := bt hb (ba wr (.cells #[.string s, .int .i64 y] 26))
      rcases hN : nameB s with _ | _
      · rw [hN] at cN
        have HC := Lib.hid (And.intro cN (And.intro hb1 (show errF [] l = 5 by rw [he, hd, if_pos hN]))); clear cN cK cM hM1 hb1 hM hb hkd he hd hN
        go_wp2_with (go_at_call 37; ((with_reducible refine (HC.out.1 _).mono ?_); rintro e w1 ⟨rfl, rfl⟩))
        go_ret
        exact ⟨by rw [HC.out.2.2]; rfl, HC.out.2.1⟩
      rw [hN] at cN
      by_cases hy : 1 ≤ y ∧ y ≤ 3
      · obtain ⟨q1, q2⟩ := kindL_ne hy
        rcases hH : hasB met s with _ | _
        · rw [hH] at cM
          have hkd' : ∀ x ∈ (s, y) :: met, 1 ≤ x.2 ∧ x.2 ≤ 3 := fun x hx => by
            rcases List.mem_cons.1 hx with rfl | hx
            · exact hy
            · exact hkd x hx
          have HC := Lib.hid (And.intro cN (And.intro cK (And.intro (cM _ hM1) (And.intro hb1 (And.intro hkd' (And.intro hM1 (And.intro hsz (And.intro hwf (show errF [] l = errF ((s, y) :: met) (l.drop (k + 1)) by rw [he, hd, hN, hH, if_neg (by simp), if_neg (by simpa using hy), if_neg (by simp)])))))))))
          clear cN cK cM hM1 hb1 hM hb hkd he hd hN hkd' hsz hwf hH hy
          generalize kindL y = kl at *
          go_wp2_with (first
            | (go_at_call 37; ((with_reducible refine (HC.out.1 _).mono ?_); rintro e w1 ⟨rfl, rfl⟩))
            | (go_at_call 46; ((with_reducible refine (HC.out.2.1 _).mono ?_); rintro e w1 ⟨rfl, rfl⟩))
            | (go_at_call 47; ((with_reducible refine (HC.out.2.2.1).mono ?_); rintro e w1 ⟨rfl, rfl⟩))
            | (at_mapUpdate; refine wpList_mapUpdate_metF _ rfl _ _ _ rfl (w.heap.size + 1) k met rfl HC.out.2.2.2.2.2.1 (by unfold maxLen; omega) s y rfl rfl HC.out.2.2.2.2.2.2.1 HC.out.2.2.2.2.2.2.2.1 ?_; intro w1 hown1 hgrow1))
          go_roundw
          case rel => exact ⟨k + 1, _, by omega, by go_num, HC.out.2.2.2.2.2.2.2.2, HC.out.2.2.2.2.1, hown1, HC.out.2.2.2.1.trans (grownBy_below hgrow1 HC.out.2.2.2.1.size (fun j hj => by cases hj; omega))⟩
          case measure => simp [intOf]; omega
        · rw [hH] at cM
          have HC := Lib.hid (And.intro cN (And.intro cK (And.intro (cM _ hM1) (And.intro hb1 (show errF [] l = 11 by rw [he, hd, if_neg (by rw [hN]; simp), if_neg (by simpa using hy), if_pos hH])))))
          clear cN cK cM hM1 hb1 hM hb hkd he hd hN hsz hwf hH hy
          generalize kindL y = kl at *
          go_wp2_with (first
            | (go_at_call 37; ((with_reducible refine (HC.out.1 _).mono ?_); rintro e w1 ⟨rfl, rfl⟩))
            | (go_at_call 46; ((with_reducible refine (HC.out.2.1 _).mono ?_); rintro e w1 ⟨rfl, rfl⟩))
            | (go_at_call 47; ((with_reducible refine (HC.out.2.2.1).mono ?_); rintro e w1 ⟨rfl, rfl⟩)))
          go_ret
          exact ⟨by rw [HC.out.2.2.2.2]; rfl, HC.out.2.2.2.1⟩
      · rw [kindL_not hy] at cK
        have HC := Lib.hid (And.intro cN (And.intro cK (And.intro hb1 (show errF [] l = 6 by rw [he, hd, if_neg (by rw [hN]; simp), if_pos hy])))); clear cN cK cM hM1 hb1 hM hb hkd he hd hN hy
        go_wp2_with (first
          | (go_at_call 37; ((with_reducible refine (HC.out.1 _).mono ?_); rintro e w1 ⟨rfl, rfl⟩))
          | (go_at_call 46; ((with_reducible refine (HC.out.2.1 _).mono ?_); rintro e w1 ⟨rfl, rfl⟩)))
        go_ret
        exact ⟨by rw [HC.out.2.2.2]; rfl, HC.out.2.2.1⟩
    · have hE : errF [] l = 0 := by rw [he, List.drop_eq_nil_of_le (by omega)]; cases met <;> rfl
      have HE := Lib.hid (And.intro hE hb); clear hE he hM hb hkd
      go_wp2
      go_ret
      exact ⟨by rw [HE.out.1]; rfl, HE.out.2⟩
end Go.Proofs.Ytkmboffbohndjaa
