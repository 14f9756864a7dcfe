/- ExprNames: the walk. -/
import Derived.Test.YtfkcjlpocfjmdaaDoorEx07
import Derived.Deep.DeepCutAuto
namespace Go.Proofs.YtfkcjlpocfjmdaaDoor
open Go.ChangeShapes Go.WideShapes Go.ChangeAt Go.RowKit
open Rk (inR)
set_option linter.unusedVariables false
set_option linter.unusedSimpArgs false

theorem aloneC (v : ByteArray) : aloneB 2 e0 0 0 e0 v e0 0 = nameB v := by
  unfold aloneB
  rw [if_neg (by decide), if_neg (by decide), if_pos rfl, show z5 e0 0 0 e0 e0 e0 = true by kernel_rfl]; simp
theorem aloneR (v f : ByteArray) : aloneB 1 e0 0 0 e0 v f 0 = (nameB v && nameB f) := by
  unfold aloneB
  rw [if_neg (by decide), if_pos rfl, show z5 e0 0 0 e0 e0 e0 = true by kernel_rfl]; simp
theorem Right_cnt (v : ByteArray) (b : Bool) (hb : nameB v = b) (w : World) (hv : v.size ≤ maxLen) : Calls Tryd.prog 12 #[ev 2 e0 0 0 e0 v e0 nilk] w fun e w' => e = .returned (.bool b) ∧ Below w.heap.size w w' := by
  have := Right_leaf 2 e0 0 0 e0 v e0 w (by decide) hv (by decide); rwa [aloneC, hb] at this
theorem Right_ref (v f : ByteArray) (b : Bool) (hb : (nameB v && nameB f) = b) (w : World) (hv : v.size ≤ maxLen) (hf : f.size ≤ maxLen) : Calls Tryd.prog 12 #[ev 1 e0 0 0 e0 v f nilk] w fun e w' => e = .returned (.bool b) ∧ Below w.heap.size w w' := by
  have := Right_leaf 1 e0 0 0 e0 v f w (by decide) hv hf; rwa [aloneR, hb] at this
theorem cat_list (a b : ByteArray) : (a ++ b).toList = a.toList ++ b.toList := by rw [Lib.toList_data, Lib.toList_data, Lib.toList_data]; simp
theorem put_cnt (v : ByteArray) : (⟨(putT (.cnt v)).toArray⟩ : ByteArray) = ⟨#[35]⟩ ++ v := by
  refine toList_inj ?_
  rw [cat_list, Lib.toList_data]; simp [putT, Lib.toList_data]
theorem put_ref (v f : ByteArray) : (⟨(putT (.ref v f)).toArray⟩ : ByteArray) = v ++ ⟨#[46]⟩ ++ f := by
  refine toList_inj ?_
  rw [cat_list, cat_list, Lib.toList_data]; simp [putT, Lib.toList_data]
theorem Put_cnt (v : ByteArray) (w : World) (h : nameB v = true) (hT : Tab w) : Calls Tryd.prog 13 #[ev 2 e0 0 0 e0 v e0 nilk] w fun e w' => e = .returned (.string (⟨#[35]⟩ ++ v)) ∧ Below w.heap.size w w' :=
  Put_v (t := .cnt v) rfl (put_cnt v) w rfl h trivial (by unfold nameB at h; simp only [Bool.and_eq_true, decide_eq_true_eq] at h; rw [Tr.len]; omega) hT
theorem Put_ref (v f : ByteArray) (w : World) (h : nameB v = true) (h' : nameB f = true) (hT : Tab w) : Calls Tryd.prog 13 #[ev 1 e0 0 0 e0 v f nilk] w fun e w' => e = .returned (.string (v ++ ⟨#[46]⟩ ++ f)) ∧ Below w.heap.size w w' :=
  Put_v (t := .ref v f) rfl (put_ref v f) w rfl (by unfold Tr.ok; rw [h, h']; rfl) trivial (by unfold nameB at h h'; simp only [Bool.and_eq_true, decide_eq_true_eq] at h h'; rw [Tr.len]; omega) hT
abbrev CR (v f : ByteArray) : Array Value := #[.int .i64 1, .string ⟨#[]⟩, .int .i64 0, .int .i64 0, .string ⟨#[]⟩, .string v, .string f, .slice none 0 0]
abbrev CC (v : ByteArray) : Array Value := #[.int .i64 2, .string ⟨#[]⟩, .int .i64 0, .int .i64 0, .string ⟨#[]⟩, .string v, .string ⟨#[]⟩, .slice none 0 0]
set_option maxRecDepth 20000 in
set_option maxHeartbeats 4000000 in
theorem walk_ExprNames (nm fl : ByteArray) (a : Int) (hn : nm.size ≤ 140737488351232) (hf : fl.size ≤ 140737488351232) (a0 : 0 ≤ a) (a1 : a ≤ 255) (w : World) (hT : Tab w) :
    Calls Tryd.prog 8 #[.string nm, .string fl, .int .u8 a] w fun e w' => e = .returned (.bool true) ∧ Below w.heap.size w w' := by
  have K := Lib.hid (Keep.start w (fun X => Tab X) hT (fun _ _ hb h => h.later hb))
  clear hT
  go_enter Tryd.func8, Tryd.ntmps8
  go_wp2_with fail
  go_at_call 9
  refine (examples_any _ K.out.p).mono ?_
  rintro e w1 ⟨rfl, hb⟩
  replace K := Lib.hid (K.out.go hb); clear hb
  go_upto_if 18 with fail
  go_cut [0] (fun nv wx => ∃ v : ByteArray, nv = .string v ∧ v.size ≤ 140737488351232 ∧ Keep w wx w.heap.size [] (fun X => Tab X))
  case first =>
    rcases (by omega : a % 3 = 0 ∨ (¬ a % 3 = 0)) with h3 | h3
    · rcases (by omega : a / 3 % 5 = 0 ∨ a / 3 % 5 = 1 ∨ a / 3 % 5 = 2 ∨ a / 3 % 5 = 3 ∨ a / 3 % 5 = 4) with h5 | h5 | h5 | h5 | h5
      all_goals
        go_wp2_with fail
        go_meet
        exact ⟨_, rfl, by decide, K.out.go (ba _ _)⟩
    · have h3' : (a % 3 == 0) = false := by simpa using h3
      go_wp2_with fail
      go_meet
      exact ⟨_, rfl, hn, K.out⟩
  case rest =>
    obtain ⟨v, rfl, hv, hK⟩ := hcut
    clear K hn
    have K := Lib.hid hK; clear hK
    replace K := Lib.hid ((((K.out.more 26 (CR v fl)).keepRow (List.mem_cons_self ..)).more 26 (CC v)).keepRow (List.mem_cons_self ..))
    simp only [World.size_alloc] at K
    have hcat1 : ¬ 9223372036854775807 < 1 + v.size := by omega
    have hvm : v.size ≤ maxLen := by unfold maxLen; omega
    have hfm : fl.size ≤ maxLen := by unfold maxLen; omega
    have CN := fun (b : Bool) (h : nameB v = b) X => Right_cnt v b h X hvm
    have CP := fun (b : Bool) (h : (nameB ⟨#[97]⟩ && nameB fl) = b) X => Right_ref ⟨#[97]⟩ fl b h X (by decide) hfm
    have CQ := fun (b : Bool) (h : (nameB v && nameB fl) = b) X => Right_ref v fl b h X hvm hfm
    have CV := fun X => Vars_v (t := .ref v fl) (K := nilk) rfl X rfl hvm (by show 1 * 16 ≤ 140737488355328; decide)
    have hA : nameB ⟨#[97]⟩ = true := by kernel_rfl
    have h9 : nameB ⟨#[57]⟩ = false := by kernel_rfl
    have C9 := fun X => Right_cnt ⟨#[57]⟩ false h9 X (by decide)
    rw [hA] at CP
    have D := Lib.hid (And.intro CN (And.intro CP (And.intro CQ (And.intro CV C9)))); clear CN CP CQ CV C9 hA h9 hvm hfm
    go_wp2_with fail
    generalize World.alloc _ _ = w7 at *
    generalize hg1 : wc.heap.size = g1 at *
    generalize hg2 : g1 + 1 = g2 at *
    clear hg1 hg2
    obtain ⟨B, hB, hB2⟩ : ∃ B, B = (nameB v && nameB fl) ∧ (nameB v && nameB fl) = B := ⟨_, rfl, rfl⟩
    have HB := Lib.hid hB2; clear hB2
    cases hN : nameB v <;> cases hF : nameB fl
    all_goals
      rw [hN, hF] at hB
      simp only [Bool.and_true, Bool.and_false, Bool.true_and, Bool.false_and] at hB
      subst hB
      have HN := Lib.hid hN; clear hN
      have HF := Lib.hid hF; clear hF
      go_at_call 12
      refine (D.out.1 _ HN.out _).mono ?_
      rintro e w8 ⟨rfl, hb⟩
      replace K := Lib.hid (K.out.go hb); clear hb
      go_wp2_with fail
      go_at_call 12
      refine (D.out.2.1 _ HF.out _).mono ?_
      rintro e w9 ⟨rfl, hb⟩
      replace K := Lib.hid (K.out.go hb); clear hb
      have q1 : ∀ j, w9.cell? ⟨g1, j, none⟩ = (CR v fl : Array Value)[j]? := K.out.p.1.2.cell
      have q2 : ∀ j, w9.cell? ⟨g2, j, none⟩ = (CC v : Array Value)[j]? := K.out.p.2.cell
      go_wp2_with (first
        | (go_at_call 13; ((with_reducible refine (Put_cnt _ _ HN.out K.out.p.1.1).mono ?_); rintro e w8 ⟨rfl, hb⟩; replace K := Lib.hid (K.out.go hb); clear hb q1 q2; have q1 : ∀ j, w8.cell? ⟨g1, j, none⟩ = (CR v fl : Array Value)[j]? := K.out.p.1.2.cell; have q2 : ∀ j, w8.cell? ⟨g2, j, none⟩ = (CC v : Array Value)[j]? := K.out.p.2.cell))
        | (go_at_call 13; ((with_reducible refine (Put_ref _ _ _ HN.out HF.out K.out.p.1.1).mono ?_); rintro e w8 ⟨rfl, hb⟩; replace K := Lib.hid (K.out.go hb); clear hb q1 q2; have q1 : ∀ j, w8.cell? ⟨g1, j, none⟩ = (CR v fl : Array Value)[j]? := K.out.p.1.2.cell; have q2 : ∀ j, w8.cell? ⟨g2, j, none⟩ = (CC v : Array Value)[j]? := K.out.p.2.cell)))
    all_goals
      go_at_call 15
      refine (D.out.2.2.2.1 _).mono ?_
      rintro e w8 ⟨⟨vv, r, rfl, hO, hs⟩, hb⟩
      obtain rfl := sorted1_one (a := v) hs (fun s => by simp [Tr.vars])
      replace K := Lib.hid ((K.out.go hb).and (Q := fun X => At X 1 scV vv [v]) (Own.at_ (k := 1) (f := scV) (fun _ => rfl) hO) (fun _ _ hb h => h.later hb))
      obtain ⟨VA, Vc, rfl, _⟩ := hO.shape
      clear hb hO hs q1 q2
      have q1 : ∀ j, w8.cell? ⟨g1, j, none⟩ = (CR v fl : Array Value)[j]? := K.out.p.1.1.2.cell
      go_wp2_with fail
      go_at_call 12
      refine (D.out.2.2.1 _ HB.out _).mono ?_
      rintro e w10 ⟨rfl, hb⟩
      replace K := Lib.hid (K.out.go hb); clear hb q1
      go_wp2_with fail
      go_at_call 12
      refine (D.out.2.2.2.2 _).mono ?_
      rintro e w11 ⟨rfl, hb⟩
      replace K := Lib.hid (K.out.go hb); clear hb
      obtain ⟨va, rfl, hC⟩ := K.out.p.2.cells rfl Nat.zero_lt_one
      have q3 := hC.row1 0 Nat.zero_lt_one rfl
      clear hC
      rw [show va.add (0 * 1) = va by unfold Addr.add; cases va; simp] at q3
      go_wp2_with fail
      go_ret
      exact ⟨rfl, K.out.bel⟩
end Go.Proofs.YtfkcjlpocfjmdaaDoor
