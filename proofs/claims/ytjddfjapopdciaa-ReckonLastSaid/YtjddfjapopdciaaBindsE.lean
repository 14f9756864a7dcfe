/- Binds of bytes, with the rows that they lie in. -/
import Derived.Test.YtjddfjapopdciaaBindsD
namespace Go.Proofs.Ytjddfjapopdciaa
open Go.ChangeShapes Go.WideShapes Go.ChangeAt Go.RowKit
open Rk (inR)
set_option linter.unusedVariables false
set_option linter.unusedSimpArgs false

/-- Binds, with the rows that they lie in. -/
def BindsO (w0 : World) (e : Ending) (w : World) : Prop := ∃ (g g1 g2 B1 B2 : Nat) (V1 : Option Addr) (V3 : Nat) (U1 : Option Addr) (U3 : Nat) (E E2 : List Ev), e = .returned (.slice (some ⟨g, 0, none⟩) 2 2) ∧
  Blk w g 59 #[.string nA, .slice (some ⟨g1, 0, none⟩) 2 2, .slice V1 E.length V3, .string nB, .slice (some ⟨g2, 0, none⟩) 4 4, .slice U1 E2.length U3] ∧ Blk w g1 9 #[.string nK, .string nX] ∧ Blk w g2 9 #[.string nK, .string nY, .string nS, .string nT] ∧
  EvsO w B1 (.slice V1 E.length V3) E ∧ EvsO w B2 (.slice U1 E2.length U3) E2 ∧ (∀ b, (Value.slice V1 E.length V3).ownBlock = some b → b < B2) ∧ (∀ e ∈ E, okEv e) ∧ (∀ e ∈ E2, okEv e) ∧ E.length ≤ 3 ∧ E2.length ≤ 3 ∧ B2 ≤ w.heap.size ∧ w0.heap.size ≤ g ∧ w0.heap.size ≤ B1 ∧ w0.heap.size ≤ B2
set_option maxRecDepth 20000 in
set_option maxHeartbeats 4000000 in
theorem binds_own (lv : Value) (L : List UInt8) (w : World) (hv : BytesAt w lv L) (hL : L.length ≤ 140737488351232) :
    Calls Try.prog 12 #[lv] w fun e w' => BindsO w e w' ∧ Below w.heap.size w w' := by
  obtain ⟨A, n, c, rfl⟩ : ∃ A n c, lv = .slice A n c := by rcases hv with ⟨h, _⟩ | ⟨a, cap, h, _⟩ <;> exact ⟨_, _, _, h⟩
  have hmf : ∀ (fn : Fn) (first cap : Array Value) (w : World), (Instr.makeFunc fn first cap).run Try.prog w = .ok (.func fn first cap) w := fun _ _ _ _ => rfl
  have K := Lib.hid (KB1.new w _ L hv)
  clear hv
  go_enter Try.func12, Try.ntmps12
  go_wp2_with fail
  go_at_call 35
  refine (nextB_any w _ _ _ L _ hL K.out.fb).mono ?_
  rintro e w1 ⟨⟨b, hb255, rfl⟩, hF1, hg1⟩
  replace K := Lib.hid (K.out.grow hF1 hg1); clear hF1 hg1
  have hm3 : 0 ≤ (b : Int) % 3 ∧ (b : Int) % 3 ≤ 2 := by omega
  have HM := Lib.hid hm3; clear hm3
  go_wp2_with fail
  go_loopw [6] (fun iv wr => ∃ (t : Int) (v : Value) (E : List Ev), iv = .int .i64 t ∧ -1 ≤ t ∧ t ≤ 2 ∧ (E.length : Int) + t ≤ 2 ∧ KB1 w (.slice A n c) L v E wr) (fun iv _ => (intOf iv + 1).toNat)
  case atStart => exact ⟨_, _, [], rfl, by have := HM.out; omega, by have := HM.out; omega, by have := HM.out; simp; omega, K.out⟩
  case round =>
    clear K
    obtain ⟨t, v, E, rfl, ht1, ht2, hEl, hK⟩ := hrel
    have K := Lib.hid hK; clear hK
    have HE := Lib.hid hEl; clear hEl
    by_cases ht : 0 ≤ t
    · go_wp2_with fail
      go_at_call 35
      refine (nextB_any w _ _ _ L _ hL K.out.fb).mono ?_
      rintro e w2 ⟨⟨b2, hb2, rfl⟩, hF1, hg1⟩
      replace K := Lib.hid (K.out.grow hF1 hg1); clear hF1 hg1
      go_wp2_with fail
      refine wp_of_eq (c' := ((Try.f12.body.bind (regionN 8)).getD .skip)) ?_ (by kernel_rfl)
      refine bindA_ev _ _ _ _ _ _ _ _ _ _ _ _ _ _ _ _ _ _ _ _ _ _ _ _ _ _ _ _ _ _ _ _ _ _ _ _ _ _ _ _ _ _ _ _ _ _ _ _ _ _ _ _ _ _ _ _ _ _ _ _ _ _ _ _ _ _ _ _ _ _ _ _ _ _ _ _ _ _ _ _ hb2 K.out.2.2.1 K.out.2.2.2.1 (by have := K.out.2.2.2.2.1; omega) K.out.2.2.2.2.2.2 (by omega) (fun _ _ _ _ _ _ _ _ _ _ _ _ _ _ _ _ _ _ _ _ _ _ v' vs wx hR => ?_)
      have K2 := Lib.hid (K.out.more hR.1 hR.2.1 hR.2.2.1 hR.2.2.2.1 hR.2.2.2.2 (by have := HE.out; omega))
      clear hR
      go_wp2_with fail
      go_roundw
      case rel => exact ⟨t - 1, v', _, by go_num, by omega, by omega, by have := HE.out; simp; omega, K2.out⟩
      case measure => simp [intOf]; omega
    · have hlt : w.heap.size + 1 < wr.heap.size := by have := K.out.2.2.2.2.2.2; omega
      have K5 := Lib.hid (And.intro K.out (KB2.new K.out.fb hlt)); clear K hlt
      go_wp2_with fail
      go_at_call 35
      refine (nextB_any w _ _ _ L _ hL K5.out.2.fb).mono ?_
      rintro e w6 ⟨⟨b3, hb3, rfl⟩, hF1, hg1⟩
      have J := Lib.hid (K5.out.2.grow hF1 hg1); clear hF1 hg1
      obtain ⟨w5, rfl⟩ : ∃ W : World, W = wr := ⟨_, rfl⟩
      have hm4 : 0 ≤ (b3 : Int) % 4 ∧ (b3 : Int) % 4 ≤ 3 := by omega
      have HM4 := Lib.hid hm4; clear hm4
      go_wp2_with fail
      go_loopw [9] (fun iv wr => ∃ (t2 : Int) (v2 : Value) (E2 : List Ev), iv = .int .i64 t2 ∧ 0 ≤ t2 ∧ t2 ≤ 3 ∧ (E2.length : Int) + t2 ≤ 3 ∧ KB2 w (.slice A n c) L w5 v2 E2 wr) (fun iv _ => (intOf iv).toNat)
      case atStart => exact ⟨_, _, [], rfl, HM4.out.1, HM4.out.2, by have := HM4.out; simp; omega, J.out⟩
      case round =>
        clear J
        obtain ⟨t2, v2, E2, rfl, hs1, hs2, hEl2, hJ⟩ := hrel
        have J := Lib.hid hJ; clear hJ
        have HE2 := Lib.hid hEl2; clear hEl2
        by_cases ht2 : 0 < t2
        · go_wp2_with fail
          go_at_call 35
          refine (nextB_any w _ _ _ L _ hL J.out.fb).mono ?_
          rintro e w7 ⟨⟨b4, hb4, rfl⟩, hF1, hg1⟩
          replace J := Lib.hid (J.out.grow hF1 hg1); clear hF1 hg1
          go_wp2_with fail
          refine wp_of_eq (c' := ((Try.f12.body.bind (regionN 14)).getD .skip)) ?_ (by kernel_rfl)
          refine bindB_ev _ _ _ _ _ _ _ _ _ _ _ _ _ _ _ _ _ _ _ _ _ _ _ _ _ _ _ _ _ _ _ _ _ _ _ _ _ _ _ _ _ _ _ _ _ _ _ _ _ _ _ _ _ _ _ _ _ _ _ _ _ _ _ _ _ _ _ _ _ _ _ _ _ _ _ _ _ _ _ _ hb4 J.out.2.2.2.1 J.out.2.2.2.2.1 (by have := J.out.2.2.2.2.2.1; omega) J.out.2.2.2.2.2.2.2.1 (by omega) (fun _ _ _ _ _ _ _ _ _ _ _ _ _ _ _ _ _ _ _ _ _ _ _ _ v' vs wx hR => ?_)
          have J2 := Lib.hid (J.out.more hR.1 hR.2.1 hR.2.2.1 hR.2.2.2.1 hR.2.2.2.2 (by have := HE2.out; omega))
          clear hR
          go_wp2_with fail
          go_roundw
          case rel => exact ⟨t2 - 1, v', _, by go_num, by omega, by omega, by have := HE2.out; simp; omega, J2.out⟩
          case measure => simp [intOf]; omega
        · have aB := K5.out.1.2.2.1.grown J.out.2.1 (fun e => by have := Option.some.inj e; omega)
          obtain ⟨_, _, hgB⟩ := K5.out.1.1.2.2.2.1
          have aE := K5.out.1.2.2.2.1.grownG hgB J.out.2.1
          have bB := J.out.2.2.2.1
          have bE := J.out.2.2.2.2.1
          obtain ⟨M1, q1, mO1, q2⟩ := id aE; clear q1 q2
          obtain ⟨V1, V3, rfl, _⟩ := mO1.shape
          obtain ⟨M2, q1, mO2, q2⟩ := id bE; clear q1 q2
          obtain ⟨U1, U3, rfl, _⟩ := mO2.shape
          have a0 := fun j => aB.cell j
          have b0 := fun j => bB.cell j
          have aN := K5.out.1.2.1.grown J.out.2.1 (fun e => by have := Option.some.inj e; omega)
          have bN := J.out.2.2.1
          have Z := Lib.hid (And.intro aE (And.intro bE (And.intro aN bN)))
          clear aB bB aE bE mO1 mO2 aN bN hgB
          go_wp2_with fail
          go_ret
          have hb9 := ba wr (.cells #[.string nA, .slice (some ⟨w.heap.size + 1 + 1, 0, none⟩) 2 2, .slice V1 M1.length V3, .string nB, .slice (some ⟨w5.heap.size, 0, none⟩) 4 4, .slice U1 M2.length U3] 59)
          have hlt5 : ∀ b, (Value.slice V1 M1.length V3).ownBlock = some b → b < w5.heap.size + 1 + 1 := by
            obtain ⟨M9, q1, mO9, q2⟩ := id K5.out.1.2.2.2.1
            intro b hb
            rcases mO9.2 with ⟨h, _⟩ | ⟨b', cap', cur', h, h1, h2, _⟩
            · rw [h] at hb; simp [Value.ownBlock] at hb
            · rw [h] at hb; simp [Value.ownBlock] at hb; subst hb; have := (Array.getElem?_eq_some_iff.1 h2).1; omega
          have hE1 : M1.length = E.length := by obtain ⟨M9, q1, mO9, q2⟩ := id Z.out.1; have := mO9.shape; obtain ⟨_, _, hs, _⟩ := this; have := Value.slice.inj hs; omega
          have hE2 : M2.length = E2.length := by obtain ⟨M9, q1, mO9, q2⟩ := id Z.out.2.1; have := mO9.shape; obtain ⟨_, _, hs, _⟩ := this; have := Value.slice.inj hs; omega
          rw [hE1] at hb9 hlt5 ⊢
          rw [hE2] at hb9 ⊢
          rw [hE1, hE2] at Z
          exact ⟨⟨wr.heap.size, w.heap.size + 1 + 1, w5.heap.size, w.heap.size + 1 + 1 + 1 + 1, w5.heap.size + 1 + 1, V1, V3, U1, U3, E, E2, rfl, Blk.new wr _ _, Z.out.2.2.1.later hb9, Z.out.2.2.2.later hb9, Z.out.1.later hb9, Z.out.2.1.later hb9, hlt5, K5.out.1.2.2.2.2.2.1, J.out.2.2.2.2.2.2.1, K5.out.1.2.2.2.2.1, J.out.2.2.2.2.2.1, by have := J.out.2.2.2.2.2.2.2.1; simp; omega, J.out.1.1.size, by omega, by have := K5.out.1.1.1.size; omega⟩, bt J.out.1.1 hb9⟩
end Go.Proofs.Ytjddfjapopdciaa
