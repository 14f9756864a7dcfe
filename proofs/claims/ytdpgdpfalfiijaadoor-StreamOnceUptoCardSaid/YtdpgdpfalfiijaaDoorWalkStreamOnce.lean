/- The walk of StreamOnce. -/
import Derived.Test.YtdpgdpfalfiijaaDoorStrmC
import Derived.Test.YtdpgdpfalfiijaaDoorOnceS
namespace Go.Proofs.YtdpgdpfalfiijaaDoor
open Go.ChangeShapes Go.WideShapes Go.ChangeAt Go.RowKit
set_option linter.unusedVariables false
set_option linter.unusedSimpArgs false

def pieceL : List ByteArray := [⟨#[97]⟩, ⟨#[98]⟩, ⟨#[120]⟩, ⟨#[40]⟩, ⟨#[41]⟩, ⟨#[58]⟩, ⟨#[44]⟩, ⟨#[105, 110, 116]⟩, ⟨#[98, 111, 111, 108]⟩, ⟨#[116, 101, 120, 116]⟩, ⟨#[97, 40, 120, 58, 105, 110, 116]⟩, ⟨#[44, 121, 58, 98, 111, 111, 108]⟩, ⟨#[41]⟩, ⟨#[97, 40]⟩, ⟨#[32]⟩, ⟨#[63]⟩]
theorem piece_size : ∀ q : Fin 16, (pieceL.getD q.1 ⟨#[]⟩).size ≤ 7 := by decide +kernel
def pieceC : Array Value := (pieceL.map Value.string).toArray
theorem piece_at {W : World} {g : Nat} {t : TypeId} (h : Blk W g t pieceC) (q : Nat) (hq : q < 16) : W.cell? ⟨g, q, none⟩ = some (.string (pieceL.getD q ⟨#[]⟩)) := by
  have hq' : q < pieceL.length := hq
  rw [h.cell q]
  unfold pieceC
  rw [List.getElem?_toArray, List.getElem?_map, List.getElem?_eq_getElem hq', List.getD, List.getElem?_eq_getElem hq']
  rfl
theorem get_none (T : ByteArray) (m : Int) (W : World) (hs : T.size < 4294967281) (hm : W.cell? ⟨0, 0, none⟩ = some (.int .i64 m)) (h : getN T = none) :
    Calls Tryd.prog 13 #[.string T] W fun e w' => e = .returned (.tuple #[st ⟨#[]⟩ (.slice none 0 0), .bool false]) ∧ Below W.heap.size W w' :=
  (SGet_any T m W hs hm).mono fun e w' ⟨h0, hb⟩ => by
    rcases h0 with ⟨_, h2⟩ | ⟨n', l', v, h1, _⟩
    · exact ⟨h2, hb⟩
    · rw [h] at h1; cases h1
theorem once_last (S : ByteArray) (h : 1 ≤ S.size) : ∃ c, S.data.toList = (S.extract 0 (S.size - 1)).data.toList ++ [c] := by
  have hl : S.data.toList.length = S.size := by simp
  refine ⟨S.data.toList[S.size - 1]'(by omega), ?_⟩
  have e : (S.extract 0 (S.size - 1)).data.toList = S.data.toList.take (S.size - 1) := by simp; rw [List.dropLast_eq_take, hl]
  rw [e, ← List.take_succ_eq_append_getElem, show S.size - 1 + 1 = S.data.toList.length by omega, List.take_length]
set_option maxRecDepth 20000 in
set_option maxHeartbeats 4000000 in
theorem walk_StreamOnce (s : ByteArray) (v : Value) (l : List UInt8) (more : Int) (w : World) (hs : s.size ≤ 1048576) (hv : BytesAt w v l) (hl : l.length ≤ 140737488351232) (c0 : 0 ≤ more) (c1 : more ≤ 255) (hT : Tab w) :
    Calls Tryd.prog 6 #[.string s, v, .int .u8 more] w fun e w' => e = .returned (.bool true) ∧ Below w.heap.size w w' := by
  obtain ⟨m, hm⟩ := hT
  have cEx := examples_any m w hm
  have hmW := fun W (h : Below w.heap.size w W) => (h.cell (World.block_lt_of_cell? w _ hm)).trans hm
  obtain ⟨c, rfl⟩ : ∃ c : UInt8, more = (c.toNat : Int) := ⟨UInt8.ofNat more.toNat, by simp; omega⟩
  obtain ⟨A, cap, hve, hc⟩ : ∃ (A : Option Addr) (cap : Nat), v = .slice A l.length cap ∧ (0 < l.length → ∃ a, A = some a ∧ ∀ j (hj : j < l.length), w.cell? (a.add j) = some (.int .u8 (l[j].toNat : Int))) := by
    rcases hv with ⟨rfl, rfl⟩ | ⟨a, cap, rfl, h1, h2, h3⟩
    · exact ⟨none, 0, rfl, fun h => absurd h (by simp)⟩
    · exact ⟨some a, cap, rfl, fun _ => ⟨a, rfl, h3⟩⟩
  subst hve
  clear hv
  obtain ⟨n, hn⟩ : ∃ n, n = l.length := ⟨_, rfl⟩
  rw [← hn] at hl ⊢
  have hnm : n ≤ 9223372036854775807 := by omega
  have H := Lib.hid (And.intro cEx (And.intro hmW (And.intro hc hn))); clear cEx hmW hm hc hn
  have hbs := fun W : World => byte_string W (c.toNat : Int) c rfl
  have hcI := c.toNat_lt
  clear c0 c1
  go_enter Tryd.func6, Tryd.ntmps6
  go_wp2_with fail
  try go_at_call 9
  refine (H.out.1).mono ?_
  rintro e w0 ⟨rfl, b0⟩
  have hP0 := Blk.new w0 9 pieceC
  have bP := ba w0 (.cells pieceC 9)
  have B0 := Lib.hid (And.intro hP0 (bt b0 bP)); clear hP0 bP b0
  go_wp2
  go_loopw [0, 9] (fun sv iv wr => ∃ (i : Nat) (S : ByteArray), i ≤ n ∧ i ≤ 12 ∧ iv = .int .i64 (i : Int) ∧ sv = .string S ∧ S.size ≤ 1048576 + 7 * i ∧ Below w.heap.size w wr ∧ Blk wr w0.heap.size 9 pieceC) (fun _ iv _ => 12 - (intOf iv).toNat)
  case atStart => exact ⟨0, s, Nat.zero_le _, Nat.zero_le _, rfl, rfl, by omega, B0.out.2, B0.out.1⟩
  case round =>
    obtain ⟨i, S, hin, hi12, rfl, rfl, hS, hb, hP⟩ := hrel
    have K := Lib.hid (And.intro hb hP); clear hb hP
    by_cases hlt : i < n ∧ i < 12
    · obtain ⟨d1, d2⟩ := hlt
      have hil : i < l.length := by rw [← H.out.2.2.2]; exact d1
      obtain ⟨a, rfl, hcc⟩ := H.out.2.2.1 (by omega)
      have hcell := hcc i hil
      have hcell' : wr.cell? (a.add i) = some (.int .u8 ((l[i]'hil).toNat : Int)) := by
        rw [K.out.1.cell (World.block_lt_of_cell? w _ hcell)]; exact hcell
      have hb255 := (l[i]'hil).toNat_lt
      generalize (l[i]'hil).toNat = b at *
      clear hcell hcc
      obtain ⟨q, hq, hq16⟩ : ∃ q : Nat, b % 16 = q ∧ q < 16 := ⟨b % 16, rfl, by omega⟩
      have m1 : (b : Int).tmod 16 = (q : Int) := by rw [Int.tmod_eq_emod_of_nonneg (by omega)]; omega
      have m2 : (b : Int) % 16 = (q : Int) := by omega
      have hpc := piece_at K.out.2 q hq16
      have hps := piece_size ⟨q, hq16⟩
      simp only at hps
      generalize pieceL.getD q ⟨#[]⟩ = x at *
      have hSz : (S ++ x).size ≤ 1048576 + 7 * (i + 1) := by rw [ByteArray.size_append]; omega
      have gg : ¬ 9223372036854775807 < S.size + x.size := by omega
      have Z := Lib.hid hSz; clear hSz
      go_wp2
      go_roundw
      case rel => exact ⟨i + 1, S ++ x, by omega, by omega, by go_num, rfl, Z.out, K.out.1, K.out.2⟩
      case measure => simp [intOf]; omega
    · have hway : ¬ i < n ∨ (i < n ∧ ¬ i < 12) := by omega
      clear hlt
      have hSm : S.size ≤ 1048700 := by omega
      rcases hg : getN S with _ | ⟨nm, F⟩
      · have cG := get_none S m wr (by omega) (H.out.2.1 _ K.out.1) hg
        have G := Lib.hid cG; clear cG hg
        have e0' : (⟨#[]⟩ : ByteArray).toList = [] := (size_nil _).1 rfl
        have e0 : ((⟨#[]⟩ : ByteArray).toList == []) = true := by rw [e0']; rfl
        rcases hway with d1 | ⟨d1, d2⟩
        all_goals
          go_wp2_with fail
          try go_at_call 13
          refine G.out.mono ?_
          rintro e w1 ⟨rfl, b1⟩
          have B1 := Lib.hid (bt K.out.1 b1); clear b1
          go_wp2
          go_ret
          exact ⟨rfl, bt B1.out (ba w1 _)⟩
      · obtain ⟨hput, hright⟩ := once_put hg
        have h1S := once_size hg
        obtain ⟨c9, hlast⟩ := once_last S h1S
        have hmore : getN (S ++ ⟨#[c]⟩) = none := by
          rcases h : getN (S ++ ⟨#[c]⟩) with _ | y
          · first | exact h | rfl
          · exact (once_apart h hg c (by rw [ByteArray.data_append, Array.toList_append])).elim
        have hless : getN (S.extract 0 (S.size - 1)) = none := by
          rcases h : getN (S.extract 0 (S.size - 1)) with _ | y
          · first | exact h | rfl
          · exact (once_apart hg h c9 hlast).elim
        have cG := fun W (hb : Below w.heap.size w W) => (SGet_any S m W (by omega) (H.out.2.1 _ hb))
        unfold StreamGot at cG
        rw [hg] at cG
        have cM := fun W (hb : Below w.heap.size w W) => get_none (S ++ ⟨#[c]⟩) m W (by rw [ByteArray.size_append]; show S.size + 1 < _; omega) (H.out.2.1 _ hb) hmore
        have cL := fun W (hb : Below w.heap.size w W) => get_none (S.extract 0 (S.size - 1)) m W (by simp; omega) (H.out.2.1 _ hb) hless
        have cR := fun v W hv => putR hright v W hv
        rw [hput] at cR
        obtain ⟨z, hz⟩ : ∃ z : Nat, S.size - 1 = z := ⟨_, rfl⟩
        rw [hz] at cL
        obtain ⟨T, hTx⟩ : ∃ T, S.extract 0 z = T := ⟨_, rfl⟩
        rw [hTx] at cL
        have hzI : (S.size : Int) - 1 = (z : Int) := by omega
        have hzw : IntKind.i64.wrap (z : Int) = (z : Int) := IntWalk.i64_in _ (by omega)
        have hzle : z ≤ S.size := by omega
        have cQ := fun v W (hv : RowsAt rowF W v F) => Right_any nm v F W hv (by have := name_size (right_ok hright).1; unfold maxLen; omega) (right_okF hright)
        rw [hright] at cQ
        have hS0 : ¬ S.size = 0 := by omega
        have gg : ¬ 9223372036854775807 < S.size + 1 := by omega
        obtain ⟨M, hM⟩ : ∃ M, S ++ ⟨#[c]⟩ = M := ⟨_, rfl⟩
        rw [hM] at cM
        have e9 : (S.toList == S.toList) = true := by simp
        have G := Lib.hid (And.intro cG (And.intro cM (And.intro cL (And.intro cR cQ)))); clear cG cM cL cR cQ hg hput hright hmore hless hlast hz
        rcases hway with d1 | ⟨d1, d2⟩
        all_goals
          go_wp2_with fail
          try go_at_call 13
          refine (G.out.1 _ K.out.1).mono ?_
          rintro e w1 ⟨h0, b1⟩
          obtain ⟨vv, rfl, hF⟩ : ∃ vv, e = .returned (.tuple #[st nm vv, .bool true]) ∧ NewF wr.heap.size w1 vv F := by
            rcases h0 with ⟨h1, _⟩ | ⟨n', l', vv, h1, h2, h3⟩
            · cases h1
            · cases h1
              exact ⟨vv, h2, h3⟩
          clear h0
          obtain ⟨A1, n1, c1, rfl⟩ := own_shape hF
          have bA := ba w1 (.cells #[.string nm, .slice A1 n1 c1] 28)
          have hb2 := hbs (w1.alloc (.cells #[.string nm, .slice A1 n1 c1] 28))
          rw [World.size_alloc] at hb2
          have J := Lib.hid (And.intro (bt K.out.1 (bt b1 bA)) (And.intro (hF.rows.later bA) (Blk.new w1 28 #[.string nm, .slice A1 n1 c1])))
          clear hF b1 bA
          go_wp2_with fail
          try go_at_call 13
          have bC := ba (w1.alloc (.cells #[.string nm, .slice A1 n1 c1] 28)) (.cells #[.int .u8 (c.toNat : Int)] 5)
          refine (G.out.2.1 _ (bt J.out.1 bC)).mono ?_
          rintro e w2 ⟨rfl, b2⟩
          have bD := bt bC (bt b2 (ba w2 (.cells #[.string ⟨#[]⟩, .slice none 0 0] 28)))
          have J2 := Lib.hid (And.intro (bt J.out.1 bD) (And.intro (J.out.2.1.later bD) (J.out.2.2.later bD)))
          clear b2 bC bD J
          go_wp2_with fail
          try go_at_call 13
          refine (G.out.2.2.1 _ J2.out.1).mono ?_
          rintro e w3 ⟨rfl, b3⟩
          have bE := bt b3 (ba w3 (.cells #[.string ⟨#[]⟩, .slice none 0 0] 28))
          have J3 := Lib.hid (And.intro (bt J2.out.1 bE) (And.intro (J2.out.2.1.later bE) (J2.out.2.2.later bE)))
          clear b3 bE J2
          have x0 := J3.out.2.2.cell 0
          have x1 := J3.out.2.2.cell 1
          go_wp2_with fail
          clear x0 x1
          try go_at_call 22
          refine (G.out.2.2.2.2 _ _ J3.out.2.1).mono ?_
          rintro e w4 ⟨rfl, b4⟩
          have J4 := Lib.hid (And.intro (bt J3.out.1 b4) (And.intro (J3.out.2.1.later b4) (J3.out.2.2.later b4)))
          clear b4 J3
          have x0 := J4.out.2.2.cell 0
          have x1 := J4.out.2.2.cell 1
          go_wp2_with fail
          clear x0 x1
          try go_at_call 12
          refine (G.out.2.2.2.1 _ _ J4.out.2.1).mono ?_
          rintro e w5 ⟨rfl, b5⟩
          have B5 := Lib.hid (bt J4.out.1 b5)
          clear b5 J4
          go_wp2
          go_ret
          exact ⟨rfl, B5.out⟩
end Go.Proofs.YtdpgdpfalfiijaaDoor
