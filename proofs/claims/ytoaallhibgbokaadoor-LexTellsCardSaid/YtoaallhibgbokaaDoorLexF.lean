/- Words of texts: the law's own words: a text of pieces. -/
import Derived.Test.YtoaallhibgbokaaDoorLexE
namespace Go.Proofs.YtoaallhibgbokaaDoor
open Go.ChangeShapes Go.WideShapes Go.ChangeAt Go.RowKit
set_option linter.unusedVariables false
set_option linter.unusedSimpArgs false

def partL : List Bs := [[65], [66], [97], [98], [120], [107], [59], [33], [124], [40], [41], [58], [61], [44], [91], [93], [46], [43], [45], [42], [47], [37], [60], [62], [61, 61], [33, 61], [60, 61], [62, 61], [38, 38], [124, 124], [48], [49], [52, 50], [39, 116, 39], [39, 39], [39, 97, 32, 98, 39], [35], [116, 114, 117, 101], [83, 84, 82, 73, 67, 84], [87, 73, 84, 72, 73, 78], [66, 89], [69, 77, 73, 84], [57, 50, 50, 51, 51, 55, 50, 48, 51, 54, 56, 53, 52, 55, 55, 53, 56, 48, 55], [57, 50, 50, 51, 51, 55, 50, 48, 51, 54, 56, 53, 52, 55, 55, 53, 56, 48, 56], [48, 55], [39], [255], [64], [97, 98, 99, 100, 101, 102, 103, 104, 105, 106, 107, 108, 109, 110, 111, 112, 113, 114, 115, 116, 117], [38]]
theorem part_len : partL.length = 50 := rfl
theorem part_size : ∀ x ∈ partL, x.length ≤ 21 := by decide
def partC : Array Value := (partL.map fun x => Value.string (mk x)).toArray
theorem part_at {W : World} {g : Nat} {t : TypeId} (h : Blk W g t partC) (q : Nat) (hq : q < partL.length) : W.cell? ⟨g, q, none⟩ = some (.string (mk (partL[q]'hq))) := by
  rw [h.cell q]
  unfold partC
  rw [List.getElem?_toArray, List.getElem?_map, List.getElem?_eq_getElem hq]
  rfl
/-- A text of pieces: short; if it is not tight it ends with a space, or is empty. -/
def WordsP (tight : Bool) (s : ByteArray) : Prop := s.size ≤ 690 ∧ (tight = false → s.data.toList = [] ∨ EndSp s.data.toList)
theorem endsp_app (a b : ByteArray) (x : Bs) (hb : b.data.toList = x) (h : EndSp x) : EndSp (a ++ b).data.toList := by
  obtain ⟨y, c, rfl, hc⟩ := h
  refine ⟨a.data.toList ++ y, c, ?_, hc⟩
  rw [ByteArray.data_append, Array.toList_append, hb, List.append_assoc]
set_option maxRecDepth 20000 in
set_option maxHeartbeats 4000000 in
theorem words_any (v : Value) (l : Bs) (tight : Bool) (w : World) (hv : BytesAt w v l) (hl : l.length ≤ 140737488351232) :
    Calls Tryd.prog 10 #[v, .bool tight] w fun e w' => ∃ s, (e = .returned (.string s) ∧ WordsP tight s) ∧ Below w.heap.size w w' := by
  obtain ⟨A, cap, hve, hc⟩ : ∃ (A : Option Addr) (cap : Nat), v = .slice A l.length cap ∧ (0 < l.length → ∃ a, A = some a ∧ ∀ j (hj : j < l.length), w.cell? (a.add j) = some (.int .u8 (l[j].toNat : Int))) := by
    rcases hv with ⟨rfl, rfl⟩ | ⟨a, cap, rfl, h1, h2, h3⟩
    · exact ⟨none, 0, rfl, fun h => absurd h (by simp)⟩
    · exact ⟨some a, cap, rfl, fun _ => ⟨a, rfl, h3⟩⟩
  subst hve
  clear hv
  obtain ⟨n, hn⟩ : ∃ n, n = l.length := ⟨_, rfl⟩
  rw [← hn] at hl ⊢
  have hnm : n ≤ 9223372036854775807 := by omega
  obtain ⟨m, hm⟩ : ∃ m, m = min n 30 := ⟨_, rfl⟩
  have hm30 : m ≤ 30 := by omega
  have H := Lib.hid (And.intro hc (And.intro hn hm)); clear hc hn hm
  go_enter Tryd.func10, Tryd.ntmps10
  go_wp2
  go_loopw [6, 7] (fun sv iv wr => ∃ (i : Nat) (s : ByteArray), i ≤ m ∧ iv = .int .i64 (i : Int) ∧ sv = .string s ∧ s.size ≤ 23 * i ∧ (tight = false → s.data.toList = [] ∨ EndSp s.data.toList) ∧ Below w.heap.size w wr ∧ Blk wr w.heap.size 9 partC) (fun _ iv _ => m - (intOf iv).toNat)
  case atStart =>
    refine ⟨0, ⟨#[]⟩, Nat.zero_le _, rfl, rfl, Nat.le_refl _, fun _ => Or.inl rfl, ba w _, ?_⟩
    exact Blk.new w 9 partC
  case round =>
    obtain ⟨i, s, hi, rfl, rfl, hs, he, hb, hP⟩ := hrel
    have K := Lib.hid (And.intro hb (And.intro hP he)); clear hb hP he
    by_cases hlt : i < n ∧ i < 30
    · obtain ⟨c1, c2⟩ := hlt
      have him : i < m := by have := H.out.2.2; omega
      have hil : i < l.length := by rw [← H.out.2.1]; exact c1
      obtain ⟨a, rfl, hcc⟩ := H.out.1 (by omega)
      have hcell := hcc i hil
      have hcell' : wr.cell? (a.add i) = some (.int .u8 ((l[i]'hil).toNat : Int)) := by
        rw [K.out.1.cell (World.block_lt_of_cell? w _ hcell)]; exact hcell
      have hcell2 : ∀ o, (wr.alloc o).cell? (a.add i) = some (.int .u8 ((l[i]'hil).toNat : Int)) := fun o => by rw [(ba wr o).cell (World.block_lt_of_cell? wr _ hcell')]; exact hcell'
      have hb255 := (l[i]'hil).toNat_lt
      generalize (l[i]'hil).toNat = b at *
      clear hcell hcc
      have hsm : s.size ≤ 690 := by omega
      have e1 : IntKind.i64.wrap (b : Int) = (b : Int) := IntWalk.i64_in _ (by omega)
      have go1 : ∀ (q : Nat), q < 50 → ∃ xb : ByteArray, wr.cell? ⟨w.heap.size, q, none⟩ = some (.string xb) ∧ xb.size ≤ 21 := fun q hq => by
        have hq' : q < partL.length := hq
        exact ⟨_, part_at K.out.2.1 q hq', by rw [mk_size]; exact part_size _ (List.getElem_mem hq')⟩
      have hway : (b < 235 ∧ ∃ r : Nat, r < 43 ∧ (b : Int).tmod 43 = (r : Int) ∧ (b : Int) % 43 = (r : Int) ∧ (r : Int).tmod 50 = (r : Int) ∧ (r : Int) % 50 = (r : Int)) ∨ (¬ b < 235 ∧ ∃ r : Nat, r < 50 ∧ (b : Int).tmod 50 = (r : Int) ∧ (b : Int) % 50 = (r : Int)) := by
        by_cases h : b < 235
        · refine Or.inl ⟨h, b % 43, by omega, ?_, by omega, ?_, by omega⟩
          · rw [Int.tmod_eq_emod_of_nonneg (by omega)]; omega
          · rw [Int.tmod_eq_emod_of_nonneg (by omega)]; omega
        · refine Or.inr ⟨h, b % 50, by omega, ?_, by omega⟩
          rw [Int.tmod_eq_emod_of_nonneg (by omega)]; omega
      have h4 : (b : Int).tmod 4 = (b : Int) % 4 := Int.tmod_eq_emod_of_nonneg (by omega)
      have hb4 : (b : Int) % 4 = 0 ∨ (b : Int) % 4 = 1 ∨ (b : Int) % 4 = 2 ∨ (b : Int) % 4 = 3 := by omega
      have S1 := Lib.hid (endsp_app)
      rcases hway with ⟨h235, r, hr, m1, m1', m2, m2'⟩ | ⟨h235, r, hr, m2, m2'⟩
      all_goals
        obtain ⟨xb, hx, hxs⟩ := go1 r (by omega)
        clear go1
        have hsz1 : (s ++ xb).size ≤ 23 * i + 21 := by rw [ByteArray.size_append]; omega
        cases tight with
        | true =>
          have Z := Lib.hid hsz1; clear hsz1
          go_wp2
          go_roundw
          case rel => exact ⟨i + 1, s ++ xb, by omega, by go_num, rfl, by have := Z.out; omega, (fun h => by cases h), K.out.1, K.out.2.1⟩
          case measure => simp [intOf]; omega
        | false =>
          have Z := Lib.hid hsz1; clear hsz1
          rcases hb4 with q4 | q4 | q4 | q4
          all_goals
            rw [q4] at h4
            go_wp2
            go_roundw
            case rel =>
              refine ⟨i + 1, _, by omega, by go_num, rfl, ?_, fun _ => Or.inr ?_, bt K.out.1 (ba wr _), K.out.2.1.alloc _⟩
              · have := Z.out
                rw [ByteArray.size_append]
                first
                  | (show _ + 1 ≤ _; omega)
                  | (show _ + 2 ≤ _; omega)
              · first
                  | exact S1.out _ _ [32] rfl ⟨[], 32, rfl, rfl⟩
                  | exact S1.out _ _ [9] rfl ⟨[], 9, rfl, rfl⟩
                  | exact S1.out _ _ [10] rfl ⟨[], 10, rfl, rfl⟩
                  | exact S1.out _ _ [32, 13] rfl ⟨[32], 13, rfl, rfl⟩
            case measure => simp [intOf]; omega
    · have hway : ¬ i < n ∨ (i < n ∧ ¬ i < 30) := by omega
      clear hlt
      rcases hway with c1 | ⟨c1, c2⟩
      all_goals
        go_wp2
        go_ret
        exact ⟨s, ⟨rfl, by omega, K.out.2.2⟩, K.out.1⟩
end Go.Proofs.YtoaallhibgbokaaDoor
