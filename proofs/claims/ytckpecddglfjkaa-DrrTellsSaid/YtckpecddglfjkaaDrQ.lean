/- Turns by deficits: the law's own rounds and costs. -/
import Derived.Test.YtckpecddglfjkaaDrX
namespace Go.Proofs.Ytckpecddglfjkaa
open Go.ChangeShapes Go.WideShapes Go.ChangeAt Go.RowKit
open Dr
set_option linter.unusedVariables false
set_option linter.unusedSimpArgs false

theorem bytes_cell {w : World} {v : Value} {l : List UInt8} (h : BytesAt w v l) : ∃ (A : Option Addr) (n : Nat), v = .slice A l.length n ∧ l.length ≤ n ∧ n ≤ maxLen ∧ ∀ k (hk : k < l.length), ∃ a, A = some a ∧ w.cell? (a.add k) = some (.int .u8 ((l[k]'hk).toNat : Int)) := by
  rcases h with ⟨rfl, rfl⟩ | ⟨a, cap, rfl, h1, h2, h3⟩
  · exact ⟨none, 0, rfl, Nat.le_refl _, Nat.zero_le _, fun k hk => absurd hk (by simp)⟩
  · exact ⟨some a, cap, rfl, h1, h2, fun k hk => ⟨a, rfl, h3 k hk⟩⟩
def roundF (i : Nat) (q : UInt8) : Fl := ((i : Int), 1 + (q.toNat : Int), 0, 0)
def roundL (l : List UInt8) : List Fl := (l.take 5).zipIdx.map fun x => roundF x.2 x.1
theorem roundL_len (l : List UInt8) : (roundL l).length = min l.length 5 := by unfold roundL; rw [List.length_map, List.length_zipIdx, List.length_take, Nat.min_comm]
theorem roundL_get (l : List UInt8) (k : Nat) (h : k < l.length) (h5 : k < 5) : (roundL l)[k]? = some (roundF k (l[k]'h)) := by
  unfold roundL
  rw [List.getElem?_map, List.getElem?_zipIdx, List.getElem?_take, if_pos h5, List.getElem?_eq_getElem h]
  simp
theorem roundL_snoc (l : List UInt8) (k : Nat) (h : k < l.length) (h5 : k < 5) : roundL (l.take (k + 1)) = roundL (l.take k) ++ [roundF k (l[k]'h)] := by
  unfold roundL
  rw [List.take_take, List.take_take, Nat.min_eq_right (by omega), Nat.min_eq_right (by omega), List.take_succ_eq_append_getElem h, List.zipIdx_append, List.map_append, List.length_take, Nat.min_eq_left (by omega)]
  simp
theorem roundL_ids (l : List UInt8) (x : Int) (h : x ∈ (roundL l).map (·.1)) : 0 ≤ x ∧ x < l.length ∧ x < 5 := by
  obtain ⟨f, hf, rfl⟩ := List.mem_map.1 h
  obtain ⟨j, hj, rfl⟩ := List.getElem_of_mem hf
  have hl := hj
  rw [roundL_len] at hl
  have := roundL_get l j (by omega) (by omega)
  rw [List.getElem?_eq_getElem hj] at this
  have := Option.some.inj this
  rw [this]
  unfold roundF
  simp only; omega
theorem roundL_all (l : List UInt8) (k : Nat) (hk : k ≤ l.length) (h : k = l.length ∨ k = 5) : roundL (l.take k) = roundL l := by
  rcases h with rfl | rfl
  · rw [List.take_length]
  · unfold roundL; rw [List.take_take]; rfl
def RoundP (l : List UInt8) (w : World) (e : Ending) (w' : World) : Prop := e = .returned (.pointer (some ⟨w.heap.size, 0, none⟩)) ∧ Kp w w' w.heap.size (roundL l) (decide (0 < l.length))
set_option maxHeartbeats 1000000 in
theorem round_any (v : Value) (l : List UInt8) (w : World) (hv : BytesAt w v l) :
    Calls Try.prog 20 #[v] w (RoundP l w) := by
  obtain ⟨A, n, rfl, n1, n2, hcell⟩ := bytes_cell hv
  have hm : l.length ≤ 9223372036854775807 := by unfold maxLen at n2; omega
  have H := Lib.hid hcell; clear hcell hv
  go_enter Try.func20, Try.ntmps20
  go_wp2_with (go_at_call 10; ((with_reducible refine (New_any _).mono ?_); rintro e w1 ⟨rfl, hD, hb⟩; have K := Lib.hid (Kp.start w w1 hD hb); clear hD hb))
  go_loopw [4] (fun iv wr => ∃ (k : Nat), k ≤ l.length ∧ k ≤ 5 ∧ iv = .int .i64 k ∧ Kp w wr w.heap.size (roundL (l.take k)) (decide (0 < k))) (fun i _ => 5 - (intOf i).toNat)
  case atStart => exact ⟨0, Nat.zero_le _, Nat.zero_le _, rfl, K.out⟩
  case round =>
    clear K
    obtain ⟨k, hk, hk5, rfl, hK⟩ := hrel
    by_cases hlt : k < l.length
    · by_cases h5 : k < 5
      · obtain ⟨a, rfl, hc⟩ := H.out k hlt
        have hc' : wr.cell? (a.add k) = some (.int .u8 ((l[k]'hlt).toNat : Int)) := by rw [hK.bel.cell (World.block_lt_of_cell? w _ hc)]; exact hc
        have hsn := roundL_snoc l k hlt h5
        have hnid : ((k : Nat) : Int) ∉ (roundL (l.take k)).map (·.1) := fun h => by
          have := roundL_ids _ _ h
          rw [List.length_take] at this; omega
        have hlen : (roundL (l.take k)).length < 1000 := by rw [roundL_len]; omega
        have hem : (roundL (l.take k)).isEmpty = decide (k = 0) := by
          have e9 : (roundL (l.take k)).length = k := by rw [roundL_len, List.length_take]; omega
          rw [Bool.eq_iff_iff, List.isEmpty_iff, ← List.length_eq_zero_iff, e9]
          simp
        have hq := (l[k]'hlt).toNat_lt
        have hrf : roundF k (l[k]'hlt) = ((k : Int), 1 + ((l[k]'hlt).toNat : Int), 0, 0) := rfl
        generalize l[k]'hlt = q at *
        clear hc
        obtain ⟨qi, hqi⟩ : ∃ qi : Int, qi = (q.toNat : Int) := ⟨_, rfl⟩
        rw [← hqi] at hc' hrf
        have q0 : 0 ≤ qi := by omega
        have q1 : qi ≤ 255 := by omega
        have hA := Add_any w.heap.size w.heap.size (roundL (l.take k)) (decide (0 < k)) k (1 + qi) wr hK.drs hlen
        have M := Lib.hid (And.intro hA (And.intro hK (And.intro hsn (And.intro hnid (And.intro hlen (And.intro hem (And.intro hrf hqi))))))); clear hA hK hsn hnid hlen hem hrf hqi hq
        have h5i : (k : Int) < 5 := by omega
        go_wp2_with (go_at_call 11; ((with_reducible refine (M.out.1).mono ?_); rintro e w2 ⟨r, L', fr', ⟨rfl, hR, hD⟩, hX⟩; have Z := Lib.hid (And.intro hR (And.intro hD hX)); clear hR hD hX))
        go_roundw
        case rel =>
          have h1 := M.out.2.1.add Z.out.1 Z.out.2.1 Z.out.2.2 M.out.2.2.2.2.1 ⟨by omega, by omega⟩
          obtain ⟨_, e2, e3⟩ := Z.out.1.yes (by omega) (by omega) M.out.2.2.2.1
          rw [e2, e3, M.out.2.2.2.2.2.1] at h1
          have e4 : (decide (0 < k) || decide (k = 0)) = decide (0 < k + 1) := by
            rw [Bool.eq_iff_iff]; simp; omega
          rw [e4] at h1
          exact ⟨k + 1, by omega, by omega, by go_num, by rw [M.out.2.2.1, M.out.2.2.2.2.2.2.1]; exact h1⟩
        case measure => simp [intOf]; omega
      · obtain rfl : k = 5 := by omega
        have hT := roundL_all l 5 hk (Or.inr rfl)
        rw [hT] at hK
        have e4 : decide (0 < 5) = decide (0 < l.length) := by rw [Bool.eq_iff_iff]; simp; omega
        rw [e4] at hK
        have M := Lib.hid hK; clear hK hT e4
        go_wp2
        go_ret
        exact ⟨rfl, M.out⟩
    · obtain rfl : k = l.length := by omega
      have hT := roundL_all l l.length hk (Or.inl rfl)
      rw [hT] at hK
      have M := Lib.hid hK; clear hK hT
      go_wp2
      go_ret
      exact ⟨rfl, M.out⟩
/-- What a flow costs, by bytes. -/
def prI (l : List UInt8) (i : Nat) : Int := match l[i]? with | some b => 1 + 2 * (b.toNat : Int) | none => 1
def priceL (l : List UInt8) (m : Nat) : List (Int × Int) := (List.range m).map fun (i : Nat) => ((i : Int), prI l i)
theorem priceL_snoc (l : List UInt8) (k : Nat) : priceL l (k + 1) = priceL l k ++ [((k : Int), prI l k)] := by unfold priceL; rw [List.range_succ, List.map_append]; rfl
theorem priceL_len (l : List UInt8) (k : Nat) : (priceL l k).length = k := by unfold priceL; simp
theorem prI_pos (l : List UInt8) (i : Nat) : 1 ≤ prI l i ∧ prI l i ≤ 511 := by
  unfold prI
  split
  · have := UInt8.toNat_lt ‹UInt8›; omega
  · omega
def LPriceP (l : List UInt8) (m : Nat) (w : World) (e : Ending) (w' : World) : Prop := ∃ v, (e = .returned v ∧ Own w' w.heap.size 55 2 rowC v (priceL l m)) ∧ Below w.heap.size w w'
theorem lprice_any (v : Value) (l : List UInt8) (m : Nat) (w : World) (hv : BytesAt w v l) (hm5 : m ≤ 5) :
    Calls Try.prog 21 #[v, .int .i64 (m : Int)] w (LPriceP l m w) := by
  obtain ⟨A, n, rfl, n1, n2, hcell⟩ := bytes_cell hv
  obtain ⟨j0, hj, hy0, hy1, hy2⟩ := info_parts (P := Try.prog) (e := 55) (z := .agg #[.int .i64 0, .int .i64 0]) (size := 2) (bytes := 16) (by kernel_rfl)
  have hm : l.length ≤ 9223372036854775807 := by unfold maxLen at n2; omega
  have H := Lib.hid hcell; clear hcell hv
  go_enter Try.func21, Try.ntmps21
  go_wp2
  go_loopw [5, 6] (fun lv iv wr => ∃ (k : Nat), k ≤ m ∧ iv = .int .i64 k ∧ Own wr w.heap.size 55 2 rowC lv (priceL l k) ∧ Below w.heap.size w wr) (fun _ i _ => m - (intOf i).toNat)
  case atStart => exact ⟨0, Nat.zero_le _, rfl, Own.nil _ _ _ _ _, Below.refl _ _⟩
  case round =>
    obtain ⟨k, hk, rfl, hO, hb⟩ := hrel
    obtain ⟨D, g, rfl, b1, b2, b3⟩ := hO.shape
    by_cases hlt : k < m
    · have hsn := priceL_snoc l k
      have hln := priceL_len l k
      have hk1 : k + 1 ≤ maxLen ∧ (k + 1) * 16 ≤ 140737488355328 := by unfold maxLen; omega
      have hsz := hb.size
      rw [hln] at hO ⊢
      by_cases hl : k < l.length
      · obtain ⟨a, rfl, hc⟩ := H.out k hl
        have hc' : wr.cell? (a.add k) = some (.int .u8 ((l[k]'hl).toNat : Int)) := by rw [hb.cell (World.block_lt_of_cell? w _ hc)]; exact hc
        have hp : prI l k = 1 + 2 * ((l[k]'hl).toNat : Int) := by unfold prI; rw [List.getElem?_eq_getElem hl]
        have hq := (l[k]'hl).toNat_lt
        generalize l[k]'hl = q at *
        clear hc
        obtain ⟨qi, hqi⟩ : ∃ qi : Int, qi = (q.toNat : Int) := ⟨_, rfl⟩
        rw [← hqi] at hc' hp
        have q0 : 0 ≤ qi := by omega
        have q1 : qi ≤ 255 := by omega
        have K := Lib.hid (And.intro hO (And.intro hb (And.intro hsn (And.intro hln (And.intro hk1 (And.intro hsz (And.intro hp hqi))))))); clear hO hb hsn hln hk1 hsz hp hqi hq b1 b2 b3
        go_wp2_with (at_builtin; refine wpList_append_own _ rfl (.tmp 24) (.tmp 28) 30 rfl w.heap.size 55 j0 (.agg #[.int .i64 0, .int .i64 0]) 2 16 Try.underlying30 hj hy0 hy1 hy2 rfl (by decide) (.slice D k g) k _ rfl (by have := K.out.1.later (ba wr (.cells #[.int .i64 (k : Int), .int .i64 (1 + 2 * qi)] 55)); unfold Own at this; rw [K.out.2.2.2.1] at this; exact this) ⟨_, 0, none⟩ 1 1 (rowC ((k : Int), 1 + 2 * qi)) rfl rfl (new_cells rfl _ _) (by simp [Value.oneCell']) K.out.2.2.2.2.1.1 K.out.2.2.2.2.1.2 (by have := K.out.2.2.2.2.2.1; simp only [World.size_alloc]; omega) ?_; intro v5 w5 hO5 hg5 _; obtain ⟨A5, n5, c5, rfl⟩ := own_shape hO5; have Z5 := Lib.hid (And.intro hO5 (own_past (bt K.out.2.1 (ba wr (.cells #[.int .i64 (k : Int), .int .i64 (1 + 2 * qi)] 55))) hg5 K.out.1)); clear hO5 hg5)
        go_roundw
        case rel => exact ⟨k + 1, by omega, by go_num, by rw [K.out.2.2.1, K.out.2.2.2.2.2.2.1]; exact Own.more K.out.2.2.2.1.symm Z5.out.1, Z5.out.2⟩
        case measure => simp [intOf]; omega
      · have hp : prI l k = 1 := by unfold prI; rw [List.getElem?_eq_none (by omega)]
        have K := Lib.hid (And.intro hO (And.intro hb (And.intro hsn (And.intro hln (And.intro hk1 (And.intro hsz hp)))))); clear hO hb hsn hln hk1 hsz hp b1 b2 b3
        go_wp2_with (at_builtin; refine wpList_append_own _ rfl (.tmp 24) (.tmp 28) 30 rfl w.heap.size 55 j0 (.agg #[.int .i64 0, .int .i64 0]) 2 16 Try.underlying30 hj hy0 hy1 hy2 rfl (by decide) (.slice D k g) k _ rfl (by have := K.out.1.later (ba wr (.cells #[.int .i64 (k : Int), .int .i64 1] 55)); unfold Own at this; rw [K.out.2.2.2.1] at this; exact this) ⟨_, 0, none⟩ 1 1 (rowC ((k : Int), 1)) rfl rfl (new_cells rfl _ _) (by simp [Value.oneCell']) K.out.2.2.2.2.1.1 K.out.2.2.2.2.1.2 (by have := K.out.2.2.2.2.2.1; simp only [World.size_alloc]; omega) ?_; intro v5 w5 hO5 hg5 _; obtain ⟨A5, n5, c5, rfl⟩ := own_shape hO5; have Z5 := Lib.hid (And.intro hO5 (own_past (bt K.out.2.1 (ba wr (.cells #[.int .i64 (k : Int), .int .i64 1] 55))) hg5 K.out.1)); clear hO5 hg5)
        go_roundw
        case rel => exact ⟨k + 1, by omega, by go_num, by rw [K.out.2.2.1, K.out.2.2.2.2.2.2]; exact Own.more K.out.2.2.2.1.symm Z5.out.1, Z5.out.2⟩
        case measure => simp [intOf]; omega
    · obtain rfl : k = m := by omega
      have K := Lib.hid (And.intro hO hb); clear hO hb b1 b2 b3
      go_wp2
      go_ret
      unfold LPriceP
      exact ⟨_, ⟨rfl, K.out.1⟩, K.out.2⟩
theorem priceL_ok (l : List UInt8) (m : Nat) (hm : m ≤ 5) : OkC (priceL l m) := by
  refine ⟨fun c hc => ?_, by rw [priceL_len]; unfold maxLen; omega⟩
  unfold priceL at hc
  obtain ⟨i, hi, rfl⟩ := List.mem_map.1 hc
  have := List.mem_range.1 hi
  have := prI_pos l i
  exact ⟨⟨by simp only; omega, by simp only; omega⟩, ⟨by simp only; omega, by simp only; omega⟩⟩
end Go.Proofs.Ytckpecddglfjkaa
