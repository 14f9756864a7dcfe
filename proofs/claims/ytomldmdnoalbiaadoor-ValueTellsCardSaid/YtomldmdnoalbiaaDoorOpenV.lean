/- A value.Value that came in, opened. -/
import Derived.Test.YtomldmdnoalbiaaDoorLift
import Derived.Test.YtomldmdnoalbiaaDoorValue
import Derived.Lib.SmallJoins
namespace Go.Proofs.YtomldmdnoalbiaaDoor
open Go.ChangeShapes Go.WideShapes Go.ChangeAt Go.RowKit
set_option linter.unusedVariables false
set_option linter.unusedSimpArgs false
section
variable {H : Type} {enc : TypeId × Value → H}
theorem open_value {W : World} {r : Reach} {b0 : Nat} {v : Value} {d : DataW H} {ps : List MemPlace} (hval : Value.okWide Tryd.prog W r b0 23 v) (h : DataW.Trod enc Tryd.prog W 0 (fun _ => true) true 23 v d ps) :
    ∃ (k n : Int) (s : ByteArray), v = vv k n s ∧ d = .agg [.lit (.int .i64 k), .lit (.int .i64 n), .lit (.string s.data.toList)] ∧ ps = [] ∧ -9223372036854775808 ≤ n ∧ n ≤ 9223372036854775807 := by
  obtain ⟨v0, v1, v2, y0, y1, y2, N, rfl, rfl, rfl, h0, h1, h2⟩ := Go.Joins.open_agg3 Tryd.underlying23 (by kernel_rfl) (by kernel_rfl) hval h
  obtain ⟨k, e0, rfl, _⟩ := DataW.trod_int Tryd.underlying3 h0
  obtain ⟨n, e1, rfl, wn⟩ := DataW.trod_int Tryd.underlying2 h1
  obtain ⟨s, e2, rfl, _⟩ := DataW.trod_string Tryd.underlying9 h2
  obtain rfl : v0 = .int .i64 k := by simpa using e0
  obtain rfl : v1 = .int .i64 n := by simpa using e1
  obtain rfl : v2 = .string s := by simpa using e2
  have b := wf_i64 wn
  exact ⟨k, n, s, rfl, rfl, rfl, b.1, b.2⟩
theorem weight_value {k n : Int} {s : ByteArray} (hw : ∀ x ∈ (DataW.agg [.lit (.int .i64 k), .lit (.int .i64 n), .lit (.string s.data.toList)] : DataW H).weights Tryd.prog 23, x ≤ reachBytes) : s.size ≤ 140737488351232 := by
  have := hw s.data.toList.length (by
    unfold DataW.weights
    rw [Tryd.underlying23]
    simp [DataW.weightsEach, DataW.weights])
  unfold reachBytes at this
  simpa using this
end
end Go.Proofs.YtomldmdnoalbiaaDoor
