/- Conversions between bytes and strings, pieces of strings. -/
import Derived.Test.YtbmkbpehkpdcmaaLift
namespace Go.Proofs.Ytbmkbpehkpdcmaa
open Go.ChangeShapes Go.WideShapes Go.ChangeAt Go.RowKit

theorem addr_plain (b o j : Nat) : (⟨b, o, none⟩ : Addr).add j = ⟨b, o + j, none⟩ := by unfold Addr.add; split <;> simp_all
--BYTES
/-- 'string([]byte{x})'. -/
theorem byte_string (w : World) (z : Int) (x : UInt8) (hz : z = (x.toNat : Int)) :
    (convert 27 9 (.slice (some ⟨w.heap.size, 0, none⟩) 1 1)).run Try.prog (w.alloc (.cells #[.int .u8 z] 5)) = .ok (.string ⟨#[x]⟩) (w.alloc (.cells #[.int .u8 z] 5)) := by
  subst hz
  exact run_convert_bytes_back (P := Try.prog) (w.alloc (.cells #[.int .u8 (x.toNat : Int)] 5)) 27 9 5 ⟨w.heap.size, 0, none⟩ 1 [x] Try.underlying27 Try.underlying5 Try.underlying9 (fun j hj => by
    have : j = 0 := by simp at hj; exact hj
    subst this
    rw [addr_plain, World.cell?_alloc_new]; rfl)
--SETYB
/-- A string's piece. -/
theorem slice_string (P : Program) (w : World) (t : TypeId) (ht : P.underlying t = some .string) (s : ByteArray) (n k : Nat) (h1 : n ≤ k) (h2 : k ≤ s.size) :
    (Instr.slice t (.string s) (some (.int .i64 (n : Int))) (some (.int .i64 (k : Int))) none).run P w = .ok (.string (s.extract n k)) w := by
  have a1 : (0 : Int) ≤ (n : Int) := by omega
  have a2 : (n : Int) ≤ (k : Int) := by omega
  have a3 : (k : Int) ≤ (s.size : Int) := by omega
  have a4 : (0 : Int) ≤ (k : Int) := by omega
  simp [Instr.slice, run_underlying ht, Instr.sliceBounds, run_sliceBound, a1, a2, a3, a4]
theorem extract_list (s : ByteArray) (a b : Nat) : (s.extract a b).data.toList = (s.data.toList.take b).drop a := by
  rw [ByteArray.data_extract, Array.toList_extract, List.extract_eq_take_drop, List.drop_take]
end Go.Proofs.Ytbmkbpehkpdcmaa
