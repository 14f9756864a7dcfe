/- LexErrors: the byte that begins nothing, a piece. -/
import Derived.Test.YtoaallhibgbokaaDoorLexY
import Derived.Test.YtoaallhibgbokaaDoorPiece
import Derived.Deep.OwnRows
namespace Go.Proofs.YtoaallhibgbokaaDoor
open Go.ChangeShapes Go.WideShapes Go.ChangeAt Go.RowKit
set_option linter.unusedVariables false
set_option linter.unusedSimpArgs false
set_option maxRecDepth 20000

theorem made_text (W : World) (n : Nat) : (convert 22 9 (.slice (some ⟨W.heap.size, 0, none⟩) n n)).run Tryd.prog (W.alloc (.cells (madeCells #[.int .u8 0] n) 5)) = .ok (.string (mk (List.replicate n 0))) (W.alloc (.cells (madeCells #[.int .u8 0] n) 5)) := by
  have := run_convert_bytes_back (P := Tryd.prog) (W.alloc (.cells (madeCells #[.int .u8 0] n) 5)) 22 9 5 ⟨W.heap.size, 0, none⟩ n (List.replicate n 0) Tryd.underlying22 Tryd.underlying5 Tryd.underlying9 (fun j hj => by
    rw [addr_pl, World.cell?_alloc_new]
    rw [List.length_replicate] at hj
    simp [madeCells, hj, Nat.mod_one])
  rw [List.length_replicate] at this
  exact this
set_option maxRecDepth 20000 in
set_option maxHeartbeats 4000000 in
theorem err6 (u0 u2 u3 u4 u5 u6 u7 u8 u9 u10 u11 u12 u13 u14 u15 u16 u17 u18 u19 u20 u21 u22 u23 u24 u25 u26 u27 u28 u29 u30 u31 u32 u33 u34 u35 u36 u37 u38 u39 u40 u41 u42 u43 u44 u45 u46 u47 u48 u49 u50 u51 u52 u53 u54 u55 u56 u57 u58 u59 u60 u61 u62 u63 u64 u65 u66 u67 u68 u69 u70 u71 u72 u73 u74 u75 u76 u77 u78 u79 u80 u81 u82 u83 u84 u85 u86 u87 u88 u89 u90 u91 u92 u93 u94 u95 u96 u97 u98 u99 u100 u101 u102 u103 u104 u105 u106 u107 u108 u109 u110 u111 u112 u113 u114 u115 u116 u117 u118 u119 u120 u121 u122 u123 u124 u125 u126 u127 u128 : Value) {w : World} {by_ : Int} (h0 : 0 ≤ by_ ∧ by_ ≤ 255) {Q : Exit → Act → World → Prop}
    (hQ : ∀ (x39 x40 x41 x42 x43 : Value) (c : UInt8) (wx : World), (c ∈ badL ∧ Below w.heap.size w wx) → Q .normal ⟨#[u0, .int .u8 by_, u2, u3, u4, u5, u6, u7, u8, u9, u10, u11, u12, u13, .int .u8 (c.toNat : Int), u15, u16, u17, u18, u19, u20, u21, u22, u23, u24, u25, u26, u27, u28, u29, u30, u31, u32, u33, u34, u35, u36, u37, u38, x39, x40, x41, x42, x43, u44, u45, u46, u47, u48, u49, u50, u51, u52, u53, u54, u55, u56, u57, u58, u59, u60, u61, u62, u63, u64, u65, u66, u67, u68, u69, u70, u71, u72, u73, u74, u75, u76, u77, u78, u79, u80, u81, u82, u83, u84, u85, u86, u87, u88, u89, u90, u91, u92, u93, u94, u95, u96, u97, u98, u99, u100, u101, u102, u103, u104, u105, u106, u107, u108, u109, u110, u111, u112, u113, u114, u115, u116, u117, u118, u119, u120, u121, u122, u123, u124, u125, u126, u127, u128], []⟩ wx) :
    Code.wp Tryd.prog ((Tryd.f8.body.bind (regionN 6)).getD .skip) Q ⟨#[u0, .int .u8 by_, u2, u3, u4, u5, u6, u7, u8, u9, u10, u11, u12, u13, u14, u15, u16, u17, u18, u19, u20, u21, u22, u23, u24, u25, u26, u27, u28, u29, u30, u31, u32, u33, u34, u35, u36, u37, u38, u39, u40, u41, u42, u43, u44, u45, u46, u47, u48, u49, u50, u51, u52, u53, u54, u55, u56, u57, u58, u59, u60, u61, u62, u63, u64, u65, u66, u67, u68, u69, u70, u71, u72, u73, u74, u75, u76, u77, u78, u79, u80, u81, u82, u83, u84, u85, u86, u87, u88, u89, u90, u91, u92, u93, u94, u95, u96, u97, u98, u99, u100, u101, u102, u103, u104, u105, u106, u107, u108, u109, u110, u111, u112, u113, u114, u115, u116, u117, u118, u119, u120, u121, u122, u123, u124, u125, u126, u127, u128], []⟩ w := by
  have HQ := Lib.hid hQ; clear hQ
  conv => arg 2; whnf
  have e1 : by_.tmod 14 = by_ % 14 := Int.tmod_eq_emod_of_nonneg h0.1
  rcases (show by_ % 14 = 0 ∨ by_ % 14 = 1 ∨ by_ % 14 = 2 ∨ by_ % 14 = 3 ∨ by_ % 14 = 4 ∨ by_ % 14 = 5 ∨ by_ % 14 = 6 ∨ by_ % 14 = 7 ∨ by_ % 14 = 8 ∨ by_ % 14 = 9 ∨ by_ % 14 = 10 ∨ by_ % 14 = 11 ∨ by_ % 14 = 12 ∨ by_ % 14 = 13 by omega) with q | q | q | q | q | q | q | q | q | q | q | q | q | q
  · rw [q] at e1
    go_wp2
    exact HQ.out _ _ _ _ _ 64 _ ⟨by decide, ba w _⟩
  · rw [q] at e1
    go_wp2
    exact HQ.out _ _ _ _ _ 34 _ ⟨by decide, ba w _⟩
  · rw [q] at e1
    go_wp2
    exact HQ.out _ _ _ _ _ 36 _ ⟨by decide, ba w _⟩
  · rw [q] at e1
    go_wp2
    exact HQ.out _ _ _ _ _ 38 _ ⟨by decide, ba w _⟩
  · rw [q] at e1
    go_wp2
    exact HQ.out _ _ _ _ _ 0 _ ⟨by decide, ba w _⟩
  · rw [q] at e1
    go_wp2
    exact HQ.out _ _ _ _ _ 127 _ ⟨by decide, ba w _⟩
  · rw [q] at e1
    go_wp2
    exact HQ.out _ _ _ _ _ 128 _ ⟨by decide, ba w _⟩
  · rw [q] at e1
    go_wp2
    exact HQ.out _ _ _ _ _ 255 _ ⟨by decide, ba w _⟩
  · rw [q] at e1
    go_wp2
    exact HQ.out _ _ _ _ _ 123 _ ⟨by decide, ba w _⟩
  · rw [q] at e1
    go_wp2
    exact HQ.out _ _ _ _ _ 125 _ ⟨by decide, ba w _⟩
  · rw [q] at e1
    go_wp2
    exact HQ.out _ _ _ _ _ 126 _ ⟨by decide, ba w _⟩
  · rw [q] at e1
    go_wp2
    exact HQ.out _ _ _ _ _ 94 _ ⟨by decide, ba w _⟩
  · rw [q] at e1
    go_wp2
    exact HQ.out _ _ _ _ _ 92 _ ⟨by decide, ba w _⟩
  · rw [q] at e1
    go_wp2
    exact HQ.out _ _ _ _ _ 63 _ ⟨by decide, ba w _⟩
end Go.Proofs.YtoaallhibgbokaaDoor
