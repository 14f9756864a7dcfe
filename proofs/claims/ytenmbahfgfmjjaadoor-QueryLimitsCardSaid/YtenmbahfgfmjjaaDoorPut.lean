/- Contracts of package expr: Put. -/
import Derived.Test.YtenmbahfgfmjjaaDoorLayX
namespace Go.Proofs.YtenmbahfgfmjjaaDoor
open Go.ChangeShapes Go.WideShapes Go.ChangeAt Go.RowKit
open Rk (inR)
set_option linter.unusedVariables false
set_option linter.unusedSimpArgs false

theorem own_bytes {w : World} {v : Value} {l : List UInt8} (h : At w 1 byF v l) : BytesAt w v l := by
  obtain ⟨A, cap, rfl, h1, h2, h3, h4⟩ := h
  cases A with
  | none =>
    have := h3 rfl
    obtain rfl : l = [] := List.eq_nil_of_length_eq_zero (by omega)
    subst this
    exact Or.inl ⟨rfl, rfl⟩
  | some a => exact Or.inr ⟨a, cap, rfl, h1, h2, fun j hj => by have := h4 a rfl j hj 0 _ rfl; rwa [Nat.mul_one, Nat.add_zero] at this⟩
theorem string_of (w : World) (v : Value) (l : List UInt8) (h : BytesAt w v l) :
    (convert 22 9 v).run Tryd.prog w = .ok (.string ⟨l.toArray⟩) w := by
  rcases h with ⟨rfl, rfl⟩ | ⟨a, cap, rfl, _, _, hc⟩
  · exact run_convert_bytes_nil (P := Tryd.prog) w 22 5 Tryd.underlying22 Tryd.underlying5 0 0 9 Tryd.underlying9
  · exact run_convert_bytes_back (P := Tryd.prog) w 22 9 5 a cap l Tryd.underlying22 Tryd.underlying5 Tryd.underlying9 hc

set_option maxHeartbeats 1000000 in
theorem Put_gen (k : Int) (op : ByteArray) (vk vn : Int) (vs va f : ByteArray) (A : Option Addr) (n c : Nat) (p : List UInt8) (w : World)
    (hR : ∀ W, Below w.heap.size w W → Calls Tryd.prog 44 #[ev k op vk vn vs va f (.slice A n c)] W fun e w' => e = .returned (.bool true) ∧ Below W.heap.size W w')
    (hL : ∀ W, Below w.heap.size w W → Calls Tryd.prog 66 #[.slice none 0 0, ev k op vk vn vs va f (.slice A n c)] W fun e w' => LayT W (.slice none 0 0) W.heap.size p e w') :
    Calls Tryd.prog 49 #[ev k op vk vn vs va f (.slice A n c)] w fun e w' => e = .returned (.string ⟨p.toArray⟩) ∧ Below w.heap.size w w' := by
  have bb := ba w (.cells #[.int .i64 k, .string op, .int .i64 vk, .int .i64 vn, .string vs, .string va, .string f, .slice A n c] 42)
  have hB := Blk.new w 42 #[.int .i64 k, .string op, .int .i64 vk, .int .i64 vn, .string vs, .string va, .string f, .slice A n c]
  have H := Lib.hid (And.intro bb (And.intro hB (And.intro hR hL))); clear bb hB hR hL
  go_enter Tryd.func49, Tryd.ntmps49
  go_wp2_with fail
  go_at_call 44
  refine (H.out.2.2.1 _ H.out.1).mono ?_
  rintro e w1 ⟨rfl, hb1⟩
  have p1 := (H.out.2.1.later hb1).cell
  have B1 := Lib.hid (bt H.out.1 hb1); clear hb1
  go_wp2_with fail
  go_at_call 66
  refine (H.out.2.2.2 _ B1.out).mono ?_
  rintro e w2 ⟨A2, n2, c2, rfl, hO, hW⟩
  have hs := string_of w2 _ p (own_bytes (Own.at_ (k := 1) (f := byF) (fun _ => rfl) hO))
  have B2 := Lib.hid (wr_below (l := []) hW (Own.nil _ _ _ _ _) (Nat.le_refl _)); clear hO hW
  go_wp2_with fail
  go_ret
  exact ⟨rfl, bt B1.out B2.out⟩
/-- Put at whatever right tree. -/
theorem Put_tr (t : Tr) (K : Value) (w : World) (h : TrAt w t K) (ho : t.ok = true) (hs : t.small) (hl : t.len ≤ 900000000) (hT : Tab w) :
    Calls Tryd.prog 49 #[t.val K] w fun e w' => e = .returned (.string ⟨(putT t).toArray⟩) ∧ Below w.heap.size w w' := by
  have hR := fun W (hW : Below w.heap.size w W) => Right_tr t _ W (h.later hW) ho
  have hL := fun W (hW : Below w.heap.size w W) => lay_tr W (hT.later hW) t K (h.later hW) ho hs W (.slice none 0 0) [] (Below.refl _ _) (Own.nil _ _ _ _ _) (by simpa using hl)
  obtain ⟨A, n, c, e1⟩ := node_sl h
  unfold Tr.val at hR hL ⊢
  rw [e1] at hR hL ⊢
  exact Put_gen _ _ _ _ _ _ _ A n c (putT t) w hR (fun W hW => by simpa using hL W hW)
end Go.Proofs.YtenmbahfgfmjjaaDoor
