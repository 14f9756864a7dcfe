/- Words of texts: the reference's sign. -/
import Derived.Test.YtoaallhibgbokaaDoorLtB
import Derived.BigRegion
import Derived.BigQuiet
import Derived.Deep.QuietTactic
namespace Go.Proofs.YtoaallhibgbokaaDoor
open Go.ChangeShapes Go.WideShapes Go.ChangeAt Go.RowKit
set_option linter.unusedVariables false
set_option linter.unusedSimpArgs false

theorem prefix_ext (s : ByteArray) (g : Bs) (h : g.length ≤ s.size) : (g.isPrefixOf s.data.toList = true ↔ s.extract 0 g.length = mk g) := by
  rw [extract_mk, List.drop_zero]
  constructor
  · intro hp; rw [prefix_take hp]
  · intro he
    have := mk_inj he
    rw [List.isPrefixOf_iff_prefix, List.prefix_iff_eq_take]
    exact this.symm
theorem prefix_not (s : ByteArray) (g : Bs) (h : ¬ g.length ≤ s.size) : g.isPrefixOf s.data.toList = false := by
  rw [Bool.eq_false_iff]
  intro hp
  have := prefix_len hp
  have e : s.data.toList.length = s.size := by simp
  omega
set_option maxRecDepth 20000 in
set_option maxHeartbeats 4000000 in
theorem Rsign_any (s : ByteArray) (w : World) (hs : s.size ≤ 4000000000) :
    Calls Tryd.prog 34 #[.string s] w (RfP (signTk s.data.toList) w) := by
  have hcS := Lib.hid (fun w => RSigns_any w)
  have hsm : s.size ≤ 9223372036854775807 := by omega
  go_enter Tryd.func34, Tryd.ntmps34
  go_wp2_with (go_at_call 14; ((with_reducible refine (hcS.out _).mono ?_); rintro e w1 ⟨rfl, rfl⟩))
  go_loopw [6] (fun iv wr => ∃ (k : Nat) (x : Bs), k ≤ 25 ∧ iv = .int .i64 (k : Int) ∧ x = signOf s.data.toList (signL.take k) [] ∧ Blk wr (w.heap.size + 1) 9 (rowSs signL) ∧ Blk wr (w.heap.size + 1 + 1) 49 (tokC 4 (mk x) 0 0) ∧ Blk wr w.heap.size 49 (tokC 0 ⟨#[]⟩ 0 0) ∧ Below w.heap.size w wr) (fun iv _ => 25 - (intOf iv).toNat)
  case atStart =>
    have hA := Blk.new w 49 (tokC 0 ⟨#[]⟩ 0 0)
    have hB := Blk.new (w.alloc (.cells (tokC 0 ⟨#[]⟩ 0 0) 49)) 9 (rowSs signL)
    rw [World.size_alloc] at hB
    have hC := Blk.new ((w.alloc (.cells (tokC 0 ⟨#[]⟩ 0 0) 49)).alloc (.cells (rowSs signL) 9)) 49 (tokC 4 ⟨#[]⟩ 0 0)
    rw [World.size_alloc, World.size_alloc] at hC
    exact ⟨0, [], Nat.zero_le _, rfl, rfl, hB.alloc _, hC, (hA.alloc _).alloc _, bt (ba w _) (bt (ba _ _) (ba _ _))⟩
  case round =>
    obtain ⟨k, x, hk, rfl, hx, h1, h2, h3, hb⟩ := hrel
    have M := Lib.hid (And.intro hx (And.intro h1 (And.intro h2 (And.intro h3 hb)))); clear hx
    have hxl : x.length ≤ s.size := by
      rw [M.out.1]
      rcases signOf_cases s.data.toList (signL.take k) [] with h | ⟨_, h⟩
      · rw [h]; exact Nat.zero_le _
      · have := prefix_len h; simpa using this
    by_cases hlt : k < 25
    · have hkl : k < signL.length := hlt
      have hg := (h1.cell k).trans (rowSs_get signL k hkl)
      obtain ⟨_, c1, _, _⟩ := Blk.four h2
      have hf2 := h2.frozen
      have hlt2 := h2.lt
      have hsn := signOf_snoc s.data.toList k hkl
      have hlen := (show ∀ g ∈ signL, g.length ≤ 2 by decide) _ (List.getElem_mem hkl)
      have hpe := prefix_ext s (signL[k]'hkl)
      have hpn := prefix_not s (signL[k]'hkl)
      generalize (signL[k]'hkl) = g at *
      rw [← M.out.1] at hsn
      have hgz := mk_size g
      have hxz := mk_size x
      obtain ⟨gl, hgl⟩ : ∃ gl, g.length = gl := ⟨_, rfl⟩
      obtain ⟨xl, hxl'⟩ : ∃ xl, x.length = xl := ⟨_, rfl⟩
      rw [hgl] at hgz hsn hlen hpe hpn
      rw [hxl'] at hxz hsn hxl
      obtain ⟨gb, hgb⟩ : ∃ gb, mk g = gb := ⟨_, rfl⟩
      obtain ⟨xb, hxb⟩ : ∃ xb, mk x = xb := ⟨_, rfl⟩
      rw [hgb] at hg hgz hpe
      rw [hxb] at hxz c1
      clear h1 h2 h3 hb
      by_cases hls : gl ≤ s.size
      · have hpe := hpe hls
        have hlsI : (gl : Int) ≤ (s.size : Int) := by omega
        rcases str_or (s.extract 0 gl) gb with ⟨e1, e2, e3⟩ | ⟨e1, e2, e3⟩
        · rw [hpe.2 e1] at hsn
          by_cases hll : xl < gl
          · rw [decide_eq_true hll] at hsn
            have HC := Lib.hid (And.intro hsn hgb); clear hsn hpe hpn hgb hgl hxl' hxb e2 e3
            go_wp2
            go_quiet (fail)
            go_wp2
            go_roundw
            case rel =>
              refine ⟨k + 1, g, by omega, by go_num, by rw [HC.out.1]; rfl, ?_, ?_, ?_, ?_⟩
              · exact (show Blk (wr.drewN nq) _ _ _ from M.out.2.1).far (show w.heap.size + 1 ≠ w.heap.size + 1 + 1 by omega) _
              · rw [HC.out.2]; exact (show Blk (wr.drewN nq) _ _ _ from M.out.2.2.1).set_ 1 (.string gb)
              · exact (show Blk (wr.drewN nq) _ _ _ from M.out.2.2.2.1).far (show w.heap.size ≠ w.heap.size + 1 + 1 by omega) _
              · exact (below_drewN M.out.2.2.2.2 nq).setCell (p := ⟨w.heap.size + 1 + 1, 1, none⟩) (show w.heap.size ≤ w.heap.size + 1 + 1 by omega) _
            case measure => simp [intOf]; omega
          · rw [decide_eq_false hll] at hsn
            have HC := Lib.hid (And.intro hsn hxb); clear hsn hpe hpn hgb hgl hxl' hxb e2 e3
            go_wp2
            go_quiet (fail)
            go_wp2
            go_roundw
            case rel =>
              exact ⟨k + 1, x, by omega, by go_num, by rw [HC.out.1]; rfl, M.out.2.1, M.out.2.2.1, M.out.2.2.2.1, below_drewN M.out.2.2.2.2 nq⟩
            case measure => simp [intOf]; omega
        · have hpf : g.isPrefixOf s.data.toList = false := by
            rw [Bool.eq_false_iff]; exact fun h => e1 (hpe.1 h)
          rw [hpf] at hsn
          have HC := Lib.hid (And.intro hsn hxb); clear hsn hpe hpn hgb hgl hxl' hxb hpf
          go_wp2
          go_quiet (fail)
          go_wp2
          go_roundw
          case rel =>
            exact ⟨k + 1, x, by omega, by go_num, by rw [HC.out.1]; rfl, M.out.2.1, M.out.2.2.1, M.out.2.2.2.1, below_drewN M.out.2.2.2.2 nq⟩
          case measure => simp [intOf]; omega
      · rw [hpn hls] at hsn
        have hlsI : ¬ (gl : Int) ≤ (s.size : Int) := by omega
        have HC := Lib.hid (And.intro hsn hxb); clear hsn hpe hpn hgb hgl hxl' hxb
        go_wp2
        go_quiet (fail)
        go_wp2
        go_roundw
        case rel =>
          exact ⟨k + 1, x, by omega, by go_num, by rw [HC.out.1]; rfl, M.out.2.1, M.out.2.2.1, M.out.2.2.2.1, below_drewN M.out.2.2.2.2 nq⟩
        case measure => simp [intOf]; omega
    · obtain rfl : k = 25 := by omega
      have hx : x = signT s.data.toList := M.out.1
      have hxz := mk_size x
      obtain ⟨z0, z1, z2, z3⟩ := Blk.four h2
      obtain ⟨y0, y1, y2, y3⟩ := Blk.four h3
      have hlt1 := h3.lt
      have hf1 := h3.frozen
      have fin : ∀ (ok : Bool) (W : World), (ok = false ∧ x.length = 0) ∨ (ok = true ∧ ¬ x.length = 0) → Below w.heap.size w W → RfP (signTk s.data.toList) w (.returned (.tuple #[tokV 4 (mk x) 0 0, .bool ok])) W := fun ok W h hW => by
        refine ⟨4, x, 0, ok, ⟨rfl, by omega, ?_⟩, hW⟩
        unfold signTk
        rw [← hx]
        rcases h with ⟨h, h0⟩ | ⟨h, h0⟩
        · rw [h0]; exact Or.inl ⟨h, rfl⟩
        · rw [if_neg (by simpa using h0)]; exact Or.inr ⟨h, rfl⟩
      have hn := nil_or (mk x)
      rw [hxz] at hn
      obtain ⟨xb, hxb⟩ : ∃ xb, mk x = xb := ⟨_, rfl⟩
      rw [hxb] at hxz z1 hn
      simp only [hxb] at fin
      have hbl := hb
      have F := Lib.hid (And.intro fin hbl); clear fin h1 h2 h3 hb hbl hxb hx
      rcases hn with ⟨n1, n2⟩ | ⟨n1, n2⟩
      · have n3 : (xb.toList == []) = true := by simpa using n2
        have J := Lib.hid n1; clear n1
        go_wp2
        go_region
        all_goals
          go_wp2
          exact bodyPost_ret (v := .tuple #[tokV 4 xb 0 0, .bool false]) (by simp only [results, Tryd.results34]; simp [go_sem, Act.put, y0, y1, y2, y3]) rfl (F.out.1 _ _ (Or.inl ⟨rfl, J.out⟩) (below_drew (below_put4 F.out.2 (Nat.le_refl _) _ _ _ _)))
      · have n3 : (xb.toList == []) = false := by simpa using n2
        have J := Lib.hid (show ¬ x.length = 0 by omega); clear n1
        go_wp2
        go_region
        all_goals
          go_wp2
          exact bodyPost_ret (v := .tuple #[tokV 4 xb 0 0, .bool true]) (by simp only [results, Tryd.results34]; simp [go_sem, Act.put, y0, y1, y2, y3]) rfl (F.out.1 _ _ (Or.inr ⟨rfl, J.out⟩) (below_drew (below_put4 F.out.2 (Nat.le_refl _) _ _ _ _)))
end Go.Proofs.YtoaallhibgbokaaDoor
