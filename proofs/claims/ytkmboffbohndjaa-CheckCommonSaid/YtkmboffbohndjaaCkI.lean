/- Layer 11: slices.Grow of nothing; slices.Concat of slots. -/
import Derived.Test.YtkmboffbohndjaaCkG
import Derived.Lib.AppendZeros
namespace Go.Proofs.Ytkmboffbohndjaa
open Go.ChangeShapes Go.WideShapes Go.ChangeAt Go.RowKit Go.Maps
set_option linter.unusedVariables false
set_option linter.unusedSimpArgs false

theorem size_zeroCells' (z : Array Value) (n : Nat) : (Builtin.zeroCells z n).size = n * z.size := size_zeroCells z n
set_option maxRecDepth 20000 in
theorem GrowS_nil (n : Nat) (h0 : 0 < n) (hn : n ≤ 1000) (w : World) :
    Calls Try.prog 61 #[.slice none 0 0, .int .i64 (n : Int)] w fun e w' => ∃ v, (e = .returned v ∧ Own w' w.heap.size 29 2 sxF v []) ∧ Below w.heap.size w w' := by
  obtain ⟨js, sj, sy0, sy1, sy2⟩ := info_parts (P := Try.prog) (e := 29) (z := .agg #[.string ⟨#[]⟩, .slice none 0 0]) (size := 2) (bytes := 40) (by kernel_rfl)
  have hr := fun ty => Lib.run_append_nil_zeros (P := Try.prog) w 30 3 ty 29 js (.agg #[.string ⟨#[]⟩, .slice none 0 0]) .i64 .i64 Try.underlying30 Try.underlying3 sj sy0 n h0 (by omega) (by omega) (by rw [sy2]; omega)
  have hge := grownCap_ge w n 0 29
  have hcm : grownCap w n 0 29 ≤ maxLen := grownCap_le_maxLen w n 0 29 (by unfold maxLen; omega)
  generalize grownCap w n 0 29 = g at *
  have hO : Own (w.drew.alloc (.cells (Builtin.zeroCells (Value.agg #[.string ⟨#[]⟩, .slice none 0 0]).cells n ++ Builtin.zeroCells (Value.agg #[.string ⟨#[]⟩, .slice none 0 0]).cells (g - n)) 29)) w.heap.size 29 2 sxF (.slice (some ⟨w.heap.size, 0, none⟩) 0 g) ([] : List Sx) := by
    refine ⟨rfl, .inr ⟨w.heap.size, g, _, rfl, Nat.le_refl _, heap_alloc_new w.drew _, Nat.zero_le _, hcm, ?_, ?_⟩⟩
    · simp only [Array.size_append, size_zeroCells]
      show n * 2 + (g - n) * 2 = g * 2
      rw [← Nat.add_mul]; congr 1; omega
    · simp
  have hb : Below w.heap.size w (w.drew.alloc (.cells (Builtin.zeroCells (Value.agg #[.string ⟨#[]⟩, .slice none 0 0]).cells n ++ Builtin.zeroCells (Value.agg #[.string ⟨#[]⟩, .slice none 0 0]).cells (g - n)) 29)) := (below_drew (Below.refl _ _)).trans (ba w.drew _)
  generalize w.drew.alloc _ = w1 at *
  have hn0 : ¬ (n : Int) < 0 := by omega
  have hn1 : (0 : Int) < (n : Int) := by omega
  have hwn : IntKind.i64.wrap (n : Int) = (n : Int) := IntWalk.i64_in _ (by omega)
  have H := Lib.hid (And.intro hO hb); clear hO hb hge
  go_enter Try.func61, Try.ntmps61
  go_wp2_with (at_builtin; go_loud (refine Lib.wpList_append_run _ rfl _ _ _ _ rfl _ _ rfl rfl _ _ (hr _) ?_))
  go_ret
  exact ⟨⟨_, rfl, H.out.1⟩, H.out.2⟩
/-- A slice of slices: where each lies, and what it reads as. -/
abbrev Lx := SV × List Sx
abbrev lxF (x : Lx) : List Value := [sl x.1]
set_option maxRecDepth 20000 in
set_option maxHeartbeats 4000000 in
theorem ConcatS_any (v : Value) (l : List Lx) (w : World) (hv : At w 1 lxF v l) (hl : ∀ x ∈ l, At w 2 sxF (sl x.1) x.2) (hn : l.length ≤ 10) (hz : 0 < (l.flatMap (·.2)).length) (hz2 : (l.flatMap (·.2)).length ≤ 1000) :
    Calls Try.prog 44 #[v] w fun e w' => ∃ r, (e = .returned r ∧ Own w' w.heap.size 29 2 sxF r (l.flatMap (·.2))) ∧ Below w.heap.size w w' := by
  obtain ⟨js, sj, sy0, sy1, sy2⟩ := info_parts (P := Try.prog) (e := 29) (z := .agg #[.string ⟨#[]⟩, .slice none 0 0]) (size := 2) (bytes := 40) (by kernel_rfl)
  obtain ⟨A, c, rfl, a1, a2, _⟩ := hv.shape
  obtain ⟨n, hnl⟩ : ∃ n, n = l.length := ⟨_, rfl⟩
  obtain ⟨z, hzl⟩ : ∃ z, z = (l.flatMap (·.2)).length := ⟨_, rfl⟩
  rw [← hnl] at hv ⊢
  rw [← hnl] at hn
  rw [← hzl] at hz hz2
  have hle : ∀ k, ((l.take k).flatMap (·.2)).length ≤ z := fun k => by
    rw [hzl]
    conv => rhs; rw [← List.take_append_drop k l, List.flatMap_append, List.length_append]
    omega
  have H := Lib.hid (And.intro hv (And.intro hl (And.intro hnl (And.intro hzl hle)))); clear hv hl hnl hzl hle a1
  go_enter Try.func44, Try.ntmps44
  go_wp2_with fail
  go_loopw [3, 11] (fun sv kv wr => ∃ k : Nat, k ≤ n ∧ kv = .int .i64 (k : Int) ∧ sv = .int .i64 (((l.take k).flatMap (·.2)).length : Int) ∧ wr = w) (fun _ kv _ => n - (intOf kv).toNat)
  case atStart => exact ⟨0, Nat.zero_le _, rfl, rfl, rfl⟩
  case round =>
    obtain ⟨k, hk, rfl, rfl, rfl⟩ := hrel
    by_cases hlt : k < n
    · have hkl : k < l.length := by have := H.out.2.2.1; omega
      obtain ⟨a, rfl, hc⟩ := H.out.1.cells rfl (by omega)
      have z0 := hc.row1 k hkl rfl
      rw [Nat.mul_one] at z0
      have hml := H.out.2.1 _ (List.getElem_mem hkl)
      have htk : (l.take (k + 1)).flatMap (·.2) = (l.take k).flatMap (·.2) ++ (l[k]'hkl).2 := by rw [take_snoc hkl, List.flatMap_append]; simp
      have h1 := H.out.2.2.2.2 k
      have h2 := H.out.2.2.2.2 (k + 1)
      rw [htk, List.length_append] at h2
      generalize l[k]'hkl = x at *
      obtain ⟨⟨xA, xn, xc⟩, R⟩ := x
      simp only at z0 hml htk h2
      obtain ⟨_, _, hv, _⟩ := hml.shape
      simp only [Value.slice.injEq] at hv
      obtain ⟨rfl, rfl, rfl⟩ := hv
      change wr.cell? (a.add k) = some (.slice xA R.length xc) at z0
      obtain ⟨s1, hs1⟩ : ∃ s1, s1 = ((l.take k).flatMap (·.2)).length := ⟨_, rfl⟩
      obtain ⟨r1, hr1⟩ : ∃ r1, r1 = R.length := ⟨_, rfl⟩
      rw [← hs1, ← hr1] at h2
      rw [← hs1]
      rw [← hr1] at z0
      have hw : IntKind.i64.wrap ((s1 : Int) + (r1 : Int)) = (s1 : Int) + (r1 : Int) := IntWalk.i64_in _ (by omega)
      have hneg : ¬ (s1 : Int) + (r1 : Int) < 0 := by omega
      have hnegd : decide ((s1 : Int) + (r1 : Int) < 0) = false := decide_eq_false hneg
      have V := Lib.hid (And.intro htk (And.intro hs1 hr1)); clear htk hs1 hr1 hml hc h1 h2
      go_wp2_with fail
      go_roundw
      case rel => exact ⟨k + 1, by omega, by go_num, by rw [V.out.1, List.length_append, ← V.out.2.1, ← V.out.2.2]; simp, by first | rfl | trivial⟩
      case measure => simp [intOf]; omega
    · have hkn : n = k := by omega
      subst hkn
      have hz3 : ((l.take n).flatMap (·.2)).length = z := by rw [List.take_of_length_le (by have := H.out.2.2.1; omega)]; exact H.out.2.2.2.1.symm
      rw [hz3]
      have cG := GrowS_nil z hz hz2 wr
      have G := Lib.hid cG; clear cG hz3
      go_wp2_with (go_at_call 61; ((with_reducible refine (G.out).mono ?_); rintro e w2 ⟨gv, ⟨rfl, hO⟩, hb2⟩; have B2 := Lib.hid (And.intro hO hb2); clear hO hb2))
      go_loopw [6, 27] (fun cv kv w3 => ∃ k : Nat, k ≤ n ∧ kv = .int .i64 (k : Int) ∧ Own w3 wr.heap.size 29 2 sxF cv ((l.take k).flatMap (·.2)) ∧ Below wr.heap.size wr w3) (fun _ kv _ => n - (intOf kv).toNat)
      case atStart => exact ⟨0, Nat.zero_le _, rfl, B2.out.1, B2.out.2⟩
      case round =>
        rename World => w3
        obtain ⟨k, hk, rfl, hO, hb⟩ := hrel
        by_cases hlt2 : k < n
        · have hkl : k < l.length := by have := H.out.2.2.1; omega
          obtain ⟨a, rfl, hc⟩ := (H.out.1.later hb).cells rfl (by omega)
          have z0 := hc.row1 k hkl rfl
          rw [Nat.mul_one] at z0
          have hml := (H.out.2.1 _ (List.getElem_mem hkl)).later hb
          have htk : (l.take (k + 1)).flatMap (·.2) = (l.take k).flatMap (·.2) ++ (l[k]'hkl).2 := by rw [take_snoc hkl, List.flatMap_append]; simp
          have h2 := H.out.2.2.2.2 (k + 1)
          rw [htk, List.length_append] at h2
          generalize l[k]'hkl = x at *
          obtain ⟨⟨xA, xn, xc⟩, R⟩ := x
          simp only at z0 hml htk h2
          obtain ⟨_, _, hv, _⟩ := hml.shape
          simp only [Value.slice.injEq] at hv
          obtain ⟨rfl, rfl, rfl⟩ := hv
          change w3.cell? (a.add k) = some (.slice xA R.length xc) at z0
          change At w3 2 sxF (.slice xA R.length xc) R at hml
          obtain ⟨r1, hr1⟩ : ∃ r1, r1 = R.length := ⟨_, rfl⟩
          rw [← hr1] at z0 hml h2
          obtain ⟨vA, vn, vc, rfl⟩ := own_shape hO
          have V := Lib.hid (And.intro htk (And.intro hr1 (And.intro hml (And.intro h2 (And.intro hO hb))))); clear htk hr1 hml hc h2 hO hb
          go_wp2_with (at_builtin; go_loud (refine wpList_append_loc _ rfl (.tmp 31) (.tmp 32) 30 rfl wr.heap.size 29 js (.agg #[.string ⟨#[]⟩, .slice none 0 0]) 2 40 Try.underlying30 sj sy0 sy1 sy2 rfl (by decide) (f := sxF) (fun _ => rfl) sxF_one (.slice vA vn vc) ((l.take k).flatMap (·.2)) rfl V.out.2.2.2.2.1 xA r1 xc R V.out.2.1 rfl V.out.2.2.1 (by unfold maxLen; have := V.out.2.2.2.1; omega) (by have := V.out.2.2.2.1; omega) V.out.2.2.2.2.2.size ?_; intro v7 w7 hO7 hg7 hl7; obtain ⟨nA, nn, nc, rfl⟩ := own_shape hO7; have Y := Lib.hid (And.intro hO7 hg7); clear hO7 hg7 hl7))
          go_roundw
          case rel => exact ⟨k + 1, by omega, by go_num, by rw [V.out.1]; exact Y.out.1, V.out.2.2.2.2.2.trans (grownBy_below Y.out.2 V.out.2.2.2.2.2.size (fun x hx => (ownBI V.out.2.2.2.2.1 hx).1))⟩
          case measure => simp [intOf]; omega
        · have hkn : n = k := by omega
          subst hkn
          have hte : (l.take n).flatMap (·.2) = l.flatMap (·.2) := by rw [List.take_of_length_le (by have := H.out.2.2.1; omega)]
          rw [hte] at hO
          obtain ⟨vA, vn, vc, rfl⟩ := own_shape hO
          have V := Lib.hid (And.intro hO hb); clear hO hb hte
          go_wp2_with fail
          go_ret
          exact ⟨_, ⟨rfl, V.out.1⟩, V.out.2⟩
end Go.Proofs.Ytkmboffbohndjaa
