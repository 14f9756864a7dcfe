/- Layer 12: where names lead. -/
import Derived.Test.YtinonfgehbjneaaGphA
import Derived.Test.YtinonfgehbjneaaAppOne
namespace Go.Proofs.Ytinonfgehbjneaa
open Go.ChangeShapes Go.WideShapes Go.ChangeAt Go.RowKit Go.Maps
open Gr (Nd nmAt frAt Comes cn leadsU leadsL)
set_option linter.unusedVariables false
set_option linter.unusedSimpArgs false

theorem cn_le (s : ByteArray) (l : List ByteArray) : cn s l ≤ l.length := List.countP_le_length
theorem leadsU_len (N : List Nd) (s : ByteArray) : ∀ i, (leadsU N i s).length ≤ tot N i
  | 0 => Nat.le_refl _
  | i + 1 => by
    have := leadsU_len N s i
    have := cn_le s (frAt N i)
    simp only [leadsU, tot, List.length_append, List.length_replicate]; omega
theorem cn_more {s : ByteArray} {l : List ByteArray} {j : Nat} (hj : j < l.length) : cn s (l.take (j + 1)) = cn s (l.take j) + if s = l[j]'hj then 1 else 0 := by
  rw [Gr.take_more hj]
  unfold cn
  rw [List.countP_append]
  congr 1
  by_cases h : s = l[j]'hj
  · rw [if_pos h]; simp [h]
  · rw [if_neg h]; simp [Ne.symm h]
/-- What is known within a round. -/
def midT (N : List Nd) (i j : Nat) : ByteArray → List Nat := fun s => leadsU N i s ++ List.replicate (cn s ((frAt N i).take j)) i
theorem midT_zero (N : List Nd) (i : Nat) : midT N i 0 = leadsU N i := by
  funext s; simp [midT, cn]
theorem midT_all (N : List Nd) (i : Nat) : midT N i (frAt N i).length = leadsU N (i + 1) := by
  funext s; simp [midT, leadsU]
theorem midT_step {N : List Nd} {i j : Nat} (hj : j < (frAt N i).length) {s : ByteArray} (hs : s = (frAt N i)[j]'hj) : updT (midT N i j) s (midT N i j s ++ [i]) = midT N i (j + 1) := by
  funext t
  unfold updT midT
  rw [cn_more hj, ← hs]
  by_cases h : t = s
  · subst h
    rw [if_pos rfl, if_pos rfl, List.append_assoc]
    congr 1
    rw [List.replicate_succ']
  · rw [if_neg h, if_neg h]; rfl
theorem midT_len (N : List Nd) (i j : Nat) (s : ByteArray) : (midT N i j s).length ≤ tot N i + j := by
  have := leadsU_len N s i
  have h2 := cn_le s ((frAt N i).take j)
  rw [List.length_take] at h2
  simp only [midT, List.length_append, List.length_replicate]; omega
/-- The node at a place. -/
theorem at_node {l : List Ny} {N : List Nd} (h : l.map (·.1) = N) {i : Nat} (hi : i < l.length) : nmAt N i = (l[i]'hi).1.1 ∧ frAt N i = (l[i]'hi).1.2 := by
  subst h
  unfold nmAt frAt
  simp [List.getD, List.getElem?_map, List.getElem?_eq_getElem hi]
theorem new_cells {w : World} {g : Nat} (hg : g = w.heap.size) (t : TypeId) (cs : Array Value) : ∀ j u, cs.toList[j]? = some u → (w.alloc (.cells cs t)).cell? ((⟨g, 0, none⟩ : Addr).add j) = some u := by
  subst hg
  exact blk_cells (Blk.new w t cs)
theorem at_newP (w : World) (k : Nat) : At (w.alloc (.cells #[.int .i64 (k : Int)] 3)) 1 rowP (.slice (some ⟨w.heap.size, 0, none⟩) 1 1) [k] := by
  refine ⟨some ⟨w.heap.size, 0, none⟩, 1, rfl, by simp, by unfold maxLen; omega, fun h => by simp at h, fun b hb j hj i v hv => ?_⟩
  obtain rfl : (⟨w.heap.size, 0, none⟩ : Addr) = b := by simpa using hb
  have hj0 : j = 0 := by simpa using hj
  subst hj0
  simp only [List.getElem_cons_zero] at hv
  rw [Nat.zero_mul, Nat.zero_add]
  exact new_cells rfl 3 _ i v hv
theorem one_rowP (k : Nat) : ∀ u ∈ rowP k, u.oneCell' = true := fun u hu => by simp at hu; subst hu; rfl
theorem wpList_mapUpdate_ld (w0 w : World) {ops : Array Oper} {rest : List Oper} {o : Oper} {a : Act} {Q : Exit → Act → World → Prop}
    (hg : o.guard = none) (m x v : Operand) (hop : o.op = Op.mapUpdate 58 m x v)
    (B b cnt : Nat) (V : ByteArray → RV) (T : ByteArray → List Nat) (hm : a.eval m = .map (some b)) (h : LdV w0 B b cnt V T) (hn : cnt < maxLen) (s : ByteArray) (hx : a.eval x = .string s) (hs : s.size ≤ maxLen) (r : RV) (hv : a.eval v = rvV r)
    (L : List Nat) (hO : Own w B 3 1 rowP (rvV r) L) (hgw : w0.grownBy w (rvV (V s)).ownBlock) (hloc : ∀ x, (rvV r).ownBlock = some x → (rvV (V s)).ownBlock = some x ∨ w0.heap.size ≤ x)
    (hK : ∀ w2, LdV w2 B b (cnt + 1) (updV V s r) (updT T s L) → w.grownBy w2 (some b) → wpList Try.prog ops Q rest (a.put o.dst undef) w2) :
    wpList Try.prog ops Q (o :: rest) a w := by
  refine wpList_plain hg fun K' hK' => ?_
  obtain ⟨w2, hrun, r1, r2⟩ := h.put hn hs hO hgw hloc
  unfold Oper.wp
  simp [execOp, hop, hm, hx, hv, hrun, Result.andThen]
  exact hK' _ _ (hK w2 r1 r2)
def LeadsP (N : List Nd) (w : World) (e : Ending) (w' : World) : Prop := ∃ m, (e = .returned (.map (some m)) ∧ LdAt w' w.heap.size m (leadsL N)) ∧ Below w.heap.size w w'
set_option maxHeartbeats 2000000 in
theorem leads_any (v : Value) (N : List Nd) (w : World) (h : NdsAt w v N) (hn : N.length ≤ 1000) (ht : tot N N.length ≤ 26388279066700) :
    Calls Try.prog 29 #[v] w (LeadsP N w) := by
  obtain ⟨l, h1, h2, h3⟩ := h
  obtain ⟨A, c, rfl, a1, a2, _⟩ := h1.shape
  obtain ⟨n, hnl⟩ : ∃ n, n = l.length := ⟨_, rfl⟩
  have hN : N.length = n := by rw [hnl, ← h2, List.length_map]
  rw [← hnl] at h1 a1 ⊢
  rw [hN] at ht hn
  have H := Lib.hid (And.intro h1 (And.intro h2 (And.intro h3 (And.intro hnl (And.intro hN ht))))); clear h1 h2 h3 hnl hN ht a1
  obtain ⟨j0, hj, hy0, hy1, hy2⟩ := info_parts (P := Try.prog) (e := 3) (z := .int .i64 0) (size := 1) (bytes := 8) (by kernel_rfl)
  have hmm := @run_makeMap Try.prog
  have hM0 : LdV (w.alloc (.map #[] 0)) w.heap.size w.heap.size 0 (fun _ => none) (leadsU N 0) := LdV.made w
  have hb0 := ba w (.map #[] 0)
  have KM := Lib.hid (And.intro hM0 hb0); clear hM0 hb0
  go_enter Try.func29, Try.ntmps29
  go_wp2_with fail
  clear hmm
  go_loopw [11] (fun iv wr => ∃ (i cnt : Nat) (V : ByteArray → RV), i ≤ n ∧ iv = .int .i64 (i : Int) ∧ LdV wr w.heap.size w.heap.size cnt V (leadsU N i) ∧ cnt ≤ tot N i ∧ Below w.heap.size w wr) (fun iv _ => n - (intOf iv).toNat)
  case atStart => exact ⟨0, 0, _, Nat.zero_le _, rfl, KM.out.1, Nat.le_refl _, KM.out.2⟩
  case round =>
    rename World => wr0
    clear KM
    obtain ⟨i, cnt, V, hi, rfl, hV, hc, hb⟩ := hrel
    by_cases hlt : i < n
    · have hil : i < l.length := by have := H.out.2.2.2.1; omega
      obtain ⟨a, rfl, hca⟩ := (H.out.1.later hb).cells rfl (by omega)
      obtain ⟨e0, e1⟩ := hca.row2 i hil rfl
      obtain ⟨f1, f2⟩ := at_node H.out.2.1 hil
      obtain ⟨g1, g2, g3⟩ := H.out.2.2.1 _ (List.getElem_mem hil)
      have g1' := g1.later hb
      have hti : tot N (i + 1) ≤ 26388279066700 := Nat.le_trans (tot_mono n (by omega)) H.out.2.2.2.2.2
      simp only [tot] at hti
      generalize l[i]'hil = y at *
      obtain ⟨⟨nm, fr⟩, fA, fn, fc⟩ := y
      simp only at e0 e1 f1 f2 g1 g1' g2 g3
      rw [f2] at hti
      obtain ⟨B1, cc, hv, k1, k2, k3⟩ := g1'.shape
      simp only [Value.slice.injEq] at hv
      obtain ⟨q1, q2, q3⟩ := hv
      subst q2
      subst q3
      subst q1
      have K := Lib.hid (And.intro hV (And.intro hc (And.intro hb (And.intro g1 (And.intro g3 (And.intro f2 hti)))))); clear hV hc hb g1 g1' g3 f1 f2 hti hca k1 k3
      obtain ⟨w4, hw4⟩ : ∃ w4, w4 = wr0.alloc (.cells #[.string nm, .slice fA fr.length fc] 45) := ⟨_, rfl⟩
      have hb4 : Below wr0.heap.size wr0 w4 := by rw [hw4]; exact ba _ _
      have K4 := Lib.hid (And.intro (K.out.1.later hb4) (And.intro (bt K.out.2.2.1 hb4) K.out.2.2.2.1)); clear hb4
      obtain ⟨nf, hnf⟩ : ∃ nf, nf = fr.length := ⟨_, rfl⟩
      change wr0.cell? ⟨(a.add (i * 2)).block, (a.add (i * 2)).off + 1, none⟩ = some (.slice fA fr.length fc) at e1
      have hnfb : nf ≤ 9223372036854775807 := by unfold maxLen at k2; have := K.out.2.2.2.2.2.2; omega
      rw [← hnf] at K4 hw4 e1
      have HF := Lib.hid hnf; clear hnf
      go_wp2_with fail
      rw [← hw4]
      clear hw4
      go_loopw [19] (fun jv wr => ∃ (j cnt1 : Nat) (V1 : ByteArray → RV), j ≤ nf ∧ jv = .int .i64 (j : Int) ∧ LdV wr w.heap.size w.heap.size cnt1 V1 (midT N i j) ∧ cnt1 ≤ tot N i + j ∧ Below w.heap.size w wr) (fun jv _ => nf - (intOf jv).toNat)
      case atStart => exact ⟨0, cnt, V, Nat.zero_le _, rfl, (midT_zero N i).symm ▸ K4.out.1, K.out.2.1, K4.out.2.1⟩
      case round =>
        rename World => wr1
        obtain ⟨j, cnt1, V1, hj2, rfl, hV1, hc1, hb6⟩ := hrel
        by_cases hlt2 : j < nf
        · have hjl : j < fr.length := by have := HF.out; omega
          obtain ⟨a2, rfl, hca2⟩ := (K4.out.2.2.later hb6).cells rfl (by have := HF.out; omega)
          have z0 := hca2.row1 j hjl rfl
          rw [Nat.mul_one] at z0
          have hsz := K.out.2.2.2.2.1 _ (List.getElem_mem hjl)
          have hfe : (frAt N i) = fr := K.out.2.2.2.2.2.1
          have hst : updT (midT N i j) (fr[j]'hjl) (midT N i j (fr[j]'hjl) ++ [i]) = midT N i (j + 1) := midT_step (by rw [hfe]; exact hjl) (by simp only [hfe])
          have hlen := midT_len N i j (fr[j]'hjl)
          have hmax := K.out.2.2.2.2.2.2
          rw [← HF.out] at hmax
          generalize fr[j]'hjl = s at *
          have hO := hV1.rows s hsz
          have hlk := hV1.look hsz
          obtain ⟨Ar, cr, hsh, _, _, _⟩ := hO.shape
          rw [hsh] at hlk
          obtain ⟨tn, htn⟩ : ∃ tn, tn = (midT N i j s).length := ⟨_, rfl⟩
          rw [← htn] at hlen hlk hsh
          have M := Lib.hid (And.intro hV1 (And.intro hsz (And.intro hst (And.intro hb6 (And.intro hb6 (And.intro hO (And.intro htn hsh))))))); clear hV1 hst hb6 hO htn hfe hca2 hsh
          have hB1 := at_newP wr1 i
          go_wp2_with (first
            | (at_builtin; refine wpList_append_one_loc _ rfl (.tmp 27) (.tmp 29) 31 rfl w.heap.size 3 j0 (.int .i64 0) 1 8 Try.underlying31 hj hy0 hy1 hy2 rfl (by decide) (f := rowP) (fun _ => rfl) one_rowP _ (midT N i j s) rfl (by have := M.out.2.2.2.2.2.1.later (ba wr1 (.cells #[.int .i64 (i : Int)] 3)); rw [M.out.2.2.2.2.2.2.2] at this; exact this) ⟨wr1.heap.size, 0, none⟩ 1 i rfl hB1 (by have := M.out.2.2.2.2.2.2.1; unfold maxLen; omega) (by omega) (by have := M.out.2.2.2.2.2.2.1; omega) (by have := M.out.2.2.2.2.1.size; simp only [World.size_alloc]; omega) ?_; intro v5 w5 hO5 hg5 hq5; obtain ⟨r5, rfl⟩ := own_rv hO5; have Z := Lib.hid (And.intro hO5 (And.intro hg5 hq5)); clear hO5 hg5 hq5)
            | (at_mapUpdate; refine wpList_mapUpdate_ld (wr1.alloc (.cells #[.int .i64 (i : Int)] 3)) _ rfl _ _ _ rfl w.heap.size w.heap.size cnt1 V1 (midT N i j) rfl (M.out.1.later (ba _ _)) (by unfold maxLen; omega) s rfl hsz r5 rfl _ Z.out.1 (by rw [M.out.2.2.2.2.2.2.2]; exact Z.out.2.1) (by rw [M.out.2.2.2.2.2.2.2]; exact Z.out.2.2) ?_; intro w6 hV6 hg6))
          have hbB : Below w.heap.size w (wr1.alloc (.cells #[.int .i64 (i : Int)] 3)) := bt M.out.2.2.2.2.1 (ba wr1 (.cells #[.int .i64 (i : Int)] 3))
          have hbC : Below w.heap.size w w5 := hbB.trans (grownBy_below Z.out.2.1 hbB.size (fun k hk => (Own.block (M.out.2.2.2.2.2.1) (by rw [M.out.2.2.2.2.2.2.2]; exact hk)).1))
          have hbA : Below w.heap.size w w6 := hbC.trans (grownBy_below hg6 hbC.size (fun k hk => by cases hk; exact Nat.le_refl _))
          go_roundw
          case rel => exact ⟨j + 1, cnt1 + 1, _, by omega, by go_num, M.out.2.2.1 ▸ hV6, by omega, hbA⟩
          case measure => simp [intOf]; omega
        · obtain rfl : j = nf := by omega
          have M := Lib.hid (And.intro hV1 hb6); clear hV1 hb6
          have e : midT N i j = leadsU N (i + 1) := by rw [HF.out, ← K.out.2.2.2.2.2.1]; exact midT_all N i
          have hti : tot N (i + 1) = tot N i + j := by simp only [tot]; rw [K.out.2.2.2.2.2.1, HF.out]
          go_wp2_with fail
          go_roundw
          case rel => exact ⟨i + 1, cnt1, V1, by omega, by go_num, e ▸ M.out.1, by omega, M.out.2⟩
          case measure => simp [intOf]; omega
    · obtain rfl : i = n := by omega
      have K := Lib.hid (And.intro hV hb); clear hV hb
      go_wp2_with fail
      go_ret
      have hE : leadsL N = leadsU N i := by funext s; show leadsU N N.length s = _; rw [H.out.2.2.2.2.1]
      exact ⟨w.heap.size, ⟨rfl, cnt, V, hE ▸ K.out.1⟩, K.out.2⟩
end Go.Proofs.Ytinonfgehbjneaa
