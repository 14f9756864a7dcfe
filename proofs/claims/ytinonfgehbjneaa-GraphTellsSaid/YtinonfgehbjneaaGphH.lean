/- Layer 12: ranks. -/
import Derived.Test.YtinonfgehbjneaaGphG
import Derived.Deep.DeepCutAuto
import Derived.Deep.CutBlock
import Derived.StillTailTactics
namespace Go.Proofs.Ytinonfgehbjneaa
open Go.ChangeShapes Go.WideShapes Go.ChangeAt Go.RowKit Go.Maps
open Gr (Nd nmAt frAt cn leadsU leadsL wtOf Dist Kahn Inner RankFull Loopy)
set_option linter.unusedVariables false
set_option linter.unusedSimpArgs false

def RankP (N : List Nd) (w : World) (e : Ending) (w' : World) : Prop :=
  ∃ (r : Value) (R : List Nat) (k : Nat), (e = .returned (.tuple #[r, .int .i64 (k : Int)]) ∧ Own w' w.heap.size 3 1 rowP r R ∧ R.length = N.length ∧ ((k = N.length ∧ RankFull N (fun j => R.getD j 0)) ∨ (k < N.length ∧ Loopy N))) ∧ Below w.heap.size w w'
set_option maxRecDepth 20000 in
set_option maxHeartbeats 8000000 in
theorem rank_any (v : Value) (N : List Nd) (m cnt : Nat) (S : List ByteArray) (w : World) (h : NdsAt w v N) (hM : MetS w m cnt S) (hS : ∀ s, s ∈ S ↔ Named N s) (hD : Dist N) (hn : N.length ≤ 1000) (ht : tot N N.length ≤ 26388279066700) :
    Calls Try.prog 24 #[v, .map (some m)] w (RankP N w) := by
  obtain ⟨j0, hj, hy0, hy1, hy2⟩ := info_parts (P := Try.prog) (e := 3) (z := .int .i64 0) (size := 1) (bytes := 8) (by kernel_rfl)
  have hw := h
  have cLd := leads_any v N w h hn ht
  obtain ⟨l, h1, h2, h3⟩ := h
  obtain ⟨A, c, rfl, a1, a2, _⟩ := h1.shape
  obtain ⟨n, hnl⟩ : ∃ n, n = l.length := ⟨_, rfl⟩
  have hN : N.length = n := by rw [hnl, ← h2, List.length_map]
  rw [← hnl] at h1 a1 hw cLd ⊢
  have hn' : n ≤ 1000 := by omega
  have hts : ∀ i, i < n → (frAt N i).length ≤ 26388279066700 := fun i hi => by
    have := tot_mono (N := N) (i := i + 1) N.length (by omega)
    simp only [tot] at this; omega
  have H := Lib.hid (And.intro h1 (And.intro h2 (And.intro h3 (And.intro hnl (And.intro hN (And.intro hM (And.intro hS (And.intro hD hts)))))))); clear h1 h2 h3 hnl hN hw hn a1 ht hM hS hD hts
  have CL := Lib.hid cLd; clear cLd
  go_enter Try.func24, Try.ntmps24
  go_wp2_with (first
    | (go_at_call 29; refine CL.out.mono ?_; rintro e w1 ⟨m2, ⟨rfl, hL⟩, hb1⟩; have K := Lib.hid (And.intro hL hb1); clear hL hb1)
    | (refine wpList_make_row _ rfl _ _ 31 rfl 3 j0 (.int .i64 0) Try.underlying31 hj hy0 hy1 rfl .i64 .i64 n rfl rfl (by rw [hy2]; omega) (by omega) ?_))
  clear CL
  have hW0 := own_madeI w1 n (by unfold maxLen; omega)
  have hb0 := ba w1 (.cells (madeCells #[.int .i64 0] n) 3)
  obtain ⟨gw, hgw⟩ : ∃ gw, gw = w1.heap.size := ⟨_, rfl⟩
  rw [← hgw] at hW0 ⊢
  have hs2 : (w1.alloc (.cells (madeCells #[.int .i64 0] n) 3)).heap.size = gw + 1 := by simp [hgw]
  generalize w1.alloc (.cells (madeCells #[.int .i64 0] n) 3) = w2 at *
  have K2 := Lib.hid (And.intro (wl_zero N n ▸ hW0) (And.intro hb0 (And.intro hgw hs2))); clear hW0 hb0 hgw hs2
  go_wp2_with fail
  go_loopw [8, 23] (fun xv iv wr => ∃ (i : Nat) (X : List Nat), i ≤ n ∧ iv = .int .i64 (i : Int) ∧ Own wr gw 3 1 rowP (.slice (some ⟨gw, 0, none⟩) n n) (wl N n i 0) ∧ Own wr (gw + 1) 3 1 rowP xv X ∧ Rise (fun k => k < i ∧ wtOf N [] k = 0) X ∧ Below gw w1 wr) (fun _ iv _ => n - (intOf iv).toNat)
  case atStart => exact ⟨0, [], Nat.zero_le _, rfl, K2.out.1, Own.nil _ _ _ _ _, ⟨List.Pairwise.nil, fun k => by simp⟩, K2.out.2.2.1 ▸ K2.out.2.1⟩
  case round =>
    rename World => wr0
    obtain ⟨i, X, hi, rfl, hW, hX, hR, hb⟩ := hrel
    have hbw : Below w.heap.size w wr0 := K.out.2.trans (hb.mono (by have := K.out.2.size; have := K2.out.2.2.1; omega))
    by_cases hlt : i < n
    · have hil : i < l.length := by have := H.out.2.2.2.1; omega
      obtain ⟨a, rfl, hca⟩ := (H.out.1.later hbw).cells rfl (by omega)
      obtain ⟨e0, e1⟩ := hca.row2 i hil rfl
      obtain ⟨f1, f2⟩ := at_node H.out.2.1 hil
      obtain ⟨g1, g2, g3⟩ := H.out.2.2.1 _ (List.getElem_mem hil)
      have hti := H.out.2.2.2.2.2.2.2.2 i hlt
      have hLi := hR.len (n := i) (fun k hk => hk.1)
      generalize l[i]'hil = y at *
      obtain ⟨⟨nm, fr⟩, fA, fn, fc⟩ := y
      simp only at e0 e1 f1 f2 g1 g2 g3
      rw [f2] at hti
      obtain ⟨B1, cc, hv, k1, k2, k3⟩ := g1.shape
      simp only [Value.slice.injEq] at hv
      obtain ⟨q1, q2, q3⟩ := hv
      subst q2
      subst q3
      subst q1
      change wr0.cell? ⟨(a.add (i * 2)).block, (a.add (i * 2)).off + 1, none⟩ = some (.slice fA fr.length fc) at e1
      obtain ⟨nf, hnf⟩ : ∃ nf, nf = fr.length := ⟨_, rfl⟩
      have hnfb : nf ≤ 9223372036854775807 := by omega
      rw [← hnf] at e1 hti
      obtain ⟨lA, lc, rfl, _, _, _⟩ := hX.shape
      obtain ⟨ln, hln⟩ : ∃ ln, ln = X.length := ⟨_, rfl⟩
      rw [← hln] at hX hLi ⊢
      obtain ⟨w4, hw4⟩ : ∃ w4, w4 = wr0.alloc (.cells #[.string nm, .slice fA nf fc] 45) := ⟨_, rfl⟩
      have hb4 : Below wr0.heap.size wr0 w4 := by rw [hw4]; exact ba _ _
      have hgs : gw ≤ wr0.heap.size := by have := hb.size; have := K2.out.2.2.1; omega
      have M := Lib.hid (And.intro (hW.later hb4) (And.intro (hX.later hb4) (And.intro hR (And.intro (hb.trans (hb4.mono hgs)) (And.intro (hbw.trans (hb4.mono hbw.size)) (And.intro f2 (And.intro g1 (And.intro g3 (And.intro hnf hln)))))))))
      clear hW hX hR hb hbw hb4 f1 f2 g1 g3 hnf hln hca k1 k3
      go_wp2_with fail
      rw [← hw4]
      clear hw4
      go_loopw [31] (fun jv wr => ∃ j : Nat, j ≤ nf ∧ jv = .int .i64 (j : Int) ∧ Own wr gw 3 1 rowP (.slice (some ⟨gw, 0, none⟩) n n) (wl N n i (cNamed N (fr.take j))) ∧ Own wr (gw + 1) 3 1 rowP (.slice lA ln lc) X ∧ Below gw w1 wr) (fun jv _ => nf - (intOf jv).toNat)
      case atStart => exact ⟨0, Nat.zero_le _, rfl, M.out.1, M.out.2.1, M.out.2.2.2.1⟩
      case round =>
        rename World => wr1
        obtain ⟨j, hj2, rfl, hW, hX, hb⟩ := hrel
        have hgs : gw ≤ wr1.heap.size := by have := hb.size; have := K2.out.2.2.1; omega
        have hbw : Below w.heap.size w wr1 := K.out.2.trans (hb.mono (by have := K.out.2.size; have := K2.out.2.2.1; omega))
        have hiW : i < (wl N n i (cNamed N (fr.take j))).length := by rw [wl_len]; exact hlt
        obtain ⟨gw', hgw', gb, gl, gf, gc⟩ := hW.cells (f := rowP) (k := 1) (fun _ => rfl) rfl (by rw [wl_len]; omega)
        obtain rfl : gw = gw' := by simpa using hgw'
        clear hgw'
        have y0 := gc i hiW 0 _ rfl
        rw [wl_here, Nat.mul_one, Nat.add_zero] at y0
        have hcl : cNamed N (fr.take j) ≤ nf := by
          have : cNamed N (fr.take j) ≤ (fr.take j).length := List.countP_le_length
          rw [List.length_take] at this; omega
        by_cases hlt2 : j < nf
        · have hjl : j < fr.length := by have := M.out.2.2.2.2.2.2.2.2.1; omega
          obtain ⟨a2, rfl, hca2⟩ := (M.out.2.2.2.2.2.2.1.later hbw).cells rfl (by have := M.out.2.2.2.2.2.2.2.2.1; omega)
          have z0 := hca2.row1 j hjl rfl
          rw [Nat.mul_one] at z0
          have hsz := M.out.2.2.2.2.2.2.2.1 _ (List.getElem_mem hjl)
          obtain ⟨hc1, hc2⟩ := cNamed_more (N := N) hjl
          generalize fr[j]'hjl = s at *
          obtain ⟨b, hlk, hbS⟩ := (H.out.2.2.2.2.2.1.later hbw).look hsz
          have hbN := hbS.trans (H.out.2.2.2.2.2.2.1 s)
          cases b with
          | true =>
            have hnm := hbN.1 rfl
            have hW2 := Own.put (f := rowP) (k := 1) (fun _ => rfl) hW i hiW (i := 0) (by omega) (x := cNamed N (fr.take j) + 1) (u := .int .i64 ((cNamed N (fr.take j) : Int) + 1)) (by simp [rowP])
            rw [Nat.mul_one, Nat.add_zero, wl_set, ← hc1 hnm] at hW2
            have hX2 := hX.far (p := ⟨gw, i, none⟩) (Nat.lt_succ_self gw) (.int .i64 ((cNamed N (fr.take j) : Int) + 1))
            have hb2 := hb.setCell (p := ⟨gw, i, none⟩) (Nat.le_refl gw) (.int .i64 ((cNamed N (fr.take j) : Int) + 1))
            have U := Lib.hid (And.intro hW2 (And.intro hX2 hb2)); clear hW2 hX2 hb2 hW hX hb hbw hc1 hc2 hbS hbN hnm hca2 gc hiW
            generalize cNamed N (fr.take j) = c1 at *
            go_wp2_with fail
            go_roundw
            case rel => exact ⟨j + 1, by omega, by go_num, U.out.1, U.out.2.1, U.out.2.2⟩
            case measure => simp [intOf]; omega
          | false =>
            have hnm : ¬ Named N s := fun h => by have := hbN.2 h; cases this
            rw [← hc2 hnm] at hW
            have U := Lib.hid (And.intro hW (And.intro hX hb)); clear hW hX hb hbw hc1 hc2 hbS hbN hnm hca2 gc hiW
            generalize cNamed N (fr.take j) = c1 at *
            go_wp2_with fail
            go_roundw
            case rel => exact ⟨j + 1, by omega, by go_num, U.out.1, U.out.2.1, U.out.2.2⟩
            case measure => simp [intOf]; omega
        · obtain rfl : j = nf := by omega
          have hfe : cNamed N (fr.take j) = wtOf N [] i := by rw [wtOf_nil, M.out.2.2.2.2.2.1, M.out.2.2.2.2.2.2.2.2.1, List.take_length]
          rw [hfe] at y0 hW hcl
          rw [wl_next] at hW
          by_cases h0 : wtOf N [] i = 0
          · rw [h0] at y0
            have hR2 := M.out.2.2.1.more h0
            have U := Lib.hid (And.intro hW (And.intro hX (And.intro hb hR2))); clear hW hX hb hbw gc hiW hfe hR2 h0 hcl
            have hB1 := at_newP wr1 i
            go_wp2_with (at_builtin; refine wpList_append_loc _ rfl (.tmp 50) (.tmp 52) 31 rfl (gw + 1) 3 j0 (.int .i64 0) 1 8 Try.underlying31 hj hy0 hy1 hy2 rfl (by decide) (f := rowP) (fun _ => rfl) one_rowP _ X rfl (U.out.2.1.later (ba _ _)) (some ⟨wr1.heap.size, 0, none⟩) 1 1 [i] rfl rfl hB1 (by have := M.out.2.2.2.2.2.2.2.2.2; unfold maxLen; omega) (by have := M.out.2.2.2.2.2.2.2.2.2; omega) (by simp only [World.size_alloc]; omega) ?_; intro v6 w6 hO6 hg6 hq6; have Z := Lib.hid (And.intro hO6 hg6); clear hO6 hg6 hq6)
            have bA := ba wr1 (.cells #[.int .i64 (i : Int)] 3)
            have b6 := (U.out.2.2.1.trans (bA.mono hgs)).trans (grownBy_below Z.out.2 (Nat.le_trans hgs bA.size) (fun k hk => by have := (Own.block U.out.2.1 hk).1; omega))
            have hW6 := (U.out.1.later bA).grown Z.out.2 (fun b hb e => by have := (Own.block U.out.2.1 hb).1; simp [Value.ownBlock] at e; omega)
            go_roundw
            case rel => exact ⟨i + 1, X ++ [i], by omega, by go_num, hW6, Z.out.1, U.out.2.2.2, b6⟩
            case measure => simp [intOf]; omega
          · have hR2 := M.out.2.2.1.skip h0
            have h0i : ¬ ((wtOf N [] i : Nat) : Int) = 0 := by omega
            have U := Lib.hid (And.intro hW (And.intro hX (And.intro hb hR2))); clear hW hX hb hbw gc hiW hfe hR2 h0
            generalize wtOf N [] i = c1 at *
            go_wp2_with fail
            go_roundw
            case rel => exact ⟨i + 1, X, by omega, by go_num, U.out.1, U.out.2.1, U.out.2.2.2, U.out.2.2.1⟩
            case measure => simp [intOf]; omega
    · obtain rfl : i = n := by omega
      have hK0 := kahn_start H.out.2.2.2.2.1 hR
      have hgs : gw ≤ wr0.heap.size := by have := hb.size; have := K2.out.2.2.1; omega
      have hg1 : gw < wr0.heap.size := by
        rcases (by omega : i = 0 ∨ 0 < i) with h | h
        · obtain ⟨_, cs, hc⟩ := Own.block hW rfl
          exact (Array.getElem?_eq_some_iff.1 hc).1
        · obtain ⟨_, cs, hc⟩ := Own.block hW rfl
          exact (Array.getElem?_eq_some_iff.1 hc).1
      have hKh : KhAt w1 (wr0.alloc (.cells (madeCells #[.int .i64 0] i) 3)) gw wr0.heap.size i u8 (wl N i i 0) (List.replicate i 0) X := by
        have hb1 := ba wr0 (.cells (madeCells #[.int .i64 0] i) 3)
        refine ⟨hW.later hb1, own_madeI wr0 i (by unfold maxLen; omega), hX.later hb1, fun x hx => ?_, hg1, hb.trans (hb1.mono hgs), Nat.le_of_eq K2.out.2.2.1⟩
        obtain ⟨_, cs, hc⟩ := Own.block hX hx
        have := (Array.getElem?_eq_some_iff.1 hc).1
        omega
      have U := Lib.hid (And.intro hKh hK0); clear hKh hK0 hW hX hb hR hg1 hgs
      go_wp2_with (refine wpList_make_row _ rfl _ _ 31 rfl 3 j0 (.int .i64 0) Try.underlying31 hj hy0 hy1 rfl .i64 .i64 i rfl rfl (by rw [hy2]; omega) (by omega) ?_)
      obtain ⟨gr, hgr⟩ : ∃ gr, gr = wr0.heap.size := ⟨_, rfl⟩
      rw [← hgr] at U ⊢
      clear hgr
      go_loopw [5, 8] (fun dv xv wr => ∃ (d : Nat) (X Wm Rm : List Nat), dv = .int .i64 (d : Int) ∧ d ≤ X.length ∧ KhAt w1 wr gw gr i xv Wm Rm X ∧ Kahn N X d (fun k => Wm.getD k 0) (fun k => Rm.getD k 0) ∧ ∀ j, Rm.getD j 0 ≤ d) (fun dv _ _ => i - (intOf dv).toNat)
      case atStart => exact ⟨0, X, _, _, rfl, Nat.zero_le _, U.out.1, U.out.2, fun j => by simp [List.getD, List.getElem?_replicate]; split <;> simp⟩
      case round =>
        clear U
        rename World => wr3
        obtain ⟨d, X, Wm, Rm, rfl, hd, hKh, hK, hRd⟩ := hrel
        have hXn : X.length ≤ i := Gr.nodup_len hK.nodup (fun k hk => by have := hK.lt k hk; rw [H.out.2.2.2.2.1] at this; exact this)
        obtain ⟨xA, xc, rfl, _, _, _⟩ := hKh.nx.shape
        obtain ⟨xn, hxn⟩ : ∃ xn, xn = X.length := ⟨_, rfl⟩
        rw [← hxn] at hKh ⊢
        by_cases hlt3 : d < xn
        · have hdl : d < X.length := by omega
          obtain ⟨gx, rfl, _, _, _, oc⟩ := hKh.nx.cells (f := rowP) (k := 1) (fun _ => rfl) rfl (by omega)
          have z0 := oc d hdl 0 _ rfl
          simp only [Nat.mul_one, Nat.add_zero] at z0
          have hin := hK.lt _ (List.getElem_mem hdl)
          have hD := H.out.2.2.2.2.2.2.2.1
          have hstart := hK.inner (X[d]'hdl) (leadsL N (nmAt N (X[d]'hdl)))
          have hstep : ∀ (t : Nat) (X' : List Nat) (W' R' : Nat → Nat), Inner N X (X[d]'hdl) (fun k => Wm.getD k 0) (fun k => Rm.getD k 0) (leadsL N (nmAt N (X[d]'hdl))) t X' W' R' → ∀ (ht : t < (leadsL N (nmAt N (X[d]'hdl))).length) (k : Nat) (hk : k = (leadsL N (nmAt N (X[d]'hdl)))[t]'ht) (W2 R2 : Nat → Nat) (e1 : ∀ j, j < N.length → W2 j = if j = k then W' k - 1 else W' j) (e2 : ∀ j, j < N.length → R2 j = if j = k then max (R' k) (R' (X[d]'hdl) + 1) else R' j), 1 ≤ W' k ∧ Inner N X (X[d]'hdl) (fun k => Wm.getD k 0) (fun k => Rm.getD k 0) (leadsL N (nmAt N (X[d]'hdl))) (t + 1) (if W' k - 1 = 0 then X' ++ [k] else X') W2 R2 := fun t X' W' R' h ht k hk W2 R2 e1 e2 => h.step hK hD hdl ht hk e1 e2
          have hdone : ∀ (t : Nat) (X' : List Nat) (W' R' : Nat → Nat), Inner N X (X[d]'hdl) (fun k => Wm.getD k 0) (fun k => Rm.getD k 0) (leadsL N (nmAt N (X[d]'hdl))) t X' W' R' → (leadsL N (nmAt N (X[d]'hdl))).length ≤ t → Kahn N X' (d + 1) W' R' := fun t X' W' R' h ht => h.done hK hD hdl ht
          have hown : X[d]'hdl ∉ leadsL N (nmAt N (X[d]'hdl)) := hK.own hD hdl (List.getElem_mem hdl)
          generalize X[d]'hdl = i0 at *
          rw [H.out.2.2.2.2.1] at hin
          have hil : i0 < l.length := by have := H.out.2.2.2.1; omega
          have hbw : Below w.heap.size w wr3 := K.out.2.trans (hKh.bel.mono (by have := K.out.2.size; have := K2.out.2.2.1; omega))
          have hb1 : Below w1.heap.size w1 wr3 := K2.out.2.2.1 ▸ hKh.bel
          obtain ⟨a, rfl, hca⟩ := (H.out.1.later hbw).cells rfl (by omega)
          obtain ⟨e0, _⟩ := hca.row2 i0 hil rfl
          obtain ⟨f1, _⟩ := at_node H.out.2.1 hil
          have hsz := (H.out.2.2.1 _ (List.getElem_mem hil)).2.1
          rw [← f1] at e0 hsz
          generalize nmAt N i0 = s at *
          obtain ⟨cnt2, V, hL⟩ := K.out.1
          have hlk := (hL.later hb1).look hsz
          have hr0 := hL.rows s hsz
          obtain ⟨Br, cb, hsh, _, _, _⟩ := hr0.shape
          rw [hsh] at hlk hr0
          have hTi : ∀ k ∈ leadsL N s, k < i := fun k hk => by have := Gr.fr_lt (Gr.mem_leads.1 hk); rw [H.out.2.2.2.2.1] at this; exact this
          generalize leadsL N s = T at *
          obtain ⟨tn, htn⟩ : ∃ tn, tn = T.length := ⟨_, rfl⟩
          rw [← htn] at hlk hr0
          have htnb : tn ≤ 9223372036854775807 := by
            obtain ⟨_, _, e, _, q1, q2⟩ := hr0.shape
            unfold maxLen at q2; omega
          have hWb : ∀ k, k < i → Wm.getD k 0 ≤ 26388279066700 := fun k hk => by
            have h1 : Wm.getD k 0 = wtOf N (X.take d) k := hK.wts k (by rw [H.out.2.2.2.2.1]; exact hk)
            have h2 : wtOf N (X.take d) k ≤ (frAt N k).length := List.countP_le_length
            have h3 := H.out.2.2.2.2.2.2.2.2 k hk
            omega
          have M := Lib.hid (And.intro hKh (And.intro hstart (And.intro hstep (And.intro hdone (And.intro hown (And.intro hr0 (And.intro hTi (And.intro htn (And.intro hxn hWb)))))))))
          clear hKh hstart hstep hdone hown hr0 hTi htn hxn hWb hK hbw hb1 hca f1 oc hL hsh
          go_wp2_with fail
          go_loopw [8, 76] (fun xv tv wr => ∃ (t : Nat) (X' Wm' Rm' : List Nat), t ≤ tn ∧ tv = .int .i64 (t : Int) ∧ KhAt w1 wr gw gr i xv Wm' Rm' X' ∧ Inner N X i0 (fun k => Wm.getD k 0) (fun k => Rm.getD k 0) T t X' (fun k => Wm'.getD k 0) (fun k => Rm'.getD k 0) ∧ (∀ j, Rm'.getD j 0 ≤ d + 1) ∧ Rm'.getD i0 0 ≤ d) (fun _ tv _ => tn - (intOf tv).toNat)
          case atStart => exact ⟨0, X, Wm, Rm, Nat.zero_le _, rfl, M.out.1, M.out.2.1, fun j => Nat.le_succ_of_le (hRd j), hRd i0⟩
          case round =>
            rename World => wr4
            obtain ⟨t, X', Wm', Rm', ht, rfl, hKh, hI, hRb, hRi⟩ := hrel
            have hb1 : Below w1.heap.size w1 wr4 := K2.out.2.2.1 ▸ hKh.bel
            by_cases hlt4 : t < tn
            · have htl : t < T.length := by have := M.out.2.2.2.2.2.2.2.1; omega
              obtain ⟨gt, rfl, _, _, _, oc⟩ := (M.out.2.2.2.2.2.1.later hb1).cells (f := rowP) (k := 1) (fun _ => rfl) rfl (by omega)
              have z0 := oc t htl 0 _ rfl
              simp only [Nat.mul_one, Nat.add_zero] at z0
              have hki := M.out.2.2.2.2.2.2.1 _ (List.getElem_mem htl)
              have hne : T[t]'htl ≠ i0 := fun e => M.out.2.2.2.2.1 (e ▸ List.getElem_mem htl)
              have hst := fun W2 R2 => M.out.2.2.1 t X' _ _ hI htl _ rfl W2 R2
              generalize T[t]'htl = k at *
              obtain ⟨p1, p2, p3, p4, p5, p6⟩ := hKh.cells (by omega)
              have c1 := p5 k hki
              have c2 := p6 k hki
              have c3 := p6 i0 hin
              have ha := hRb k
              have hst3 : Wm'.getD k 0 ≤ 9223372036854775807 := by
                have h1 : Wm'.getD k 0 + (T.take t).count k = Wm.getD k 0 := hI.wts k (by rw [H.out.2.2.2.2.1]; exact hki)
                have h2 := M.out.2.2.2.2.2.2.2.2.2 k hki
                omega
              obtain ⟨xA', xc', rfl, _, _, _⟩ := hKh.nx.shape
              obtain ⟨xn', hxn'⟩ : ∃ xn', xn' = X'.length := ⟨_, rfl⟩
              have hXn' : xn' ≤ 1000 := by
                have := Gr.nodup_len hI.nodup (fun k hk => hI.lt k hk)
                rw [H.out.2.2.2.2.1] at this; omega
              rw [← hxn'] at hKh ⊢
              obtain ⟨ra, hra⟩ : ∃ ra, ra = Rm'.getD k 0 := ⟨_, rfl⟩
              obtain ⟨rb, hrb⟩ : ∃ rb, rb = Rm'.getD i0 0 := ⟨_, rfl⟩
              obtain ⟨wk, hwk⟩ : ∃ wk, wk = Wm'.getD k 0 := ⟨_, rfl⟩
              have hlr := hKh.lr
              have hlw := hKh.lw
              obtain ⟨mx, hmx⟩ : ∃ mx, mx = max ra (rb + 1) := ⟨_, rfl⟩
              have hmxI : max (ra : Int) ((rb : Int) + 1) = (mx : Int) := by omega
              have hst2 := hst (fun j => (Wm'.set k (wk - 1)).getD j 0) (fun j => (Rm'.set k mx).getD j 0) (fun j hj => by simp only [getD_set (show k < Wm'.length by omega), hwk]) (fun j hj => by simp only [getD_set (show k < Rm'.length by omega), hra, hrb, hmx])
              have hRb2 : ∀ j, (Rm'.set k mx).getD j 0 ≤ d + 1 := fun j => by
                rw [getD_set (show k < Rm'.length by omega)]
                split
                · omega
                · exact hRb j
              have hRi2 : (Rm'.set k mx).getD i0 0 ≤ d := by
                rw [getD_set (show k < Rm'.length by omega), if_neg (Ne.symm hne)]; exact hRi
              have hA := (hKh.setR k hki mx).later (below_drew (Below.refl _ _))
              rw [← hra] at c2 ha
              rw [← hrb] at c3 hRi
              rw [← hwk] at c1 hst2
              obtain ⟨hw1, hst2⟩ := hst2
              obtain ⟨wv, hwv⟩ : ∃ wv, wv = wk - 1 := ⟨_, rfl⟩
              rw [← hwv] at hst2
              have hwr : IntKind.i64.wrap ((rb : Int) + 1) = (rb : Int) + 1 := IntWalk.i64_in _ (by omega)
              have hsub : (wk : Int) - 1 = (wv : Int) := by omega
              have hwkb : wk ≤ 9223372036854775807 := by rw [hwk]; exact hst3
              have hwr2 : IntKind.i64.wrap (wv : Int) = (wv : Int) := IntWalk.i64_in _ (by omega)
              have hB := ((hKh.setR k hki mx).setW k hki wv).later (below_drew (Below.refl _ _))
              obtain ⟨_, _, _, _, r5, _⟩ := hA.cells (by omega)
              obtain ⟨_, _, _, _, s5, _⟩ := hB.cells (by omega)
              have d1 := r5 k hki
              have d2 := s5 k hki
              rw [← hwk] at d1
              rw [getD_set (show k < Wm'.length by omega), if_pos rfl] at d2
              obtain ⟨w5, hw5⟩ : ∃ w5, w5 = ((wr4.setCell ⟨gr, k, none⟩ (.int .i64 (mx : Int))).setCell ⟨gw, k, none⟩ (.int .i64 (wv : Int))).drew := ⟨_, rfl⟩
              rw [← hw5] at hB
              have U := Lib.hid (And.intro hB (And.intro hst2 (And.intro hRb2 (And.intro hRi2 (And.intro hxn' hwv))))); clear hst2 hRb2 hRi2 hI hst hxn' hra hrb hwk p5 p6 r5 s5 oc hlr hlw hRb hKh hA hB hmx hwv hst3
              go_upto_region 23 with fail
              go_still_tail 13, (by kernel_rfl)
              by_cases h0 : wv = 0
              · have hbt : ((wv : Int) == 0) = true := by simp [h0]
                have H0 := Lib.hid h0; clear h0
                go_upto_region 26 with fail
                rw [← hw5]
                clear hw5 d1 d2
                have hB1 := at_newP w5 k
                go_wp2_with (at_builtin; refine wpList_append_loc _ rfl (.tmp 104) (.tmp 106) 31 rfl (gw + 1) 3 j0 (.int .i64 0) 1 8 Try.underlying31 hj hy0 hy1 hy2 rfl (by decide) (f := rowP) (fun _ => rfl) one_rowP _ X' rfl (U.out.1.nx.later (ba _ _)) (some ⟨w5.heap.size, 0, none⟩) 1 1 [k] rfl rfl hB1 (by have := U.out.2.2.2.2.1; unfold maxLen; omega) (by have := U.out.2.2.2.2.1; omega) (by have h1 := U.out.1.sz; have h2 := U.out.1.bel.size; obtain ⟨_, cs, hc⟩ := Own.block U.out.1.wt rfl; have h3 := (Array.getElem?_eq_some_iff.1 hc).1; simp only [World.size_alloc]; omega) ?_; intro v6 w6 hO6 hg6 hq6; have Z := Lib.hid (And.intro hO6 (And.intro hg6 hq6)); clear hO6 hg6 hq6)
                have hK6 := (U.out.1.later (ba w5 (.cells #[.int .i64 (k : Int)] 3))).app Z.out.1 Z.out.2.1 Z.out.2.2
                have hI6 := U.out.2.1
                rw [if_pos H0.out] at hI6
                go_roundw
                case rel => exact ⟨t + 1, X' ++ [k], _, _, by omega, by go_num, hK6, hI6, U.out.2.2.1, U.out.2.2.2.1⟩
                case measure => simp [intOf]; omega
              · have hbt : ((wv : Int) == 0) = false := by simp [h0]
                have H0 := Lib.hid h0; clear h0
                have hI6 := U.out.2.1
                rw [if_neg H0.out] at hI6
                have HI := Lib.hid hI6; clear hI6
                go_wp2_with fail
                go_roundw
                case rel => exact ⟨t + 1, X', _, _, by omega, by go_num, hw5 ▸ U.out.1, HI.out, U.out.2.2.1, U.out.2.2.2.1⟩
                case measure => simp [intOf]; omega
            · obtain rfl : t = tn := by omega
              have hfin := M.out.2.2.2.1 _ _ _ _ hI (Nat.le_of_eq M.out.2.2.2.2.2.2.2.1.symm)
              have hdX : d + 1 ≤ X'.length := by
                obtain ⟨l2, e⟩ := hI.pre
                rw [e, List.length_append]; omega
              have U := Lib.hid (And.intro hKh (And.intro hfin hdX)); clear hKh hfin hI hdX
              go_wp2_with fail
              go_roundw
              case rel => exact ⟨d + 1, X', Wm', Rm', by go_num, U.out.2.2, U.out.1, U.out.2.1, hRb⟩
              case measure => simp [intOf]; omega
        · obtain rfl : d = xn := by omega
          have hlr := hKh.lr
          have hsz : w.heap.size ≤ gr := by
            have := hKh.lt; have := hKh.sz; have := K.out.2.size; have := K2.out.2.2.1; omega
          have hbw : Below w.heap.size w wr3 := K.out.2.trans (hKh.bel.mono (by have := K.out.2.size; have := K2.out.2.2.1; omega))
          have hE : (d = N.length ∧ RankFull N (fun j => Rm.getD j 0)) ∨ (d < N.length ∧ Loopy N) := by
            have hN := H.out.2.2.2.2.1
            rcases (by omega : d = i ∨ d < i) with h | h
            · exact Or.inl ⟨by omega, hK.full (by omega) (by omega)⟩
            · exact Or.inr ⟨by omega, hK.loop (by omega) (by omega)⟩
          have U := Lib.hid (And.intro (hKh.rk.lift hsz) (And.intro hlr (And.intro hE hbw))); clear hKh hK hlr hE hbw hsz
          go_wp2_with fail
          go_ret2
          exact ⟨_, Rm, d, ⟨rfl, U.out.1, U.out.2.1.trans H.out.2.2.2.2.1.symm, U.out.2.2.1⟩, U.out.2.2.2⟩
end Go.Proofs.Ytinonfgehbjneaa
