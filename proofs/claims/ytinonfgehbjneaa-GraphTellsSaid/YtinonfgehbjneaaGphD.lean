/- Layer 12: climbing. -/
import Derived.Test.YtinonfgehbjneaaGphC
namespace Go.Proofs.Ytinonfgehbjneaa
open Go.ChangeShapes Go.WideShapes Go.ChangeAt Go.RowKit Go.Maps
open Gr (Nd nmAt frAt cn leadsU leadsL puts put Climb)
set_option linter.unusedVariables false
set_option linter.unusedSimpArgs false

theorem own_madeB (w : World) (n : Nat) (hn : n ≤ maxLen) : Own (w.alloc (.cells (madeCells #[.bool false] n) 4)) w.heap.size 4 1 rowZ (.slice (some ⟨w.heap.size, 0, none⟩) n n) (flags n []) := by
  have e : flags n [] = List.replicate n false := by simp [flags, List.map_const']
  rw [e]
  refine own_lit (List.replicate n false) rfl (Nat.le_refl _) (by simp) hn ?_ ?_
  · simp [madeCells]
  · apply List.ext_getElem
    · rw [flat_len (f := rowZ) (k := 1) (fun _ => rfl)]; simp [madeCells]
    · intro j h1 h2
      have hj : j < n := by rw [flat_len (f := rowZ) (k := 1) (fun _ => rfl), List.length_replicate] at h1; omega
      have e := flat_get (f := rowZ) (k := 1) (fun _ => rfl) (List.replicate n false) j 0 (by simpa using hj) (by omega)
      simp only [Nat.mul_one, Nat.add_zero, List.getElem_replicate, List.getElem?_cons_zero, List.getElem?_eq_getElem h1] at e
      rw [Option.some.inj e]
      simp [madeCells, Nat.mod_one]
/-- Who comes of a name, each once. -/
def ClimbP (N : List Nd) (s : ByteArray) (w : World) (e : Ending) (w' : World) : Prop :=
  ∃ r F, (e = .returned r ∧ Own w' w.heap.size 3 1 rowP r F ∧ F.Nodup ∧ ∀ k, k ∈ F ↔ Gr.Comes N s k) ∧ Below w.heap.size w w'
set_option maxHeartbeats 4000000 in
theorem climb_any (v : Value) (N : List Nd) (B m : Nat) (s : ByteArray) (w : World) (h : NdsAt w v N) (hL : LdAt w B m (leadsL N)) (hs : s.size ≤ maxLen) (hn : N.length ≤ 1000) :
    Calls Try.prog 30 #[v, .map (some m), .string s] w (ClimbP N s w) := by
  obtain ⟨j0, hj, hy0, hy1, hy2⟩ := info_parts (P := Try.prog) (e := 4) (z := .bool false) (size := 1) (bytes := 1) (by kernel_rfl)
  obtain ⟨l, h1, h2, h3⟩ := h
  obtain ⟨A, c, rfl, a1, a2, _⟩ := h1.shape
  obtain ⟨cnt, V, hL⟩ := hL
  obtain ⟨n, hnl⟩ : ∃ n, n = l.length := ⟨_, rfl⟩
  have hN : N.length = n := by rw [hnl, ← h2, List.length_map]
  rw [← hnl] at h1 a1 ⊢
  rw [hN] at hn
  obtain ⟨w3, hw3⟩ : ∃ w3, w3 = ((w.alloc (.cells (madeCells #[.bool false] n) 4)).alloc (.cells #[.slice (some ⟨w.heap.size, 0, none⟩) n n] 62)).alloc (.cells #[.slice none 0 0] 31) := ⟨_, rfl⟩
  have hb3 : Below w.heap.size w w3 := by rw [hw3]; exact bt (bt (ba _ _) (ba _ _)) (ba _ _)
  have hC3 : ClAt w3 w.heap.size (w.heap.size + 1) (w.heap.size + 1 + 1) n [] := by
    have o1 := own_madeB w n (by unfold maxLen; omega)
    have b1 := Blk.new (w.alloc (.cells (madeCells #[.bool false] n) 4)) 62 #[.slice (some ⟨w.heap.size, 0, none⟩) n n]
    have b2 := Blk.new ((w.alloc (.cells (madeCells #[.bool false] n) 4)).alloc (.cells #[.slice (some ⟨w.heap.size, 0, none⟩) n n] 62)) 31 #[.slice none 0 0]
    simp only [World.size_alloc] at b1 b2
    rw [← hw3] at b2
    have b1' := b1.alloc (.cells #[.slice none 0 0] 31)
    rw [← hw3] at b1'
    have o1' := (o1.later (ba _ (.cells #[.slice (some ⟨w.heap.size, 0, none⟩) n n] 62))).later (ba _ (.cells #[.slice none 0 0] 31))
    rw [← hw3] at o1'
    exact ⟨by omega, by omega, ⟨w.heap.size, b1', o1'⟩, ⟨_, b2, Own.nil _ _ _ _ _⟩, List.nodup_nil, fun k hk => by cases hk⟩
  have hr0 := hL.rows s hs
  have hlk := (hL.later hb3).look hs
  obtain ⟨Ar, cr, hsh, _, _, _⟩ := hr0.shape
  rw [hsh] at hlk hr0
  rw [hw3] at hlk
  have H := Lib.hid (And.intro h1 (And.intro h2 (And.intro h3 (And.intro hnl (And.intro hN hL))))); clear h1 h2 h3 hnl hN hL a1
  have K := Lib.hid (And.intro hC3 (And.intro hb3 hr0)); clear hC3 hb3 hr0 hsh
  go_enter Try.func30, Try.ntmps30
  go_wp2_with (refine wpList_make_row _ rfl _ _ 62 rfl 4 j0 (.bool false) Try.underlying62 hj hy0 hy1 rfl .i64 .i64 n rfl rfl (by rw [hy2]; omega) (by omega) ?_)
  rw [← hw3]
  clear hw3
  try go_at_call 35
  refine (add_any w.heap.size (w.heap.size + 1) (w.heap.size + 1 + 1) n [] (leadsL N s) _ w3 K.out.1 (fun X hX => (K.out.2.2.later (K.out.2.1.trans hX)).at_ (f := rowP) (k := 1) (fun _ => rfl)) (fun k hk => by have := Gr.fr_lt (Gr.mem_leads.1 hk); rw [H.out.2.2.2.2.1] at this; exact this) hn K.out.2.1.size).mono ?_
  rintro e w4 ⟨rfl, hC4, hb4⟩
  have K4 := Lib.hid (And.intro hC4 (K.out.2.1.trans hb4)); clear hC4 hb4
  go_wp2_with fail
  clear hlk
  go_loopw [10] (fun dv wr => ∃ (d : Nat) (F : List Nat), dv = .int .i64 (d : Int) ∧ d ≤ F.length ∧ ClAt wr w.heap.size (w.heap.size + 1) (w.heap.size + 1 + 1) n F ∧ Climb N s F d ∧ Below w.heap.size w wr) (fun dv _ => n - (intOf dv).toNat)
  case atStart => exact ⟨0, _, rfl, Nat.zero_le _, K4.out.1, Climb.start N s, K4.out.2⟩
  case round =>
    rename World => wr0
    obtain ⟨d, F, rfl, hd, hC, hcl, hb⟩ := hrel
    obtain ⟨fv, b2, o2⟩ := hC.fnd
    have c2 := b2.cell 0
    simp only [List.getElem?_toArray, List.getElem?_cons_zero] at c2
    have hFn := Gr.nodup_len hC.nod hC.lt
    obtain ⟨fA, fc, rfl, _, _, _⟩ := o2.shape
    obtain ⟨fn, hfn⟩ : ∃ fn, fn = F.length := ⟨_, rfl⟩
    by_cases hlt : d < fn
    · have hdl : d < F.length := by omega
      obtain ⟨g', rfl, ow, olt, ofz, oc⟩ := o2.cells (f := rowP) (k := 1) (fun _ => rfl) rfl (by omega)
      have z0 := oc d hdl 0 _ rfl
      have hin := hC.lt _ (List.getElem_mem hdl)
      have hst := hcl.step hdl
      rw [← hfn] at c2 hd hFn
      simp only [Nat.mul_one, Nat.add_zero] at z0
      generalize F[d]'hdl = k at *
      have hkl : k < l.length := by have := H.out.2.2.2.1; omega
      obtain ⟨a, rfl, hca⟩ := (H.out.1.later hb).cells rfl (by omega)
      obtain ⟨e0, _⟩ := hca.row2 k hkl rfl
      obtain ⟨f1, _⟩ := at_node H.out.2.1 hkl
      have hsz := (H.out.2.2.1 _ (List.getElem_mem hkl)).2.1
      rw [f1] at hst
      generalize (l[k]'hkl).1.1 = t at *
      have hr := (H.out.2.2.2.2.2.later hb).rows t hsz
      have hlk := (H.out.2.2.2.2.2.later hb).look hsz
      have hr0 := H.out.2.2.2.2.2.rows t hsz
      obtain ⟨Br, cb, hsh, _, _, _⟩ := hr.shape
      rw [hsh] at hlk hr0
      have M := Lib.hid (And.intro hC (And.intro hst (And.intro hb hr0))); clear hC hst hb hr hr0 hcl b2 o2 oc hca hsh f1
      go_wp2_with fail
      try go_at_call 35
      refine (add_any w.heap.size (w.heap.size + 1) (w.heap.size + 1 + 1) n F (leadsL N t) _ wr0 M.out.1 (fun X hX => (M.out.2.2.2.later (M.out.2.2.1.trans hX)).at_ (f := rowP) (k := 1) (fun _ => rfl)) (fun k hk => by have := Gr.fr_lt (Gr.mem_leads.1 hk); rw [H.out.2.2.2.2.1] at this; exact this) hn M.out.2.2.1.size).mono ?_
      rintro e w5 ⟨rfl, hC5, hb5⟩
      have M5 := Lib.hid (And.intro hC5 (M.out.2.2.1.trans hb5)); clear hC5 hb5
      go_wp2_with fail
      go_roundw
      case rel => exact ⟨d + 1, _, by go_num, by obtain ⟨l, e⟩ := Gr.puts_pre (P := leadsL N t) (F := F); rw [e, List.length_append]; omega, M5.out.1, M.out.2.1, M5.out.2⟩
      case measure => simp [intOf]; omega
    · obtain rfl : d = fn := by omega
      have hdn := fun k => hcl.done (Nat.le_of_eq hfn.symm) k
      rw [← hfn] at c2
      have M := Lib.hid (And.intro o2 (And.intro hC.nod (And.intro hdn (And.intro hb hfn)))); clear o2 hC hdn hb hcl hfn b2
      go_wp2_with fail
      go_ret
      exact ⟨_, F, ⟨rfl, by have := M.out.1; rw [← M.out.2.2.2.2] at this; exact this, M.out.2.1, M.out.2.2.1⟩, M.out.2.2.2.1⟩
end Go.Proofs.Ytinonfgehbjneaa
