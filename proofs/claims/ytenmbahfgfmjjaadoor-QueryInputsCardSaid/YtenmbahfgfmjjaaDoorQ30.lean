/- Texts that several proofs stand on, part 30. -/
import Derived.Test.YtenmbahfgfmjjaaDoorQ29
import Derived.Lib.ItoaLen
namespace Go.Proofs.YtenmbahfgfmjjaaDoor
open Go.ChangeShapes Go.WideShapes Go.ChangeAt Go.RowKit Go.Maps
set_option linter.unusedVariables false
set_option linter.unusedSimpArgs false

def outT (o : Ot) : List UInt8 := o.f.data.toList ++ ([58, 32] ++ putT o.e)
set_option maxRecDepth 20000 in
set_option maxHeartbeats 4000000 in
theorem OtPut_any (x : Ox) (w : World) (h : TrAt w x.1.e x.2) (hz : x.1.f.size ≤ 1000) (ho : Sm x.1.e) (hT : Tab w) :
    Calls Tryd.prog 26 #[otV x] w fun e w' => e = .returned (.string ⟨(outT x.1).toArray⟩) ∧ Below w.heap.size w w' := by
  obtain ⟨⟨fl, t⟩, K⟩ := x
  obtain ⟨A8, n8, c8, rfl⟩ := h.sl
  obtain ⟨k1, op, vk, vn, vs, va, vf, B8, m8, d8, hval, hnode⟩ := Tr.val_ev' t A8 n8 c8
  obtain ⟨o1, o2, o3⟩ := ho
  simp only at o1 o2 o3 hz
  have cR0 := fun W (hW : Below w.heap.size w W) => Put_tr t _ W (h.later hW) o1 o2 (by omega) (hT.later hW)
  simp only [hval] at cR0
  obtain ⟨J, hJ⟩ : ∃ J : ByteArray, J = ⟨(putT t).toArray⟩ := ⟨_, rfl⟩
  have hJd : J.data.toList = putT t := by rw [hJ]
  have hJz : J.size ≤ 400000 := by
    have e : J.size = (putT t).length := by rw [← hJd, Array.length_toList]; rfl
    rw [e]; exact Nat.le_trans (putT_len t) o3
  have cR : ∀ W, Below w.heap.size w W → Calls Tryd.prog 49 #[ev k1 op vk vn vs va vf (.slice B8 m8 d8)] W fun e w' => e = .returned (.string J) ∧ Below W.heap.size W w' := fun W hW => by rw [hJ]; exact cR0 W hW
  clear cR0
  have hTx : outT ⟨fl, t⟩ = fl.data.toList ++ ([58, 32] ++ J.data.toList) := by rw [hJd]; rfl
  simp only [otV, hnode]
  have f1 : ¬ 9223372036854775807 < fl.size + 2 := by omega
  have f2 : ¬ 9223372036854775807 < fl.size + 2 + J.size := by omega
  have b0 := ba w (.cells #[.string fl, .int .i64 k1, .string op, .int .i64 vk, .int .i64 vn, .string vs, .string va, .string vf, .slice B8 m8 d8] 45)
  have hB := Blk.new w 45 #[.string fl, .int .i64 k1, .string op, .int .i64 vk, .int .i64 vn, .string vs, .string va, .string vf, .slice B8 m8 d8]
  obtain ⟨w1, hw1⟩ : ∃ w1, w1 = w.alloc (.cells #[.string fl, .int .i64 k1, .string op, .int .i64 vk, .int .i64 vn, .string vs, .string va, .string vf, .slice B8 m8 d8] 45) := ⟨_, rfl⟩
  rw [← hw1] at b0 hB
  have H := Lib.hid (And.intro cR (And.intro hTx (And.intro b0 hB))); clear cR hTx b0 hB h hT hJ hJd
  go_enter Tryd.func26, Tryd.ntmps26
  go_upto_region 1 with fail
  rw [← hw1]
  clear hw1
  have keepS : ∀ w', Below w1.heap.size w1 w' → w'.cell? ⟨w.heap.size, 0, none⟩ = some (.string fl) ∧ w'.cell? ⟨w.heap.size, 1, none⟩ = some (.int .i64 k1) ∧ w'.cell? ⟨w.heap.size, 2, none⟩ = some (.string op) ∧ w'.cell? ⟨w.heap.size, 3, none⟩ = some (.int .i64 vk) ∧ w'.cell? ⟨w.heap.size, 4, none⟩ = some (.int .i64 vn) ∧ w'.cell? ⟨w.heap.size, 5, none⟩ = some (.string vs) ∧ w'.cell? ⟨w.heap.size, 6, none⟩ = some (.string va) ∧ w'.cell? ⟨w.heap.size, 7, none⟩ = some (.string vf) ∧ w'.cell? ⟨w.heap.size, 8, none⟩ = some (.slice B8 m8 d8) := fun X hX => ⟨(H.out.2.2.2.later hX).cell 0, (H.out.2.2.2.later hX).cell 1, (H.out.2.2.2.later hX).cell 2, (H.out.2.2.2.later hX).cell 3, (H.out.2.2.2.later hX).cell 4, (H.out.2.2.2.later hX).cell 5, (H.out.2.2.2.later hX).cell 6, (H.out.2.2.2.later hX).cell 7, (H.out.2.2.2.later hX).cell 8⟩
  refine wp_region_held_drew (S := (fun w' => w'.cell? ⟨w.heap.size, 0, none⟩ = some (.string fl) ∧ w'.cell? ⟨w.heap.size, 1, none⟩ = some (.int .i64 k1) ∧ w'.cell? ⟨w.heap.size, 2, none⟩ = some (.string op) ∧ w'.cell? ⟨w.heap.size, 3, none⟩ = some (.int .i64 vk) ∧ w'.cell? ⟨w.heap.size, 4, none⟩ = some (.int .i64 vn) ∧ w'.cell? ⟨w.heap.size, 5, none⟩ = some (.string vs) ∧ w'.cell? ⟨w.heap.size, 6, none⟩ = some (.string va) ∧ w'.cell? ⟨w.heap.size, 7, none⟩ = some (.string vf) ∧ w'.cell? ⟨w.heap.size, 8, none⟩ = some (.slice B8 m8 d8))) (by kernel_rfl) ?_ (fun hHeld => ?_)
  · exact keepS _ (below_drew (Below.refl _ _))
  refine wpAnyH_take (i := 0) (v := ?v0) rfl (by kernel_rfl) (by kernel_rfl) (by kernel_rfl) (fun _ _ _ h => h) (Or.inl ⟨by rfl, ?hy0⟩) (by assumption) ?rest0
  case hy0 => (intro w hSw; (try dsimp only at hSw); go_simp; try with_reducible rfl)
  try simp only [Act.put, List.setIfInBounds_toArray, List.set_cons_zero, List.set_cons_succ]
  refine wpAnyH_take (i := 1) (v := ?v1) rfl (by kernel_rfl) (by kernel_rfl) (by kernel_rfl) (fun _ _ _ h => h) (Or.inl ⟨by rfl, ?hy1⟩) (by assumption) ?rest1
  case hy1 => (intro w hSw; (try dsimp only at hSw); go_simp; try with_reducible rfl)
  try simp only [Act.put, List.setIfInBounds_toArray, List.set_cons_zero, List.set_cons_succ]
  refine wpAnyH_take (i := 2) (v := ?v2) rfl (by kernel_rfl) (by kernel_rfl) (by kernel_rfl) (fun _ _ _ h => h) (Or.inl ⟨by rfl, ?hy2⟩) (by assumption) ?rest2
  case hy2 => (intro w hSw; (try dsimp only at hSw); go_simp; try with_reducible rfl)
  try simp only [Act.put, List.setIfInBounds_toArray, List.set_cons_zero, List.set_cons_succ]
  refine wpAnyH_take (i := 3) (v := ?v3) rfl (by kernel_rfl) (by kernel_rfl) (by kernel_rfl) (fun _ _ _ h => h) (Or.inl ⟨by rfl, ?hy3⟩) (by assumption) ?rest3
  case hy3 => (intro w hSw; (try dsimp only at hSw); go_simp; try with_reducible rfl)
  try simp only [Act.put, List.setIfInBounds_toArray, List.set_cons_zero, List.set_cons_succ]
  refine wpAnyH_take (i := 4) (v := ?v4) rfl (by kernel_rfl) (by kernel_rfl) (by kernel_rfl) (fun _ _ _ h => h) (Or.inl ⟨by rfl, ?hy4⟩) (by assumption) ?rest4
  case hy4 => (intro w hSw; (try dsimp only at hSw); go_simp; try with_reducible rfl)
  try simp only [Act.put, List.setIfInBounds_toArray, List.set_cons_zero, List.set_cons_succ]
  refine wpAnyH_ready (rs := [5]) (by kernel_rfl) (by simp) ?_
  refine AllReadyH.cons rfl (fun K' hK => ?_) AllReadyH.nil
  go_simp
  go_at_call 49
  refine (H.out.1 w1.drew (bt H.out.2.2.1 (below_drew (Below.refl _ _)))).mono ?_
  rintro e w5 ⟨rfl, b5⟩
  have B5 := Lib.hid (bt (below_drew (Below.refl w1.heap.size w1)) b5); clear b5
  refine hK.out _ _ ?_ (fun hHeld => ?_)
  · exact keepS w5 B5.out
  clear hK K'
  try simp only [Act.put, List.setIfInBounds_toArray, List.set_cons_zero, List.set_cons_succ]
  refine wpAnyH_take (i := 6) (v := ?v6) rfl (by kernel_rfl) (by kernel_rfl) (by kernel_rfl) (fun _ _ _ h => h) (Or.inl ⟨by rfl, ?hy6⟩) (by assumption) ?rest6
  case hy6 => (intro w hSw; (try dsimp only at hSw); go_simp; try with_reducible rfl)
  try simp only [Act.put, List.setIfInBounds_toArray, List.set_cons_zero, List.set_cons_succ]
  refine wpAnyH_ready (rs := [7]) (by kernel_rfl) (by simp) ?_
  refine AllReadyH.cons rfl (fun K' hK => ?_) AllReadyH.nil
  go_simp
  refine hK.out _ _ ?_ (fun hHeld => ?_)
  · exact keepS w5 B5.out
  clear hK K'
  try simp only [Act.put, List.setIfInBounds_toArray, List.set_cons_zero, List.set_cons_succ]
  refine wpAnyH_done (by kernel_rfl) ?_ _
  have B6 := Lib.hid (bt H.out.2.2.1 B5.out)
  go_wp2_with fail
  go_ret
  refine ⟨str_ret ?_, B6.out⟩
  rw [H.out.2.1]
  simp
def queryT (q : Qy) : List UInt8 := q.nm.data.toList ++ ([32, 61, 32] ++ ((if q.st then [83, 84, 82, 73, 67, 84, 32] else []) ++ (Lib.join (q.ps.map partT) [32, 59, 32] ++ ([32, 87, 73, 84, 72, 73, 78, 32] ++ (Lib.itoa q.wi ++ ((if q.by_.size = 0 then [] else [32, 66, 89, 32] ++ q.by_.data.toList) ++ (if q.os.length = 0 then [] else [32, 69, 77, 73, 84, 32] ++ Lib.join (q.os.map outT) [44, 32])))))))
/-- A query that is small. -/
structure QSm (q : Qy) : Prop where
  nm : q.nm.size ≤ 1000
  by_ : q.by_.size ≤ 1000
  wi : -9223372036854775808 ≤ q.wi ∧ q.wi ≤ 9223372036854775807
  np : q.ps.length ≤ 20
  no : q.os.length ≤ 20
  ps : ∀ p ∈ q.ps, p.ss.length ≤ 20 ∧ (∀ s ∈ p.ss, s.size ≤ 1000) ∧ p.v.size ≤ 1000 ∧ p.pd.length ≤ 20 ∧ ∀ t ∈ p.pd, Sm t
  os : ∀ o ∈ q.os, o.f.size ≤ 1000 ∧ Sm o.e
theorem partT_len {p : Pt} (h : p.ss.length ≤ 20 ∧ (∀ s ∈ p.ss, s.size ≤ 1000) ∧ p.v.size ≤ 1000 ∧ p.pd.length ≤ 20 ∧ ∀ t ∈ p.pd, Sm t) : (partT p).length ≤ 20000000 := by
  obtain ⟨h1, h2, h3, h4, h5⟩ := h
  have a := join_len 1000 [32, 124, 32] (p.ss.map (·.data.toList)) (fun y hy => by
    obtain ⟨t, ht, rfl⟩ := List.mem_map.1 hy
    rw [Array.length_toList]; exact h2 t ht)
  have b := join_len 400000 [44, 32] (p.pd.map putT) (fun y hy => by
    obtain ⟨t, ht, rfl⟩ := List.mem_map.1 hy
    exact Nat.le_trans (putT_len t) (h5 t ht).2.2)
  rw [List.length_map] at a b
  have a2 := Nat.mul_le_mul_right (1000 + ([32, 124, 32] : List UInt8).length) h1
  have b2 := Nat.mul_le_mul_right (400000 + ([44, 32] : List UInt8).length) h4
  have a3 : 20 * (1000 + ([32, 124, 32] : List UInt8).length) ≤ 100000 := by decide
  have b3 : 20 * (400000 + ([44, 32] : List UInt8).length) ≤ 9000000 := by decide
  have h3' : p.v.data.toList.length ≤ 1000 := by rw [Array.length_toList]; exact h3
  unfold partT
  split <;> split <;> split <;> simp only [List.length_append, List.length_cons, List.length_nil] <;> omega
theorem ptsPut {v : Value} {q : Qy} {w : World} (h : PtsAt w v q.ps) (hq : QSm q) (hT : Tab w) :
    Calls Tryd.prog 22 #[v, .func (.func 23) #[] #[], .string ⟨#[32, 59, 32]⟩] w fun e w' => e = .returned (.string ⟨(Lib.join (q.ps.map partT) [32, 59, 32]).toArray⟩) ∧ Below w.heap.size w w' := by
  obtain ⟨r, h1, h2, h3⟩ := h
  have hr : r.length = q.ps.length := by rw [← h2, List.length_map]
  have hnp := hq.np
  have hm : r.map (fun x => partT x.1) = q.ps.map partT := by rw [← h2, List.map_map]; rfl
  have hsm : ∀ x ∈ r, x.1 ∈ q.ps := fun x hx => by rw [← h2]; exact List.mem_map.2 ⟨x, hx, rfl⟩
  have hb := join_len 20000000 [32, 59, 32] (q.ps.map partT) (fun y hy => by
    obtain ⟨p, hp, rfl⟩ := List.mem_map.1 hy
    exact partT_len (hq.ps p hp))
  rw [List.length_map] at hb
  have hb2 := Nat.mul_le_mul_right (20000000 + ([32, 59, 32] : List UInt8).length) hnp
  have := joinedP v r ⟨#[32, 59, 32]⟩ (fun x => partT x.1) w h1 (by omega) (by rw [hm]; exact Nat.le_trans hb (Nat.le_trans hb2 (by decide))) (fun x hx W hW => by
    obtain ⟨a1, a2, a3, a4, a5⟩ := hq.ps _ (hsm x hx)
    exact PtPut_any x W ((h3 x hx).later hW) (by omega) a2 a3 (by omega) a5 (hT.later hW))
  rw [hm] at this
  exact this
theorem outT_len {o : Ot} (h : o.f.size ≤ 1000 ∧ Sm o.e) : (outT o).length ≤ 500000 := by
  have h1 : o.f.data.toList.length ≤ 1000 := by rw [Array.length_toList]; exact h.1
  have h2 := Nat.le_trans (putT_len o.e) h.2.2.2
  unfold outT
  simp only [List.length_append, List.length_cons, List.length_nil]; omega
theorem otsPut {v : Value} {q : Qy} {w : World} (h : OtsAt w v q.os) (hq : QSm q) (hT : Tab w) :
    Calls Tryd.prog 25 #[v, .func (.func 26) #[] #[], .string ⟨#[44, 32]⟩] w fun e w' => e = .returned (.string ⟨(Lib.join (q.os.map outT) [44, 32]).toArray⟩) ∧ Below w.heap.size w w' := by
  obtain ⟨r, h1, h2, h3⟩ := h
  have hr : r.length = q.os.length := by rw [← h2, List.length_map]
  have hnp := hq.no
  have hm : r.map (fun x => outT x.1) = q.os.map outT := by rw [← h2, List.map_map]; rfl
  have hsm : ∀ x ∈ r, x.1 ∈ q.os := fun x hx => by rw [← h2]; exact List.mem_map.2 ⟨x, hx, rfl⟩
  have hb := join_len 500000 [44, 32] (q.os.map outT) (fun y hy => by
    obtain ⟨p, hp, rfl⟩ := List.mem_map.1 hy
    exact outT_len (hq.os p hp))
  rw [List.length_map] at hb
  have hb2 := Nat.mul_le_mul_right (500000 + ([44, 32] : List UInt8).length) hnp
  have := joinedO v r ⟨#[44, 32]⟩ (fun x => outT x.1) w h1 (by omega) (fun x hx => (h3 x hx).1.sl) (by rw [hm]; exact Nat.le_trans hb (Nat.le_trans hb2 (by decide))) (fun x hx W hW => by
    obtain ⟨a1, a2⟩ := hq.os _ (hsm x hx)
    exact OtPut_any x W ((h3 x hx).1.later hW) a1 a2 (hT.later hW))
  rw [hm] at this
  exact this
set_option maxRecDepth 20000 in
set_option maxHeartbeats 8000000 in
theorem PutQ_any (q : Qy) (pv ov : Value) (w : World) (h : QyAt w pv ov q) (hq : QSm q) (hT : Tab w) :
    Calls Tryd.prog 10 #[qv q pv ov] w fun e w' => e = .returned (.string ⟨(queryT q).toArray⟩) ∧ Below w.heap.size w w' := by
  have cP0 := fun W (hW : Below w.heap.size w W) => ptsPut (h.1.later hW) hq (hT.later hW)
  have cO0 := fun W (hW : Below w.heap.size w W) => otsPut (h.2.1.later hW) hq (hT.later hW)
  have cF0 := fun W (hW : Below w.heap.size w W) => FormatInt_any q.wi W hq.wi.1 hq.wi.2 (hT.later hW)
  obtain ⟨A, c, rfl, _, _⟩ := h.1.shape
  obtain ⟨A2, c2, rfl, _, _⟩ := h.2.1.shape
  obtain ⟨n, hn⟩ : ∃ n, n = q.ps.length := ⟨_, rfl⟩
  obtain ⟨m, hm⟩ : ∃ m, m = q.os.length := ⟨_, rfl⟩
  obtain ⟨J, hJ⟩ : ∃ J : ByteArray, J = ⟨(Lib.join (q.ps.map partT) [32, 59, 32]).toArray⟩ := ⟨_, rfl⟩
  obtain ⟨E, hE⟩ : ∃ E : ByteArray, E = ⟨(Lib.join (q.os.map outT) [44, 32]).toArray⟩ := ⟨_, rfl⟩
  obtain ⟨I, hI⟩ : ∃ I : ByteArray, I = ⟨(Lib.itoa q.wi).toArray⟩ := ⟨_, rfl⟩
  have hJd : J.data.toList = Lib.join (q.ps.map partT) [32, 59, 32] := by rw [hJ]
  have hEd : E.data.toList = Lib.join (q.os.map outT) [44, 32] := by rw [hE]
  have hId : I.data.toList = Lib.itoa q.wi := by rw [hI]
  have hJz : J.size ≤ 500000000 := by
    have e : J.size = (Lib.join (q.ps.map partT) [32, 59, 32]).length := by rw [← hJd, Array.length_toList]; rfl
    have hb := join_len 20000000 [32, 59, 32] (q.ps.map partT) (fun y hy => by
      obtain ⟨p, hp, rfl⟩ := List.mem_map.1 hy
      exact partT_len (hq.ps p hp))
    rw [List.length_map] at hb
    rw [e]; exact Nat.le_trans hb (Nat.le_trans (Nat.mul_le_mul_right _ hq.np) (by decide))
  have hEz : E.size ≤ 500000000 := by
    have e : E.size = (Lib.join (q.os.map outT) [44, 32]).length := by rw [← hEd, Array.length_toList]; rfl
    have hb := join_len 500000 [44, 32] (q.os.map outT) (fun y hy => by
      obtain ⟨p, hp, rfl⟩ := List.mem_map.1 hy
      exact outT_len (hq.os p hp))
    rw [List.length_map] at hb
    rw [e]; exact Nat.le_trans hb (Nat.le_trans (Nat.mul_le_mul_right _ hq.no) (by decide))
  have hIz : I.size ≤ 30 := by
    have e : I.size = (Lib.itoa q.wi).length := by rw [← hId, Array.length_toList]; rfl
    rw [e]; exact Nat.le_trans (Lib.itoa_length_le q.wi hq.wi.1 hq.wi.2) (by decide)
  rw [← hJ, ← hn] at cP0
  rw [← hE, ← hm] at cO0
  rw [← hI] at cF0
  have hTx : queryT q = q.nm.data.toList ++ ([32, 61, 32] ++ ((if q.st then [83, 84, 82, 73, 67, 84, 32] else []) ++ (J.data.toList ++ ([32, 87, 73, 84, 72, 73, 78, 32] ++ (I.data.toList ++ ((if q.by_.size = 0 then [] else [32, 66, 89, 32] ++ q.by_.data.toList) ++ (if m = 0 then [] else [32, 69, 77, 73, 84, 32] ++ E.data.toList))))))) := by rw [hJd, hEd, hId, hm]; rfl
  have hnz := hq.nm
  have hbz := hq.by_
  rw [← hn, ← hm]
  have b0 := ba w (.cells #[.string q.nm, .bool q.st, .slice A n c, .int .i64 q.wi, .string q.by_, .slice A2 m c2] 27)
  have hB := Blk.new w 27 #[.string q.nm, .bool q.st, .slice A n c, .int .i64 q.wi, .string q.by_, .slice A2 m c2]
  obtain ⟨w1, hw1⟩ : ∃ w1, w1 = w.alloc (.cells #[.string q.nm, .bool q.st, .slice A n c, .int .i64 q.wi, .string q.by_, .slice A2 m c2] 27) := ⟨_, rfl⟩
  rw [← hw1] at b0 hB
  have p1 := hB.cell
  have H := Lib.hid (And.intro cP0 (And.intro cF0 (And.intro cO0 (And.intro hTx (And.intro b0 hB))))); clear cP0 cF0 cO0 hTx b0 hB h hT hn hm hJ hE hI hJd hEd hId
  go_enter Tryd.func10, Tryd.ntmps10
  have keepS : ∀ w', Below w1.heap.size w1 w' → w'.cell? ⟨w.heap.size, 2, none⟩ = some (.slice A n c) ∧ w'.cell? ⟨w.heap.size, 3, none⟩ = some (.int .i64 q.wi) := fun X hX => ⟨(H.out.2.2.2.2.2.later hX).cell 2, (H.out.2.2.2.2.2.later hX).cell 3⟩
  obtain ⟨T0, hT0⟩ : ∃ T0 : ByteArray, T0 = if q.st then q.nm ++ ⟨#[32, 61, 32]⟩ ++ ⟨#[83, 84, 82, 73, 67, 84, 32]⟩ else q.nm ++ ⟨#[32, 61, 32]⟩ := ⟨_, rfl⟩
  have hT0d : T0.data.toList = q.nm.data.toList ++ ([32, 61, 32] ++ (if q.st then [83, 84, 82, 73, 67, 84, 32] else [])) := by
    rw [hT0]; split <;> simp
  have hT0z : T0.size ≤ 1010 := by
    have e : T0.size = T0.data.toList.length := by rw [Array.length_toList]; rfl
    have e2 : q.nm.data.toList.length ≤ 1000 := by rw [Array.length_toList]; exact hnz
    rw [e, hT0d]
    split <;> simp only [List.length_append, List.length_cons, List.length_nil] <;> omega
  go_upto_region 1 with fail
  rw [← hw1]
  go_upto_region 2 with fail
  go_upto_if 8 with fail
  go_cut [3] (fun tv wx => tv = .string T0 ∧ w1 = wx)
  case first =>
    cases hst : q.st with
    | true =>
      rw [hst] at hT0 hw1
      go_wp2_with fail
      go_meet
      exact ⟨by rw [hT0]; rfl, hw1⟩
    | false =>
      rw [hst] at hT0 hw1
      go_wp2_with fail
      go_meet
      exact ⟨by rw [hT0]; rfl, hw1⟩
  case rest =>
    obtain ⟨rfl, rfl⟩ := hcut
    have HT0 := Lib.hid hT0d
    clear hT0 hT0d
    have f1 : ¬ 9223372036854775807 < J.size + 8 := by omega
    have f2 : ¬ 9223372036854775807 < J.size + 8 + I.size := by omega
    have f3 : ¬ 9223372036854775807 < T0.size + (J.size + 8 + I.size) := by omega
    clear hw1
    go_upto_region 4 with fail
    go_cut [3] (fun tv wx => tv = .string (T0 ++ (J ++ ⟨#[32, 87, 73, 84, 72, 73, 78, 32]⟩ ++ I)) ∧ Below w1.heap.size w1 wx)
    case first =>
      refine wp_region_held_drew (S := (fun w' => w'.cell? ⟨w.heap.size, 2, none⟩ = some (.slice A n c) ∧ w'.cell? ⟨w.heap.size, 3, none⟩ = some (.int .i64 q.wi))) (by kernel_rfl) ?_ (fun hHeld => ?_)
      · exact keepS _ (below_drew (Below.refl _ _))
      refine wpAnyH_take (i := 0) (v := ?v0) rfl (by kernel_rfl) (by kernel_rfl) (by kernel_rfl) (fun _ _ _ h => h) (Or.inl ⟨by rfl, ?hy0⟩) (by assumption) ?rest0
      case hy0 => (intro w hSw; (try dsimp only at hSw); go_simp; try with_reducible rfl)
      try simp only [Act.put, List.setIfInBounds_toArray, List.set_cons_zero, List.set_cons_succ]
      refine wpAnyH_take (i := 1) (v := ?v1) rfl (by kernel_rfl) (by kernel_rfl) (by kernel_rfl) (fun _ _ _ h => h) (Or.inl ⟨by rfl, ?hy1⟩) (by assumption) ?rest1
      case hy1 => (intro w hSw; (try dsimp only at hSw); go_simp; try with_reducible rfl)
      try simp only [Act.put, List.setIfInBounds_toArray, List.set_cons_zero, List.set_cons_succ]
      refine wpAnyH_take (i := 2) (v := ?v2) rfl (by kernel_rfl) (by kernel_rfl) (by kernel_rfl) (fun _ _ _ h => h) (Or.inl ⟨by rfl, ?hy2⟩) (by assumption) ?rest2
      case hy2 => (intro w hSw; (try dsimp only at hSw); go_simp; try with_reducible rfl)
      try simp only [Act.put, List.setIfInBounds_toArray, List.set_cons_zero, List.set_cons_succ]
      refine wpAnyH_take (i := 5) (v := ?v5) rfl (by kernel_rfl) (by kernel_rfl) (by kernel_rfl) (fun _ _ _ h => h) (Or.inl ⟨by rfl, ?hy5⟩) (by assumption) ?rest5
      case hy5 => (intro w hSw; (try dsimp only at hSw); go_simp; try with_reducible rfl)
      try simp only [Act.put, List.setIfInBounds_toArray, List.set_cons_zero, List.set_cons_succ]
      refine wpAnyH_take (i := 6) (v := ?v6) rfl (by kernel_rfl) (by kernel_rfl) (by kernel_rfl) (fun _ _ _ h => h) (Or.inl ⟨by rfl, ?hy6⟩) (by assumption) ?rest6
      case hy6 => (intro w hSw; (try dsimp only at hSw); go_simp; try with_reducible rfl)
      try simp only [Act.put, List.setIfInBounds_toArray, List.set_cons_zero, List.set_cons_succ]
      refine wpAnyH_ready (rs := [3]) (by kernel_rfl) (by simp) ?_
      refine AllReadyH.cons rfl (fun K' hK => ?_) AllReadyH.nil
      go_simp
      go_at_call 22
      refine (H.out.1 w1.drew (bt H.out.2.2.2.2.1 (below_drew (Below.refl w1.heap.size w1)))).mono ?_
      rintro e w5 ⟨rfl, b5⟩
      have B5 := Lib.hid (bt (below_drew (Below.refl w1.heap.size w1)) b5); clear b5
      refine hK.out _ _ ?_ (fun hHeld => ?_)
      · exact keepS w5 B5.out
      clear hK K'
      try simp only [Act.put, List.setIfInBounds_toArray, List.set_cons_zero, List.set_cons_succ]
      refine wpAnyH_take (i := 4) (v := ?v4a) rfl (by kernel_rfl) (by kernel_rfl) (by kernel_rfl) (fun _ _ _ h => h) (Or.inl ⟨by rfl, ?hy4a⟩) (by assumption) ?rest4a
      case hy4a => (intro w hSw; (try dsimp only at hSw); go_simp; try with_reducible rfl)
      try simp only [Act.put, List.setIfInBounds_toArray, List.set_cons_zero, List.set_cons_succ]
      refine wpAnyH_ready (rs := [7]) (by kernel_rfl) (by simp) ?_
      refine AllReadyH.cons rfl (fun K' hK => ?_) AllReadyH.nil
      go_simp
      go_at_call 24
      refine (H.out.2.1 w5 (bt H.out.2.2.2.2.1 B5.out)).mono ?_
      rintro e w6 ⟨rfl, b6⟩
      have B6 := Lib.hid (bt B5.out b6); clear b6
      refine hK.out _ _ ?_ (fun hHeld => ?_)
      · exact keepS w6 B6.out
      clear hK K'
      try simp only [Act.put, List.setIfInBounds_toArray, List.set_cons_zero, List.set_cons_succ]
      refine wpAnyH_take (i := 8) (v := ?v8a) rfl (by kernel_rfl) (by kernel_rfl) (by kernel_rfl) (fun _ _ _ h => h) (Or.inl ⟨by rfl, ?hy8a⟩) (by assumption) ?rest8a
      case hy8a => (intro w hSw; (try dsimp only at hSw); go_simp; try with_reducible rfl)
      try simp only [Act.put, List.setIfInBounds_toArray, List.set_cons_zero, List.set_cons_succ]
      refine wpAnyH_take (i := 9) (v := ?v9a) rfl (by kernel_rfl) (by kernel_rfl) (by kernel_rfl) (fun _ _ _ h => h) (Or.inl ⟨by rfl, ?hy9a⟩) (by assumption) ?rest9a
      case hy9a => (intro w hSw; (try dsimp only at hSw); go_simp; try with_reducible rfl)
      try simp only [Act.put, List.setIfInBounds_toArray, List.set_cons_zero, List.set_cons_succ]
      refine wpAnyH_ready (rs := [10]) (by kernel_rfl) (by simp) ?_
      refine AllReadyH.cons rfl (fun K' hK => ?_) AllReadyH.nil
      go_simp
      refine hK.out _ _ ?_ (fun hHeld => ?_)
      · exact keepS w6 B6.out
      clear hK K'
      try simp only [Act.put, List.setIfInBounds_toArray, List.set_cons_zero, List.set_cons_succ]
      refine wpAnyH_done (by kernel_rfl) ?_ _
      go_wp2_with fail
      go_meet
      exact ⟨rfl, B6.out⟩
    case rest =>
      obtain ⟨rfl, hb4⟩ := hcut
      rename World => w4
      clear f1 f2 f3 keepS p1
      have p4 := (H.out.2.2.2.2.2.later hb4).cell
      have hT4d : (T0 ++ (J ++ (⟨#[32, 87, 73, 84, 72, 73, 78, 32]⟩ : ByteArray) ++ I)).data.toList = T0.data.toList ++ (J.data.toList ++ ([32, 87, 73, 84, 72, 73, 78, 32] ++ I.data.toList)) := by simp
      have hT4z : (T0 ++ (J ++ (⟨#[32, 87, 73, 84, 72, 73, 78, 32]⟩ : ByteArray) ++ I)).size ≤ 600000000 := by
        rw [ByteArray.size_append, ByteArray.size_append, ByteArray.size_append]
        show T0.size + (J.size + 8 + I.size) ≤ _; omega
      generalize T0 ++ (J ++ (⟨#[32, 87, 73, 84, 72, 73, 78, 32]⟩ : ByteArray) ++ I) = T4 at *
      have HT4 := Lib.hid (And.intro hT4d hb4); clear hT4d hb4
      obtain ⟨T6, hT6⟩ : ∃ T6 : ByteArray, T6 = if q.by_.size = 0 then T4 else T4 ++ (⟨#[32, 66, 89, 32]⟩ ++ q.by_) := ⟨_, rfl⟩
      have hT6d : T6.data.toList = T4.data.toList ++ (if q.by_.size = 0 then [] else [32, 66, 89, 32] ++ q.by_.data.toList) := by rw [hT6]; split <;> simp
      have hT6z : T6.size ≤ 700000000 := by
        rw [hT6]; split
        · omega
        · rw [ByteArray.size_append, ByteArray.size_append]; show T4.size + (4 + q.by_.size) ≤ _; omega
      go_upto_region 5 with fail
      go_cut [23] (fun bv wx => bv = .bool (!decide (q.by_.size = 0)) ∧ w4 = wx)
      case first =>
        by_cases hz : q.by_.size = 0
        · have hz0 : q.by_ = ⟨#[]⟩ := by
            apply toList_inj
            have : q.by_.toList.length = 0 := by rw [Lib.toList_data, Array.length_toList]; exact hz
            rw [List.eq_nil_of_length_eq_zero this, nil_toList]
          have hzl : q.by_.toList = [] := by rw [hz0]; exact nil_toList
          have hzb : (q.by_.toList == (⟨#[]⟩ : ByteArray).toList) = true := by rw [hz0]; simp
          have HZ := Lib.hid hz
          clear hz0 hz hT6
          go_wp2_with fail
          go_meet
          exact ⟨by rw [decide_eq_true HZ.out]; rfl, rfl⟩
        · have hzl : ¬ q.by_.toList = [] := fun h => hz (by
            have : q.by_.toList.length = 0 := by rw [h]; rfl
            rw [Lib.toList_data, Array.length_toList] at this
            exact this)
          have hzb : (q.by_.toList == (⟨#[]⟩ : ByteArray).toList) = false := by rw [nil_toList]; simpa using hzl
          have HZ := Lib.hid hz
          clear hz hT6
          go_wp2_with fail
          go_meet
          exact ⟨by rw [decide_eq_false HZ.out]; simp [hzl], rfl⟩
      case rest =>
        obtain ⟨rfl, rfl⟩ := hcut
        go_upto_if 23 with fail
        go_cut [3] (fun tv wx => tv = .string T6 ∧ w4 = wx)
        case first =>
          cases hz : decide (q.by_.size = 0) with
          | true =>
            have hz1 := of_decide_eq_true hz
            rw [if_pos hz1] at hT6
            clear hz1 hz
            go_wp2_with fail
            go_meet
            exact ⟨by rw [hT6], rfl⟩
          | false =>
            have hz1 := of_decide_eq_false hz
            rw [if_neg hz1] at hT6
            clear hz1 hz
            go_wp2_with fail
            go_meet
            exact ⟨by rw [hT6], rfl⟩
        case rest =>
          obtain ⟨rfl, rfl⟩ := hcut
          have HT6 := Lib.hid hT6d
          clear hT6 hT6d
          by_cases hm0 : m = 0
          · subst hm0
            go_wp2_with fail
            go_ret
            refine ⟨str_ret ?_, bt H.out.2.2.2.2.1 HT4.out.2⟩
            rw [H.out.2.2.2.1, HT6.out, HT4.out.1, HT0.out]
            simp
          · have hm1 : 0 < m := by omega
            have hd1 : decide (0 < m) = true := decide_eq_true hm1
            go_wp2_with fail
            try go_at_call 25
            refine (H.out.2.2.1 _ (bt H.out.2.2.2.2.1 HT4.out.2)).mono ?_
            rintro e w7 ⟨rfl, b7⟩
            have B7 := Lib.hid (bt (bt H.out.2.2.2.2.1 HT4.out.2) b7); clear b7 p4
            go_wp2_with fail
            go_ret
            refine ⟨str_ret ?_, B7.out⟩
            rw [H.out.2.2.2.1]
            simp [HT6.out, HT4.out.1, HT0.out, hm0]
end Go.Proofs.YtenmbahfgfmjjaaDoor
