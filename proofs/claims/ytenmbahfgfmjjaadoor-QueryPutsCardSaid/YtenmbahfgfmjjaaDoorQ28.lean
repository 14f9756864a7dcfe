/- Texts that several proofs stand on, part 28. -/
import Derived.Test.YtenmbahfgfmjjaaDoorQ24
import Derived.Test.YtenmbahfgfmjjaaDoorQ27
import Derived.Deep.RegionHeld3
namespace Go.Proofs.YtenmbahfgfmjjaaDoor
open Go.ChangeShapes Go.WideShapes Go.ChangeAt Go.RowKit Go.Maps
set_option linter.unusedVariables false
set_option linter.unusedSimpArgs false

theorem joinTail_len (M : Nat) (sep : List UInt8) : ∀ (l : List (List UInt8)), (∀ x ∈ l, x.length ≤ M) → (Lib.joinTail sep l).length ≤ l.length * (M + sep.length)
  | [], _ => by simp [Lib.joinTail]
  | x :: l, h => by
    have h1 := joinTail_len M sep l (fun y hy => h y (List.mem_cons_of_mem _ hy))
    have h2 := h x (List.mem_cons_self ..)
    have e : Lib.joinTail sep (x :: l) = (sep ++ x) ++ Lib.joinTail sep l := rfl
    rw [e, List.length_append, List.length_append, List.length_cons, Nat.add_mul]
    omega
theorem join_len (M : Nat) (sep : List UInt8) (l : List (List UInt8)) (h : ∀ x ∈ l, x.length ≤ M) : (Lib.join l sep).length ≤ l.length * (M + sep.length) := by
  cases l with
  | nil => simp [Lib.join_nil]
  | cons x l =>
    rw [Lib.join_cons]
    have h1 := joinTail_len M sep l (fun y hy => h y (List.mem_cons_of_mem _ hy))
    have h2 := h x (List.mem_cons_self ..)
    rw [List.length_append, List.length_cons, Nat.add_mul]
    omega
theorem Join_any (v : Value) (l : List ByteArray) (sep : ByteArray) (w : World) (h : At w 1 scV v l) (hn : l.length ≤ 1000000) (hl : (Lib.join (l.map (·.data.toList)) sep.data.toList).length ≤ 140737488355328) :
    Calls Tryd.prog 47 #[v, .string sep] w fun e w' => e = .returned (.string ⟨(Lib.join (l.map (·.data.toList)) sep.data.toList).toArray⟩) ∧ Below w.heap.size w w' := by
  obtain ⟨A, c, rfl, a1, a2, _⟩ := h.shape
  cases l with
  | nil =>
    refine (Tryd.strings_Join_none A c sep w).mono ?_
    rintro e w' ⟨rfl, rfl⟩
    exact ⟨rfl, Below.refl _ _⟩
  | cons x l =>
    obtain ⟨a, rfl, hc⟩ := h.cells rfl (by simp)
    have c0 := hc 0 (by simp) 0 (.string x) rfl
    rw [Nat.zero_mul, Nat.zero_add, show a.add 0 = a by unfold Addr.add; simp] at c0
    have hbl := World.block_lt_of_cell? w _ c0
    obtain ⟨ab, ao, asp⟩ := a
    have has : asp = none := by
      cases asp with
      | none => rfl
      | some k =>
        exfalso
        unfold World.cell? at c0
        split at c0 <;> simp at c0
    subst has
    refine (Tryd.strings_Join ab ao c (x :: l) sep w (fun j y hy => ?_) hbl (by omega) a1 hl).mono (fun e w' h => h)
    have hj := (List.getElem?_eq_some_iff.1 hy).1
    have := hc j hj 0 (.string y) (by rw [(List.getElem?_eq_some_iff.1 hy).2]; rfl)
    rw [Nat.mul_one, Nat.add_zero, addr_pl] at this
    exact this
set_option maxRecDepth 20000 in
set_option maxHeartbeats 4000000 in
theorem joinedP (v : Value) (r : List (Px)) (sep : ByteArray) (txt : Px → List UInt8) (w : World) (h : At w 5 ptF v r) (hn : r.length ≤ 1000) (hl : (Lib.join (r.map txt) sep.data.toList).length ≤ 140737488355328)
    (hF : ∀ x ∈ r, ∀ W, Below w.heap.size w W → Calls Tryd.prog 23 #[ptV x] W fun e w' => e = .returned (.string ⟨(txt x).toArray⟩) ∧ Below W.heap.size W w') :
    Calls Tryd.prog 22 #[v, .func (.func 23) #[] #[], .string sep] w fun e w' => e = .returned (.string ⟨(Lib.join (r.map txt) sep.data.toList).toArray⟩) ∧ Below w.heap.size w w' := by
  obtain ⟨js, sj, sy0, sy1, sy2⟩ := info_parts (P := Tryd.prog) (e := 9) (z := .string ⟨#[]⟩) (size := 1) (bytes := 16) (by kernel_rfl)
  obtain ⟨A, c, rfl, a1, a2, _⟩ := h.shape
  obtain ⟨n, hnl⟩ : ∃ n, n = r.length := ⟨_, rfl⟩
  rw [← hnl] at h hn ⊢
  have H := Lib.hid (And.intro h (And.intro hnl (And.intro hl hF))); clear h hnl hF a1 hl
  go_enter Tryd.func22, Tryd.ntmps22
  go_wp2_with (refine wpList_make_own _ rfl _ _ 33 rfl w.heap.size 9 js (.string ⟨#[]⟩) 1 Tryd.underlying33 sj sy0 sy1 .i64 .i64 _ n rfl rfl (by omega) (by rw [sy2]; omega) (by unfold maxLen; omega) (Nat.le_refl _) ?_; intro w1 hO1 hg1)
  have bm := grownBy_below hg1 (B := w.heap.size) (Nat.le_refl _) (fun k hk => by simp at hk)
  have hO2 : Own w1 w.heap.size 9 1 scV (.slice (some ⟨w.heap.size, 0, none⟩) 0 n) ([] : List ByteArray) := hO1
  have K := Lib.hid (And.intro hO2 bm); clear hO1 hg1 hO2 bm
  go_loopw [7, 15] (fun tv iv wr => ∃ i : Nat, i ≤ n ∧ iv = .int .i64 (i : Int) ∧ Own wr w.heap.size 9 1 scV tv ((r.take i).map (fun x => ⟨(txt x).toArray⟩)) ∧ Below w.heap.size w wr) (fun _ iv _ => n - (intOf iv).toNat)
  case atStart => exact ⟨0, Nat.zero_le _, rfl, K.out.1, K.out.2⟩
  case round =>
    rename World => wr
    clear K
    obtain ⟨i, hi, rfl, hO, hb⟩ := hrel
    by_cases hlt : i < n
    · have hir : i < r.length := by have := H.out.2.1; omega
      obtain ⟨a, rfl, hca⟩ := (H.out.1.later hb).cells rfl (by have := H.out.2.1; omega)
      obtain ⟨e0, e1, e2, e3, e4⟩ := hca.row5 i hir rfl
      have hC := H.out.2.2.2 _ (List.getElem_mem hir)
      
      have htk : (r.take (i + 1)).map (fun x => (⟨(txt x).toArray⟩ : ByteArray)) = (r.take i).map (fun x => ⟨(txt x).toArray⟩) ++ [⟨(txt (r[i]'hir)).toArray⟩] := by rw [take_snoc hir, List.map_append]; rfl
      have hlen : ((r.take i).map (fun x => (⟨(txt x).toArray⟩ : ByteArray))).length ≤ 1000 := by rw [List.length_map, List.length_take]; omega
      generalize r[i]'hir = x at *
      obtain ⟨tx, htx⟩ : ∃ tx : ByteArray, tx = ⟨(txt x).toArray⟩ := ⟨_, rfl⟩
      rw [← htx] at hC htk
      clear htx
      generalize (r.take i).map (fun x => (⟨(txt x).toArray⟩ : ByteArray)) = Q at *
      obtain ⟨⟨nt, pl, ss, v, pd⟩, ⟨sA, sn, sc⟩, ⟨dA, dn, dc⟩⟩ := x
      simp only at e0 e1 e2 e3 e4
      change wr.cell? ⟨(a.add (i * 5)).block, (a.add (i * 5)).off + 2, none⟩ = some (.slice sA sn sc) at e2
      change wr.cell? ⟨(a.add (i * 5)).block, (a.add (i * 5)).off + 4, none⟩ = some (.slice dA dn dc) at e4
      obtain ⟨tA, tn, tc, rfl⟩ := own_shape hO
      have bA := ba wr (.cells #[.bool nt, .bool pl, .slice sA sn sc, .string v, .slice dA dn dc] 37)
      have U := Lib.hid (And.intro (hC _ (bt hb bA)) (And.intro htk (And.intro (hO.later bA) (And.intro (bt hb bA) hlen)))); clear hC htk hO hb hca bA hlen
      go_wp2_with fail
      try go_at_call 23
      refine U.out.1.mono ?_
      rintro e w5 ⟨rfl, b5⟩
      have hB1 := at_newS w5 tx
      have hbA := ba w5 (.cells #[.string tx] 9)
      have V := Lib.hid (And.intro (U.out.2.2.1.later b5) (bt U.out.2.2.2.1 b5)); clear b5
      go_wp2_with (at_builtin; refine wpList_append_loc _ rfl (.tmp 19) (.tmp 23) 33 rfl w.heap.size 9 js (.string ⟨#[]⟩) 1 16 Tryd.underlying33 sj sy0 sy1 sy2 rfl (by decide) (f := scV) (fun _ => rfl) one_scV _ Q rfl (V.out.1.later hbA) (some ⟨w5.heap.size, 0, none⟩) 1 1 [tx] rfl rfl hB1 (by have := U.out.2.2.2.2; unfold maxLen; omega) (by have := U.out.2.2.2.2; omega) (by have := V.out.2.size; simp only [World.size_alloc]; omega) ?_; intro v7 w7 hO7 hg7 hq7; have Y := Lib.hid (And.intro hO7 hg7); clear hO7 hg7 hq7)
      have bA := bt V.out.2 hbA
      have b7 := bA.trans (grownBy_below Y.out.2 bA.size (fun k hk => (ownBI V.out.1 hk).1))
      go_roundw
      case rel => exact ⟨i + 1, by omega, by go_num, by rw [U.out.2.1]; exact Y.out.1, b7⟩
      case measure => simp [intOf]; omega
    · obtain rfl : i = n := by omega
      have hfl : (r.take i).map (fun x => (⟨(txt x).toArray⟩ : ByteArray)) = r.map (fun x => ⟨(txt x).toArray⟩) := by rw [List.take_of_length_le (by have := H.out.2.1; omega)]
      rw [hfl] at hO
      have hmm : (r.map (fun x => (⟨(txt x).toArray⟩ : ByteArray))).map (·.data.toList) = r.map txt := by rw [List.map_map]; apply List.map_congr_left; intro x _; simp
      have cJ := Join_any _ _ sep wr (hO.at_ (f := scV) (k := 1) (fun _ => rfl)) (by rw [List.length_map]; have := H.out.2.1; omega) (by rw [hmm]; exact H.out.2.2.1)
      rw [hmm] at cJ
      obtain ⟨tA, tn, tc, rfl⟩ := own_shape hO
      have U := Lib.hid (And.intro cJ hb); clear cJ hO hb hfl hmm
      go_wp2_with fail
      try go_at_call 47
      refine U.out.1.mono ?_
      rintro e w5 ⟨rfl, b5⟩
      have V := Lib.hid (bt U.out.2 b5); clear b5
      go_wp2_with fail
      go_ret
      exact ⟨rfl, V.out⟩
set_option maxRecDepth 20000 in
set_option maxHeartbeats 4000000 in
theorem joinedE (v : Value) (r : List (Tr × Value)) (sep : ByteArray) (txt : Tr × Value → List UInt8) (w : World) (h : At w 8 exF v r) (hn : r.length ≤ 1000) (hK : ∀ x ∈ r, isSl x.2) (hl : (Lib.join (r.map txt) sep.data.toList).length ≤ 140737488355328)
    (hF : ∀ x ∈ r, ∀ W, Below w.heap.size w W → Calls Tryd.prog 49 #[exV x] W fun e w' => e = .returned (.string ⟨(txt x).toArray⟩) ∧ Below W.heap.size W w') :
    Calls Tryd.prog 48 #[v, .func (.func 49) #[] #[], .string sep] w fun e w' => e = .returned (.string ⟨(Lib.join (r.map txt) sep.data.toList).toArray⟩) ∧ Below w.heap.size w w' := by
  obtain ⟨js, sj, sy0, sy1, sy2⟩ := info_parts (P := Tryd.prog) (e := 9) (z := .string ⟨#[]⟩) (size := 1) (bytes := 16) (by kernel_rfl)
  obtain ⟨A, c, rfl, a1, a2, _⟩ := h.shape
  obtain ⟨n, hnl⟩ : ∃ n, n = r.length := ⟨_, rfl⟩
  rw [← hnl] at h hn ⊢
  have H := Lib.hid (And.intro h (And.intro hnl (And.intro hl (And.intro hF hK)))); clear h hnl hF a1 hl hK
  go_enter Tryd.func48, Tryd.ntmps48
  go_wp2_with (refine wpList_make_own _ rfl _ _ 33 rfl w.heap.size 9 js (.string ⟨#[]⟩) 1 Tryd.underlying33 sj sy0 sy1 .i64 .i64 _ n rfl rfl (by omega) (by rw [sy2]; omega) (by unfold maxLen; omega) (Nat.le_refl _) ?_; intro w1 hO1 hg1)
  have bm := grownBy_below hg1 (B := w.heap.size) (Nat.le_refl _) (fun k hk => by simp at hk)
  have hO2 : Own w1 w.heap.size 9 1 scV (.slice (some ⟨w.heap.size, 0, none⟩) 0 n) ([] : List ByteArray) := hO1
  have K := Lib.hid (And.intro hO2 bm); clear hO1 hg1 hO2 bm
  go_loopw [7, 15] (fun tv iv wr => ∃ i : Nat, i ≤ n ∧ iv = .int .i64 (i : Int) ∧ Own wr w.heap.size 9 1 scV tv ((r.take i).map (fun x => ⟨(txt x).toArray⟩)) ∧ Below w.heap.size w wr) (fun _ iv _ => n - (intOf iv).toNat)
  case atStart => exact ⟨0, Nat.zero_le _, rfl, K.out.1, K.out.2⟩
  case round =>
    rename World => wr
    clear K
    obtain ⟨i, hi, rfl, hO, hb⟩ := hrel
    by_cases hlt : i < n
    · have hir : i < r.length := by have := H.out.2.1; omega
      obtain ⟨a, rfl, hca⟩ := (H.out.1.later hb).cells rfl (by have := H.out.2.1; omega)
      obtain ⟨e0, e1, e2, e3, e4, e5, e6, e7⟩ := hca.row8 i hir rfl
      have hC := H.out.2.2.2.1 _ (List.getElem_mem hir)
      have hsl := H.out.2.2.2.2 _ (List.getElem_mem hir)
      have htk : (r.take (i + 1)).map (fun x => (⟨(txt x).toArray⟩ : ByteArray)) = (r.take i).map (fun x => ⟨(txt x).toArray⟩) ++ [⟨(txt (r[i]'hir)).toArray⟩] := by rw [take_snoc hir, List.map_append]; rfl
      have hlen : ((r.take i).map (fun x => (⟨(txt x).toArray⟩ : ByteArray))).length ≤ 1000 := by rw [List.length_map, List.length_take]; omega
      generalize r[i]'hir = x at *
      obtain ⟨tx, htx⟩ : ∃ tx : ByteArray, tx = ⟨(txt x).toArray⟩ := ⟨_, rfl⟩
      rw [← htx] at hC htk
      clear htx
      generalize (r.take i).map (fun x => (⟨(txt x).toArray⟩ : ByteArray)) = Q at *
      obtain ⟨t, K⟩ := x
      obtain ⟨A8, n8, c8, rfl⟩ := hsl
      obtain ⟨k1, op, vk, vn, vs, va, vf, B8, m8, d8, hval, hnode⟩ := Tr.val_ev' t A8 n8 c8
      simp only [exF, hnode] at e0 e1 e2 e3 e4 e5 e6 e7
      simp only [exV, hval] at hC
      obtain ⟨tA, tn, tc, rfl⟩ := own_shape hO
      have bA := ba wr (.cells #[.int .i64 k1, .string op, .int .i64 vk, .int .i64 vn, .string vs, .string va, .string vf, .slice B8 m8 d8] 42)
      have U := Lib.hid (And.intro (hC _ (bt hb bA)) (And.intro htk (And.intro (hO.later bA) (And.intro (bt hb bA) hlen)))); clear hC htk hO hb hca bA hlen
      go_wp2_with fail
      try go_at_call 49
      refine U.out.1.mono ?_
      rintro e w5 ⟨rfl, b5⟩
      have hB1 := at_newS w5 tx
      have hbA := ba w5 (.cells #[.string tx] 9)
      have V := Lib.hid (And.intro (U.out.2.2.1.later b5) (bt U.out.2.2.2.1 b5)); clear b5
      go_wp2_with (at_builtin; refine wpList_append_loc _ rfl (.tmp 19) (.tmp 23) 33 rfl w.heap.size 9 js (.string ⟨#[]⟩) 1 16 Tryd.underlying33 sj sy0 sy1 sy2 rfl (by decide) (f := scV) (fun _ => rfl) one_scV _ Q rfl (V.out.1.later hbA) (some ⟨w5.heap.size, 0, none⟩) 1 1 [tx] rfl rfl hB1 (by have := U.out.2.2.2.2; unfold maxLen; omega) (by have := U.out.2.2.2.2; omega) (by have := V.out.2.size; simp only [World.size_alloc]; omega) ?_; intro v7 w7 hO7 hg7 hq7; have Y := Lib.hid (And.intro hO7 hg7); clear hO7 hg7 hq7)
      have bA := bt V.out.2 hbA
      have b7 := bA.trans (grownBy_below Y.out.2 bA.size (fun k hk => (ownBI V.out.1 hk).1))
      go_roundw
      case rel => exact ⟨i + 1, by omega, by go_num, by rw [U.out.2.1]; exact Y.out.1, b7⟩
      case measure => simp [intOf]; omega
    · obtain rfl : i = n := by omega
      have hfl : (r.take i).map (fun x => (⟨(txt x).toArray⟩ : ByteArray)) = r.map (fun x => ⟨(txt x).toArray⟩) := by rw [List.take_of_length_le (by have := H.out.2.1; omega)]
      rw [hfl] at hO
      have hmm : (r.map (fun x => (⟨(txt x).toArray⟩ : ByteArray))).map (·.data.toList) = r.map txt := by rw [List.map_map]; apply List.map_congr_left; intro x _; simp
      have cJ := Join_any _ _ sep wr (hO.at_ (f := scV) (k := 1) (fun _ => rfl)) (by rw [List.length_map]; have := H.out.2.1; omega) (by rw [hmm]; exact H.out.2.2.1)
      rw [hmm] at cJ
      obtain ⟨tA, tn, tc, rfl⟩ := own_shape hO
      have U := Lib.hid (And.intro cJ hb); clear cJ hO hb hfl hmm
      go_wp2_with fail
      try go_at_call 47
      refine U.out.1.mono ?_
      rintro e w5 ⟨rfl, b5⟩
      have V := Lib.hid (bt U.out.2 b5); clear b5
      go_wp2_with fail
      go_ret
      exact ⟨rfl, V.out⟩
set_option maxRecDepth 20000 in
set_option maxHeartbeats 4000000 in
theorem joinedO (v : Value) (r : List (Ox)) (sep : ByteArray) (txt : Ox → List UInt8) (w : World) (h : At w 9 otF v r) (hn : r.length ≤ 1000) (hK : ∀ x ∈ r, isSl x.2) (hl : (Lib.join (r.map txt) sep.data.toList).length ≤ 140737488355328)
    (hF : ∀ x ∈ r, ∀ W, Below w.heap.size w W → Calls Tryd.prog 26 #[otV x] W fun e w' => e = .returned (.string ⟨(txt x).toArray⟩) ∧ Below W.heap.size W w') :
    Calls Tryd.prog 25 #[v, .func (.func 26) #[] #[], .string sep] w fun e w' => e = .returned (.string ⟨(Lib.join (r.map txt) sep.data.toList).toArray⟩) ∧ Below w.heap.size w w' := by
  obtain ⟨js, sj, sy0, sy1, sy2⟩ := info_parts (P := Tryd.prog) (e := 9) (z := .string ⟨#[]⟩) (size := 1) (bytes := 16) (by kernel_rfl)
  obtain ⟨A, c, rfl, a1, a2, _⟩ := h.shape
  obtain ⟨n, hnl⟩ : ∃ n, n = r.length := ⟨_, rfl⟩
  rw [← hnl] at h hn ⊢
  have H := Lib.hid (And.intro h (And.intro hnl (And.intro hl (And.intro hF hK)))); clear h hnl hF a1 hl hK
  go_enter Tryd.func25, Tryd.ntmps25
  go_wp2_with (refine wpList_make_own _ rfl _ _ 33 rfl w.heap.size 9 js (.string ⟨#[]⟩) 1 Tryd.underlying33 sj sy0 sy1 .i64 .i64 _ n rfl rfl (by omega) (by rw [sy2]; omega) (by unfold maxLen; omega) (Nat.le_refl _) ?_; intro w1 hO1 hg1)
  have bm := grownBy_below hg1 (B := w.heap.size) (Nat.le_refl _) (fun k hk => by simp at hk)
  have hO2 : Own w1 w.heap.size 9 1 scV (.slice (some ⟨w.heap.size, 0, none⟩) 0 n) ([] : List ByteArray) := hO1
  have K := Lib.hid (And.intro hO2 bm); clear hO1 hg1 hO2 bm
  go_loopw [7, 15] (fun tv iv wr => ∃ i : Nat, i ≤ n ∧ iv = .int .i64 (i : Int) ∧ Own wr w.heap.size 9 1 scV tv ((r.take i).map (fun x => ⟨(txt x).toArray⟩)) ∧ Below w.heap.size w wr) (fun _ iv _ => n - (intOf iv).toNat)
  case atStart => exact ⟨0, Nat.zero_le _, rfl, K.out.1, K.out.2⟩
  case round =>
    rename World => wr
    clear K
    obtain ⟨i, hi, rfl, hO, hb⟩ := hrel
    by_cases hlt : i < n
    · have hir : i < r.length := by have := H.out.2.1; omega
      obtain ⟨a, rfl, hca⟩ := (H.out.1.later hb).cells rfl (by have := H.out.2.1; omega)
      obtain ⟨e0, e1, e2, e3, e4, e5, e6, e7, e8⟩ := hca.row9 i hir rfl
      have hC := H.out.2.2.2.1 _ (List.getElem_mem hir)
      have hsl := H.out.2.2.2.2 _ (List.getElem_mem hir)
      have htk : (r.take (i + 1)).map (fun x => (⟨(txt x).toArray⟩ : ByteArray)) = (r.take i).map (fun x => ⟨(txt x).toArray⟩) ++ [⟨(txt (r[i]'hir)).toArray⟩] := by rw [take_snoc hir, List.map_append]; rfl
      have hlen : ((r.take i).map (fun x => (⟨(txt x).toArray⟩ : ByteArray))).length ≤ 1000 := by rw [List.length_map, List.length_take]; omega
      generalize r[i]'hir = x at *
      obtain ⟨tx, htx⟩ : ∃ tx : ByteArray, tx = ⟨(txt x).toArray⟩ := ⟨_, rfl⟩
      rw [← htx] at hC htk
      clear htx
      generalize (r.take i).map (fun x => (⟨(txt x).toArray⟩ : ByteArray)) = Q at *
      obtain ⟨⟨fl, t⟩, K⟩ := x
      obtain ⟨A8, n8, c8, rfl⟩ := hsl
      obtain ⟨k1, op, vk, vn, vs, va, vf, B8, m8, d8, hval, hnode⟩ := Tr.val_ev' t A8 n8 c8
      simp only [otF, exF, hnode] at e0 e1 e2 e3 e4 e5 e6 e7 e8
      simp only [otV, hnode] at hC
      obtain ⟨tA, tn, tc, rfl⟩ := own_shape hO
      have bA := ba wr (.cells #[.string fl, .int .i64 k1, .string op, .int .i64 vk, .int .i64 vn, .string vs, .string va, .string vf, .slice B8 m8 d8] 45)
      have U := Lib.hid (And.intro (hC _ (bt hb bA)) (And.intro htk (And.intro (hO.later bA) (And.intro (bt hb bA) hlen)))); clear hC htk hO hb hca bA hlen
      go_wp2_with fail
      try go_at_call 26
      refine U.out.1.mono ?_
      rintro e w5 ⟨rfl, b5⟩
      have hB1 := at_newS w5 tx
      have hbA := ba w5 (.cells #[.string tx] 9)
      have V := Lib.hid (And.intro (U.out.2.2.1.later b5) (bt U.out.2.2.2.1 b5)); clear b5
      go_wp2_with (at_builtin; refine wpList_append_loc _ rfl (.tmp 19) (.tmp 23) 33 rfl w.heap.size 9 js (.string ⟨#[]⟩) 1 16 Tryd.underlying33 sj sy0 sy1 sy2 rfl (by decide) (f := scV) (fun _ => rfl) one_scV _ Q rfl (V.out.1.later hbA) (some ⟨w5.heap.size, 0, none⟩) 1 1 [tx] rfl rfl hB1 (by have := U.out.2.2.2.2; unfold maxLen; omega) (by have := U.out.2.2.2.2; omega) (by have := V.out.2.size; simp only [World.size_alloc]; omega) ?_; intro v7 w7 hO7 hg7 hq7; have Y := Lib.hid (And.intro hO7 hg7); clear hO7 hg7 hq7)
      have bA := bt V.out.2 hbA
      have b7 := bA.trans (grownBy_below Y.out.2 bA.size (fun k hk => (ownBI V.out.1 hk).1))
      go_roundw
      case rel => exact ⟨i + 1, by omega, by go_num, by rw [U.out.2.1]; exact Y.out.1, b7⟩
      case measure => simp [intOf]; omega
    · obtain rfl : i = n := by omega
      have hfl : (r.take i).map (fun x => (⟨(txt x).toArray⟩ : ByteArray)) = r.map (fun x => ⟨(txt x).toArray⟩) := by rw [List.take_of_length_le (by have := H.out.2.1; omega)]
      rw [hfl] at hO
      have hmm : (r.map (fun x => (⟨(txt x).toArray⟩ : ByteArray))).map (·.data.toList) = r.map txt := by rw [List.map_map]; apply List.map_congr_left; intro x _; simp
      have cJ := Join_any _ _ sep wr (hO.at_ (f := scV) (k := 1) (fun _ => rfl)) (by rw [List.length_map]; have := H.out.2.1; omega) (by rw [hmm]; exact H.out.2.2.1)
      rw [hmm] at cJ
      obtain ⟨tA, tn, tc, rfl⟩ := own_shape hO
      have U := Lib.hid (And.intro cJ hb); clear cJ hO hb hfl hmm
      go_wp2_with fail
      try go_at_call 47
      refine U.out.1.mono ?_
      rintro e w5 ⟨rfl, b5⟩
      have V := Lib.hid (bt U.out.2 b5); clear b5
      go_wp2_with fail
      go_ret
      exact ⟨rfl, V.out⟩
end Go.Proofs.YtenmbahfgfmjjaaDoor
