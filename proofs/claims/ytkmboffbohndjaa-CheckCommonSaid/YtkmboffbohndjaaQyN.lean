/- Layer 9: names over rows; what Right asks of one. -/
import Derived.Test.YtkmboffbohndjaaQyF
namespace Go.Proofs.Ytkmboffbohndjaa
open Go.ChangeShapes Go.WideShapes Go.ChangeAt Go.RowKit Go.Maps
set_option linter.unusedVariables false
set_option linter.unusedSimpArgs false

theorem namesB_iff {l : List ByteArray} : namesB l = true ↔ (∀ s ∈ l, nameB s = true) ∧ l.Nodup := by
  unfold namesB
  rw [Bool.and_eq_true, List.all_eq_true, decide_eq_true_iff]
theorem namesB_bad {l : List ByteArray} {i : Nat} (hi : i < l.length) (h : nameB (l[i]'hi) = false ∨ l[i]'hi ∈ l.take i) : namesB l = false := by
  cases hn : namesB l with
  | false => rfl
  | true =>
    obtain ⟨h1, h2⟩ := namesB_iff.1 hn
    rcases h with h | h
    · rw [h1 _ (List.getElem_mem hi)] at h; cases h
    · obtain ⟨j, hj, e⟩ := List.getElem_of_mem h
      rw [List.getElem_take] at e
      rw [List.length_take] at hj
      have := (List.getElem_inj h2).1 e
      omega
theorem nodup_snoc {l : List ByteArray} {s : ByteArray} (h : l.Nodup) (hs : s ∉ l) : (l ++ [s]).Nodup := by
  rw [List.nodup_append]
  exact ⟨h, by simp, fun a ha b hb e => hs (by simp at hb; rw [← hb, ← e]; exact ha)⟩
set_option maxHeartbeats 1000000 in
theorem nmfS (x : ByteArray) (W : World) :
    Calls Try.prog 68 #[.string x] W fun e w' => e = .returned (.string x) ∧ Below W.heap.size W w' := by
  
  skip
  skip
  skip
  have b0 := Below.refl W.heap.size W
  have H := Lib.hid b0; clear b0
  go_enter Try.func68, Try.ntmps68
  go_wp2_with fail
  go_ret
  exact ⟨rfl, H.out⟩
set_option maxRecDepth 20000 in
set_option maxHeartbeats 4000000 in
theorem namesS (v : Value) (r : List (ByteArray)) (w : World) (h : At w 1 scV v r) (hn : r.length ≤ 1000000) (hz : ∀ x ∈ r, (x).size ≤ maxLen) :
    Calls Try.prog 67 #[v, .func (.func 68) #[] #[]] w fun e w' => e = .returned (.bool (namesB (r.map (fun x => x)))) ∧ Below w.heap.size w w' := by
  obtain ⟨A, c, rfl, a1, a2, _⟩ := h.shape
  obtain ⟨n, hnl⟩ : ∃ n, n = r.length := ⟨_, rfl⟩
  rw [← hnl] at h hn ⊢
  have hM0 := MetS.made w
  have bM := ba w (.map #[] 0)
  have H := Lib.hid (And.intro h (And.intro hnl (And.intro hz trivial))); clear h hnl hz a1
  have K := Lib.hid (And.intro hM0 bM); clear hM0 bM
  have hmm := @run_makeMap Try.prog
  go_enter Try.func67, Try.ntmps67
  go_wp2_with fail
  clear hmm
  go_loopw [11] (fun iv wr => ∃ i : Nat, i ≤ n ∧ iv = .int .i64 (i : Int) ∧ (∀ s ∈ (r.map (fun x => x)).take i, nameB s = true) ∧ ((r.map (fun x => x)).take i).Nodup ∧ (∃ S, MetS wr w.heap.size i S ∧ ∀ s, s ∈ S ↔ s ∈ (r.map (fun x => x)).take i) ∧ Below w.heap.size w wr) (fun iv _ => n - (intOf iv).toNat)
  case atStart => exact ⟨0, Nat.zero_le _, rfl, fun s hs => by simp at hs, by simp, ⟨[], K.out.1, fun s => by simp⟩, K.out.2⟩
  case round =>
    rename World => wr
    clear K
    obtain ⟨i, hi, rfl, hnm, hnd, ⟨S, hM, hS⟩, hb⟩ := hrel
    by_cases hlt : i < n
    · have hir : i < r.length := by have := H.out.2.1; omega
      obtain ⟨a, rfl, hca⟩ := (H.out.1.later hb).cells rfl (by have := H.out.2.1; omega)
      have e0 := hca.row1 i hir rfl
      rw [Nat.mul_one] at e0
      have hsz := H.out.2.2.1 _ (List.getElem_mem hir)
      
      have hil : i < (r.map (fun x => x)).length := by rw [List.length_map]; exact hir
      have hgi : (r.map (fun x => x))[i]'hil = (r[i]'hir) := by rw [List.getElem_map]
      have hbad := namesB_bad (l := r.map (fun x => x)) hil
      have htk : (r.map (fun x => x)).take (i + 1) = (r.map (fun x => x)).take i ++ [(r.map (fun x => x))[i]'hil] := take_snoc hil
      rw [hgi] at hbad htk
      have hF := fun W => nmfS (r[i]'hir) W
      generalize r[i]'hir = x at *
      
      have b4 : Below wr.heap.size wr wr := Below.refl _ _
      obtain ⟨w4, hw4⟩ : ∃ w4, w4 = wr := ⟨_, rfl⟩
      
      have b4 : Below wr.heap.size wr w4 := by rw [hw4]; exact Below.refl _ _
      
      obtain ⟨b, hlk, hbS⟩ := hM.look hsz
      have hbI : b = true ↔ x ∈ (r.map (fun x => x)).take i := hbS.trans (hS x)
      have U := Lib.hid (And.intro hF (And.intro hbad (And.intro htk (And.intro hnm (And.intro hnd (And.intro (hM.later b4) (And.intro hS (And.intro (bt hb b4) (And.intro hbI hgi))))))))); clear hF hbad htk hnm hnd hM hS hb hbI hgi hlk hbS hca b4
      go_wp2_with fail
      subst hw4
      
      refine (U.out.1 _).mono ?_
      rintro e w5 ⟨rfl, b5⟩
      
      have B5 := Lib.hid b5; clear b5
      go_wp2_with fail
      try go_at_call 37
      refine (IsName_any x w5 hsz).mono ?_
      rintro e w6 ⟨rfl, rfl⟩
      cases hnb : nameB x with
      | false =>
        have HB := Lib.hid (U.out.2.1 (Or.inl hnb)); clear hnb
        go_wp2_with fail
        go_ret
        refine ⟨?_, bt U.out.2.2.2.2.2.2.2.1 B5.out⟩
        rw [HB.out]; rfl
      | true =>
        have HB := Lib.hid hnb; clear hnb
        go_wp2_with fail
        refine (U.out.1 _).mono ?_
        rintro e w7 ⟨rfl, b7⟩
        have hM7 := (U.out.2.2.2.2.2.1.later B5.out).later b7
        obtain ⟨b', hlk, hbS⟩ := hM7.look hsz
        have hbb : b' = b := by rw [Bool.eq_iff_iff, hbS, U.out.2.2.2.2.2.2.1, U.out.2.2.2.2.2.2.2.2.1]
        subst hbb
        
        
        have B7 := Lib.hid (And.intro (bt (bt U.out.2.2.2.2.2.2.2.1 B5.out) b7) hM7); clear b7 hM7 hbS
        cases b' with
        | true =>
          have HC := Lib.hid (U.out.2.1 (Or.inr (U.out.2.2.2.2.2.2.2.2.1.1 rfl)))
          go_wp2_with fail
          go_ret
          refine ⟨?_, B7.out.1⟩
          rw [HC.out]; rfl
        | false =>
          have hno : x ∉ (r.map (fun x => x)).take i := fun h => by have := U.out.2.2.2.2.2.2.2.2.1.2 h; cases this
          have HN := Lib.hid hno; clear hno
          go_wp2_with fail
          clear hlk
          refine (U.out.1 _).mono ?_
          rintro e w8 ⟨rfl, b8⟩
          have B8 := Lib.hid (And.intro (bt B7.out.1 b8) (B7.out.2.later b8)); clear b8
          go_wp2_with (at_mapUpdate; refine wpList_mapUpdate_met _ rfl _ _ _ rfl w.heap.size i S rfl B8.out.2 (by unfold maxLen; omega) x rfl rfl hsz ?_; intro w9 hM9 hg9; have b9 : Below w.heap.size w w9 := B8.out.1.trans (grownBy_below hg9 B8.out.1.size (fun k hk => by obtain rfl := Option.some.inj hk; exact Nat.le_refl _)); have Z := Lib.hid (And.intro hM9 b9); clear hM9 hg9 b9)
          go_roundw
          case rel =>
            refine ⟨i + 1, by omega, by go_num, fun s hs => ?_, ?_, ⟨x :: S, Z.out.1, fun s => ?_⟩, Z.out.2⟩
            · rw [U.out.2.2.1] at hs
              rcases List.mem_append.1 hs with hs | hs
              · exact U.out.2.2.2.1 s hs
              · rw [List.mem_singleton.1 hs]; exact HB.out
            · rw [U.out.2.2.1]; exact nodup_snoc U.out.2.2.2.2.1 HN.out
            · rw [U.out.2.2.1, List.mem_cons, List.mem_append, List.mem_singleton, U.out.2.2.2.2.2.2.1]; exact Or.comm
          case measure => simp [intOf]; omega
    · obtain rfl : i = n := by omega
      have hall : namesB (r.map (fun x => x)) = true := namesB_iff.2 (by
        have e : (r.map (fun x => x)).take i = r.map (fun x => x) := List.take_of_length_le (by rw [List.length_map]; have := H.out.2.1; omega)
        rw [e] at hnm hnd
        exact ⟨hnm, hnd⟩)
      have U := Lib.hid (And.intro hall hb); clear hall hnm hnd hM hS hb
      go_wp2_with fail
      go_ret
      refine ⟨?_, U.out.2⟩
      rw [U.out.1]; rfl
set_option maxHeartbeats 1000000 in
theorem nmfP (x : Px) (W : World) :
    Calls Try.prog 56 #[ptV x] W fun e w' => e = .returned (.string x.1.v) ∧ Below W.heap.size W w' := by
  obtain ⟨⟨nt, pl, ss, v, pd⟩, ⟨sA, sn, sc⟩, ⟨dA, dn, dc⟩⟩ := x
  skip
  skip
  skip
  have b0 := ba W (.cells #[.bool nt, .bool pl, .slice sA sn sc, .string v, .slice dA dn dc] 59)
  have H := Lib.hid b0; clear b0
  go_enter Try.func56, Try.ntmps56
  go_wp2_with fail
  go_ret
  exact ⟨rfl, H.out⟩
set_option maxRecDepth 20000 in
set_option maxHeartbeats 4000000 in
theorem namesP (v : Value) (r : List (Px)) (w : World) (h : At w 5 ptF v r) (hn : r.length ≤ 1000000) (hz : ∀ x ∈ r, (x.1.v).size ≤ maxLen) :
    Calls Try.prog 55 #[v, .func (.func 56) #[] #[]] w fun e w' => e = .returned (.bool (namesB (r.map (fun x => x.1.v)))) ∧ Below w.heap.size w w' := by
  obtain ⟨A, c, rfl, a1, a2, _⟩ := h.shape
  obtain ⟨n, hnl⟩ : ∃ n, n = r.length := ⟨_, rfl⟩
  rw [← hnl] at h hn ⊢
  have hM0 := MetS.made w
  have bM := ba w (.map #[] 0)
  have H := Lib.hid (And.intro h (And.intro hnl (And.intro hz trivial))); clear h hnl hz a1
  have K := Lib.hid (And.intro hM0 bM); clear hM0 bM
  have hmm := @run_makeMap Try.prog
  go_enter Try.func55, Try.ntmps55
  go_wp2_with fail
  clear hmm
  go_loopw [11] (fun iv wr => ∃ i : Nat, i ≤ n ∧ iv = .int .i64 (i : Int) ∧ (∀ s ∈ (r.map (fun x => x.1.v)).take i, nameB s = true) ∧ ((r.map (fun x => x.1.v)).take i).Nodup ∧ (∃ S, MetS wr w.heap.size i S ∧ ∀ s, s ∈ S ↔ s ∈ (r.map (fun x => x.1.v)).take i) ∧ Below w.heap.size w wr) (fun iv _ => n - (intOf iv).toNat)
  case atStart => exact ⟨0, Nat.zero_le _, rfl, fun s hs => by simp at hs, by simp, ⟨[], K.out.1, fun s => by simp⟩, K.out.2⟩
  case round =>
    rename World => wr
    clear K
    obtain ⟨i, hi, rfl, hnm, hnd, ⟨S, hM, hS⟩, hb⟩ := hrel
    by_cases hlt : i < n
    · have hir : i < r.length := by have := H.out.2.1; omega
      obtain ⟨a, rfl, hca⟩ := (H.out.1.later hb).cells rfl (by have := H.out.2.1; omega)
      obtain ⟨e0, e1, e2, e3, e4⟩ := hca.row5 i hir rfl
      have hsz := H.out.2.2.1 _ (List.getElem_mem hir)
      
      have hil : i < (r.map (fun x => x.1.v)).length := by rw [List.length_map]; exact hir
      have hgi : (r.map (fun x => x.1.v))[i]'hil = (r[i]'hir).1.v := by rw [List.getElem_map]
      have hbad := namesB_bad (l := r.map (fun x => x.1.v)) hil
      have htk : (r.map (fun x => x.1.v)).take (i + 1) = (r.map (fun x => x.1.v)).take i ++ [(r.map (fun x => x.1.v))[i]'hil] := take_snoc hil
      rw [hgi] at hbad htk
      have hF := fun W => nmfP (r[i]'hir) W
      generalize r[i]'hir = x at *
      obtain ⟨⟨nt, pl, ss, vn, pd⟩, ⟨sA, sn, sc⟩, ⟨dA, dn, dc⟩⟩ := x
      simp only at e0 e1 e2 e3 e4 hsz
      change wr.cell? ⟨(a.add (i * 5)).block, (a.add (i * 5)).off + 2, none⟩ = some (.slice sA sn sc) at e2
      change wr.cell? ⟨(a.add (i * 5)).block, (a.add (i * 5)).off + 4, none⟩ = some (.slice dA dn dc) at e4
      have b4 : Below wr.heap.size wr (wr.alloc (.cells #[.bool nt, .bool pl, .slice sA sn sc, .string vn, .slice dA dn dc] 59)) := ba wr (.cells #[.bool nt, .bool pl, .slice sA sn sc, .string vn, .slice dA dn dc] 59)
      obtain ⟨w4, hw4⟩ : ∃ w4, w4 = (wr.alloc (.cells #[.bool nt, .bool pl, .slice sA sn sc, .string vn, .slice dA dn dc] 59)) := ⟨_, rfl⟩
      rw [← hw4] at b4
      
      have PB := Lib.hid (show Blk w4 wr.heap.size 59 #[.bool nt, .bool pl, .slice sA sn sc, .string vn, .slice dA dn dc] by rw [hw4]; exact Blk.new _ _ _)
      obtain ⟨b, hlk, hbS⟩ := hM.look hsz
      have hbI : b = true ↔ vn ∈ (r.map (fun x => x.1.v)).take i := hbS.trans (hS vn)
      have U := Lib.hid (And.intro hF (And.intro hbad (And.intro htk (And.intro hnm (And.intro hnd (And.intro (hM.later b4) (And.intro hS (And.intro (bt hb b4) (And.intro hbI hgi))))))))); clear hF hbad htk hnm hnd hM hS hb hbI hgi hlk hbS hca b4
      go_wp2_with fail
      rw [← hw4]
      clear hw4
      refine (U.out.1 _).mono ?_
      rintro e w5 ⟨rfl, b5⟩
      have p5 := (PB.out.later b5).cell
      have B5 := Lib.hid b5; clear b5
      go_wp2_with fail
      try go_at_call 37
      refine (IsName_any vn w5 hsz).mono ?_
      rintro e w6 ⟨rfl, rfl⟩
      cases hnb : nameB vn with
      | false =>
        have HB := Lib.hid (U.out.2.1 (Or.inl hnb)); clear hnb
        go_wp2_with fail
        go_ret
        refine ⟨?_, bt U.out.2.2.2.2.2.2.2.1 B5.out⟩
        rw [HB.out]; rfl
      | true =>
        have HB := Lib.hid hnb; clear hnb
        go_wp2_with fail
        refine (U.out.1 _).mono ?_
        rintro e w7 ⟨rfl, b7⟩
        have hM7 := (U.out.2.2.2.2.2.1.later B5.out).later b7
        obtain ⟨b', hlk, hbS⟩ := hM7.look hsz
        have hbb : b' = b := by rw [Bool.eq_iff_iff, hbS, U.out.2.2.2.2.2.2.1, U.out.2.2.2.2.2.2.2.2.1]
        subst hbb
        have p7 := ((PB.out.later B5.out).later b7).cell
        clear p5
        have B7 := Lib.hid (And.intro (bt (bt U.out.2.2.2.2.2.2.2.1 B5.out) b7) hM7); clear b7 hM7 hbS
        cases b' with
        | true =>
          have HC := Lib.hid (U.out.2.1 (Or.inr (U.out.2.2.2.2.2.2.2.2.1.1 rfl)))
          go_wp2_with fail
          go_ret
          refine ⟨?_, B7.out.1⟩
          rw [HC.out]; rfl
        | false =>
          have hno : vn ∉ (r.map (fun x => x.1.v)).take i := fun h => by have := U.out.2.2.2.2.2.2.2.2.1.2 h; cases this
          have HN := Lib.hid hno; clear hno
          go_wp2_with fail
          clear hlk p7
          refine (U.out.1 _).mono ?_
          rintro e w8 ⟨rfl, b8⟩
          have B8 := Lib.hid (And.intro (bt B7.out.1 b8) (B7.out.2.later b8)); clear b8
          go_wp2_with (at_mapUpdate; refine wpList_mapUpdate_met _ rfl _ _ _ rfl w.heap.size i S rfl B8.out.2 (by unfold maxLen; omega) vn rfl rfl hsz ?_; intro w9 hM9 hg9; have b9 : Below w.heap.size w w9 := B8.out.1.trans (grownBy_below hg9 B8.out.1.size (fun k hk => by obtain rfl := Option.some.inj hk; exact Nat.le_refl _)); have Z := Lib.hid (And.intro hM9 b9); clear hM9 hg9 b9)
          go_roundw
          case rel =>
            refine ⟨i + 1, by omega, by go_num, fun s hs => ?_, ?_, ⟨vn :: S, Z.out.1, fun s => ?_⟩, Z.out.2⟩
            · rw [U.out.2.2.1] at hs
              rcases List.mem_append.1 hs with hs | hs
              · exact U.out.2.2.2.1 s hs
              · rw [List.mem_singleton.1 hs]; exact HB.out
            · rw [U.out.2.2.1]; exact nodup_snoc U.out.2.2.2.2.1 HN.out
            · rw [U.out.2.2.1, List.mem_cons, List.mem_append, List.mem_singleton, U.out.2.2.2.2.2.2.1]; exact Or.comm
          case measure => simp [intOf]; omega
    · obtain rfl : i = n := by omega
      have hall : namesB (r.map (fun x => x.1.v)) = true := namesB_iff.2 (by
        have e : (r.map (fun x => x.1.v)).take i = r.map (fun x => x.1.v) := List.take_of_length_le (by rw [List.length_map]; have := H.out.2.1; omega)
        rw [e] at hnm hnd
        exact ⟨hnm, hnd⟩)
      have U := Lib.hid (And.intro hall hb); clear hall hnm hnd hM hS hb
      go_wp2_with fail
      go_ret
      refine ⟨?_, U.out.2⟩
      rw [U.out.1]; rfl
set_option maxHeartbeats 1000000 in
theorem nmfO (x : Ox) (W : World) (hsl : isSl x.2) :
    Calls Try.prog 60 #[otV x] W fun e w' => e = .returned (.string x.1.f) ∧ Below W.heap.size W w' := by
  obtain ⟨⟨fl, t⟩, K⟩ := x
  obtain ⟨A8, n8, c8, rfl⟩ := hsl
  obtain ⟨k1, op, vk, vn, vs, va, vf, B8, m8, d8, hval, hnode⟩ := Tr.val_ev' t A8 n8 c8
  simp only [otV, hnode]
  have b0 := ba W (.cells #[.string fl, .int .i64 k1, .string op, .int .i64 vk, .int .i64 vn, .string vs, .string va, .string vf, .slice B8 m8 d8] 62)
  have H := Lib.hid b0; clear b0
  go_enter Try.func60, Try.ntmps60
  go_wp2_with fail
  go_ret
  exact ⟨rfl, H.out⟩
set_option maxRecDepth 20000 in
set_option maxHeartbeats 4000000 in
theorem namesO (v : Value) (r : List (Ox)) (w : World) (h : At w 9 otF v r) (hn : r.length ≤ 1000000) (hK : ∀ x ∈ r, isSl x.2) (hz : ∀ x ∈ r, (x.1.f).size ≤ maxLen) :
    Calls Try.prog 59 #[v, .func (.func 60) #[] #[]] w fun e w' => e = .returned (.bool (namesB (r.map (fun x => x.1.f)))) ∧ Below w.heap.size w w' := by
  obtain ⟨A, c, rfl, a1, a2, _⟩ := h.shape
  obtain ⟨n, hnl⟩ : ∃ n, n = r.length := ⟨_, rfl⟩
  rw [← hnl] at h hn ⊢
  have hM0 := MetS.made w
  have bM := ba w (.map #[] 0)
  have H := Lib.hid (And.intro h (And.intro hnl (And.intro hz hK))); clear h hnl hz a1 hK
  have K := Lib.hid (And.intro hM0 bM); clear hM0 bM
  have hmm := @run_makeMap Try.prog
  go_enter Try.func59, Try.ntmps59
  go_wp2_with fail
  clear hmm
  go_loopw [11] (fun iv wr => ∃ i : Nat, i ≤ n ∧ iv = .int .i64 (i : Int) ∧ (∀ s ∈ (r.map (fun x => x.1.f)).take i, nameB s = true) ∧ ((r.map (fun x => x.1.f)).take i).Nodup ∧ (∃ S, MetS wr w.heap.size i S ∧ ∀ s, s ∈ S ↔ s ∈ (r.map (fun x => x.1.f)).take i) ∧ Below w.heap.size w wr) (fun iv _ => n - (intOf iv).toNat)
  case atStart => exact ⟨0, Nat.zero_le _, rfl, fun s hs => by simp at hs, by simp, ⟨[], K.out.1, fun s => by simp⟩, K.out.2⟩
  case round =>
    rename World => wr
    clear K
    obtain ⟨i, hi, rfl, hnm, hnd, ⟨S, hM, hS⟩, hb⟩ := hrel
    by_cases hlt : i < n
    · have hir : i < r.length := by have := H.out.2.1; omega
      obtain ⟨a, rfl, hca⟩ := (H.out.1.later hb).cells rfl (by have := H.out.2.1; omega)
      obtain ⟨e0, e1, e2, e3, e4, e5, e6, e7, e8⟩ := hca.row9 i hir rfl
      have hsz := H.out.2.2.1 _ (List.getElem_mem hir)
      have hsl := H.out.2.2.2 _ (List.getElem_mem hir)
      have hil : i < (r.map (fun x => x.1.f)).length := by rw [List.length_map]; exact hir
      have hgi : (r.map (fun x => x.1.f))[i]'hil = (r[i]'hir).1.f := by rw [List.getElem_map]
      have hbad := namesB_bad (l := r.map (fun x => x.1.f)) hil
      have htk : (r.map (fun x => x.1.f)).take (i + 1) = (r.map (fun x => x.1.f)).take i ++ [(r.map (fun x => x.1.f))[i]'hil] := take_snoc hil
      rw [hgi] at hbad htk
      have hF := fun W => nmfO (r[i]'hir) W hsl
      generalize r[i]'hir = x at *
      obtain ⟨⟨fl, t⟩, K⟩ := x
      obtain ⟨A8, n8, c8, rfl⟩ := hsl
      obtain ⟨k1, op, vk, vn, vs, va, vf, B8, m8, d8, hval, hnode⟩ := Tr.val_ev' t A8 n8 c8
      simp only [otF, exF, hnode] at e0 e1 e2 e3 e4 e5 e6 e7 e8
      simp only [otV, hnode] at hF
      have b4 : Below wr.heap.size wr (wr.alloc (.cells #[.string fl, .int .i64 k1, .string op, .int .i64 vk, .int .i64 vn, .string vs, .string va, .string vf, .slice B8 m8 d8] 62)) := ba wr (.cells #[.string fl, .int .i64 k1, .string op, .int .i64 vk, .int .i64 vn, .string vs, .string va, .string vf, .slice B8 m8 d8] 62)
      obtain ⟨w4, hw4⟩ : ∃ w4, w4 = (wr.alloc (.cells #[.string fl, .int .i64 k1, .string op, .int .i64 vk, .int .i64 vn, .string vs, .string va, .string vf, .slice B8 m8 d8] 62)) := ⟨_, rfl⟩
      rw [← hw4] at b4
      
      have PB := Lib.hid (show Blk w4 wr.heap.size 62 #[.string fl, .int .i64 k1, .string op, .int .i64 vk, .int .i64 vn, .string vs, .string va, .string vf, .slice B8 m8 d8] by rw [hw4]; exact Blk.new _ _ _)
      obtain ⟨b, hlk, hbS⟩ := hM.look hsz
      have hbI : b = true ↔ fl ∈ (r.map (fun x => x.1.f)).take i := hbS.trans (hS fl)
      have U := Lib.hid (And.intro hF (And.intro hbad (And.intro htk (And.intro hnm (And.intro hnd (And.intro (hM.later b4) (And.intro hS (And.intro (bt hb b4) (And.intro hbI hgi))))))))); clear hF hbad htk hnm hnd hM hS hb hbI hgi hlk hbS hca b4
      go_wp2_with fail
      rw [← hw4]
      clear hw4
      refine (U.out.1 _).mono ?_
      rintro e w5 ⟨rfl, b5⟩
      have p5 := (PB.out.later b5).cell
      have B5 := Lib.hid b5; clear b5
      go_wp2_with fail
      try go_at_call 37
      refine (IsName_any fl w5 hsz).mono ?_
      rintro e w6 ⟨rfl, rfl⟩
      cases hnb : nameB fl with
      | false =>
        have HB := Lib.hid (U.out.2.1 (Or.inl hnb)); clear hnb
        go_wp2_with fail
        go_ret
        refine ⟨?_, bt U.out.2.2.2.2.2.2.2.1 B5.out⟩
        rw [HB.out]; rfl
      | true =>
        have HB := Lib.hid hnb; clear hnb
        go_wp2_with fail
        refine (U.out.1 _).mono ?_
        rintro e w7 ⟨rfl, b7⟩
        have hM7 := (U.out.2.2.2.2.2.1.later B5.out).later b7
        obtain ⟨b', hlk, hbS⟩ := hM7.look hsz
        have hbb : b' = b := by rw [Bool.eq_iff_iff, hbS, U.out.2.2.2.2.2.2.1, U.out.2.2.2.2.2.2.2.2.1]
        subst hbb
        have p7 := ((PB.out.later B5.out).later b7).cell
        clear p5
        have B7 := Lib.hid (And.intro (bt (bt U.out.2.2.2.2.2.2.2.1 B5.out) b7) hM7); clear b7 hM7 hbS
        cases b' with
        | true =>
          have HC := Lib.hid (U.out.2.1 (Or.inr (U.out.2.2.2.2.2.2.2.2.1.1 rfl)))
          go_wp2_with fail
          go_ret
          refine ⟨?_, B7.out.1⟩
          rw [HC.out]; rfl
        | false =>
          have hno : fl ∉ (r.map (fun x => x.1.f)).take i := fun h => by have := U.out.2.2.2.2.2.2.2.2.1.2 h; cases this
          have HN := Lib.hid hno; clear hno
          go_wp2_with fail
          clear hlk p7
          refine (U.out.1 _).mono ?_
          rintro e w8 ⟨rfl, b8⟩
          have B8 := Lib.hid (And.intro (bt B7.out.1 b8) (B7.out.2.later b8)); clear b8
          go_wp2_with (at_mapUpdate; refine wpList_mapUpdate_met _ rfl _ _ _ rfl w.heap.size i S rfl B8.out.2 (by unfold maxLen; omega) fl rfl rfl hsz ?_; intro w9 hM9 hg9; have b9 : Below w.heap.size w w9 := B8.out.1.trans (grownBy_below hg9 B8.out.1.size (fun k hk => by obtain rfl := Option.some.inj hk; exact Nat.le_refl _)); have Z := Lib.hid (And.intro hM9 b9); clear hM9 hg9 b9)
          go_roundw
          case rel =>
            refine ⟨i + 1, by omega, by go_num, fun s hs => ?_, ?_, ⟨fl :: S, Z.out.1, fun s => ?_⟩, Z.out.2⟩
            · rw [U.out.2.2.1] at hs
              rcases List.mem_append.1 hs with hs | hs
              · exact U.out.2.2.2.1 s hs
              · rw [List.mem_singleton.1 hs]; exact HB.out
            · rw [U.out.2.2.1]; exact nodup_snoc U.out.2.2.2.2.1 HN.out
            · rw [U.out.2.2.1, List.mem_cons, List.mem_append, List.mem_singleton, U.out.2.2.2.2.2.2.1]; exact Or.comm
          case measure => simp [intOf]; omega
    · obtain rfl : i = n := by omega
      have hall : namesB (r.map (fun x => x.1.f)) = true := namesB_iff.2 (by
        have e : (r.map (fun x => x.1.f)).take i = r.map (fun x => x.1.f) := List.take_of_length_le (by rw [List.length_map]; have := H.out.2.1; omega)
        rw [e] at hnm hnd
        exact ⟨hnm, hnd⟩)
      have U := Lib.hid (And.intro hall hb); clear hall hnm hnd hM hS hb
      go_wp2_with fail
      go_ret
      refine ⟨?_, U.out.2⟩
      rw [U.out.1]; rfl
end Go.Proofs.Ytkmboffbohndjaa
