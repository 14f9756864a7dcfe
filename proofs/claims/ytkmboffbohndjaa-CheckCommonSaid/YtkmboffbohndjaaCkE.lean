/- Layer 11: what is known of slots. -/
import Derived.Test.YtkmboffbohndjaaCkC
namespace Go.Proofs.Ytkmboffbohndjaa
open Go.ChangeShapes Go.WideShapes Go.ChangeAt Go.RowKit Go.Maps
set_option linter.unusedVariables false
set_option linter.unusedSimpArgs false

theorem slotOf_snoc (L : List SF) (nm : ByteArray) (G : List Fld) (v : ByteArray) : slotOf (L ++ [(nm, G)]) v = match slotOf L v with | some F => some F | none => if sameB nm v = true then some G else none := by
  unfold slotOf
  rw [List.find?_append]
  cases h : L.find? (fun s => sameB s.1 v) with
  | some y => rfl
  | none =>
    cases h2 : sameB nm v <;> simp [List.find?_cons, h2]
theorem fieldK_snoc (F : List Fld) (x : Fld) (f : ByteArray) : fieldK (F ++ [x]) f = match fieldK F f with | some k => some k | none => if sameB x.1 f = true then some x.2 else none := by
  unfold fieldK
  rw [List.find?_append]
  cases h : F.find? (fun s => sameB s.1 f) with
  | some y => rfl
  | none =>
    cases h2 : sameB x.1 f <;> simp [List.find?_cons, h2]
theorem sameB_self (a : ByteArray) : sameB a a = true := sameB_iff.2 rfl
theorem sameB_comm (a b : ByteArray) : sameB a b = sameB b a := by
  rw [Bool.eq_iff_iff, sameB_iff, sameB_iff]; exact ⟨Eq.symm, Eq.symm⟩
theorem spot_var (L : List SF) (nm : ByteArray) : (spotK L nm e0 false).isSome = (slotOf L nm).isSome := by
  unfold spotK
  cases slotOf L nm with
  | none => rfl
  | some F => simp [sameB_self]
theorem spot_dup {L : List SF} {nm : ByteArray} {G : List Fld} (h : (slotOf L nm).isSome = true) (s f : ByteArray) (k : Bool) : spotK (L ++ [(nm, G)]) s f k = spotK L s f k := by
  unfold spotK
  rw [slotOf_snoc]
  cases hs : slotOf L s with
  | some F => rfl
  | none =>
    cases h2 : sameB nm s with
    | false => rfl
    | true =>
      rw [sameB_iff.1 h2, hs] at h; cases h
theorem spot_new {L : List SF} {nm : ByteArray} (h : slotOf L nm = none) (s f : ByteArray) (k : Bool) : spotK (L ++ [(nm, [])]) s f k = if sameB s nm = true ∧ sameB f e0 = true ∧ k = false then some 1 else spotK L s f k := by
  unfold spotK
  rw [slotOf_snoc]
  cases h2 : sameB nm s with
  | false =>
    have : sameB s nm = false := by rw [sameB_comm]; exact h2
    cases slotOf L s <;> simp [this]
  | true =>
    have e := sameB_iff.1 h2
    subst e
    rw [h, sameB_self]
    cases k with
    | true => simp [fieldK]
    | false =>
      cases h3 : sameB f e0
      · simp [h3]
      · simp [h3]
theorem spot_field {L : List SF} {nm : ByteArray} {F : List Fld} (x : Fld) (h : slotOf L nm = none) (s f : ByteArray) (k : Bool) : spotK (L ++ [(nm, F ++ [x])]) s f k = if sameB s nm = true ∧ sameB f x.1 = true ∧ k = true ∧ fieldK F x.1 = none then some x.2 else spotK (L ++ [(nm, F)]) s f k := by
  unfold spotK
  rw [slotOf_snoc, slotOf_snoc]
  cases h2 : sameB nm s with
  | false =>
    have : sameB s nm = false := by rw [sameB_comm]; exact h2
    cases slotOf L s <;> simp [this]
  | true =>
    have e := sameB_iff.1 h2
    subst e
    rw [h, sameB_self]
    cases k with
    | false => simp
    | true =>
      simp only [if_true]
      rw [fieldK_snoc]
      cases h3 : sameB f x.1 with
      | false =>
        have : sameB x.1 f = false := by rw [sameB_comm]; exact h3
        rw [this]
        cases fieldK F f <;> simp
      | true =>
        have e := sameB_iff.1 h3
        subst e
        rw [sameB_self]
        cases fieldK F x.1 <;> simp
theorem spot_at {L : List SF} {nm : ByteArray} {F : List Fld} (h : slotOf L nm = none) (f : ByteArray) : spotK (L ++ [(nm, F)]) nm f true = fieldK F f := by
  unfold spotK
  rw [slotOf_snoc, h, sameB_self]
  rfl
theorem KnAt.eq {w : World} {b n : Nat} {c c' : ByteArray → ByteArray → Bool → Option Int} (h : KnAt w b n c) (e : ∀ s f k, c s f k = c' s f k) : KnAt w b n c' := by
  obtain rfl : c = c' := funext fun s => funext fun f => funext fun k => e s f k
  exact h
theorem KnAt.more {w : World} {b n : Nat} {c : ByteArray → ByteArray → Bool → Option Int} (h : KnAt w b n c) : KnAt w b (n + 1) c := by
  obtain ⟨D, h1, h2⟩ := h
  exact ⟨D, h1.mono (Nat.le_succ n), h2⟩
set_option maxRecDepth 20000 in
set_option maxHeartbeats 4000000 in
theorem known_any (v : Value) (ls : List SF) (w : World) (hv : SAt w v ls) (hn : ls.length ≤ 100) (hf : ∀ x ∈ ls, x.1.size ≤ maxLen ∧ x.2.length ≤ 100 ∧ ∀ f ∈ x.2, okFld f) :
    Calls Try.prog 21 #[v] w fun e w' => ∃ b N, (e = .returned (.map (some b)) ∧ KnAt w' b N (spotK ls)) ∧ Below w.heap.size w w' := by
  obtain ⟨A, c, rfl, a1, a2⟩ := hv.shape
  obtain ⟨n, hnl⟩ : ∃ n, n = ls.length := ⟨_, rfl⟩
  rw [← hnl] at hv ⊢
  rw [← hnl] at hn
  have hM0 := KnAt.made w
  have bM := ba w (.map #[] 0)
  have hmm := @run_makeMap Try.prog
  have H := Lib.hid (And.intro hv (And.intro hnl hf)); clear hnl hf hv a1
  have K := Lib.hid (And.intro hM0 bM); clear hM0 bM
  go_enter Try.func21, Try.ntmps21
  go_wp2_with fail
  clear hmm
  generalize hgm : w.heap.size = gm at *
  go_loopw [16] (fun iv wr => ∃ (i N : Nat), i ≤ n ∧ iv = .int .i64 (i : Int) ∧ N ≤ i * 101 ∧ KnAt wr gm N (spotK (ls.take i)) ∧ Below gm w wr) (fun iv _ => n - (intOf iv).toNat)
  case atStart => exact ⟨0, 0, Nat.zero_le _, rfl, by omega, K.out.1.eq (fun s f k => rfl), K.out.2⟩
  case round =>
    rename World => wr0
    clear K
    obtain ⟨i, N, hi, rfl, hN, hC, hb⟩ := hrel
    by_cases hlt : i < n
    · have hil : i < ls.length := by have := H.out.2.1; omega
      obtain ⟨a, rfl, hrow⟩ := stm_row H.out.1 H.out.2.1 (by omega)
      obtain ⟨sA, sc, hc1, _, hc2⟩ := hrow i hil
      clear hrow
      rw [hgm] at hc1 hc2
      have hok := H.out.2.2 _ (List.getElem_mem hil)
      have htk : ls.take (i + 1) = ls.take i ++ [ls[i]'hil] := take_snoc hil
      generalize ls[i]'hil = s at *
      obtain ⟨nm, F⟩ := s
      simp only at hc1 hc2 hok
      obtain ⟨m, hm⟩ : ∃ m, m = F.length := ⟨_, rfl⟩
      generalize ls.take i = P at *
      rw [← hm] at hc1
      obtain ⟨e0_, e1_⟩ := hc1 _ hb
      have bA := ba wr0 (.cells #[.string nm, .slice sA m sc] 29)
      have hgs : gm ≤ wr0.heap.size := hgm ▸ hb.size
      have hgl : gm < wr0.heap.size := hC.lt
      have hCA := hC.later bA
      have hbA : Below gm w (wr0.alloc (.cells #[.string nm, .slice sA m sc] 29)) := hb.trans (bA.mono hgs)
      have hBx := Blk.new wr0 29 #[.string nm, .slice sA m sc]
      have hlk := hCA.ok (k := false) hok.1 (f := e0) (by decide)
      have hsv := spot_var P nm
      cases hsl : slotOf P nm with
      | some F' =>
        rw [hsl] at hsv
        rw [hsv] at hlk
        generalize (spotK P nm e0 false).getD 0 = z at hlk
        simp only [Option.isSome_some] at hlk
        have hsi : (slotOf P nm).isSome = true := by rw [hsl]; rfl
        have V := Lib.hid (And.intro hCA (And.intro hbA (And.intro htk hsi))); clear hCA hbA htk hsi hC hb bA hBx hc1 hc2 hok hsv hsl hm
        go_wp2_with fail
        go_roundw
        case rel => exact ⟨i + 1, N, by omega, by go_num, by omega, V.out.1.eq (fun s f k => by rw [V.out.2.2.1, spot_dup V.out.2.2.2]), V.out.2.1⟩
        case measure => simp [intOf]; omega
      | none =>
        rw [hsl] at hsv
        rw [hsv] at hlk
        generalize (spotK P nm e0 false).getD 0 = z at hlk
        simp only [Option.isSome_none] at hlk
        have U := Lib.hid (And.intro hc2 (And.intro hok (And.intro hm (And.intro htk (And.intro hsl (And.intro hCA (And.intro hbA hBx))))))); clear hc2 hok hm htk hsl hCA hbA hBx hC hb bA hc1 hsv
        go_wp2_with (at_mapUpdate; go_loud (refine wpList_mapUpdate_kn _ rfl _ _ _ rfl gm N (spotK P) rfl U.out.2.2.2.2.2.1 (by unfold maxLen; omega) nm e0 false 1 rfl rfl (by decide) U.out.2.1.1 (by decide) ?_; intro w6 hC6 hg6; have b6 : Below gm w w6 := U.out.2.2.2.2.2.2.1.trans (grownBy_below hg6 (by rw [World.size_alloc]; omega) (fun x hx => by obtain rfl := Option.some.inj hx; omega)); have hB6 := U.out.2.2.2.2.2.2.2.grown hg6 (fun e => by have := Option.some.inj e; omega); have y0 := hB6.cell 0; have y1 := hB6.cell 1; have Z := Lib.hid (And.intro hC6 (And.intro b6 hB6)); clear hC6 hg6 b6 hB6))
        generalize hbx : wr0.heap.size = bx at *
        clear e0_ e1_ y0 y1 hlk
        go_loopw [36] (fun kv wr => ∃ (k M : Nat), k ≤ m ∧ kv = .int .i64 (k : Int) ∧ M ≤ i * 101 + 1 + k ∧ KnAt wr gm M (spotK (P ++ [(nm, F.take k)])) ∧ Below gm w wr ∧ Blk wr bx 29 #[.string nm, .slice sA m sc]) (fun kv _ => m - (intOf kv).toNat)
        case atStart => exact ⟨0, N + 1, Nat.zero_le _, rfl, by omega, Z.out.1.eq (fun s f k => (spot_new U.out.2.2.2.2.1 s f k).symm), Z.out.2.1, Z.out.2.2⟩
        case round =>
          rename World => wr1
          clear Z
          obtain ⟨k, M, hk, rfl, hM, hC, hb, hB⟩ := hrel
          by_cases hlt2 : k < m
          · have hkF : k < F.length := by have := U.out.2.2.1; omega
            have hm100 : m ≤ 100 := by have := U.out.2.1.2.1; have := U.out.2.2.1; omega
            obtain ⟨a2, rfl, hc3⟩ := U.out.1 (by omega)
            obtain ⟨z0, z1⟩ := hc3 k hkF _ hb
            have hfo := U.out.2.1.2.2 _ (List.getElem_mem hkF)
            have hup := fun s f q => spot_field (F := F.take k) (F[k]'hkF) U.out.2.2.2.2.1 s f q
            rw [← take_snoc hkF] at hup
            have hat := spot_at (F := F.take k) U.out.2.2.2.2.1 (F[k]'hkF).1
            generalize F[k]'hkF = f at *
            obtain ⟨fs, fk⟩ := f
            simp only at z0 z1 hup hat
            obtain ⟨f1, f2⟩ := hfo
            simp only at f1 f2
            obtain ⟨w8, hw8⟩ : ∃ w8, w8 = (wr1.alloc (.cells #[.string fs, .int .i64 fk] 26)).alloc (.cells #[.string nm, .string fs, .bool true] 87) := ⟨_, rfl⟩
            have bA : Below wr1.heap.size wr1 w8 := by rw [hw8]; exact bt (ba _ _) (ba _ _)
            have hgs : gm ≤ wr1.heap.size := hgm ▸ hb.size
            have hC8 := hC.later bA
            have hb8 : Below gm w w8 := hb.trans (bA.mono hgs)
            have hB8 := hB.later bA
            have hlk := hC8.ok (k := true) U.out.2.1.1 f1
            rw [hat] at hlk
            have y0 := hB.cell 0
            have y1 := (hB.later (ba wr1 (.cells #[.string fs, .int .i64 fk] 26))).cell 0
            cases hfk : fieldK (F.take k) fs with
            | some q =>
              rw [hfk] at hlk
              simp only [Option.getD_some, Option.isSome_some] at hlk
              rw [hw8] at hlk
              have V := Lib.hid (And.intro hC8 (And.intro hb8 (And.intro hB8 (And.intro hup (And.intro hfk hw8))))); clear hC8 hb8 hB8 hup hfk hw8 hC hb hB bA hc3 hat
              go_wp2_with fail
              go_roundw
              case rel => exact ⟨k + 1, M, by omega, by go_num, by omega, by rw [← V.out.2.2.2.2.2]; exact V.out.1.eq (fun s f q => by rw [V.out.2.2.2.1, if_neg (fun h => by rw [V.out.2.2.2.2.1] at h; cases h.2.2.2)]), by rw [← V.out.2.2.2.2.2]; exact V.out.2.1, by rw [← V.out.2.2.2.2.2]; exact V.out.2.2.1⟩
              case measure => simp [intOf]; omega
            | none =>
              rw [hfk] at hlk
              simp only [Option.getD_none, Option.isSome_none] at hlk
              have hbl : bx < wr1.heap.size := hB.lt
              rw [hw8] at hlk hC8 hb8 hB8
              have V := Lib.hid (And.intro hC8 (And.intro hb8 (And.intro hB8 (And.intro hup hfk)))); clear hC8 hb8 hB8 hup hfk hw8 hC hb hB bA hc3 hat
              go_wp2_with (at_mapUpdate; go_loud (refine wpList_mapUpdate_kn _ rfl _ _ _ rfl gm M (spotK (P ++ [(nm, F.take k)])) rfl V.out.1 (by unfold maxLen; omega) nm fs true fk rfl rfl f2 U.out.2.1.1 f1 ?_; intro w6 hC6 hg6; have b6 : Below gm w w6 := V.out.2.1.trans (grownBy_below hg6 (by simp only [World.size_alloc]; omega) (fun x hx => by obtain rfl := Option.some.inj hx; omega)); have hB6 := V.out.2.2.1.grown hg6 (fun e => by have := Option.some.inj e; omega); have Z := Lib.hid (And.intro hC6 (And.intro b6 hB6)); clear hC6 hg6 b6 hB6))
              go_roundw
              case rel =>
                refine ⟨k + 1, M + 1, by omega, by go_num, by omega, Z.out.1.eq (fun s f q => ?_), Z.out.2.1, Z.out.2.2⟩
                rw [V.out.2.2.2.1]
                by_cases hx : sameB s nm = true ∧ sameB f fs = true ∧ q = true
                · rw [if_pos hx, if_pos ⟨hx.1, hx.2.1, hx.2.2, V.out.2.2.2.2⟩]
                · rw [if_neg hx, if_neg (fun h => hx ⟨h.1, h.2.1, h.2.2.1⟩)]
              case measure => simp [intOf]; omega
          · have hkm : m = k := by omega
            subst hkm
            have hm100 : m ≤ 100 := by have := U.out.2.1.2.1; have := U.out.2.2.1; omega
            have V := Lib.hid (And.intro hC hb); clear hC hb hB
            go_wp2_with fail
            go_roundw
            case rel => exact ⟨i + 1, M, by omega, by go_num, by omega, V.out.1.eq (fun s f q => by rw [U.out.2.2.2.1, List.take_of_length_le (by have := U.out.2.2.1; omega)]), V.out.2⟩
            case measure => simp [intOf]; omega
    · have hin : n = i := by omega
      subst hin
      have htk : ls.take n = ls := List.take_of_length_le (by have := H.out.2.1; omega)
      rw [htk] at hC
      have V := Lib.hid (And.intro hC hb); clear hC hb htk
      go_wp2_with fail
      go_ret
      exact ⟨_, N, ⟨rfl, V.out.1⟩, by rw [hgm]; exact V.out.2⟩
end Go.Proofs.Ytkmboffbohndjaa
