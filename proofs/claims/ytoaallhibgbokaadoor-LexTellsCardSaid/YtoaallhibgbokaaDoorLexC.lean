/- Words of texts: contracts of number, quote. -/
import Derived.Test.YtoaallhibgbokaaDoorLexB
namespace Go.Proofs.YtoaallhibgbokaaDoor
open Go.ChangeShapes Go.WideShapes Go.ChangeAt Go.RowKit
set_option linter.unusedVariables false
set_option linter.unusedSimpArgs false

theorem isDg_nat {c : UInt8} (h : isDg c = true) : 48 ≤ c.toNat ∧ c.toNat ≤ 57 := by
  unfold isDg digB at h
  simpa using h
theorem parseM_dig (M : Nat) : ∀ (l : Bs) (a : Nat), (∀ c ∈ l, isDg c = true) → (∃ u, Lib.parseUintM M a l = .ok u) ∨ Lib.parseUintM M a l = .range
  | [], a, _ => Or.inl ⟨a, rfl⟩
  | c :: r, a, h => by
    unfold Lib.parseUintM
    rw [if_pos (isDg_nat (h c (List.mem_cons_self ..)))]
    split
    · exact Or.inr rfl
    · split
      · exact Or.inr rfl
      · exact parseM_dig M r _ (fun d hd => h d (List.mem_cons_of_mem _ hd))
theorem parse_dig {l : Bs} (h0 : l ≠ []) (h : ∀ c ∈ l, isDg c = true) : (∃ v, Lib.parseIntB 64 l = .ok v) ∨ Lib.parseIntB 64 l = .range := by
  obtain ⟨c, r, rfl⟩ := List.exists_cons_of_ne_nil h0
  obtain ⟨h1, h2⟩ := isDg_nat (h c (List.mem_cons_self ..))
  unfold Lib.parseIntB
  simp only
  rw [if_neg (by omega : ¬ (c.toNat = 43 ∨ c.toNat = 45))]
  unfold Lib.parseUintB
  rw [if_neg h0]
  rcases parseM_dig (2 ^ 64 - 1) (c :: r) 0 h with ⟨u, hu⟩ | hu
  · rw [hu]
    simp only
    split
    · exact Or.inr rfl
    · split
      · exact Or.inr rfl
      · exact Or.inl ⟨_, rfl⟩
  · rw [hu]
    exact Or.inr rfl
/-- The number that digits are. -/
theorem Parse_ok (t : Bs) (hl : t.length ≤ maxLen - 1) (v : Int) (h : Lib.parseIntB 64 t = .ok v) (w : World) :
    Calls Tryd.prog 41 #[.string (mk t), .int .i64 10, .int .i64 64] w fun e w' => e = .returned (.tuple #[.int .i64 v, .nilIface]) ∧ Below w.heap.size w w' :=
  (Tryd.strconv_ParseInt_10_at64_ok (mk t) (by rw [mk_size]; unfold maxLen at hl; omega) v (by rw [mk_data]; exact h) w).mono fun e w' ⟨he, hw⟩ => ⟨he, by
    rcases hw with rfl | ⟨t, rfl⟩
    · exact Below.refl _ _
    · exact Lib.bytesWorld_below _ _ _⟩
theorem Parse_range (t : Bs) (hl : t.length ≤ 281474976710656) (h : Lib.parseIntB 64 t = .range) (w : World) (hT : Tab w) :
    Calls Tryd.prog 41 #[.string (mk t), .int .i64 10, .int .i64 64] w fun e w' => ∃ (x : Int) (a : TypeId) (N : Nat), e = .returned (.tuple #[.int .i64 x, .iface a (.pointer (some ⟨N, 0, none⟩))]) ∧ Below w.heap.size w w' := by
  obtain ⟨ev, h1, h2⟩ := hT.err
  exact (Tryd.strconv_ParseInt_10_at64_range (mk t) (by rw [mk_size]; exact hl) (by rw [mk_data]; exact h) ev w h1 h2).mono fun e w' ⟨N, he, _, _, hb⟩ => ⟨_, _, N, he, hb⟩
theorem below_put4 {B : Nat} {a w : World} (h : Below B a w) {g : Nat} (hp : B ≤ g) (x y z u : Value) : Below B a ((((w.setCell ⟨g, 0, none⟩ x).setCell ⟨g, 1, none⟩ y).setCell ⟨g, 2, none⟩ z).setCell ⟨g, 3, none⟩ u) :=
  (below_put3 h hp x y z).setCell (p := ⟨g, 3, none⟩) hp _
set_option maxHeartbeats 1000000 in
theorem number_any (s : ByteArray) (w : World) (hs : s.size ≤ 4000000000) (h0 : 0 < (s.data.toList.takeWhile isDg).length) (hT : Tab w) :
    Calls Tryd.prog 26 #[.string s] w (TkP (numberT s.data.toList) w) := by
  have hle := tw_le isDg s
  have hx := ext_to s isDg
  have cR := fun w => run_dg s w (by unfold maxLen; omega)
  have hsz := mk_size (s.data.toList.takeWhile isDg)
  have hall := takeWhile_all (p := isDg) s.data.toList
  obtain ⟨c, r, hcr⟩ : ∃ c r, s.data.toList = c :: r := by
    cases hd : s.data.toList with
    | nil => rw [hd] at h0; simp at h0
    | cons c r => exact ⟨c, r, rfl⟩
  have hne : s.data.toList.takeWhile isDg ≠ [] := by intro e; rw [e] at h0; simp at h0
  have hpd := parse_dig hne hall
  have hs0 : 0 < s.size := by omega
  have hc0 : s[0]'hs0 = c := by
    have : s.data.toList[0]? = some c := by rw [hcr]; rfl
    rw [List.getElem?_eq_getElem (by simpa using hs0)] at this
    exact Option.some.inj this
  unfold numberT
  rw [show (s.data.toList.head? == some 48) = (c == 48) by rw [hcr]; rfl]
  obtain ⟨t, ht⟩ : ∃ t, s.data.toList.takeWhile isDg = t := ⟨_, rfl⟩
  rw [ht] at hle hx cR hsz h0 hpd ⊢
  clear ht hall hne hcr
  have cP := fun v h w => Parse_ok t (by unfold maxLen; omega) v h w
  have cQ := fun h w hT => Parse_range t (by omega) h w hT
  obtain ⟨b, hb⟩ : ∃ b, mk t = b := ⟨_, rfl⟩
  obtain ⟨n, hn⟩ : ∃ n, t.length = n := ⟨_, rfl⟩
  rw [hb] at hx hsz
  rw [hb] at cP cQ
  rw [hn] at hle hx cR hsz h0
  have hc48 : (c = 48) ↔ ((c.toNat : Int) = 48) := by
    rw [show (48 : UInt8) = UInt8.ofNat 48 from rfl, byte_eq _ _ (by decide)]; omega
  have fin : ∀ (k : Int) (v : Int) (bb : Bool) (W : World), numberR t bb = some (2, t, v, n) → Below w.heap.size w W → TkP (numberR t bb) w (.returned (.tuple #[tokV 2 b v 0, .int .i64 (n : Int)])) W :=
    fun k v bb W h hW => ⟨2, t, v, n, ⟨by rw [hb], Or.inr ⟨h, h0⟩⟩, hW⟩
  have fin0 : ∀ (bb : Bool) (W : World), numberR t bb = none → Below w.heap.size w W → TkP (numberR t bb) w (.returned (.tuple #[tokV 0 ⟨#[]⟩ 0 0, .int .i64 0])) W :=
    fun bb W h hW => ⟨0, [], 0, 0, ⟨rfl, Or.inl ⟨h, rfl⟩⟩, hW⟩
  have hcI := c.toNat_lt
  rcases hpd with ⟨v, hv⟩ | hv
  · have hU : ∀ bb, numberR t bb = if bb && decide (1 < n) then none else some (2, t, v, n) := fun bb => by unfold numberR; rw [hv, hn]
    by_cases h1 : c = 48
    · have h1' := hc48.1 h1
      have hbb : (c == 48) = true := by simpa using h1
      rw [hbb]
      by_cases h2 : 1 < n
      · have hN : numberR t true = none := by rw [hU, decide_eq_true h2]; rfl
        have H := Lib.hid (And.intro cR (And.intro (cP v hv) (And.intro (fun W => fin0 true W hN) (fun c => Blk.new w 40 c)))); clear cR cP cQ hb hU hN hn fin fin0 hv hT hbb h1 hc48
        go_enter Tryd.func26, Tryd.ntmps26
        go_wp2_with (first
          | (go_at_call 38; ((with_reducible refine (H.out.1 _).mono ?_); rintro e w1 ⟨rfl, rfl⟩))
          | (go_at_call 41; ((with_reducible refine (H.out.2.1 _).mono ?_); rintro e w1 ⟨rfl, b1⟩; have B1 := (H.out.2.2.2 (tokC 0 ⟨#[]⟩ 0 0)).later b1; have hlt1 := B1.lt; have hf1 := B1.frozen; obtain ⟨y0, y1, y2, y3⟩ := Blk.four B1)))
        exact bodyPost_ret (v := .tuple #[tokV 0 ⟨#[]⟩ 0 0, .int .i64 0]) (by simp only [results, Tryd.results26]; simp [go_sem, Act.put, y0, y1, y2, y3]) rfl (H.out.2.2.1 _ (below_put4 (bt (ba w _) b1) (Nat.le_refl _) _ _ _ _))
      · have hN : numberR t true = some (2, t, v, n) := by rw [hU, decide_eq_false h2]; rfl
        have H := Lib.hid (And.intro cR (And.intro (cP v hv) (And.intro (fun W => fin 2 v true W hN) (fun c => Blk.new w 40 c)))); clear cR cP cQ hb hU hN hn fin fin0 hv hT hbb h1 hc48
        go_enter Tryd.func26, Tryd.ntmps26
        go_wp2_with (first
          | (go_at_call 38; ((with_reducible refine (H.out.1 _).mono ?_); rintro e w1 ⟨rfl, rfl⟩))
          | (go_at_call 41; ((with_reducible refine (H.out.2.1 _).mono ?_); rintro e w1 ⟨rfl, b1⟩; have B1 := (H.out.2.2.2 (tokC 0 ⟨#[]⟩ 0 0)).later b1; have hlt1 := B1.lt; have hf1 := B1.frozen; obtain ⟨y0, y1, y2, y3⟩ := Blk.four B1)))
        exact bodyPost_ret (v := .tuple #[tokV 2 b v 0, .int .i64 (n : Int)]) (by simp only [results, Tryd.results26]; simp [go_sem, Act.put, y0, y1, y2, y3]) rfl (H.out.2.2.1 _ (below_put4 (bt (ba w _) b1) (Nat.le_refl _) _ _ _ _))
    · have h1' : ¬ (c.toNat : Int) = 48 := fun e => h1 (hc48.2 e)
      have h1'' : ¬ c.toNat = 48 := by omega
      have h1d : ((c.toNat : Int) == 48) = false := beq_eq_false_iff_ne.2 h1'
      have hbb : (c == 48) = false := by simpa using h1
      rw [hbb]
      have hN : numberR t false = some (2, t, v, n) := by rw [hU]; rfl
      have H := Lib.hid (And.intro cR (And.intro (cP v hv) (And.intro (fun W => fin 2 v false W hN) (fun c => Blk.new w 40 c)))); clear cR cP cQ hb hU hN hn fin fin0 hv hT hbb h1 hc48
      go_enter Tryd.func26, Tryd.ntmps26
      go_wp2_with (first
        | (go_at_call 38; ((with_reducible refine (H.out.1 _).mono ?_); rintro e w1 ⟨rfl, rfl⟩))
        | (go_at_call 41; ((with_reducible refine (H.out.2.1 _).mono ?_); rintro e w1 ⟨rfl, b1⟩; have B1 := (H.out.2.2.2 (tokC 0 ⟨#[]⟩ 0 0)).later b1; have hlt1 := B1.lt; have hf1 := B1.frozen; obtain ⟨y0, y1, y2, y3⟩ := Blk.four B1)))
      exact bodyPost_ret (v := .tuple #[tokV 2 b v 0, .int .i64 (n : Int)]) (by simp only [results, Tryd.results26]; simp [go_sem, Act.put, y0, y1, y2, y3]) rfl (H.out.2.2.1 _ (below_put4 (bt (ba w _) b1) (Nat.le_refl _) _ _ _ _))
  · have hU : ∀ bb, numberR t bb = none := fun bb => by unfold numberR; rw [hv]
    have hN : 1 = 1 := rfl
    have hT' := Lib.hid hT
    have H := Lib.hid (And.intro cR (And.intro (cQ hv) (And.intro (fun W => fin0 (c == 48) W (hU _)) (fun c => Blk.new w 40 c)))); clear cR cP cQ hb hU hN hn fin fin0 hv hT hc48
    go_enter Tryd.func26, Tryd.ntmps26
    go_wp2_with (first
      | (go_at_call 38; ((with_reducible refine (H.out.1 _).mono ?_); rintro e w1 ⟨rfl, rfl⟩))
      | (go_at_call 41; ((with_reducible refine (H.out.2.1 _ (hT'.out.later (ba w _))).mono ?_); rintro e w1 ⟨x9, a9, N9, rfl, b1⟩; have B1 := (H.out.2.2.2 (tokC 0 ⟨#[]⟩ 0 0)).later b1; have hlt1 := B1.lt; have hf1 := B1.frozen; obtain ⟨y0, y1, y2, y3⟩ := Blk.four B1)))
    exact bodyPost_ret (v := .tuple #[tokV 0 ⟨#[]⟩ 0 0, .int .i64 0]) (by simp only [results, Tryd.results26]; simp [go_sem, Act.put, y0, y1, y2, y3]) rfl (H.out.2.2.1 _ (below_put4 (bt (ba w _) b1) (Nat.le_refl _) _ _ _ _))
theorem index_one_at (c : UInt8) : ∀ (p r : Bs), c ∉ p → Lib.index (p ++ c :: r) [c] = p.length
  | [], r, _ => by simp [Lib.index, List.isPrefixOf]
  | b :: p, r, h => by
    have hb : ¬ c = b := fun e => h (by rw [e]; simp)
    have ih := index_one_at c p r (fun hc => h (by simp [hc]))
    rw [List.cons_append, Lib.index, ih]
    have h1 : [c].isPrefixOf (b :: (p ++ c :: r)) = false := by simp [List.isPrefixOf, hb]
    rw [h1, if_neg (by simp), if_neg (by simp)]
    simp
theorem index_no (c : UInt8) : ∀ (p : Bs), c ∉ p → Lib.index p [c] = -1
  | [], _ => rfl
  | b :: p, h => by
    have hb : ¬ c = b := fun e => h (by rw [e]; simp)
    have ih := index_no c p (fun hc => h (by simp [hc]))
    rw [Lib.index, ih]
    have h1 : [c].isPrefixOf (b :: p) = false := by simp [List.isPrefixOf, hb]
    rw [h1]
    simp
theorem cut_quote (r : Bs) : ((r.takeWhile (fun c => c != 39)).length < r.length ∧ ∃ q, Lib.cut r [39] = (r.takeWhile (fun c => c != 39), q, true)) ∨ ((r.takeWhile (fun c => c != 39)).length = r.length ∧ Lib.cut r [39] = (r, [], false)) := by
  have h1 := takeWhile_len (p := fun c => c != (39 : UInt8)) r
  have hno : (39 : UInt8) ∉ r.takeWhile (fun c => c != 39) := fun h => by
    have := takeWhile_all (p := fun c => c != (39 : UInt8)) r 39 h
    simp at this
  rcases Nat.lt_or_ge (r.takeWhile (fun c => c != 39)).length r.length with h2 | h2
  · obtain ⟨q, hq⟩ := quote_split r h2
    refine Or.inl ⟨h2, q, ?_⟩
    generalize r.takeWhile (fun c => c != 39) = p at *
    subst hq
    unfold Lib.cut
    rw [index_one_at 39 p q hno, if_pos (by omega)]
    simp
  · refine Or.inr ⟨by omega, ?_⟩
    have h3 := takeWhile_take (p := fun c => c != (39 : UInt8)) r
    rw [List.take_of_length_le h2] at h3
    unfold Lib.cut
    rw [index_no 39 r (by rw [h3]; exact hno)]
    simp
theorem Cut_quote (r : Bs) (hl : r.length ≤ 4000000000) (w : World) (hT : Tab w) :
    Calls Tryd.prog 42 #[.string (mk r), .string ⟨#[39]⟩] w fun e w' => e = .returned (.tuple #[.string (mk (Lib.cut r [39]).1), .string (mk (Lib.cut r [39]).2.1), .bool (Lib.cut r [39]).2.2]) ∧ Below w.heap.size w w' := by
  obtain ⟨m, hm⟩ := hT.max
  refine (Tryd.strings_Cut (mk r) ⟨#[39]⟩ m w (by rw [mk_size]; omega) hm).mono fun e w' ⟨h1, n, h2⟩ => ⟨?_, by rw [h2]; exact below_drewN (Below.refl _ _) n⟩
  rw [mk_data] at h1
  exact h1
set_option maxHeartbeats 1000000 in
theorem quote_any (s : ByteArray) (w : World) (r : Bs) (hs : s.size ≤ 4000000000) (hr : s.data.toList = 39 :: r) (hT : Tab w) :
    Calls Tryd.prog 27 #[.string s] w (TkP (quoteT s.data.toList) w) := by
  have hsz : s.size = r.length + 1 := by
    have : s.data.toList.length = s.size := by simp
    rw [hr] at this; simpa using this.symm
  have hx : s.extract 1 s.size = mk r := by rw [ext_from, hr]; rfl
  have h1 : 1 ≤ s.size := by omega
  have cC := fun w hT => Cut_quote r (by omega) w hT
  rw [hr]
  have hQ : quoteT (39 :: r) = quoteR (r.takeWhile (fun c => c != 39)) r.length := rfl
  rw [hQ]
  have hm : s.size ≤ 9223372036854775807 := by omega
  rw [hsz] at hx h1 hm
  obtain ⟨b, hb⟩ : ∃ b, mk r = b := ⟨_, rfl⟩
  rw [hb] at hx cC
  rcases cut_quote r with ⟨hl, q, hq⟩ | ⟨hl, hq⟩
  · rw [hq] at cC
    obtain ⟨t, ht⟩ : ∃ t, r.takeWhile (fun c => c != 39) = t := ⟨_, rfl⟩
    rw [ht] at hl cC ⊢
    simp only at cC
    have htz := mk_size t
    obtain ⟨tb, htb⟩ : ∃ tb, mk t = tb := ⟨_, rfl⟩
    obtain ⟨n, hn⟩ : ∃ n, t.length = n := ⟨_, rfl⟩
    rw [htb] at htz cC
    rw [hn] at htz hl
    have hnm : n ≤ 4000000000 := by omega
    have hU : quoteR t r.length = if decide (n < r.length) && decide (n ≤ 64) then some (3, t, 0, n + 2) else none := by unfold quoteR; rw [hn]
    rw [decide_eq_true hl] at hU
    by_cases h64 : n ≤ 64
    · rw [decide_eq_true h64, if_pos (show (true && true) = true from rfl)] at hU
      have h64' : ¬ 64 < n := by omega
      have fin : ∀ (W : World), Below w.heap.size w W → TkP (quoteR t r.length) w (.returned (.tuple #[tokV 3 tb 0 0, .int .i64 ((n : Int) + 2)])) W :=
        fun W hW => ⟨3, t, 0, n + 2, ⟨by rw [htb]; rfl, Or.inr ⟨hU, by omega⟩⟩, hW⟩
      have H := Lib.hid (And.intro cC (And.intro fin (And.intro (fun c => Blk.new w 40 c) hT))); clear cC hb hU hn htb fin hT hq ht hr hQ
      go_enter Tryd.func27, Tryd.ntmps27
      go_wp2_with ((go_at_call 42; ((with_reducible refine (H.out.1 _ (H.out.2.2.2.later (ba w _))).mono ?_); rintro e w1 ⟨rfl, b1⟩; have B1 := (H.out.2.2.1 (tokC 0 ⟨#[]⟩ 0 0)).later b1; have hlt1 := B1.lt; have hf1 := B1.frozen; obtain ⟨y0, y1, y2, y3⟩ := Blk.four B1)))
      exact bodyPost_ret (v := .tuple #[tokV 3 tb 0 0, .int .i64 ((n : Int) + 2)]) (by simp only [results, Tryd.results27]; simp [go_sem, Act.put, y0, y1, y2, y3]) rfl (H.out.2.1 _ (below_put4 (bt (ba w _) b1) (Nat.le_refl _) _ _ _ _))
    · rw [decide_eq_false h64] at hU
      have h64' : 64 < n := by omega
      have fin : ∀ (W : World), Below w.heap.size w W → TkP (quoteR t r.length) w (.returned (.tuple #[tokV 0 ⟨#[]⟩ 0 0, .int .i64 0])) W :=
        fun W hW => ⟨0, [], 0, 0, ⟨rfl, Or.inl ⟨hU, rfl⟩⟩, hW⟩
      have H := Lib.hid (And.intro cC (And.intro fin (And.intro (fun c => Blk.new w 40 c) hT))); clear cC hb hU hn htb fin hT hq ht hr hQ
      go_enter Tryd.func27, Tryd.ntmps27
      go_wp2_with ((go_at_call 42; ((with_reducible refine (H.out.1 _ (H.out.2.2.2.later (ba w _))).mono ?_); rintro e w1 ⟨rfl, b1⟩; have B1 := (H.out.2.2.1 (tokC 0 ⟨#[]⟩ 0 0)).later b1; have hlt1 := B1.lt; have hf1 := B1.frozen; obtain ⟨y0, y1, y2, y3⟩ := Blk.four B1)))
      exact bodyPost_ret (v := .tuple #[tokV 0 ⟨#[]⟩ 0 0, .int .i64 0]) (by simp only [results, Tryd.results27]; simp [go_sem, Act.put, y0, y1, y2, y3]) rfl (H.out.2.1 _ (below_put4 (bt (ba w _) b1) (Nat.le_refl _) _ _ _ _))
  · rw [hq] at cC
    simp only at cC
    have hU : quoteR (r.takeWhile (fun c => c != 39)) r.length = none := by unfold quoteR; rw [decide_eq_false (by omega : ¬ _ < r.length)]; rfl
    have fin : ∀ (W : World), Below w.heap.size w W → TkP (quoteR (r.takeWhile (fun c => c != 39)) r.length) w (.returned (.tuple #[tokV 0 ⟨#[]⟩ 0 0, .int .i64 0])) W :=
      fun W hW => ⟨0, [], 0, 0, ⟨rfl, Or.inl ⟨hU, rfl⟩⟩, hW⟩
    have H := Lib.hid (And.intro cC (And.intro fin (And.intro (fun c => Blk.new w 40 c) hT))); clear cC hb hU fin hT hq hr hQ hl
    go_enter Tryd.func27, Tryd.ntmps27
    go_wp2_with ((go_at_call 42; ((with_reducible refine (H.out.1 _ (H.out.2.2.2.later (ba w _))).mono ?_); rintro e w1 ⟨rfl, b1⟩; have B1 := (H.out.2.2.1 (tokC 0 ⟨#[]⟩ 0 0)).later b1; have hlt1 := B1.lt; have hf1 := B1.frozen; obtain ⟨y0, y1, y2, y3⟩ := Blk.four B1)))
    exact bodyPost_ret (v := .tuple #[tokV 0 ⟨#[]⟩ 0 0, .int .i64 0]) (by simp only [results, Tryd.results27]; simp [go_sem, Act.put, y0, y1, y2, y3]) rfl (H.out.2.1 _ (below_put4 (bt (ba w _) b1) (Nat.le_refl _) _ _ _ _))
end Go.Proofs.YtoaallhibgbokaaDoor
