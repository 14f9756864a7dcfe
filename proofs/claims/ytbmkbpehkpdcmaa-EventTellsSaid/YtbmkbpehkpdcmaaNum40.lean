/- Plain mathematics for stage 4: events, what is put of them, what is got. -/
import Derived.Test.YtbmkbpehkpdcmaaNum24
namespace Go.Proofs.Ytbmkbpehkpdcmaa.Ev
open Go.Proofs.Ytbmkbpehkpdcmaa
set_option linter.unusedVariables false

abbrev V3 := Int × Int × ByteArray
def rightV (v : V3) : Bool := Val.right v.1 v.2.1 v.2.2
def putV (v : V3) : List UInt8 := Val.put v.1 v.2.1 v.2.2
structure OkV (v : V3) : Prop where
  right : Val.right v.1 v.2.1 v.2.2 = true
  lo : -9223372036854775808 ≤ v.2.1
  hi : v.2.1 ≤ 9223372036854775807
  size : v.2.2.size ≤ 64
def plain (t : Int) (l : List V3) : Bool := decide (0 ≤ t) && decide (t ≤ 2305843009213693952) && decide (l.length ≤ 6) && l.all rightV
def body (l : List V3) : List UInt8 := l.flatMap putV
/-- The bytes of a plain event; nothing of another one. -/
def put (t : Int) (l : List V3) : List UInt8 := if plain t l = true then Num.put t.toNat ++ (l.length.toUInt8 :: body l) else []
theorem put_yes {t : Int} {l : List V3} (h : plain t l = true) : put t l = Num.put t.toNat ++ (l.length.toUInt8 :: body l) := by unfold put; rw [if_pos h]
theorem put_no {t : Int} {l : List V3} (h : plain t l = false) : put t l = [] := by unfold put; rw [if_neg (by simp [h])]
theorem plain_parts {t : Int} {l : List V3} (h : plain t l = true) : 0 ≤ t ∧ t ≤ 2305843009213693952 ∧ l.length ≤ 6 ∧ ∀ v ∈ l, rightV v = true := by
  unfold plain at h
  simp only [Bool.and_eq_true, decide_eq_true_eq, List.all_eq_true] at h
  exact ⟨h.1.1.1, h.1.1.2, h.1.2, h.2⟩
theorem plain_mk {t : Int} {l : List V3} (h0 : 0 ≤ t) (h1 : t ≤ 2305843009213693952) (h2 : l.length ≤ 6) (h3 : ∀ v ∈ l, rightV v = true) : plain t l = true := by
  unfold plain
  simp only [Bool.and_eq_true, decide_eq_true_eq, List.all_eq_true]
  exact ⟨⟨⟨h0, h1⟩, h2⟩, h3⟩
theorem body_snoc (l : List V3) (v : V3) : body (l ++ [v]) = body l ++ putV v := by simp [body]
theorem body_cons (l : List V3) (v : V3) : body (v :: l) = putV v ++ body l := by simp [body]

/-- So many values that stand in S from a on, and where what is behind them begins. -/
def vals (S : ByteArray) (a : Nat) : Nat → Option (List V3 × Nat)
  | 0 => some ([], a)
  | i + 1 => match vals S a i with
    | none => none
    | some (l, b) => match Val.getAt S (b : Int) with
      | none => none
      | some (v, c) => some (l ++ [v], c)
theorem vals_succ {S : ByteArray} {a i : Nat} {l : List V3} {b : Nat} (h : vals S a i = some (l, b)) {v : V3} {c : Nat} (hv : Val.getAt S (b : Int) = some (v, c)) : vals S a (i + 1) = some (l ++ [v], c) := by
  simp only [vals, h, hv]
theorem vals_stop {S : ByteArray} {a i : Nat} {l : List V3} {b : Nat} (h : vals S a i = some (l, b)) (hv : Val.getAt S (b : Int) = none) : vals S a (i + 1) = none := by
  simp only [vals, h, hv]
theorem vals_none {S : ByteArray} {a i : Nat} (h : vals S a i = none) : ∀ d, vals S a (i + d) = none
  | 0 => h
  | d + 1 => by rw [← Nat.add_assoc]; simp only [vals, vals_none h d]
theorem vals_spec {S : ByteArray} {a : Nat} (ha : a ≤ S.size) : ∀ {i : Nat} {l : List V3} {b : Nat}, vals S a i = some (l, b) →
    l.length = i ∧ a ≤ b ∧ b ≤ S.size ∧ (∀ v ∈ l, OkV v) ∧ (S.data.toList.take b).drop a = body l
  | 0, l, b, h => by
    obtain ⟨rfl, rfl⟩ := Prod.mk.inj (Option.some.inj h)
    refine ⟨rfl, Nat.le_refl _, ha, by simp, ?_⟩
    rw [List.drop_take]; simp [body]
  | i + 1, l, b, h => by
    rcases hp : vals S a i with _ | ⟨m, c⟩
    · simp only [vals, hp] at h; exact absurd h (by simp)
    · rcases hv : Val.getAt S (c : Int) with _ | ⟨v, d⟩
      · simp only [vals, hp, hv] at h; exact absurd h (by simp)
      · simp only [vals, hp, hv] at h
        obtain ⟨rfl, rfl⟩ := Prod.mk.inj (Option.some.inj h)
        obtain ⟨e1, e2, e3, e4, e5⟩ := vals_spec ha hp
        obtain ⟨k, n, t⟩ := v
        obtain ⟨g0, g1, g2, g3, g4, g5, g6, g7⟩ := getAt_spec hv
        refine ⟨by simp [e1], by omega, g2, ?_, ?_⟩
        · intro x hx
          rcases List.mem_append.1 hx with hx | hx
          · exact e4 x hx
          · have : x = (k, n, t) := by simpa using hx
            subst this
            exact ⟨g3, g5, g6, g4⟩
        · rw [body_snoc, ← e5]
          show _ = _ ++ Val.put k n t
          rw [g7, Int.toNat_natCast, List.drop_take, List.drop_take, List.drop_take]
          have : d - a = (c - a) + (d - c) := by omega
          rw [this, List.take_add, List.drop_drop, show a + (c - a) = c by omega]
theorem vals_put {S : ByteArray} {l : List V3} (hl : ∀ v ∈ l, OkV v) : ∀ (i : Nat), i ≤ l.length → ∀ {p q : List UInt8}, S.data.toList = p ++ (body l ++ q) →
    vals S p.length i = some (l.take i, p.length + (body (l.take i)).length)
  | 0, _, p, q, hS => by simp [vals, body]
  | i + 1, hi, p, q, hS => by
    have ih := vals_put hl i (by omega) hS
    have hv := hl _ (List.getElem_mem (show i < l.length by omega))
    have hsp : l = l.take i ++ (l[i] :: l.drop (i + 1)) := by rw [List.getElem_cons_drop, List.take_append_drop]
    have hS2 : S.data.toList = (p ++ body (l.take i)) ++ (putV l[i] ++ (body (l.drop (i + 1)) ++ q)) := by
      have hb : body l = body (l.take i) ++ (putV l[i] ++ body (l.drop (i + 1))) := (congrArg body hsp).trans (by unfold body; rw [List.flatMap_append, List.flatMap_cons])
      rw [hS, hb]
      simp
    have hg := getAt_put hv.right hv.lo hv.hi S (p ++ body (l.take i)) _ hS2 ((p.length + (body (l.take i)).length : Nat) : Int) (by simp)
    rw [vals_succ ih hg, List.take_succ_eq_append_getElem (by omega), body_snoc]
    simp only [List.length_append]
    have hpv : (putV l[i]).length = (Val.put l[i].1 l[i].2.1 l[i].2.2).length := rfl
    rw [hpv]
    congr 2
    omega

/-- What stands at S's beginning: a time, values, and where what is behind begins. -/
def pre (S : ByteArray) : Option (Int × List V3 × Nat) :=
  match Num.getAt S.data.toList 0 with
  | none => none
  | some (u, k) => if u ≤ 2305843009213693952 ∧ k < S.size ∧ (S.data.toList.getD k 255).toNat ≤ 6 then (vals S (k + 1) (S.data.toList.getD k 255).toNat).map fun p => ((u : Int), p.1, p.2) else none
def get (S : ByteArray) : Option (Int × List V3) :=
  match pre S with
  | none => none
  | some (t, l, b) => if b = S.size then some (t, l) else none
theorem pre_none {S : ByteArray} (h : Num.getAt S.data.toList 0 = none) : pre S = none := by unfold pre; rw [h]
theorem pre_no {S : ByteArray} {u k : Nat} (h : Num.getAt S.data.toList 0 = some (u, k)) (hn : ¬ (u ≤ 2305843009213693952 ∧ k < S.size ∧ (S.data.toList.getD k 255).toNat ≤ 6)) : pre S = none := by unfold pre; rw [h]; exact if_neg hn
theorem pre_in {S : ByteArray} {u k : Nat} (h : Num.getAt S.data.toList 0 = some (u, k)) (hu : u ≤ 2305843009213693952) (hk : k < S.size) (hc : (S.data.toList.getD k 255).toNat ≤ 6) :
    pre S = (vals S (k + 1) (S.data.toList.getD k 255).toNat).map fun p => ((u : Int), p.1, p.2) := by
  unfold pre; rw [h]; exact if_pos ⟨hu, hk, hc⟩
theorem get_none {S : ByteArray} (h : pre S = none) : get S = none := by unfold get; rw [h]
theorem get_of {S : ByteArray} {t : Int} {l : List V3} {b : Nat} (h : pre S = some (t, l, b)) : get S = if b = S.size then some (t, l) else none := by unfold get; rw [h]
theorem pre_spec {S : ByteArray} {t : Int} {l : List V3} {b : Nat} (h : pre S = some (t, l, b)) : plain t l = true ∧ (∀ v ∈ l, OkV v) ∧ b ≤ S.size ∧ S.data.toList.take b = put t l := by
  rcases hg : Num.getAt S.data.toList 0 with _ | ⟨u, k⟩
  · rw [pre_none hg] at h; exact absurd h (by simp)
  · by_cases hc : u ≤ 2305843009213693952 ∧ k < S.size ∧ (S.data.toList.getD k 255).toNat ≤ 6
    · obtain ⟨h1, h2, h3⟩ := hc
      rw [pre_in hg h1 h2 h3] at h
      rcases hv : vals S (k + 1) (S.data.toList.getD k 255).toNat with _ | ⟨m, c⟩
      · rw [hv] at h; exact absurd h (by simp)
      · rw [hv] at h
        obtain ⟨rfl, h4⟩ := Prod.mk.inj (Option.some.inj h)
        obtain ⟨rfl, rfl⟩ := Prod.mk.inj h4
        obtain ⟨e1, e2, e3, e4, e5⟩ := vals_spec (by omega) hv
        obtain ⟨_, _, g3, g4, g5⟩ := Num.getAt_some hg
        have hp : plain (u : Int) m = true := plain_mk (by omega) (by omega) (by omega) (fun v hv => (e4 v hv).right)
        refine ⟨hp, e4, e3, ?_⟩
        rw [put_yes hp, ← e5, Int.toNat_natCast]
        simp only [Int.toNat_zero, List.drop_zero, Nat.zero_add] at g3 g5
        subst g3
        have hb : S.data.toList.getD (Num.put u).length 255 = m.length.toUInt8 := by
          rw [e1]; simp
        have hlt : (Num.put u).length < S.data.toList.length := by simpa using h2
        rw [← hb]
        conv => lhs; rw [show c = (Num.put u).length + (1 + (c - ((Num.put u).length + 1))) by omega, List.take_add, g5, List.take_add]
        have hgd : S.data.toList.getD (Num.put u).length 255 = S.data.toList[(Num.put u).length] := by rw [List.getD, List.getElem?_eq_getElem hlt]; rfl
        rw [List.drop_take, List.drop_drop, hgd]
        rw [List.drop_eq_getElem_cons hlt]
        simp
    · rw [pre_no hg hc] at h; exact absurd h (by simp)
theorem pre_put {S : ByteArray} {t : Int} {l : List V3} (hp : plain t l = true) (hl : ∀ v ∈ l, OkV v) (q : List UInt8) (hS : S.data.toList = put t l ++ q) : pre S = some (t, l, (put t l).length) := by
  obtain ⟨h0, h1, h2, h3⟩ := plain_parts hp
  have hS1 : S.data.toList = [] ++ (Num.put t.toNat ++ (l.length.toUInt8 :: (body l ++ q))) := by rw [hS, put_yes hp]; simp
  have hg := Num.getAt_put [] t.toNat (by omega) (l.length.toUInt8 :: (body l ++ q)) 0 rfl
  rw [← hS1] at hg
  simp only [List.length_nil, Nat.zero_add] at hg
  have hsz : S.size = (Num.put t.toNat).length + 1 + (body l).length + q.length := by
    have : S.size = S.data.toList.length := by simp
    rw [this, hS1]; simp; omega
  have hd : S.data.toList.getD (Num.put t.toNat).length 255 = l.length.toUInt8 := by
    rw [hS1, List.nil_append, List.getD, List.getElem?_append_right (by omega)]; simp
  have hn : (l.length.toUInt8).toNat = l.length := by simp; omega
  rw [pre_in hg (by omega) (by omega) (by rw [hd, hn]; omega), hd, hn]
  have hS2 : S.data.toList = (Num.put t.toNat ++ [l.length.toUInt8]) ++ (body l ++ q) := by rw [hS1]; simp
  have hv := vals_put hl l.length (Nat.le_refl _) hS2
  simp only [List.length_append, List.length_singleton, List.take_length] at hv
  rw [hv]
  simp only [Option.map_some]
  have : (put t l).length = (Num.put t.toNat).length + 1 + (body l).length := by rw [put_yes hp]; simp; omega
  rw [this, Int.toNat_of_nonneg h0]
theorem get_spec {S : ByteArray} {t : Int} {l : List V3} (h : get S = some (t, l)) : plain t l = true ∧ (∀ v ∈ l, OkV v) ∧ S.data.toList = put t l := by
  rcases hp : pre S with _ | ⟨t', l', b⟩
  · rw [get_none hp] at h; exact absurd h (by simp)
  · rw [get_of hp] at h
    by_cases hb : b = S.size
    · rw [if_pos hb] at h
      obtain ⟨rfl, rfl⟩ := Prod.mk.inj (Option.some.inj h)
      obtain ⟨e1, e2, e3, e4⟩ := pre_spec hp
      refine ⟨e1, e2, ?_⟩
      rw [← e4, hb, List.take_of_length_le (by simp)]
    · rw [if_neg hb] at h; exact absurd h (by simp)
theorem get_put {S : ByteArray} {t : Int} {l : List V3} (hp : plain t l = true) (hl : ∀ v ∈ l, OkV v) (hS : S.data.toList = put t l) : get S = some (t, l) := by
  rw [get_of (pre_put hp hl [] (by simp [hS])), if_pos]
  have : S.size = S.data.toList.length := by simp
  rw [this, hS]
theorem get_more {S : ByteArray} {t : Int} {l : List V3} (hp : plain t l = true) (hl : ∀ v ∈ l, OkV v) (q : List UInt8) (hS : S.data.toList = put t l ++ q) (hq : q ≠ []) : get S = none := by
  rw [get_of (pre_put hp hl q hS), if_neg]
  have : S.size = S.data.toList.length := by simp
  rw [this, hS, List.length_append]
  have := List.length_pos_iff.2 hq
  omega
theorem put_pos {t : Int} {l : List V3} (hp : plain t l = true) : 2 ≤ (put t l).length := by
  rw [put_yes hp]; have := Num.put_pos t.toNat; simp; omega
/-- No beginning of what was put is one. -/
theorem get_less {S : ByteArray} {t : Int} {l : List V3} (hp : plain t l = true) (hl : ∀ v ∈ l, OkV v) (q : List UInt8) (hS : put t l = S.data.toList ++ q) (hq : q ≠ []) : get S = none := by
  rcases hg : get S with _ | ⟨t', l'⟩
  · rfl
  · obtain ⟨e1, e2, e3⟩ := get_spec hg
    have h1 := get_put (S := ⟨(put t l).toArray⟩) hp hl rfl
    have h2 := get_more (S := ⟨(put t l).toArray⟩) e1 e2 q (by show put t l = _; rw [hS, e3]) hq
    rw [h1] at h2; exact absurd h2 (by simp)
theorem put_same {t : Int} {l : List V3} {t' : Int} {l' : List V3} (hp : plain t l = true) (hl : ∀ v ∈ l, OkV v) (hp' : plain t' l' = true) (hl' : ∀ v ∈ l', OkV v) (h : put t l = put t' l') : t = t' ∧ l = l' := by
  have a := get_put (S := ⟨(put t l).toArray⟩) hp hl rfl
  have b := get_put (S := ⟨(put t l).toArray⟩) hp' hl' h
  rw [a] at b
  exact Prod.mk.inj (Option.some.inj b)
theorem putV_len {v : V3} (h4 : OkV v) : (putV v).length ≤ 75 := by
  unfold putV
  rcases Val.right_kind h4.right with hk | hk | hk
  · have hr := h4.right; rw [hk] at hr ⊢; rw [Val.put_int hr]; have := Num.put_ten (Num.zig_natlt _ h4.lo h4.hi); simp; omega
  · have hr := h4.right; rw [hk] at hr ⊢; rw [Val.put_bool hr]; simp
  · have hr := h4.right; rw [hk] at hr ⊢; rw [Val.put_text hr]; have h7 := h4.size; have := Num.put_ten (u := v.2.2.size) (by omega); simp; omega
theorem body_len : ∀ {m : List V3}, (∀ v ∈ m, OkV v) → (body m).length ≤ 75 * m.length
  | [], _ => by simp [body]
  | v :: m, hm => by
    have h5 := body_len (m := m) (fun x hx => hm x (by simp [hx]))
    have h6 := putV_len (hm v (by simp))
    rw [body_cons, List.length_append, List.length_cons]; omega
theorem put_len {t : Int} {l : List V3} (hp : plain t l = true) (hl : ∀ v ∈ l, OkV v) : (put t l).length ≤ 500 := by
  obtain ⟨h0, h1, h2, h3⟩ := plain_parts hp
  have := body_len hl
  have := Num.put_ten (u := t.toNat) (by omega)
  rw [put_yes hp]; simp; omega

/-- Items: an event, or a mark. -/
def rightI (m : Bool) (t : Int) (l : List V3) : Bool := plain t l && (!m || decide (l.length = 0))
def putI (m : Bool) (t : Int) (l : List V3) : List UInt8 := if rightI m t l = true then (if m = true then 1 :: Num.put t.toNat else 0 :: put t l) else []
theorem rightI_plain {m : Bool} {t : Int} {l : List V3} (h : rightI m t l = true) : plain t l = true := by unfold rightI at h; simp only [Bool.and_eq_true] at h; exact h.1
theorem rightI_mark {t : Int} {l : List V3} (h : rightI true t l = true) : l = [] := by
  unfold rightI at h; simp at h; exact h.2
theorem putI_mark {t : Int} {l : List V3} (h : rightI true t l = true) : putI true t l = 1 :: Num.put t.toNat := by unfold putI; rw [if_pos h]; rfl
theorem putI_event {t : Int} {l : List V3} (h : plain t l = true) : putI false t l = 0 :: put t l := by unfold putI; rw [if_pos (by unfold rightI; simp [h])]; rfl
/-- What an item's bytes are: 'none' is 'it is none'. -/
def getI (S : ByteArray) : Option (Bool × Int × List V3) :=
  if S.size = 0 then none
  else if (S.data.toList.getD 0 255).toNat = 0 then (get (S.extract 1 S.size)).map fun p => (false, p.1, p.2)
  else if (S.data.toList.getD 0 255).toNat = 1 then (match Num.getAt S.data.toList 1 with
    | none => none
    | some (u, k) => if u ≤ 2305843009213693952 ∧ k = S.size then some (true, (u : Int), []) else none)
  else none
theorem tail_list {S : ByteArray} {c : UInt8} {l : List UInt8} (h : S.data.toList = c :: l) : (S.extract 1 S.size).data.toList = l := by
  have hsz : S.size = l.length + 1 := by
    have : S.size = S.data.toList.length := by simp
    rw [this, h]; simp
  rw [extract_list, h, hsz]
  simp
theorem getI_event {S : ByteArray} {l : List UInt8} (h : S.data.toList = 0 :: l) : getI S = (get (S.extract 1 S.size)).map fun p => (false, p.1, p.2) := by
  have hsz : S.size = l.length + 1 := by
    have : S.size = S.data.toList.length := by simp
    rw [this, h]; simp
  unfold getI
  rw [if_neg (by omega), h, if_pos (by rfl)]
theorem getI_mark {S : ByteArray} {l : List UInt8} (h : S.data.toList = 1 :: l) : getI S = (match Num.getAt S.data.toList 1 with
    | none => none
    | some (u, k) => if u ≤ 2305843009213693952 ∧ k = S.size then some (true, (u : Int), []) else none) := by
  have hsz : S.size = l.length + 1 := by
    have : S.size = S.data.toList.length := by simp
    rw [this, h]; simp
  unfold getI
  rw [if_neg (by omega), if_neg (by rw [h]; show ¬ (1 : UInt8).toNat = 0; decide), if_pos (by rw [h]; rfl)]
theorem getI_other {S : ByteArray} {c : UInt8} {l : List UInt8} (h : S.data.toList = c :: l) (hc : 1 < c.toNat) : getI S = none := by
  unfold getI
  split
  · rfl
  · rw [h]; simp only [List.getD_cons_zero]; rw [if_neg (by omega), if_neg (by omega)]
theorem getI_nil {S : ByteArray} (h : S.size = 0) : getI S = none := by unfold getI; rw [if_pos h]
theorem getI_put {S : ByteArray} {m : Bool} {t : Int} {l : List V3} (hr : rightI m t l = true) (hl : ∀ v ∈ l, OkV v) (hS : S.data.toList = putI m t l) : getI S = some (m, t, l) := by
  have hp := rightI_plain hr
  cases m
  · rw [putI_event hp] at hS
    rw [getI_event hS, get_put hp hl (tail_list hS)]; rfl
  · obtain rfl := rightI_mark hr
    rw [putI_mark hr] at hS
    obtain ⟨h0, h1, _, _⟩ := plain_parts hp
    rw [getI_mark hS, hS]
    have hg := Num.getAt_put [1] t.toNat (by omega) [] 1 rfl
    simp only [List.append_nil, List.singleton_append] at hg
    have hsz : S.size = (Num.put t.toNat).length + 1 := by
      have : S.size = S.data.toList.length := by simp
      rw [this, hS]; simp
    rw [hg]
    simp only [List.length_singleton]
    rw [if_pos ⟨by omega, by omega⟩, Int.toNat_of_nonneg h0]
theorem getI_spec {S : ByteArray} {m : Bool} {t : Int} {l : List V3} (h : getI S = some (m, t, l)) : rightI m t l = true ∧ (∀ v ∈ l, OkV v) ∧ S.data.toList = putI m t l := by
  rcases hl : S.data.toList with _ | ⟨c, r⟩
  · have hz : S.size = 0 := by
      have : S.size = S.data.toList.length := by simp
      rw [this, hl]; rfl
    rw [getI_nil hz] at h; exact absurd h (by simp)
  · have hsz : S.size = r.length + 1 := by
      have : S.size = S.data.toList.length := by simp
      rw [this, hl]; simp
    rcases (by omega : c.toNat = 0 ∨ c.toNat = 1 ∨ 1 < c.toNat) with hc | hc | hc
    · obtain rfl : c = 0 := UInt8.toNat_inj.1 hc
      rw [getI_event hl] at h
      rcases hg : get (S.extract 1 S.size) with _ | ⟨t', l'⟩
      · rw [hg] at h; exact absurd h (by simp)
      · rw [hg] at h
        obtain ⟨rfl, h4⟩ := Prod.mk.inj (Option.some.inj h)
        obtain ⟨rfl, rfl⟩ := Prod.mk.inj h4
        obtain ⟨e1, e2, e3⟩ := get_spec hg
        rw [tail_list hl] at e3
        exact ⟨by unfold rightI; simp [e1], e2, by rw [putI_event e1, e3]⟩
    · obtain rfl : c = 1 := UInt8.toNat_inj.1 hc
      rw [getI_mark hl] at h
      rcases hg : Num.getAt S.data.toList 1 with _ | ⟨u, k⟩
      · rw [hg] at h; exact absurd h (by simp)
      · rw [hg] at h
        simp only at h
        by_cases hk : u ≤ 2305843009213693952 ∧ k = S.size
        · rw [if_pos hk] at h
          obtain ⟨rfl, h4⟩ := Prod.mk.inj (Option.some.inj h)
          obtain ⟨rfl, rfl⟩ := Prod.mk.inj h4
          obtain ⟨_, _, g3, g4, g5⟩ := Num.getAt_some hg
          have hr : rightI true (u : Int) [] = true := by
            have : plain (u : Int) [] = true := plain_mk (by omega) (by omega) (by simp) (by simp)
            unfold rightI; simp [this]
          refine ⟨hr, by simp, ?_⟩
          rw [putI_mark hr, Int.toNat_natCast]
          rw [hl] at g5
          simp only [Int.toNat_one, List.drop_succ_cons, List.drop_zero] at g5 g3
          rw [← g5, List.take_of_length_le (by omega)]
        · rw [if_neg hk] at h; exact absurd h (by simp)
    · rw [getI_other hl hc] at h; exact absurd h (by simp)
theorem getI_more {S : ByteArray} {m : Bool} {t : Int} {l : List V3} (hr : rightI m t l = true) (hl : ∀ v ∈ l, OkV v) (q : List UInt8) (hS : S.data.toList = putI m t l ++ q) (hq : q ≠ []) : getI S = none := by
  have hp := rightI_plain hr
  cases m
  · rw [putI_event hp, List.cons_append] at hS
    rw [getI_event hS, get_more hp hl q (tail_list hS) hq]; rfl
  · obtain rfl := rightI_mark hr
    rw [putI_mark hr, List.cons_append] at hS
    obtain ⟨h0, h1, _, _⟩ := plain_parts hp
    rw [getI_mark hS, hS]
    have hg := Num.getAt_put [1] t.toNat (by omega) q 1 rfl
    simp only [List.singleton_append] at hg
    have hsz : S.size = (Num.put t.toNat).length + 1 + q.length := by
      have : S.size = S.data.toList.length := by simp
      rw [this, hS]; simp; omega
    have := List.length_pos_iff.2 hq
    rw [hg]
    simp only [List.length_singleton]
    rw [if_neg (by omega)]
theorem getI_less {S : ByteArray} {m : Bool} {t : Int} {l : List V3} (hr : rightI m t l = true) (hl : ∀ v ∈ l, OkV v) (q : List UInt8) (hS : putI m t l = S.data.toList ++ q) (hq : q ≠ []) : getI S = none := by
  rcases hg : getI S with _ | ⟨m', t', l'⟩
  · rfl
  · obtain ⟨e1, e2, e3⟩ := getI_spec hg
    have h1 := getI_put (S := ⟨(putI m t l).toArray⟩) hr hl rfl
    have h2 := getI_more (S := ⟨(putI m t l).toArray⟩) e1 e2 q (by show putI m t l = _; rw [hS, e3]) hq
    rw [h1] at h2; exact absurd h2 (by simp)
end Go.Proofs.Ytbmkbpehkpdcmaa.Ev
