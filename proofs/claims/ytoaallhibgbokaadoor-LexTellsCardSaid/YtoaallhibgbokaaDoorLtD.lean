/- Words of texts: the reference's quote. -/
import Derived.Test.YtoaallhibgbokaaDoorLtB
namespace Go.Proofs.YtoaallhibgbokaaDoor
open Go.ChangeShapes Go.WideShapes Go.ChangeAt Go.RowKit
set_option linter.unusedVariables false
set_option linter.unusedSimpArgs false

theorem twl_more {p : UInt8 → Bool} : ∀ (l : Bs) (k : Nat) (hk : k < l.length), k ≤ (l.takeWhile p).length → p (l[k]'hk) = true → k + 1 ≤ (l.takeWhile p).length := by
  intro l
  induction l with
  | nil => intro k hk; simp at hk
  | cons a l ih =>
    intro k hk h1 h2
    rw [List.takeWhile_cons] at h1 ⊢
    by_cases ha : p a = true
    · rw [if_pos ha] at h1 ⊢
      cases k with
      | zero => simp
      | succ k =>
        simp only [List.length_cons] at h1 ⊢
        have := ih k (by simpa using hk) (by omega) (by simpa using h2)
        omega
    · rw [if_neg ha] at h1
      have : k = 0 := by simpa using h1
      subst this
      exact absurd h2 ha
theorem twl_stop {p : UInt8 → Bool} (l : Bs) (k : Nat) (hl : k < l.length) (h1 : k ≤ (l.takeWhile p).length) (h2 : p (l[k]'hl) = false) : (l.takeWhile p).length = k := by
  rcases Nat.lt_or_ge k (l.takeWhile p).length with h3 | h3
  · exfalso
    have h4 := takeWhile_all (p := p) l ((l.takeWhile p)[k]'h3) (List.getElem_mem h3)
    have h5 : (l.takeWhile p)[k]'h3 = l[k]'hl := by
      have h6 := takeWhile_take (p := p) l
      have h7 : (l.take (l.takeWhile p).length)[k]? = (l.takeWhile p)[k]? := by rw [h6]
      rw [List.getElem?_take, if_pos h3, List.getElem?_eq_getElem hl, List.getElem?_eq_getElem h3] at h7
      exact (Option.some.inj h7).symm
    rw [h5, h2] at h4
    cases h4
  · omega
set_option maxRecDepth 20000 in
set_option maxHeartbeats 2000000 in
theorem Rquote_any (s : ByteArray) (w : World) (r : Bs) (hs : s.size ≤ 4000000000) (hr : s.data.toList = 39 :: r) :
    Calls Tryd.prog 33 #[.string s] w (RqP (quoteT s.data.toList) w) := by
  have hsz : s.size = r.length + 1 := by
    have : s.data.toList.length = s.size := by simp
    rw [hr] at this; simpa using this.symm
  have hget : ∀ j (h : j < s.size) (h1 : 1 ≤ j), s[j]'h = r[j - 1]'(by omega) := fun j h h1 => by
    obtain ⟨i, rfl⟩ : ∃ i, j = i + 1 := ⟨j - 1, by omega⟩
    have e1 : s.data.toList[i + 1]? = some (s[i + 1]'h) := List.getElem?_eq_getElem (by simpa using h)
    rw [hr, List.getElem?_cons_succ, List.getElem?_eq_getElem (by omega)] at e1
    exact (Option.some.inj e1).symm
  have hx : ∀ k, 1 ≤ k → k ≤ s.size → k - 1 = (r.takeWhile (fun c => c != 39)).length → s.extract 1 k = mk (r.takeWhile (fun c => c != 39)) := fun k h1 h2 h3 => by
    rw [extract_mk, hr, show k = (k - 1) + 1 by omega, List.take_succ_cons, h3, takeWhile_take]
    rfl
  have htl := takeWhile_len (p := fun c => c != 39) r
  have hm := twl_more (p := fun c => c != 39) r
  have hst := twl_stop (p := fun c => c != 39) r
  have hQ : quoteT s.data.toList = quoteR (r.takeWhile (fun c => c != 39)) r.length := by rw [hr]; rfl
  rw [hQ]
  have hmore : ∀ k (h : k < s.size), 1 ≤ k → k - 1 ≤ (r.takeWhile (fun c => c != 39)).length → ¬ s[k]'h = 39 → k ≤ (r.takeWhile (fun c => c != 39)).length := fun k h h1 h2 h3 => by
    have := hm (k - 1) (by omega) h2 (by rw [← hget k h h1]; simpa using h3)
    omega
  have hstop : ∀ k (h : k < s.size), 1 ≤ k → k - 1 ≤ (r.takeWhile (fun c => c != 39)).length → s[k]'h = 39 → (r.takeWhile (fun c => c != 39)).length = k - 1 := fun k h h1 h2 h3 =>
    hst (k - 1) (by omega) h2 (by rw [← hget k h h1, h3]; rfl)
  clear hm hst hQ hr hget
  obtain ⟨t, ht⟩ : ∃ t, r.takeWhile (fun c => c != 39) = t := ⟨_, rfl⟩
  rw [ht] at htl ⊢
  simp only [ht] at hx hmore hstop
  clear ht
  have fin : ∀ (k : Nat) (b : ByteArray) (W : World), 1 ≤ k → k < s.size → k ≤ 65 → t.length = k - 1 → mk t = b → Below w.heap.size w W → RqP (quoteR t r.length) w (.returned (.tuple #[tokV 3 b 0 0, .int .i64 (((k + 1 : Nat)) : Int), .bool true])) W := fun k b W h1 h2 h3 h4 h5 hW =>
    ⟨3, t, 0, k + 1, true, ⟨by rw [h5], Or.inr ⟨rfl, by
      unfold quoteR
      rw [decide_eq_true (by omega), decide_eq_true (by omega), if_pos (by rfl), h4, show k - 1 + 2 = k + 1 by omega], by omega⟩⟩, hW⟩
  have fin0 : ∀ (W : World), (r.length ≤ t.length ∨ 65 ≤ t.length) → Below w.heap.size w W → RqP (quoteR t r.length) w (.returned (.tuple #[tokV 0 ⟨#[]⟩ 0 0, .int .i64 0, .bool false])) W := fun W h hW =>
    ⟨0, [], 0, 0, false, ⟨rfl, Or.inl ⟨rfl, by
      unfold quoteR
      rcases h with h | h
      · rw [decide_eq_false (by omega), if_neg (by simp)]
      · rw [decide_eq_false (by omega : ¬ t.length ≤ 64), if_neg (by simp)]⟩⟩, hW⟩
  have hsm : s.size ≤ 9223372036854775807 := by omega
  have htz := mk_size t
  obtain ⟨b, hb⟩ : ∃ b, mk t = b := ⟨_, rfl⟩
  rw [hb] at htz
  simp only [hb] at hx
  obtain ⟨rl, hrl⟩ : ∃ rl, r.length = rl := ⟨_, rfl⟩
  obtain ⟨tl, htl'⟩ : ∃ tl, t.length = tl := ⟨_, rfl⟩
  rw [hrl] at hsz
  rw [hrl, htl'] at htl
  rw [hrl] at fin fin0
  rw [hrl]
  simp only [htl'] at hx hmore hstop fin fin0 htz
  have H := Lib.hid (And.intro hmore (And.intro hstop (And.intro hx (And.intro fin (And.intro fin0 hb))))); clear hmore hstop hx fin fin0 hb hrl htl'
  have HS := Lib.hid hsz
  have HB := Lib.hid (And.intro (Blk.new w 49 (tokC 0 ⟨#[]⟩ 0 0)) (Blk.new w 49 (tokC 3 b 0 0)))
  go_enter Tryd.func33, Tryd.ntmps33
  go_wp2
  go_loop [5] (fun i => ∃ k : Nat, 1 ≤ k ∧ k ≤ s.size ∧ k ≤ 66 ∧ i = .int .i64 k ∧ k - 1 ≤ tl) (fun i => s.size - (intOf i).toNat)
  case atStart => exact ⟨1, Nat.le_refl _, by omega, by omega, rfl, Nat.zero_le _⟩
  case round =>
    obtain ⟨k, h1, h2, h3, rfl, h4⟩ := hrel
    have HT := Lib.hid htz
    clear htz hsz
    by_cases hlt : k < s.size
    · by_cases h65 : k ≤ 65
      · by_cases hq : s[k]'hlt = 39
        · have e1 := H.out.2.1 k hlt h1 h4 hq
          have e2 := H.out.2.2.1 k h1 h2 (by omega)
          have e3 : ((s[k]'hlt).toNat : Int) = 39 := by rw [hq]; rfl
          have J := Lib.hid (fun W => H.out.2.2.2.1 k b W h1 hlt h65 e1 H.out.2.2.2.2.2)
          obtain ⟨y0, y1, y2, y3⟩ := Blk.four HB.out.2
          have g1 : (1 : Int) ≤ (k : Int) := by omega
          have g2 : (k : Int) ≤ (s.size : Int) := by omega
          have g3 : ¬ (k : Int) < 1 := by omega
          have g4 : ¬ (s.size : Int) < (k : Int) := by omega
          have g5 : ¬ k < 1 := by omega
          have g6 : ¬ s.size < k := by omega
          clear e1 hq
          go_wp2
          exact bodyPost_ret (v := .tuple #[tokV 3 b 0 0, .int .i64 (((k + 1 : Nat)) : Int), .bool true]) (by simp only [results, Tryd.results33]; simp [go_sem, Act.put, y0, y1, y2, y3]) rfl (J.out _ (ba w _))
        · have e1 := H.out.1 k hlt h1 h4 hq
          have e3 : ¬ ((s[k]'hlt).toNat : Int) = 39 := fun e => hq (by
            have e2 : (s[k]'hlt).toNat = 39 := by omega
            rw [show (39 : UInt8) = UInt8.ofNat 39 from rfl]; exact (byte_eq _ 39 (by decide)).2 e2)
          have e3b : (((s[k]'hlt).toNat : Int) == 39) = false := by simpa using e3
          have e3n : ¬ (s[k]'hlt).toNat = 39 := by omega
          clear hq
          go_wp2
          go_round
          case rel => exact ⟨k + 1, by omega, by omega, by omega, by go_num, by omega⟩
          case measure => simp [intOf]; omega
      · have J := Lib.hid (fun W => H.out.2.2.2.2.1 W (Or.inr (by omega)))
        obtain ⟨y0, y1, y2, y3⟩ := Blk.four HB.out.1
        go_wp2
        exact bodyPost_ret (v := .tuple #[tokV 0 ⟨#[]⟩ 0 0, .int .i64 0, .bool false]) (by simp only [results, Tryd.results33]; simp [go_sem, Act.put, y0, y1, y2, y3]) rfl (J.out _ (ba w _))
    · have J := Lib.hid (fun W => H.out.2.2.2.2.1 W (Or.inl (by have := HS.out; omega)))
      obtain ⟨y0, y1, y2, y3⟩ := Blk.four HB.out.1
      go_wp2
      exact bodyPost_ret (v := .tuple #[tokV 0 ⟨#[]⟩ 0 0, .int .i64 0, .bool false]) (by simp only [results, Tryd.results33]; simp [go_sem, Act.put, y0, y1, y2, y3]) rfl (J.out _ (ba w _))
end Go.Proofs.YtoaallhibgbokaaDoor
