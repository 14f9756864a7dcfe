/- Merging: the mathematics, continued. -/
import Derived.Test.YtcggkbopipnnoaaMrg
namespace Go.Proofs.Ytcggkbopipnnoaa.Mrg

theorem pick_is {l : List Hd} {r : Int} {q : Nat} (h : PickIs l r) (hb : IsBest l q) (hno : ∀ j (hj : j < l.length) (hq : q < l.length), holdsB (l[j]'hj) j q (l[q]'hq).2.1 = false) : r = q := by
  rcases h with ⟨_, h1⟩ | ⟨q', hq', h1, ⟨h2, _⟩ | ⟨_, j, hj, h3⟩⟩
  · obtain ⟨hq, h2, _⟩ := hb
    rw [h1 q hq] at h2; exact absurd h2 (by simp)
  · rw [h2, hb.one h1]
  · obtain rfl := hb.one h1
    rw [hno j hj hq'] at h3; exact absurd h3 (by simp)
theorem pick_not {l : List Hd} {r : Int} {q : Nat} (h : PickIs l r) (hb : IsBest l q) (hh : ∃ (j : Nat) (hj : j < l.length) (hq : q < l.length), holdsB (l[j]'hj) j q (l[q]'hq).2.1 = true) : r = -1 := by
  rcases h with ⟨h0, _⟩ | ⟨q', hq', h1, ⟨_, h2⟩ | ⟨h0, _⟩⟩
  · exact h0
  · obtain ⟨j, hj, hq, h3⟩ := hh
    obtain rfl := hb.one h1
    rw [h2 j hj] at h3; exact absurd h3 (by simp)
  · exact h0
theorem pick_none {l : List Hd} {r : Int} (h : PickIs l r) (hn : NoneHas l) : r = -1 := by
  rcases h with ⟨h0, _⟩ | ⟨q', hq', ⟨_, h1, _⟩, _⟩
  · exact h0
  · rw [hn q' hq'] at h1; exact absurd h1 (by simp)
theorem LowIs.one {l : List Hd} {t u : Int} {a b : Bool} (h : LowIs l t a) (k : LowIs l u b) : t = u ∧ a = b := by
  rcases h with ⟨rfl, rfl, h1⟩ | ⟨rfl, ⟨j, hj, h1, h2⟩, h3⟩ <;> rcases k with ⟨rfl, rfl, k1⟩ | ⟨rfl, ⟨i, hi, k1, k2⟩, k3⟩
  · exact ⟨rfl, rfl⟩
  · rw [h1 i hi] at k1; exact absurd k1 (by simp)
  · rw [k1 j hj] at h1; exact absurd h1 (by simp)
  · have := h3 i hi k1
    have := k3 j hj h1
    exact ⟨by omega, rfl⟩
/-! ### The chapter's examples -/
theorem ex_low1 : LowIs [(true, 3, 0, false), (false, 0, 2, false)] 2 true := Or.inr ⟨rfl, ⟨1, by decide, by decide, by decide⟩, by decide⟩
theorem ex_low2 : LowIs [(false, 0, 0, true)] 0 false := Or.inl ⟨rfl, rfl, by decide⟩
theorem ex_best0 (x : Hd) (hx : x.1 = false) : IsBest [(true, 3, 0, false), x] 0 := by
  refine ⟨by simp, rfl, fun j hj h => ?_⟩
  rcases j with _ | _ | j
  · exact ⟨Int.le_refl _, fun h => absurd h (by omega)⟩
  · simp [hx] at h
  · exact absurd hj (by simp)
theorem ex_best1 (x : Hd) (hx : x.1 = false) : IsBest [x, (true, 3, 0, false)] 1 := by
  refine ⟨by simp, rfl, fun j hj h => ?_⟩
  rcases j with _ | _ | j
  · simp [hx] at h
  · exact ⟨Int.le_refl _, fun h => absurd h (by omega)⟩
  · exact absurd hj (by simp)
theorem ex_pick1 {r : Int} (h : PickIs [(true, 3, 0, false), (false, 0, 3, false)] r) : r = 0 := pick_is h (ex_best0 _ rfl) (by decide)
theorem ex_pick2 {r : Int} (h : PickIs [(false, 0, 3, false), (true, 3, 0, false)] r) : r = -1 := pick_not h (ex_best1 _ rfl) ⟨0, by decide, by decide, by decide⟩
theorem ex_pick3 {r : Int} (h : PickIs [(false, 0, 0, true), (true, 3, 0, false)] r) : r = 1 := pick_is h (ex_best1 _ rfl) (by decide)
theorem ex_pick4 {r : Int} (h : PickIs [] r) : r = -1 := pick_none h (fun j hj => absurd hj (by simp))
end Go.Proofs.Ytcggkbopipnnoaa.Mrg
