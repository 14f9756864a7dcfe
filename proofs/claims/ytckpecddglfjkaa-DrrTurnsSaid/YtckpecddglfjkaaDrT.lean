/- Turns by deficits: whoever waits has its turn in time. -/
import Derived.Test.YtckpecddglfjkaaDrW
namespace Go.Proofs.Ytckpecddglfjkaa
open Go.ChangeShapes Go.WideShapes Go.ChangeAt Go.RowKit
open Dr
set_option linter.unusedVariables false
set_option linter.unusedSimpArgs false

/-- The sum of the first n. -/
def sumTo (f : Nat → Int) : Nat → Int
  | 0 => 0
  | n + 1 => sumTo f n + f n
theorem sum_le {f g : Nat → Int} : ∀ {n : Nat}, (∀ i, i < n → f i ≤ g i) → sumTo f n ≤ sumTo g n
  | 0, _ => Int.le_refl 0
  | n + 1, h => by
    unfold sumTo
    have := sum_le (n := n) (fun i hi => h i (by omega))
    have := h n (by omega)
    omega
theorem sum_bump (f : Nat → Int) (k : Nat) : ∀ {n : Nat}, k < n → sumTo (fun i => if i = k then f i + 1 else f i) n = sumTo f n + 1
  | 0, h => absurd h (by omega)
  | n + 1, h => by
    unfold sumTo
    by_cases e : n = k
    · subst e
      have : ∀ m, m ≤ n → sumTo (fun i => if i = n then f i + 1 else f i) m = sumTo f m := by
        intro m
        induction m with
        | zero => intro _; rfl
        | succ m ih =>
          intro hm
          unfold sumTo
          rw [ih (by omega)]
          have : ¬ m = n := by omega
          simp [this]
      rw [this n (Nat.le_refl n)]
      simp; omega
    · rw [sum_bump f k (by omega)]
      simp [e]; omega
theorem sum_const (c : Int) : ∀ n : Nat, sumTo (fun _ => c) n = c * n
  | 0 => by simp [sumTo]
  | n + 1 => by
    unfold sumTo
    rw [sum_const c n, Int.natCast_add, Int.mul_add]; simp
theorem sum_add (f g : Nat → Int) : ∀ n : Nat, sumTo (fun i => f i + g i) n = sumTo f n + sumTo g n
  | 0 => rfl
  | n + 1 => by
    unfold sumTo
    rw [sum_add f g n]; omega
theorem quant_pos (q : UInt8) : 1 ≤ 1 + (q.toNat : Int) ∧ 1 + (q.toNat : Int) ≤ 256 := by have := q.toNat_lt; omega
/-- Who cannot pay yet has not been given what it needs. -/
theorem poor_need {d g q c : Int} (hq : 1 ≤ q) (hc : 1 ≤ c) (h : d = g * q) (hd : d < c) : g ≤ (c + q - 1) / q - 1 := by
  have h1 : (c + q - 1) / q * q + (c + q - 1) % q = c + q - 1 := by rw [Int.mul_comm]; exact Int.mul_ediv_add_emod ..
  have h2 := Int.emod_lt_of_pos (c + q - 1) (show 0 < q by omega)
  have h3 := Int.emod_nonneg (c + q - 1) (show q ≠ 0 by omega)
  -- g * q < c ≤ ((c + q - 1) / q) * q
  have h4 : c ≤ (c + q - 1) / q * q := by omega
  have h5 : g * q < (c + q - 1) / q * q := by omega
  have h6 : g < (c + q - 1) / q := Int.lt_of_mul_lt_mul_right h5 (by omega)
  omega
/-- How often who has its turn pays. -/
theorem pays_at_most {n c q g d need : Int} (hc : 1 ≤ c) (hq : 1 ≤ q) (hd : 0 ≤ d) (hg : g ≤ need) (hn : n * c + d = g * q) (hneed : 0 ≤ need) : n ≤ (need * q + 512) / c := by
  have h1 : g * q ≤ need * q := Int.mul_le_mul_of_nonneg_right hg (by omega)
  exact (Int.le_ediv_iff_mul_le (by omega)).2 (by omega)
theorem keys_qs {q : List UInt8} {L : List Fl} (h : (L.map key).Perm ((roundL q).map key)) {m : Nat} (hm : m = min q.length 5) (f : Fl) (hf : f ∈ L) : ∃ (k : Nat) (hk : k < q.length), k < m ∧ f.1 = (k : Int) ∧ f.2.1 = 1 + ((q[k]'hk).toNat : Int) := by
  have : key f ∈ (roundL q).map key := h.mem_iff.1 (List.mem_map.2 ⟨f, hf, rfl⟩)
  obtain ⟨g, hg, e⟩ := List.mem_map.1 this
  obtain ⟨j, hj, rfl⟩ := List.getElem_of_mem hg
  have hl := hj
  rw [roundL_len] at hl
  have hr := roundL_get q j (by omega) (by omega)
  rw [List.getElem?_eq_getElem hj] at hr
  have hr := Option.some.inj hr
  rw [hr] at e
  unfold key roundF at e
  simp only [Prod.mk.injEq] at e
  exact ⟨j, by omega, by omega, e.1.symm, e.2.symm⟩
def qI (q : List UInt8) (j : Nat) : Int := match q[j]? with | some b => 1 + (b.toNat : Int) | none => 1
theorem qI_get (q : List UInt8) (j : Nat) (h : j < q.length) : qI q j = 1 + ((q[j]'h).toNat : Int) := by unfold qI; rw [List.getElem?_eq_getElem h]
theorem qI_pos (q : List UInt8) (j : Nat) : 1 ≤ qI q j ∧ qI q j ≤ 256 := by
  unfold qI
  split
  · have := UInt8.toNat_lt ‹UInt8›; omega
  · omega
def needI (q c : List UInt8) (k : Nat) : Int := (prI c k + qI q k - 1) / qI q k + 1
theorem need_bd (q c : List UInt8) (k : Nat) : 1 ≤ needI q c k ∧ needI q c k ≤ 767 := by
  have h1 := prI_pos c k
  have h2 := qI_pos q k
  unfold needI
  have h3 : 0 ≤ (prI c k + qI q k - 1) / qI q k := Int.ediv_nonneg (by omega) (by omega)
  have h4 : (prI c k + qI q k - 1) / qI q k ≤ prI c k + qI q k - 1 := Int.ediv_le_self _ (by omega)
  omega
/-- How often it may have its turn. -/
def offI (q c : List UInt8) (k j : Nat) : Int := (needI q c k * qI q j + 512) / prI c j
theorem off_bd (q c : List UInt8) (k j : Nat) : 0 ≤ needI q c k * qI q j ∧ needI q c k * qI q j ≤ 196352 ∧ 0 ≤ offI q c k j ∧ offI q c k j ≤ 196864 := by
  have h1 := need_bd q c k
  have h2 := qI_pos q j
  have h3 := prI_pos c j
  have h4 : 0 ≤ needI q c k * qI q j := Int.mul_nonneg (by omega) (by omega)
  have h5 : needI q c k * qI q j ≤ 767 * 256 := Int.mul_le_mul h1.2 h2.2 (by omega) (by omega)
  unfold offI
  have h6 : 0 ≤ (needI q c k * qI q j + 512) / prI c j := Int.ediv_nonneg (by omega) (by omega)
  have h7 : (needI q c k * qI q j + 512) / prI c j ≤ needI q c k * qI q j + 512 := Int.ediv_le_self _ (by omega)
  omega
theorem most_bd (q c : List UInt8) (k : Nat) : ∀ i : Nat, 0 ≤ sumTo (fun j => offI q c k j + 1) i ∧ sumTo (fun j => offI q c k j + 1) i ≤ 196865 * i
  | 0 => by simp [sumTo]
  | i + 1 => by
    unfold sumTo
    have h1 := most_bd q c k i
    have h2 := off_bd q c k i
    omega
/-- Whoever has not had its turn has it in time. -/
theorem turns_in_time {sp : Int → Int} {L : List Fl} {fr : Bool} {q c : List UInt8} {m kk : Nat} {n : Nat → Int} (hm : m = min q.length 5) (hk : kk < m) (hF : FairS sp L fr) (hO : OkS L fr) (hP : (L.map key).Perm ((roundL q).map key))
    (hn : ∀ j, j < m → sp (j : Int) = n j * prI c j) (h0 : n kk = 0) (hp : ∀ f ∈ L, f.1 = (kk : Int) → f.2.2.1 < prI c kk) : sumTo n m ≤ sumTo (fun j => offI q c kk j) m := by
  obtain ⟨G, hG0, hG⟩ := hF.all
  have hids := (roundL_perm_ids hP hm).2
  have each : ∀ j, j < m → ∃ f ∈ L, f.1 = (j : Int) ∧ f.2.1 = qI q j := fun j hj => by
    obtain ⟨f, hf, e⟩ := List.mem_map.1 ((hids (j : Int)).2 ⟨by omega, by omega⟩)
    obtain ⟨k, hkl, _, e1, e2⟩ := keys_qs hP hm f hf
    obtain rfl : j = k := by omega
    exact ⟨f, hf, e, by rw [e2, qI_get q j hkl]⟩
  have hGn : G + 1 ≤ needI q c kk := by
    obtain ⟨f, hf, e1, e2⟩ := each kk hk
    have hpf := hp f hf e1
    have hq := qI_pos q kk
    have hc := prI_pos c kk
    have hs : sp f.1 = 0 := by rw [e1, hn kk hk, h0]; simp
    have key1 : ∀ g, IsG sp f g → g ≤ needI q c kk - 2 := fun g hg => by
      unfold IsG at hg
      rw [hs, Int.zero_add, e2] at hg
      have := poor_need hq.1 hc.1 hg hpf
      unfold needI
      omega
    rcases hG f hf with h | h
    · have := key1 _ h; omega
    · have := key1 _ h; omega
  refine sum_le (fun j hj => ?_)
  obtain ⟨f, hf, e1, e2⟩ := each j hj
  obtain ⟨d1, _, _, _⟩ := okS_defs hO f hf
  have hq := qI_pos q j
  have hc := prI_pos c j
  have hnd := need_bd q c kk
  obtain ⟨g, hg, hgn⟩ : ∃ g, IsG sp f g ∧ g ≤ needI q c kk := by
    rcases hG f hf with h | h
    · exact ⟨_, h, by omega⟩
    · exact ⟨_, h, by omega⟩
  unfold IsG at hg
  rw [e1, hn j hj, e2] at hg
  exact pays_at_most hc.1 hq.1 d1 hgn hg (by omega)
end Go.Proofs.Ytckpecddglfjkaa
