/- A map keyed by fields, of bools: what is met. -/
import Derived.Test.YtkmboffbohndjaaStrmF
import Derived.Maps.Own
import Derived.Maps.Views
import Derived.Maps.OwnSet
import Derived.DeepKeys5
namespace Go.Proofs.Ytkmboffbohndjaa
open Go.ChangeShapes Go.WideShapes Go.ChangeAt Go.RowKit Go.Maps
set_option linter.unusedVariables false
set_option linter.unusedSimpArgs false

theorem fldLaid : laidOutB Try.prog = true := by kernel_rfl
theorem fldRow : (26 : TypeId) < Try.prog.types.size := of_decide_eq_true (by kernel_rfl)
theorem fldKT : Try.prog.keyTypeAt 3 26 = true := by kernel_rfl
theorem fldDeep : Try.prog.keyTypeAt (Try.prog.types.size + 1) 26 = true := by kernel_rfl
theorem fldWide : (match Try.prog.underlying 26 with | some (.array _ _) | some (.struct _) => true | _ => false) = true := by kernel_rfl
theorem fldKL : WideMaps.KeyLaw Try.prog 26 := deep_law_laid fldLaid (m := 3) (by omega) fldRow fldKT (by rw [Try.underlying26])
theorem fldLaw : Keyed Try.prog 26 := Keyed.of_law fldKL
theorem mapZero (w : World) : (zeroValue 4).run Try.prog w = .ok (.bool false) w := by kernel_rfl
def fldKey (s : ByteArray) (k : Int) : Lit := .string (keyBytes [.string s.data.toList, .int .i64 k])
theorem keyOf_fld {s : ByteArray} {k : Int} (hs : s.size ≤ maxLen) (hk : (Lit.int .i64 k).wf = true) : keyOf Try.prog 26 (.agg #[.string s, .int .i64 k]) = some (fldKey s k) := by
  have h1 : Try.prog.keyType 26 = true := fldDeep
  have h2 : (Value.agg #[.string s, .int .i64 k]).formed Try.prog 26 = true := by
    simp [Value.formed, Try.underlying26, show Try.prog.cellsOf 26 = 2 by kernel_rfl]
  obtain ⟨d, hd'⟩ : ∃ d, Try.prog.types.size = d + 1 := Nat.exists_eq_succ_of_ne_zero (Nat.ne_of_gt (Nat.lt_of_le_of_lt (Nat.zero_le _) fldRow))
  have hd : Try.prog.types.size + 1 = d + 2 := by rw [hd']
  have h3 : Try.prog.keyLits (Try.prog.types.size + 1) 26 [.string s, .int .i64 k] = some [.string s.data.toList, .int .i64 k] := by
    rw [hd]
    simp [Program.keyLits, Try.underlying26, Try.underlying9, Try.underlying3, show Try.prog.cellsOf 26 = 2 by kernel_rfl, show Try.prog.cellsOf 9 = 1 by kernel_rfl, show Try.prog.cellsOf 3 = 1 by kernel_rfl, hs, hk]
  unfold keyOf
  rw [Try.underlying26]
  simp only [h1, h2, Bool.and_self, if_true]
  show (Try.prog.keyLits (Try.prog.types.size + 1) 26 [.string s, .int .i64 k]).map _ = _
  rw [h3]; rfl
theorem plainElem_bool_inv {H : Type} {P : Program} {e : TypeId} (he : P.underlying e = some .bool) {v : Value} {z : DataW H × List MemPlace} (h : plainElem P e v = some z) : ∃ x, v = .bool x ∧ z = (.lit (.bool x), []) := by
  unfold plainElem at h
  rw [he] at h
  cases v <;> simp at h
  exact ⟨_, rfl, h.symm⟩
theorem fldKey_inj {s s' : ByteArray} {k k' : Int} (hs : s.size ≤ maxLen) (hk : (Lit.int .i64 k).wf = true) (hs' : s'.size ≤ maxLen) (hk' : (Lit.int .i64 k').wf = true) (h : fldKey s k = fldKey s' k') : s = s' ∧ k = k' := by
  have h1 := keyOf_fld hs hk
  rw [h] at h1
  have := fldLaw.inj h1 (keyOf_fld hs' hk')
  simpa using this

/-- Block b is a map of at most n entries that holds true at just the fields of l. -/
def MetAt (w : World) (b n : Nat) (l : List Fld) : Prop :=
  ∃ D : DataW Unit, w.ownsMap Try.prog 26 (plainElem Try.prog 4) b n D ∧ IsMap D ∧ (∀ x ∈ l, x.1.size ≤ maxLen ∧ (Lit.int .i64 x.2).wf = true) ∧
    ∀ s k, s.size ≤ maxLen → (Lit.int .i64 k).wf = true → ∃ B, D.atKey (fldKey s k) (.lit (.bool false)) = .lit (.bool B) ∧ (B = true ↔ (s, k) ∈ l)
theorem MetAt.made (w : World) : MetAt (w.alloc (.map #[] 0)) w.heap.size 0 [] :=
  ⟨.map [], World.ownsMap_made w _ _ _, ⟨_, rfl⟩, by simp, fun s k _ _ => ⟨false, rfl, by simp⟩⟩
theorem MetAt.kept {w w' : World} {b n : Nat} {l : List Fld} {row : Option Nat} (h : MetAt w b n l) (hg : w.grownBy w' row) (hne : some b ≠ row) : MetAt w' b n l := by
  obtain ⟨D, h1, h2⟩ := h
  exact ⟨D, h1.kept hg hne, h2⟩
theorem MetAt.later {w w' : World} {b n : Nat} {l : List Fld} (h : MetAt w b n l) (hb : Below w.heap.size w w') : MetAt w' b n l := by
  obtain ⟨D, ⟨es, clock, g1, g2⟩, h2⟩ := h
  exact ⟨D, ⟨es, clock, (hb.block b (Array.getElem?_eq_some_iff.1 g1).1).trans g1, g2⟩, h2⟩
theorem MetAt.lt {w : World} {b n : Nat} {l : List Fld} (h : MetAt w b n l) : b < w.heap.size := by
  obtain ⟨D, h1, _⟩ := h
  exact h1.lt
theorem MetAt.look {w : World} {b n : Nat} {l : List Fld} (h : MetAt w b n l) {s : ByteArray} {k : Int} (hs : s.size ≤ maxLen) (hk : (Lit.int .i64 k).wf = true) :
    ∃ B, (Instr.lookup 100 (.map (some b)) (.agg #[.string s, .int .i64 k]) false).run Try.prog w = .ok (.bool B) w ∧ (B = true ↔ (s, k) ∈ l) := by
  obtain ⟨D, h1, _, _, h4⟩ := h
  obtain ⟨v, ps, hr, hv⟩ := h1.lookup fldLaw Try.underlying100 (mapZero w) (plainElem_bool Try.underlying4 false) (keyOf_fld hs hk)
  obtain ⟨B, e, hB⟩ := h4 s k hs hk
  rw [e] at hv
  obtain ⟨x, rfl, hx⟩ := plainElem_bool_inv Try.underlying4 hv
  simp only [Prod.mk.injEq, DataW.lit.injEq, Lit.bool.injEq] at hx
  obtain ⟨rfl, _⟩ := hx
  exact ⟨_, hr, hB⟩
theorem MetAt.put {w : World} {b n : Nat} {l : List Fld} (h : MetAt w b n l) (hn : n < maxLen) {s : ByteArray} {k : Int} (hs : s.size ≤ maxLen) (hk : (Lit.int .i64 k).wf = true) :
    ∃ w', (Instr.mapUpdate 100 (.map (some b)) (.agg #[.string s, .int .i64 k]) (.bool true)).run Try.prog w = .ok () w' ∧ MetAt w' b (n + 1) ((s, k) :: l) ∧ w.grownBy w' (some b) := by
  obtain ⟨D, h1, h2, h3, h4⟩ := h
  obtain ⟨w', r, o, g⟩ := h1.update fldLaw Try.underlying100 hn (keyOf_fld hs hk) (plainElem_bool Try.underlying4 true)
  refine ⟨w', r, ⟨_, o, o.isMap, ?_, fun s' k' hs' hk' => ?_⟩, g⟩
  · intro x hx
    rcases List.mem_cons.1 hx with rfl | hx
    · exact ⟨hs, hk⟩
    · exact h3 x hx
  · by_cases he : fldKey s' k' = fldKey s k
    · obtain ⟨rfl, rfl⟩ := fldKey_inj hs' hk' hs hk he
      exact ⟨true, atKey_put_same h2 (fldLaw.key (keyOf_fld hs hk)) _ _, by simp⟩
    · obtain ⟨B, e, hB⟩ := h4 s' k' hs' hk'
      refine ⟨B, by rw [atKey_put_other he]; exact e, ?_⟩
      rw [hB, List.mem_cons]
      constructor
      · exact Or.inr
      · rintro (h | h)
        · simp only [Prod.mk.injEq] at h
          obtain ⟨rfl, rfl⟩ := h
          exact absurd rfl he
        · exact h
end Go.Proofs.Ytkmboffbohndjaa
