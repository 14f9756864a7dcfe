/- What Get gets: the words. -/
import Derived.Test.YtdpgdpfalfiijaaDoorStrmG
namespace Go.Proofs.YtdpgdpfalfiijaaDoor
open Go.ChangeShapes Go.WideShapes Go.ChangeAt Go.RowKit
set_option linter.unusedVariables false
set_option linter.unusedSimpArgs false

/-- A list of fields, cell by cell. -/
def cells2 (l : List Fld) : List Value := l.flatMap fun x => [.string x.1, .int .i64 x.2]
theorem cells2_snoc (l : List Fld) (x : Fld) : cells2 (l ++ [x]) = cells2 l ++ [.string x.1, .int .i64 x.2] := by simp [cells2]
theorem cells2_at : ∀ (l : List Fld) (j : Nat) (h : j < l.length), (cells2 l)[j * 2]? = some (.string (l[j]'h).1) ∧ (cells2 l)[j * 2 + 1]? = some (.int .i64 (l[j]'h).2)
  | x :: l, 0, h => ⟨rfl, rfl⟩
  | x :: l, j + 1, h => by
    have ih := cells2_at l j (by simpa using h)
    have e : cells2 (x :: l) = .string x.1 :: .int .i64 x.2 :: cells2 l := rfl
    rw [e, show (j + 1) * 2 = j * 2 + 1 + 1 by omega]
    simp only [List.getElem?_cons_succ, List.getElem_cons_succ]
    exact ih
/-- A slice of fields in memory of the call's own, from block base on. -/
def NewF (base : Nat) (w : World) (v : Value) (l : List Fld) : Prop := w.ownsRow base 60 2 v l.length (cells2 l)
theorem NewF.rows {w : World} {base : Nat} {v : Value} {l : List Fld} (h : NewF base w v l) : RowsAt rowF w v l := by
  rcases h.2 with ⟨rfl, h0⟩ | ⟨g, cap, cur, rfl, h1, h2, h3, h4, h5, h6⟩
  · have := List.length_eq_zero_iff.1 h0
    subst this
    exact RowsAt.nil rowF w
  · refine ⟨some ⟨g, 0, none⟩, cap, rfl, h3, h4, fun h0 => ⟨_, rfl, fun j hj => ?_⟩⟩
    have hc := World.ownsRow.cellAt h
    obtain ⟨a0, a1⟩ := cells2_at l j hj
    unfold Row2
    rw [addr_pl]
    simp only [Nat.zero_add]
    exact ⟨by rw [hc _ (by omega)]; exact a0, by rw [hc _ (by omega)]; exact a1⟩
theorem NewF.nil (base : Nat) (w : World) : NewF base w (.slice none 0 0) [] := World.ownsRow_nil _ _ _ _
theorem NewF.later {base : Nat} {w w' : World} {v : Value} {l : List Fld} (h : NewF base w v l) (hb : Below w.heap.size w w') : NewF base w' v l := ownsRow_later h hb
theorem NewF.far {base : Nat} {w : World} {v : Value} {l : List Fld} (h : NewF base w v l) {p : Addr} (hp : p.block < base) (u : Value) : NewF base (w.setCell p u) v l := ownsRow_far h hp u
theorem NewF.put2 {base : Nat} {w : World} {v : Value} {l : List Fld} (h : NewF base w v l) {g : Nat} (hp : g < base) (x y : Value) : NewF base ((w.setCell ⟨g, 0, none⟩ x).setCell ⟨g, 1, none⟩ y) v l := (h.far (p := ⟨g, 0, none⟩) hp x).far (p := ⟨g, 1, none⟩) hp y
theorem NewF.weak {base base' : Nat} {w : World} {v : Value} {l : List Fld} (h : NewF base w v l) (hb : base' ≤ base) : NewF base' w v l := by
  refine ⟨h.1, ?_⟩
  rcases h.2 with h0 | ⟨g, cap, cur, rfl, h1, h2⟩
  · exact Or.inl h0
  · exact Or.inr ⟨g, cap, cur, rfl, by omega, h2⟩
theorem NewF.shape {base : Nat} {w : World} {v : Value} {l : List Fld} (h : NewF base w v l) : ∃ A c, v = .slice A l.length c := by
  rcases h.2 with ⟨rfl, h0⟩ | ⟨g, cap, cur, rfl, _⟩
  · exact ⟨none, 0, by rw [h0]⟩
  · exact ⟨_, _, rfl⟩
theorem field_info : (Tryd.prog.info? 60).map (fun i => (i.zero, i.size, i.bytes)) = some (some (.agg #[.string ⟨#[]⟩, .int .i64 0]), 2, 24) := by kernel_rfl
/-- A new block of one field. -/
theorem two_new (w : World) (x y : Value) (ty : TypeId) : ∀ j u, [x, y][j]? = some u → (w.alloc (.cells #[x, y] ty)).cell? ((⟨w.heap.size, 0, none⟩ : Addr).add j) = some u := by
  intro j u h
  rw [addr_pl, World.cell?_alloc_new, Nat.zero_add]
  match j, h with
  | 0, h => exact h
  | 1, h => exact h
  | j + 2, h => simp at h
theorem two_one (x : ByteArray) (y : Int) : ∀ u ∈ [Value.string x, Value.int .i64 y], u.oneCell' = true := by
  intro u hu
  simp only [List.mem_cons, List.not_mem_nil, or_false] at hu
  rcases hu with rfl | rfl <;> rfl

def cutB (s sep : ByteArray) : ByteArray × ByteArray × Bool := (⟨(Lib.cut s.data.toList sep.data.toList).1.toArray⟩, ⟨(Lib.cut s.data.toList sep.data.toList).2.1.toArray⟩, (Lib.cut s.data.toList sep.data.toList).2.2)
theorem size_arr (l : List UInt8) : (⟨l.toArray⟩ : ByteArray).size = l.length := by show l.toArray.size = _; simp
theorem cutB_size (s sep : ByteArray) : (cutB s sep).1.size ≤ s.size ∧ (cutB s sep).2.1.size ≤ s.size := by
  unfold cutB
  simp only [size_arr]
  unfold Lib.cut
  have : s.data.toList.length = s.size := by simp
  split
  · simp only [List.length_take, List.length_drop]; omega
  · simp only [List.length_nil]; omega
theorem Cut_any (s sep : ByteArray) (m : Int) (w : World) (hs : s.size < 4294967281) (hm : w.cell? ⟨0, 0, none⟩ = some (.int .i64 m)) :
    Calls Tryd.prog 30 #[.string s, .string sep] w fun e w' => e = .returned (.tuple #[.string (cutB s sep).1, .string (cutB s sep).2.1, .bool (cutB s sep).2.2]) ∧ Below w.heap.size w w' :=
  (Tryd.strings_Cut s sep m w hs hm).mono fun e w' ⟨h1, n, h2⟩ => ⟨h1, by rw [h2]; exact below_drewN (Below.refl _ _) n⟩
def sufB (s p : ByteArray) : ByteArray × Bool := (⟨(Lib.trimSuffix s.data.toList p.data.toList).toArray⟩, Lib.hasSuffix s.data.toList p.data.toList)
theorem sufB_size (s p : ByteArray) : (sufB s p).1.size ≤ s.size := by
  unfold sufB
  simp only [size_arr]
  unfold Lib.trimSuffix
  have : s.data.toList.length = s.size := by simp
  split
  · simp only [List.length_take]; omega
  · omega
theorem Suf_any (s p : ByteArray) (w : World) (hs : s.size ≤ 9223372036854775807) :
    Calls Tryd.prog 31 #[.string s, .string p] w fun e w' => e = .returned (.tuple #[.string (sufB s p).1, .bool (sufB s p).2]) ∧ w = w' :=
  (Tryd.strings_CutSuffix s p w hs).mono fun e w' ⟨h1, h2⟩ => ⟨h1, h2.symm⟩
/-- The pieces between the commas. -/
def parts (s : ByteArray) : List ByteArray := Lib.splitB ⟨#[44]⟩ 0 (Lib.countB s ⟨#[44]⟩) s
def fieldOf (p : ByteArray) : Fld := ((cutB p ⟨#[58]⟩).1, kindOfN (cutB p ⟨#[58]⟩).2.1)
def getF (s : ByteArray) : List Fld := if s.size = 0 then [] else (parts s).map fieldOf
def getN (S : ByteArray) : Option (ByteArray × List Fld) :=
  if (cutB S ⟨#[40]⟩).2.2 = false then none else if (sufB (cutB S ⟨#[40]⟩).2.1 ⟨#[41]⟩).2 = false then none else
    if rightN (cutB S ⟨#[40]⟩).1 (getF (sufB (cutB S ⟨#[40]⟩).2.1 ⟨#[41]⟩).1) = 0 then some ((cutB S ⟨#[40]⟩).1, getF (sufB (cutB S ⟨#[40]⟩).2.1 ⟨#[41]⟩).1) else none
theorem kindOfN_bd (s : ByteArray) : 0 ≤ kindOfN s ∧ kindOfN s ≤ 3 := by unfold kindOfN; split; omega; split; omega; split <;> omega
theorem splitB_le (sep : ByteArray) : ∀ (k : Nat) (s : ByteArray), ∀ p ∈ Lib.splitB sep 0 k s, p.size ≤ s.size
  | 0, s, p, h => by rw [Lib.splitB_zero] at h; simp at h; rw [h]; exact Nat.le_refl _
  | k + 1, s, p, h => by
    unfold Lib.splitB at h
    split at h
    · simp at h; rw [h]; exact Nat.le_refl _
    · rcases List.mem_cons.1 h with rfl | h
      · rw [ByteArray.size_extract]; omega
      · have := splitB_le sep k _ p h
        rw [ByteArray.size_extract] at this; omega
theorem fieldOf_ok {p : ByteArray} (hp : p.size ≤ maxLen) : (fieldOf p).1.size ≤ maxLen ∧ (Lit.int .i64 (fieldOf p).2).wf = true := by
  have := (cutB_size p ⟨#[58]⟩).1
  have := kindOfN_bd (cutB p ⟨#[58]⟩).2.1
  exact ⟨by unfold fieldOf; simp only; omega, WalkArith.wf_i64 (by unfold fieldOf; simp only; omega)⟩
theorem getF_ok {s : ByteArray} (hs : s.size ≤ maxLen) : OkF (getF s) := by
  unfold getF
  split
  · intro x hx; simp at hx
  · intro x hx
    obtain ⟨p, hp, rfl⟩ := List.mem_map.1 hx
    exact fieldOf_ok (Nat.le_trans (splitB_le _ _ _ p hp) hs)
end Go.Proofs.YtdpgdpfalfiijaaDoor
