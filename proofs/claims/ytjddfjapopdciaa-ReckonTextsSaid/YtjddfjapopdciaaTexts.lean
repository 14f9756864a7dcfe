/- ReckonTexts: two texts without quotes; what their sum tells. -/
import Derived.Test.YtjddfjapopdciaaEx08
import Derived.Test.YtjddfjapopdciaaBuf
import Derived.Lib.IndexAny
import Derived.OwnWalk
namespace Go.Proofs.Ytjddfjapopdciaa
open Go.ChangeShapes Go.WideShapes Go.ChangeAt Go.RowKit
open Rk (inR)
set_option linter.unusedVariables false
set_option linter.unusedSimpArgs false

/-- A byte, as a slice of bytes has it. -/
def byF (c : UInt8) : List Value := [.int .u8 (c.toNat : Int)]
theorem own_bytes {w : World} {v : Value} {l : List UInt8} (h : At w 1 byF v l) : BytesAt w v l := by
  obtain ⟨A, cap, rfl, h1, h2, h3, h4⟩ := h
  cases A with
  | none =>
    have := h3 rfl
    obtain rfl : l = [] := List.eq_nil_of_length_eq_zero (by omega)
    subst this
    exact Or.inl ⟨rfl, rfl⟩
  | some a => exact Or.inr ⟨a, cap, rfl, h1, h2, fun j hj => by have := h4 a rfl j hj 0 _ rfl; rwa [Nat.mul_one, Nat.add_zero] at this⟩
theorem string_of (w : World) (v : Value) (l : List UInt8) (h : BytesAt w v l) :
    (convert 27 9 v).run Try.prog w = .ok (.string ⟨l.toArray⟩) w := by
  rcases h with ⟨rfl, rfl⟩ | ⟨a, cap, rfl, _, _, hc⟩
  · exact run_convert_bytes_nil (P := Try.prog) w 27 5 Try.underlying27 Try.underlying5 0 0 9 Try.underlying9
  · exact run_convert_bytes_back (P := Try.prog) w 27 9 5 a cap l Try.underlying27 Try.underlying5 Try.underlying9 hc
/-- A text that may stand between quotes. -/
def Plain (l : List UInt8) : Prop := l.length ≤ 64 ∧ (39 : UInt8) ∉ l
theorem Plain.nil : Plain [] := ⟨Nat.zero_le _, by simp⟩
abbrev txt (l : List UInt8) : ByteArray := ⟨l.toArray⟩
abbrev litT (l : List UInt8) : Tr := .lit 3 0 (txt l)
theorem Plain.ok {l : List UInt8} (h : Plain l) : (litT l).ok = true := by
  unfold Tr.ok
  have h1 : Val.right 3 0 (txt l) = true := by
    unfold Val.right
    rw [if_neg (by decide), if_neg (by decide), if_pos rfl]
    have : (txt l).size = l.length := by simp [ByteArray.size]
    simp only [Bool.and_eq_true, decide_eq_true_eq]
    rw [this]; exact ⟨trivial, h.1⟩
  have h2 : decide (0 ≤ Lib.indexByte (txt l).data.toList 39) = false := by
    rw [← Lib.contains_iff_indexByte]
    simpa using h.2
  rw [h1, h2]; rfl
abbrev sumT (X Y : List UInt8) : Tr := .bin bPl (litT X) (litT Y)
theorem sumT_ok {X Y : List UInt8} (hX : Plain X) (hY : Plain Y) : (sumT X Y).ok = true := by
  show (decide (0 < lvl bPl) && (litT X).ok && (litT Y).ok) = true
  rw [hX.ok, hY.ok, show decide (0 < lvl bPl) = true by kernel_rfl]; rfl
theorem sumT_eval (X Y : List UInt8) : evalT [] (sumT X Y) = if X.length + Y.length ≤ 64 then some (3, 0, txt X ++ txt Y) else none := by
  have e : evalT [] (sumT X Y) = if (bPl.toList = [38, 38] ∧ ((3, 0, txt X) : V3) = tv false) ∨ (bPl.toList = [124, 124] ∧ ((3, 0, txt X) : V3) = tv true) then some (3, 0, txt X) else binaryM bPl (3, 0, txt X) (3, 0, txt Y) := rfl
  have hp : bPl.toList = [43] := by kernel_rfl
  rw [e, if_neg (by rw [hp]; rintro (⟨h, _⟩ | ⟨h, _⟩) <;> revert h <;> decide)]
  unfold binaryM
  rw [if_neg (by simp), if_neg (by rw [hp]; decide), if_neg (by rw [hp]; decide), if_neg (by rw [hp]; decide), if_neg (by rw [hp]; decide), if_pos ⟨hp, rfl⟩]
  have h1 : (txt X).size = X.length := by simp [ByteArray.size]
  have h2 : (txt Y).size = Y.length := by simp [ByteArray.size]
  show (if (txt X).size + (txt Y).size ≤ 64 then _ else _) = _
  rw [h1, h2]
theorem two_texts (X Y : List UInt8) (W : World) : Calls Try.prog 32 #[.string ⟨#[43]⟩, ev 0 e0 3 0 (txt X) e0 e0 nilk, ev 0 e0 3 0 (txt Y) e0 e0 nilk] W fun e w' => IsTr (sumT X Y) e w' ∧ Below W.heap.size W w' := two_tr bPl (litT X) (litT Y) nilk nilk W rfl rfl
theorem Reckon_yes (X Y : List UInt8) (K : Value) (W : World) (hX : Plain X) (hY : Plain Y) (hl : X.length + Y.length ≤ 64) (h : TrAt W (sumT X Y) K) : Calls Try.prog 14 #[(sumT X Y).val K, .slice none 0 0] W fun e w' => e = .returned (.tuple #[v3 (3, 0, txt X ++ txt Y), .bool true]) ∧ Below W.heap.size W w' := by
  have := Reckon_tr (sumT X Y) K (.slice none 0 0) [] W h (sumT_ok hX hY) ⟨by show inR 0; decide, by show inR 0; decide⟩ (BdsAt.nil W) (fun b hb => by simp at hb)
  rw [sumT_eval, if_pos hl] at this; exact this
theorem Reckon_no (X Y : List UInt8) (K : Value) (W : World) (hX : Plain X) (hY : Plain Y) (hl : ¬ X.length + Y.length ≤ 64) (h : TrAt W (sumT X Y) K) : Calls Try.prog 14 #[(sumT X Y).val K, .slice none 0 0] W fun e w' => e = .returned (.tuple #[v3 (0, 0, mt), .bool false]) ∧ Below W.heap.size W w' := by
  have := Reckon_tr (sumT X Y) K (.slice none 0 0) [] W h (sumT_ok hX hY) ⟨by show inR 0; decide, by show inR 0; decide⟩ (BdsAt.nil W) (fun b hb => by simp at hb)
  rw [sumT_eval, if_neg hl] at this; exact this
theorem new_cells {w : World} {g : Nat} (hg : g = w.heap.size) (t : TypeId) (cs : Array Value) : ∀ j u, cs.toList[j]? = some u → (w.alloc (.cells cs t)).cell? ((⟨g, 0, none⟩ : Addr).add j) = some u := by
  subst hg
  exact blk_cells (Blk.new w t cs)
theorem cell_at {w w' : World} {a : Addr} {v : Value} (h : w.cell? a = some v) (hb : Below w.heap.size w w') : w'.cell? a = some v := by rw [hb.cell (World.block_lt_of_cell? w _ h)]; exact h
theorem flat_by (l : List UInt8) : l.flatMap byF = l.map (fun c : UInt8 => Value.int .u8 (c.toNat : Int)) := by
  induction l with
  | nil => rfl
  | cons a l ih => rw [List.flatMap_cons, List.map_cons, ih]; rfl
theorem own_made {w : World} {base m : Nat} {e : TypeId} {v : Value} (h : w.ownsRow base e 1 v m (madeCells (Value.int .u8 0).cells (m * 1)).toList) : Own w base e 1 byF v (List.replicate m 0) := by
  unfold Own
  rw [flat_by, List.length_replicate, List.map_replicate]
  rw [show (Value.int .u8 0).cells = #[.int .u8 0] from rfl, toList_madeCells_one, Nat.mul_one] at h
  exact h
theorem Own.stored {w : World} {base : Nat} {e : TypeId} {g n cap : Nat} {l : List UInt8} (h : Own w base e 1 byF (.slice (some ⟨g, 0, none⟩) n cap) l) (j : Nat) (c : UInt8) :
    Own (w.setCell ⟨g, j, none⟩ (.int .u8 (c.toNat : Int))) base e 1 byF (.slice (some ⟨g, 0, none⟩) n cap) (l.set j c) ∧ w.grownBy (w.setCell ⟨g, j, none⟩ (.int .u8 (c.toNat : Int))) (some g) := by
  obtain ⟨A, c', hv, _⟩ := h.shape
  simp only [Value.slice.injEq] at hv
  obtain ⟨_, hn, _⟩ := hv
  subst hn
  have e2 : (l.set j c).flatMap byF = (l.flatMap byF).set j (.int .u8 (c.toNat : Int)) := by
    rw [flat_by, flat_by, List.map_set]
  have := World.ownsRow.stored h j (.int .u8 (c.toNat : Int))
  refine ⟨?_, this.2⟩
  unfold Own
  rw [e2, List.length_set]
  exact this.1
theorem Plain.more {l : List UInt8} (h : Plain l) {c : UInt8} (hc : ¬ c.toNat = 39) (hl : l.length < 64) : Plain (l ++ [c]) := by
  refine ⟨by simp; omega, ?_⟩
  intro hm
  rcases List.mem_append.1 hm with h1 | h1
  · exact h.2 h1
  · obtain rfl : (39 : UInt8) = c := by simpa using h1
    exact hc rfl
theorem Plain.put {l : List UInt8} (h : Plain l) (k : Nat) : Plain (l.set k 121) := by
  refine ⟨by simpa using h.1, fun hm => ?_⟩
  rcases List.mem_or_eq_of_mem_set hm with h1 | h1
  · exact h.2 h1
  · exact absurd h1 (by decide)
theorem Plain.zeros {n : Nat} (h : n ≤ 64) : Plain (List.replicate n 0) := ⟨by simpa using h, fun hm => by have := List.eq_of_mem_replicate hm; exact absurd this (by decide)⟩
end Go.Proofs.Ytjddfjapopdciaa
