/- Layer 11: which fields are common, of what kind an expression is: mathematics. -/
import Derived.Test.YtkmboffbohndjaaQyM
import Derived.Test.YtkmboffbohndjaaStrmAl
namespace Go.Proofs.Ytkmboffbohndjaa
open Go.ChangeShapes Go.WideShapes Go.ChangeAt Go.RowKit
set_option linter.unusedVariables false
set_option linter.unusedSimpArgs false

def sameB (a b : ByteArray) : Bool := decide (a.data = b.data)
theorem sameB_iff {a b : ByteArray} : sameB a b = true ↔ a = b := by
  unfold sameB
  rw [decide_eq_true_eq]
  exact ⟨fun h => by cases a; cases b; simp at h; rw [h], fun h => by rw [h]⟩
def inF (f : Fld) (l : List Fld) : Bool := l.any (fun x => sameB x.1 f.1 && decide (x.2 = f.2))
theorem inF_iff {f : Fld} {l : List Fld} : inF f l = true ↔ f ∈ l := by
  unfold inF
  rw [List.any_eq_true]
  constructor
  · rintro ⟨x, hx, h⟩
    rw [Bool.and_eq_true, sameB_iff, decide_eq_true_eq] at h
    have : x = f := Prod.ext h.1 h.2
    rw [← this]; exact hx
  · intro h
    exact ⟨f, h, by rw [Bool.and_eq_true, sameB_iff, decide_eq_true_eq]; exact ⟨rfl, rfl⟩⟩
def allIn (f : Fld) (ls : List SF) : Bool := ls.all (fun s => inF f s.2)
/-- The fields of the first that all others have, too. -/
def commonF : List SF → List Fld
  | [] => []
  | s :: r => s.2.filter (fun f => allIn f (s :: r))
/-- How many streams, one behind the other from the first on, have a field. -/
def cntF (ls : List SF) (f : Fld) : Nat := (ls.takeWhile (fun s => inF f s.2)).length
theorem takeWhile_len {α : Type} (p : α → Bool) : ∀ l : List α, (l.takeWhile p).length ≤ l.length ∧ ((l.takeWhile p).length = l.length ↔ l.all p = true)
  | [] => by simp
  | x :: r => by
    obtain ⟨h1, h2⟩ := takeWhile_len p r
    cases hp : p x with
    | true => simp [List.takeWhile_cons, hp, h1]; simpa using h2
    | false => simp [List.takeWhile_cons, hp]
theorem cntF_le (ls : List SF) (f : Fld) : cntF ls f ≤ ls.length := (takeWhile_len _ ls).1
theorem cntF_all (ls : List SF) (f : Fld) : cntF ls f = ls.length ↔ allIn f ls = true := (takeWhile_len _ ls).2
theorem takeWhile_snoc {α : Type} (p : α → Bool) (x : α) : ∀ l : List α, ((l ++ [x]).takeWhile p).length = if l.all p = true then l.length + (if p x = true then 1 else 0) else (l.takeWhile p).length
  | [] => by cases h : p x <;> simp [List.takeWhile_cons, h]
  | y :: r => by
    have ih := takeWhile_snoc p x r
    cases hp : p y with
    | true =>
      simp only [List.cons_append, List.takeWhile_cons, hp, if_true, List.length_cons, List.all_cons, Bool.true_and]
      rw [ih]
      split
      · omega
      · rfl
    | false => simp [List.takeWhile_cons, hp]
theorem cntF_snoc (P : List SF) (n : ByteArray) (F : List Fld) (f : Fld) : cntF (P ++ [(n, F)]) f = if allIn f P = true then P.length + (if inF f F = true then 1 else 0) else cntF P f := takeWhile_snoc _ _ P
theorem cntF_begin (P : List SF) (n : ByteArray) (f : Fld) : cntF (P ++ [(n, [])]) f = cntF P f := by
  rw [cntF_snoc]
  split
  · rename_i h
    rw [(cntF_all P f).2 h]; simp [inF]
  · rfl
/-- One field more. -/
theorem cntF_step (P : List SF) (n : ByteArray) (F : List Fld) (g f : Fld) : cntF (P ++ [(n, F ++ [g])]) f = if f = g ∧ cntF (P ++ [(n, F)]) f = P.length then P.length + 1 else cntF (P ++ [(n, F)]) f := by
  rw [cntF_snoc, cntF_snoc]
  have hi : inF f (F ++ [g]) = true ↔ (inF f F = true ∨ f = g) := by
    rw [inF_iff, inF_iff, List.mem_append, List.mem_singleton]
  by_cases ha : allIn f P = true
  · rw [if_pos ha, if_pos ha]
    by_cases h1 : inF f F = true
    · rw [if_pos (hi.2 (Or.inl h1)), if_pos h1, if_neg (by omega)]
    · rw [if_neg h1]
      by_cases h2 : f = g
      · rw [if_pos (hi.2 (Or.inr h2)), if_pos ⟨h2, by omega⟩]
      · rw [if_neg (fun h => (hi.1 h).elim h1 h2), if_neg (fun h => h2 h.1)]
  · rw [if_neg ha, if_neg ha, if_neg]
    intro h
    exact ha ((cntF_all P f).1 h.2)
theorem commonF_eq {ls : List SF} {s : SF} {r : List SF} (h : ls = s :: r) : commonF ls = s.2.filter (fun f => decide (cntF ls f = ls.length)) := by
  subst h
  unfold commonF
  refine List.filter_congr (fun f _ => ?_)
  rw [Bool.eq_iff_iff, decide_eq_true_eq, cntF_all]
/-- What is known of a name. -/
def slotOf (l : List SF) (v : ByteArray) : Option (List Fld) := (l.find? (fun s => sameB s.1 v)).map (·.2)
def fieldK (l : List Fld) (f : ByteArray) : Option Int := (l.find? (fun x => sameB x.1 f)).map (·.2)
/-- The kind of a spot: a field's (true), or the variable's own. -/
def spotK (l : List SF) (v f : ByteArray) (b : Bool) : Option Int :=
  match slotOf l v with
  | none => none
  | some F => if b then fieldK F f else if sameB f ⟨#[]⟩ then some 1 else none
def told (o : Option Int) : Int × Int := match o with
  | some k => (k, 0)
  | none => (0, 5)
def unaryK (op : ByteArray) (k : Int) : Int × Int := if (sameB op ⟨#[45]⟩ && decide (k = 1)) || (sameB op ⟨#[33]⟩ && decide (k = 2)) then (k, 0) else (0, 6)
def binaryK (op : ByteArray) (a b : Int) : Int × Int :=
  if a ≠ b then (0, 6)
  else if sameB op ⟨#[124, 124]⟩ || sameB op ⟨#[38, 38]⟩ then (if a = 2 then (a, 0) else (0, 6))
  else if sameB op ⟨#[61, 61]⟩ || sameB op ⟨#[33, 61]⟩ || sameB op ⟨#[60]⟩ || sameB op ⟨#[60, 61]⟩ || sameB op ⟨#[62]⟩ || sameB op ⟨#[62, 61]⟩ then (2, 0)
  else if sameB op ⟨#[43]⟩ then (if a = 1 ∨ a = 3 then (a, 0) else (0, 6))
  else if a = 1 then (a, 0) else (0, 6)
/-- The kind of an expression's value; behind it what is wrong. -/
def kindT (l : List SF) : Tr → Int × Int
  | .lit k _ _ => (k, 0)
  | .ref v f => told (spotK l v f true)
  | .cnt v => told (spotK l v ⟨#[]⟩ false)
  | .un op x => if (kindT l x).2 ≠ 0 then (0, (kindT l x).2) else unaryK op (kindT l x).1
  | .bin op x y => if (kindT l x).2 ≠ 0 then (0, (kindT l x).2) else if (kindT l y).2 ≠ 0 then (0, (kindT l y).2) else binaryK op (kindT l x).1 (kindT l y).1
/-- The streams of those names; none, if one is not there. -/
def lookS (ls : List SF) : List ByteArray → Option (List SF)
  | [] => some []
  | s :: r => match ls.find? (fun y => sameB y.1 s), lookS ls r with
    | some y, some t => some (y :: t)
    | _, _ => none
def ofF (ls : List SF) (ss : List ByteArray) : List Fld := match lookS ls ss with
  | some t => commonF t
  | none => []
def atF (l : List Fld) (s : ByteArray) : Int := idxB (fun y : Fld => isN s y.1) l
/-- What a field by which a query goes must be. -/
def byE (by_ : ByteArray) (first own : List Fld) : Int :=
  if by_.size = 0 then 0 else match fieldK own by_ with
  | none => 5
  | some k => if fieldK first by_ = some k then 0 else 6
/-- What is wrong with predicates. -/
def predsE (l : List SF) : List Tr → Int
  | [] => 0
  | t :: r => if (kindT l t).2 ≠ 0 then (kindT l t).2 else if (kindT l t).1 ≠ 2 then 6 else predsE l r
def partE (ls : List SF) (q : Qy) (p : Pt) (ahead : List SF) : Int :=
  if lookS ls p.ss = none then 5
  else if byE q.by_ (match q.ps with | [] => [] | f :: _ => ofF ls f.ss) (ofF ls p.ss) ≠ 0 then byE q.by_ (match q.ps with | [] => [] | f :: _ => ofF ls f.ss) (ofF ls p.ss)
  else predsE (ahead ++ [(p.v, ofF ls p.ss)]) p.pd
/-- What is wrong with parts; which steps there are. -/
def partsE (ls : List SF) (q : Qy) : List Pt → List SF → List SF × Int
  | [], ahead => (ahead, 0)
  | p :: r, ahead => if partE ls q p ahead ≠ 0 then ([], partE ls q p ahead) else partsE ls q r (if p.nt then ahead else ahead ++ [(p.v, ofF ls p.ss)])
def outsE (steps : List SF) : List Ot → List Fld → List Fld × Int
  | [], F => (F, 0)
  | o :: r, F => if (kindT steps o.e).2 ≠ 0 then ([], (kindT steps o.e).2) else outsE steps r (F ++ [(o.f, (kindT steps o.e).1)])
/-- What Check tells: a stream, and what is wrong. -/
noncomputable def checkE (ls : List SF) (q : Qy) : SF × Int :=
  if allN ls ≠ 0 then ((⟨#[]⟩, []), allN ls)
  else if queryB q = false then ((⟨#[]⟩, []), 1)
  else if 0 ≤ atS q.nm ls then ((⟨#[]⟩, []), 11)
  else if (partsE ls q q.ps []).2 ≠ 0 then ((⟨#[]⟩, []), (partsE ls q q.ps []).2)
  else if (outsE (partsE ls q q.ps []).1 q.os []).2 ≠ 0 then ((⟨#[]⟩, []), (outsE (partsE ls q q.ps []).1 q.os []).2)
  else ((q.nm, (outsE (partsE ls q q.ps []).1 q.os []).1), 0)
end Go.Proofs.Ytkmboffbohndjaa
