/- Layer 9: queries as trees, and how they lie in memory. -/
import Derived.Test.YtkmboffbohndjaaTree
import Derived.Test.YtkmboffbohndjaaTreeR
import Derived.Test.YtkmboffbohndjaaCells2
namespace Go.Proofs.Ytkmboffbohndjaa
open Go.ChangeShapes Go.WideShapes Go.ChangeAt Go.RowKit
set_option linter.unusedVariables false
set_option linter.unusedSimpArgs false

abbrev scV (s : ByteArray) : List Value := [.string s]
/-- An expression in a row. -/
abbrev exF (x : Tr × Value) : List Value := [.int .i64 (x.1.node x.2).1, .string (x.1.node x.2).2.1, .int .i64 (x.1.node x.2).2.2.1, .int .i64 (x.1.node x.2).2.2.2.1, .string (x.1.node x.2).2.2.2.2.1, .string (x.1.node x.2).2.2.2.2.2.1, .string (x.1.node x.2).2.2.2.2.2.2.1, (x.1.node x.2).2.2.2.2.2.2.2]
/-- A row of expressions. -/
def ExsAt (w : World) (v : Value) (l : List Tr) : Prop := ∃ r : List (Tr × Value), At w 8 exF v r ∧ r.map (·.1) = l ∧ ∀ x ∈ r, TrAt w x.1 x.2
theorem ExsAt.later {w w' : World} {v : Value} {l : List Tr} (h : ExsAt w v l) (hb : Below w.heap.size w w') : ExsAt w' v l := by
  obtain ⟨r, h1, h2, h3⟩ := h
  exact ⟨r, h1.later hb, h2, fun x hx => (h3 x hx).later hb⟩
structure Pt where
  nt : Bool
  pl : Bool
  ss : List ByteArray
  v : ByteArray
  pd : List Tr
structure Ot where
  f : ByteArray
  e : Tr
structure Qy where
  nm : ByteArray
  st : Bool
  ps : List Pt
  wi : Int
  by_ : ByteArray
  os : List Ot
/-- A Part in a row: where its streams, its Pred lie. -/
abbrev Px := Pt × SV × SV
abbrev ptF (x : Px) : List Value := [.bool x.1.nt, .bool x.1.pl, sl x.2.1, .string x.1.v, sl x.2.2]
def PxAt (w : World) (x : Px) : Prop := At w 1 scV (sl x.2.1) x.1.ss ∧ ExsAt w (sl x.2.2) x.1.pd ∧ x.1.v.size ≤ maxLen ∧ ∀ s ∈ x.1.ss, s.size ≤ maxLen
theorem PxAt.later {w w' : World} {x : Px} (h : PxAt w x) (hb : Below w.heap.size w w') : PxAt w' x := ⟨h.1.later hb, h.2.1.later hb, h.2.2⟩
def PtsAt (w : World) (v : Value) (l : List Pt) : Prop := ∃ r : List Px, At w 5 ptF v r ∧ r.map (·.1) = l ∧ ∀ x ∈ r, PxAt w x
theorem PtsAt.later {w w' : World} {v : Value} {l : List Pt} (h : PtsAt w v l) (hb : Below w.heap.size w w') : PtsAt w' v l := by
  obtain ⟨r, h1, h2, h3⟩ := h
  exact ⟨r, h1.later hb, h2, fun x hx => (h3 x hx).later hb⟩
/-- An Output in a row. -/
abbrev Ox := Ot × Value
abbrev otF (x : Ox) : List Value := .string x.1.f :: exF (x.1.e, x.2)
def OtsAt (w : World) (v : Value) (l : List Ot) : Prop := ∃ r : List Ox, At w 9 otF v r ∧ r.map (·.1) = l ∧ ∀ x ∈ r, TrAt w x.1.e x.2 ∧ x.1.f.size ≤ maxLen
theorem OtsAt.later {w w' : World} {v : Value} {l : List Ot} (h : OtsAt w v l) (hb : Below w.heap.size w w') : OtsAt w' v l := by
  obtain ⟨r, h1, h2, h3⟩ := h
  exact ⟨r, h1.later hb, h2, fun x hx => ⟨(h3 x hx).1.later hb, (h3 x hx).2⟩⟩
def QyAt (w : World) (pv ov : Value) (q : Qy) : Prop := PtsAt w pv q.ps ∧ OtsAt w ov q.os ∧ q.nm.size ≤ maxLen ∧ q.by_.size ≤ maxLen
theorem QyAt.later {w w' : World} {pv ov : Value} {q : Qy} (h : QyAt w pv ov q) (hb : Below w.heap.size w w') : QyAt w' pv ov q := ⟨h.1.later hb, h.2.1.later hb, h.2.2⟩
/-- A query as a value that is handed on. -/
abbrev qv (q : Qy) (pv ov : Value) : Value := .agg #[.string q.nm, .bool q.st, pv, .int .i64 q.wi, .string q.by_, ov]
theorem PtsAt.shape {w : World} {v : Value} {l : List Pt} (h : PtsAt w v l) : ∃ A c, v = .slice A l.length c ∧ l.length ≤ c ∧ c ≤ maxLen := by
  obtain ⟨r, h1, h2, _⟩ := h
  obtain ⟨A, c, hv, h3, h4, _⟩ := h1.shape
  rw [← h2, List.length_map]
  exact ⟨A, c, hv, h3, h4⟩
theorem OtsAt.shape {w : World} {v : Value} {l : List Ot} (h : OtsAt w v l) : ∃ A c, v = .slice A l.length c ∧ l.length ≤ c ∧ c ≤ maxLen := by
  obtain ⟨r, h1, h2, _⟩ := h
  obtain ⟨A, c, hv, h3, h4, _⟩ := h1.shape
  rw [← h2, List.length_map]
  exact ⟨A, c, hv, h3, h4⟩
theorem ExsAt.shape {w : World} {v : Value} {l : List Tr} (h : ExsAt w v l) : ∃ A c, v = .slice A l.length c ∧ l.length ≤ c ∧ c ≤ maxLen := by
  obtain ⟨r, h1, h2, _⟩ := h
  obtain ⟨A, c, hv, h3, h4, _⟩ := h1.shape
  rw [← h2, List.length_map]
  exact ⟨A, c, hv, h3, h4⟩
open Classical in
/-- Which streams are met in some Parts, each once, in their order. -/
noncomputable def inPut (l : List ByteArray) (s : ByteArray) : List ByteArray := if s ∈ l then l else l ++ [s]
noncomputable def inputs (ps : List Pt) : List ByteArray := ps.foldl (fun l p => p.ss.foldl inPut l) []
theorem inPut_nodup {l : List ByteArray} {s : ByteArray} (h : l.Nodup) : (inPut l s).Nodup := by
  unfold inPut
  split
  · exact h
  · rename_i hs
    rw [List.nodup_append]
    exact ⟨h, by simp, fun a ha b hb e => hs (by simp at hb; rw [← hb, ← e]; exact ha)⟩
def waits (ps : List Pt) : Bool := match ps.getLast? with
  | some p => p.nt
  | none => false
open Classical in
/-- Are these names, none twice? -/
noncomputable def namesB (l : List ByteArray) : Bool := l.all nameB && decide l.Nodup
noncomputable def partB (p : Pt) : Bool := decide (1 ≤ p.ss.length) && decide (p.ss.length ≤ 4) && !(p.nt && p.pl) && decide (p.pd.length ≤ 1) && p.pd.all Tr.ok && namesB p.ss
noncomputable def partsB (st : Bool) (ps : List Pt) : Bool := decide (1 ≤ ps.length) && decide (ps.length ≤ 8) && !(ps.head?.map (·.nt)).getD false && !(st && ps.any (·.nt)) && ps.all partB && namesB (ps.map (·.v))
noncomputable def outsB (os : List Ot) : Bool := decide (os.length ≤ 6) && os.all (·.e.ok) && namesB (os.map (·.f))
noncomputable def queryB (q : Qy) : Bool := nameB q.nm && decide (0 ≤ q.wi) && decide (q.wi ≤ 1000000) && (decide (q.by_.size = 0) || nameB q.by_) && partsB q.st q.ps && outsB q.os
end Go.Proofs.Ytkmboffbohndjaa
