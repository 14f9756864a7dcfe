/- Texts that several proofs stand on, part 21. -/
import Derived.Test.YtenmbahfgfmjjaaDoorQ5
import Derived.Test.YtenmbahfgfmjjaaDoorQ7
import Derived.Maps.Own
import Derived.Maps.Views
import Derived.Maps.OwnSet
import Derived.StringKeys
import Derived.Laws.CopyOwn
import Derived.Lib.AppendZerosOnto
import Derived.Lib.Overlaps
namespace Go.Proofs.YtenmbahfgfmjjaaDoor
open Go.ChangeShapes Go.WideShapes Go.ChangeAt Go.RowKit
set_option linter.unusedVariables false
set_option linter.unusedSimpArgs false

abbrev scV (s : ByteArray) : List Value := [.string s]
/-- An expression in a row. -/
abbrev exF (x : Tr × Value) : List Value := [.int .i64 (x.1.node x.2).1, .string (x.1.node x.2).2.1, .int .i64 (x.1.node x.2).2.2.1, .int .i64 (x.1.node x.2).2.2.2.1, .string (x.1.node x.2).2.2.2.2.1, .string (x.1.node x.2).2.2.2.2.2.1, .string (x.1.node x.2).2.2.2.2.2.2.1, (x.1.node x.2).2.2.2.2.2.2.2]
/-- A row of expressions. -/
def ExsAt (w : World) (v : Value) (l : List Tr) : Prop := ∃ r : List (Tr × Value), At w 8 exF v r ∧ r.map (·.1) = l ∧ ∀ x ∈ r, TrAt w x.1 x.2
theorem ExsAt.later {w w' : World} {v : Value} {l : List Tr} (h : ExsAt w v l) (hb : Below w.heap.size w w') : ExsAt w' v l := by
  obtain ⟨r, h1, h2, h3⟩ := h
  exact ⟨r, h1.later hb, h2, fun x hx => (h3 x hx).later hb⟩
structure Pt where
  nt : Bool
  pl : Bool
  ss : List ByteArray
  v : ByteArray
  pd : List Tr
structure Ot where
  f : ByteArray
  e : Tr
structure Qy where
  nm : ByteArray
  st : Bool
  ps : List Pt
  wi : Int
  by_ : ByteArray
  os : List Ot
/-- A Part in a row: where its streams, its Pred lie. -/
abbrev Px := Pt × SV × SV
abbrev ptF (x : Px) : List Value := [.bool x.1.nt, .bool x.1.pl, sl x.2.1, .string x.1.v, sl x.2.2]
def PxAt (w : World) (x : Px) : Prop := At w 1 scV (sl x.2.1) x.1.ss ∧ ExsAt w (sl x.2.2) x.1.pd ∧ x.1.v.size ≤ maxLen ∧ ∀ s ∈ x.1.ss, s.size ≤ maxLen
theorem PxAt.later {w w' : World} {x : Px} (h : PxAt w x) (hb : Below w.heap.size w w') : PxAt w' x := ⟨h.1.later hb, h.2.1.later hb, h.2.2⟩
def PtsAt (w : World) (v : Value) (l : List Pt) : Prop := ∃ r : List Px, At w 5 ptF v r ∧ r.map (·.1) = l ∧ ∀ x ∈ r, PxAt w x
theorem PtsAt.later {w w' : World} {v : Value} {l : List Pt} (h : PtsAt w v l) (hb : Below w.heap.size w w') : PtsAt w' v l := by
  obtain ⟨r, h1, h2, h3⟩ := h
  exact ⟨r, h1.later hb, h2, fun x hx => (h3 x hx).later hb⟩
/-- An Output in a row. -/
abbrev Ox := Ot × Value
abbrev otF (x : Ox) : List Value := .string x.1.f :: exF (x.1.e, x.2)
def OtsAt (w : World) (v : Value) (l : List Ot) : Prop := ∃ r : List Ox, At w 9 otF v r ∧ r.map (·.1) = l ∧ ∀ x ∈ r, TrAt w x.1.e x.2 ∧ x.1.f.size ≤ maxLen
theorem OtsAt.later {w w' : World} {v : Value} {l : List Ot} (h : OtsAt w v l) (hb : Below w.heap.size w w') : OtsAt w' v l := by
  obtain ⟨r, h1, h2, h3⟩ := h
  exact ⟨r, h1.later hb, h2, fun x hx => ⟨(h3 x hx).1.later hb, (h3 x hx).2⟩⟩
def QyAt (w : World) (pv ov : Value) (q : Qy) : Prop := PtsAt w pv q.ps ∧ OtsAt w ov q.os ∧ q.nm.size ≤ maxLen ∧ q.by_.size ≤ maxLen
theorem QyAt.later {w w' : World} {pv ov : Value} {q : Qy} (h : QyAt w pv ov q) (hb : Below w.heap.size w w') : QyAt w' pv ov q := ⟨h.1.later hb, h.2.1.later hb, h.2.2⟩
/-- A query as a value that is handed on. -/
abbrev qv (q : Qy) (pv ov : Value) : Value := .agg #[.string q.nm, .bool q.st, pv, .int .i64 q.wi, .string q.by_, ov]
theorem PtsAt.shape {w : World} {v : Value} {l : List Pt} (h : PtsAt w v l) : ∃ A c, v = .slice A l.length c ∧ l.length ≤ c ∧ c ≤ maxLen := by
  obtain ⟨r, h1, h2, _⟩ := h
  obtain ⟨A, c, hv, h3, h4, _⟩ := h1.shape
  rw [← h2, List.length_map]
  exact ⟨A, c, hv, h3, h4⟩
theorem OtsAt.shape {w : World} {v : Value} {l : List Ot} (h : OtsAt w v l) : ∃ A c, v = .slice A l.length c ∧ l.length ≤ c ∧ c ≤ maxLen := by
  obtain ⟨r, h1, h2, _⟩ := h
  obtain ⟨A, c, hv, h3, h4, _⟩ := h1.shape
  rw [← h2, List.length_map]
  exact ⟨A, c, hv, h3, h4⟩
theorem ExsAt.shape {w : World} {v : Value} {l : List Tr} (h : ExsAt w v l) : ∃ A c, v = .slice A l.length c ∧ l.length ≤ c ∧ c ≤ maxLen := by
  obtain ⟨r, h1, h2, _⟩ := h
  obtain ⟨A, c, hv, h3, h4, _⟩ := h1.shape
  rw [← h2, List.length_map]
  exact ⟨A, c, hv, h3, h4⟩
open Classical in
/-- Which streams are met in some Parts, each once, in their order. -/
noncomputable def inPut (l : List ByteArray) (s : ByteArray) : List ByteArray := if s ∈ l then l else l ++ [s]
noncomputable def inputs (ps : List Pt) : List ByteArray := ps.foldl (fun l p => p.ss.foldl inPut l) []
theorem inPut_nodup {l : List ByteArray} {s : ByteArray} (h : l.Nodup) : (inPut l s).Nodup := by
  unfold inPut
  split
  · exact h
  · rename_i hs
    rw [List.nodup_append]
    exact ⟨h, by simp, fun a ha b hb e => hs (by simp at hb; rw [← hb, ← e]; exact ha)⟩
def waits (ps : List Pt) : Bool := match ps.getLast? with
  | some p => p.nt
  | none => false
open Classical in
/-- Are these names, none twice? -/
noncomputable def namesB (l : List ByteArray) : Bool := l.all nameB && decide l.Nodup
noncomputable def partB (p : Pt) : Bool := decide (1 ≤ p.ss.length) && decide (p.ss.length ≤ 4) && !(p.nt && p.pl) && decide (p.pd.length ≤ 1) && p.pd.all Tr.ok && namesB p.ss
noncomputable def partsB (st : Bool) (ps : List Pt) : Bool := decide (1 ≤ ps.length) && decide (ps.length ≤ 8) && !(ps.head?.map (·.nt)).getD false && !(st && ps.any (·.nt)) && ps.all partB && namesB (ps.map (·.v))
noncomputable def outsB (os : List Ot) : Bool := decide (os.length ≤ 6) && os.all (·.e.ok) && namesB (os.map (·.f))
noncomputable def queryB (q : Qy) : Bool := nameB q.nm && decide (0 ≤ q.wi) && decide (q.wi ≤ 1000000) && (decide (q.by_.size = 0) || nameB q.by_) && partsB q.st q.ps && outsB q.os
end Go.Proofs.YtenmbahfgfmjjaaDoor
namespace Go.Proofs.YtenmbahfgfmjjaaDoor
open Go.ChangeShapes Go.WideShapes Go.ChangeAt Go.RowKit Go.Maps
set_option linter.unusedVariables false
set_option linter.unusedSimpArgs false

theorem strKeys : Keyed Tryd.prog 9 := string_keyed Tryd.underlying9
theorem keyOf_str {s : ByteArray} (hs : s.size ≤ maxLen) : keyOf Tryd.prog 9 (.string s) = some (.string s.data.toList) := WideMaps.keyOf_string_mk Tryd.underlying9 hs
theorem blZero (w : World) : (zeroValue 4).run Tryd.prog w = .ok (.bool false) w := by kernel_rfl
theorem strKey_inj {s t : ByteArray} (h : (Lit.string s.data.toList) = .string t.data.toList) : s = t := by
  simp only [Lit.string.injEq] at h
  exact toList_inj (by rw [Lib.toList_data, Lib.toList_data]; exact h)
/-- Block m is a map that holds true at just the names of l. -/
def MetS (w : World) (m cnt : Nat) (l : List ByteArray) : Prop :=
  ∃ D : DataW Unit, w.ownsMap Tryd.prog 9 (plainElem Tryd.prog 4) m cnt D ∧ IsMap D ∧ ∀ s, s.size ≤ maxLen → ∃ b, D.atKey (.string s.data.toList) (.lit (.bool false)) = .lit (.bool b) ∧ (b = true ↔ s ∈ l)
theorem MetS.made (w : World) : MetS (w.alloc (.map #[] 0)) w.heap.size 0 [] :=
  ⟨.map [], World.ownsMap_made w _ _ _, ⟨_, rfl⟩, fun s _ => ⟨false, rfl, by simp⟩⟩
theorem MetS.later {w w' : World} {m cnt : Nat} {l : List ByteArray} (h : MetS w m cnt l) (hb : Below w.heap.size w w') : MetS w' m cnt l := by
  obtain ⟨D, ⟨es, clock, g1, g2⟩, h2⟩ := h
  exact ⟨D, ⟨es, clock, (hb.block m (Array.getElem?_eq_some_iff.1 g1).1).trans g1, g2⟩, h2⟩
theorem MetS.lt {w : World} {m cnt : Nat} {l : List ByteArray} (h : MetS w m cnt l) : m < w.heap.size := by
  obtain ⟨D, h1, _⟩ := h
  exact h1.lt
theorem plainElem_bool_inv {H : Type} {P : Program} {e : TypeId} (he : P.underlying e = some .bool) {v : Value} {z : DataW H × List MemPlace} (h : plainElem P e v = some z) : ∃ x, v = .bool x ∧ z = (.lit (.bool x), []) := by
  unfold plainElem at h
  rw [he] at h
  cases v <;> simp at h
  exact ⟨_, rfl, h.symm⟩
theorem MetS.look {w : World} {m cnt : Nat} {l : List ByteArray} (h : MetS w m cnt l) {s : ByteArray} (hs : s.size ≤ maxLen) :
    ∃ b, (Instr.lookup 70 (.map (some m)) (.string s) false).run Tryd.prog w = .ok (.bool b) w ∧ (b = true ↔ s ∈ l) := by
  obtain ⟨D, h1, _, h4⟩ := h
  obtain ⟨v, ps, hr, hv⟩ := h1.lookup strKeys Tryd.underlying70 (blZero w) (plainElem_bool Tryd.underlying4 false) (keyOf_str hs)
  obtain ⟨B, e, hB⟩ := h4 s hs
  rw [e] at hv
  obtain ⟨x, rfl, hx⟩ := plainElem_bool_inv Tryd.underlying4 hv
  simp only [Prod.mk.injEq, DataW.lit.injEq, Lit.bool.injEq] at hx
  obtain ⟨rfl, _⟩ := hx
  exact ⟨_, hr, hB⟩
theorem MetS.put {w : World} {m cnt : Nat} {l : List ByteArray} (h : MetS w m cnt l) (hn : cnt < maxLen) {s : ByteArray} (hs : s.size ≤ maxLen) :
    ∃ w', (Instr.mapUpdate 70 (.map (some m)) (.string s) (.bool true)).run Tryd.prog w = .ok () w' ∧ MetS w' m (cnt + 1) (s :: l) ∧ w.grownBy w' (some m) := by
  obtain ⟨D, h1, h2, h4⟩ := h
  obtain ⟨w', r, o, g⟩ := h1.update strKeys Tryd.underlying70 hn (keyOf_str hs) (plainElem_bool Tryd.underlying4 true)
  refine ⟨w', r, ⟨_, o, o.isMap, fun s' hs' => ?_⟩, g⟩
  by_cases he : s' = s
  · subst he
    exact ⟨true, atKey_put_same h2 (strKeys.key (keyOf_str hs)) _ _, by simp⟩
  · obtain ⟨B, e, hB⟩ := h4 s' hs'
    refine ⟨B, by rw [atKey_put_other (fun e => he (strKey_inj e))]; exact e, ?_⟩
    rw [hB, List.mem_cons]
    exact ⟨Or.inr, fun h => h.elim (fun e => absurd e he) id⟩
theorem wpList_mapUpdate_met (w : World) {ops : Array Oper} {rest : List Oper} {o : Oper} {a : Act} {Q : Exit → Act → World → Prop}
    (hg : o.guard = none) (m x v : Operand) (hop : o.op = Op.mapUpdate 70 m x v)
    (b n : Nat) (l : List ByteArray) (hm : a.eval m = .map (some b)) (hown : MetS w b n l) (hn : n < maxLen) (s : ByteArray) (hx : a.eval x = .string s) (hv : a.eval v = .bool true) (hs : s.size ≤ maxLen)
    (hK : ∀ w', MetS w' b (n + 1) (s :: l) → w.grownBy w' (some b) → wpList Tryd.prog ops Q rest (a.put o.dst undef) w') :
    wpList Tryd.prog ops Q (o :: rest) a w := by
  refine wpList_plain hg fun K' hK' => ?_
  obtain ⟨w', hrun, r1, r2⟩ := hown.put hn hs
  unfold Oper.wp
  simp [execOp, hop, hm, hx, hv, hrun, Result.andThen]
  exact hK' _ _ (hK w' r1 r2)
end Go.Proofs.YtenmbahfgfmjjaaDoor
namespace Go.Proofs.YtenmbahfgfmjjaaDoor
open Go.ChangeShapes Go.WideShapes Go.ChangeAt Go.RowKit
set_option linter.unusedVariables false
set_option linter.unusedSimpArgs false

section
variable {P : Program}
theorem Blk.setRow {w : World} {g : Nat} {e : TypeId} {cs : Array Value} (h : Blk w g e cs) (c2 : Array Value) : Blk (w.setRow g c2) g e c2 ∧ w.grownBy (w.setRow g c2) (some g) :=
  ⟨setRow_heap w g cs c2 e (0, 0) h, ⟨rfl, rfl, rfl, by simp [World.setRow], fun k _ hne => setRow_other w g k c2 (fun e => hne (by rw [e]))⟩⟩
theorem own_row {α : Type} {w : World} {b : Nat} {e : TypeId} {k : Nat} {f : α → List Value} {g n cap : Nat} {l : List α} (h : Own w b e k f (.slice (some ⟨g, 0, none⟩) n cap) l) :
    ∃ cur : List Value, Blk w g e cur.toArray ∧ cur.length = cap * k ∧ cur.take (n * k) = l.flatMap f ∧ n = l.length ∧ b ≤ g ∧ n ≤ cap ∧ cap ≤ maxLen := by
  rcases h.2 with ⟨h0, _⟩ | ⟨g', cap', cur, hv, h1, h2, h3, h4, h5, h6⟩
  · cases h0
  · simp only [Value.slice.injEq, Option.some.injEq, Addr.mk.injEq, and_true] at hv
    obtain ⟨rfl, rfl, rfl⟩ := hv
    exact ⟨cur.toList, by simpa [Blk] using h2, by simpa using h5, h6, rfl, h1, h3, h4⟩
theorem own_of {α : Type} {w : World} {b : Nat} {e : TypeId} {k : Nat} {f : α → List Value} (hf : ∀ x, (f x).length = k) {g n cap : Nat} {l : List α} {cur : List Value} (h : Blk w g e cur.toArray) (hl : cur.length = cap * k) (ht : cur.take (n * k) = l.flatMap f) (hn : n = l.length) (hb : b ≤ g) (hc : n ≤ cap) (hm : cap ≤ maxLen) : Own w b e k f (.slice (some ⟨g, 0, none⟩) n cap) l := by
  subst hn
  exact ⟨flat_len hf l, .inr ⟨g, cap, cur.toArray, rfl, hb, h, hc, hm, by simpa using hl, by simpa using ht⟩⟩
theorem run_copyK (w : World) (dT sT ty elem : TypeId) (i : TypeInfo) (k g o dLen dCap : Nat) (a : Addr) (sLen sCap : Nat) (cur : List Value) (t : TypeId) (cs : List Value)
    (hu : P.underlying dT = some (.slice elem)) (hi : P.info? elem = some i) (hk : i.size = k) (hg : Blk w g t cur.toArray) (hn : cs.length = Nat.min sLen dLen * k)
    (hsrc : ∀ j v, cs[j]? = some v → w.cell? (a.add j) = some v) (hfit : o + cs.length ≤ cur.length) (h1 : ∀ v ∈ cs, v.oneCell' = true) :
    (Builtin.copy_ #[dT, sT] ty #[.slice (some ⟨g, o, none⟩) dLen dCap, .slice (some a) sLen sCap]).run P w = .ok (goInt (Nat.min sLen dLen)) (w.setRow g (splice cur o cs).toArray) := by
  have hl := run_loadCells_list (P := P) w a cs hsrc
  have hst := run_storeCells_at P g o t cs 0 cur.toArray w hg (by simpa using hfit) h1
  simp only [splice, Nat.add_zero, List.append_assoc] at hst ⊢
  simp [Builtin.copy_, run_underlying hu, Builtin.lenOf, Builtin.firstCells, sizeOf, typeInfo, hi, hk, ← hn, hl, hst]
theorem wpList_copyK {w : World} {ops : Array Oper} {rest : List Oper} {o : Oper} {a : Act} {Q : Exit → Act → World → Prop} (hgd : o.guard = none) (d s : Operand) (dT sT : TypeId)
    (ho : o.op = .call { callee := .builtin .copy, args := #[d, s], argTypes := #[dT, sT] }) (elem : TypeId) (i : TypeInfo) (k : Nat) (hu : P.underlying dT = some (.slice elem)) (hi : P.info? elem = some i) (hk : i.size = k)
    (g off dLen dCap : Nat) (ad : Addr) (sLen sCap : Nat) (hd : a.eval d = .slice (some ⟨g, off, none⟩) dLen dCap) (hs : a.eval s = .slice (some ad) sLen sCap)
    (cur : List Value) (t : TypeId) (hg : Blk w g t cur.toArray) (cs : List Value) (hn : cs.length = Nat.min sLen dLen * k)
    (hsrc : ∀ j v, cs[j]? = some v → w.cell? (ad.add j) = some v) (hfit : off + cs.length ≤ cur.length) (h1 : ∀ v ∈ cs, v.oneCell' = true)
    (h : ∀ w', Blk w' g t (splice cur off cs).toArray → w.grownBy w' (some g) → wpList P ops Q rest (a.put o.dst (goInt (Nat.min sLen dLen))) w') : wpList P ops Q (o :: rest) a w := by
  refine wpList_plain hgd fun K hK => ?_
  have hrun := run_copyK (P := P) w dT sT o.type elem i k g off dLen dCap ad sLen sCap cur t cs hu hi hk hg hn hsrc hfit h1
  unfold Oper.wp
  simp [execOp, ho, resolve, invoke, builtin, hd, hs, hrun, Result.andThen]
  exact hK _ _ (h _ (hg.setRow _).1 (hg.setRow _).2)
theorem run_clearK (w : World) (t e ty : TypeId) (z : Value) (k : Nat) (ht : P.underlying t = some (.slice e)) (hv : (zeroValue e).run P w = .ok z w) (hz : z.cells.size = k) (h1 : ∀ v ∈ z.cells.toList, v.oneCell' = true) (hk : 0 < k) (g o n c : Nat) (cur : List Value) (te : TypeId) (hg : Blk w g te cur.toArray) (hn : 0 < n) (hfit : o + n * k ≤ cur.length) :
    (Builtin.clear_ #[t] ty #[.slice (some ⟨g, o, none⟩) n c]).run P w = .ok (.tuple #[]) (w.setRow g (splice cur o (Builtin.zeroCells z.cells n).toList).toArray) := by
  have hzl : (Builtin.zeroCells z.cells n).toList.length = n * k := by rw [Array.length_toList, size_zeroCells, hz]
  have hst := run_storeCells_at P g o te (Builtin.zeroCells z.cells n).toList 0 cur.toArray w hg (by rw [hzl]; simpa using hfit) (by
    intro v hv'
    simp only [Builtin.zeroCells, Array.toList_map, List.mem_map] at hv'
    obtain ⟨j, _, rfl⟩ := hv'
    have hlt : j % z.cells.size < z.cells.size := Nat.mod_lt _ (by omega)
    rw [getElem!_pos z.cells (j % z.cells.size) hlt]
    exact h1 _ (by simp))
  obtain ⟨m, rfl⟩ : ∃ m, n = m + 1 := ⟨n - 1, by omega⟩
  simp only [splice, Nat.add_zero, List.append_assoc] at hst ⊢
  simp [Builtin.clear_, run_underlying ht, hv, hst]
theorem run_clear0 (w : World) (t e ty : TypeId) (ht : P.underlying t = some (.slice e)) (a : Option Addr) (c : Nat) : (Builtin.clear_ #[t] ty #[.slice a 0 c]).run P w = .ok (.tuple #[]) w := by
  cases a <;> simp [Builtin.clear_, run_underlying ht]
theorem wpList_append_roomK {w : World} {ops : Array Oper} {rest : List Oper} {o : Oper} {a : Act} {Q : Exit → Act → World → Prop} (hgd : o.guard = none) (s x : Operand) (t : TypeId)
    (ho : o.op = .call { callee := .builtin .append, args := #[s, x], argTypes := #[t, t] })
    (e : TypeId) (i : TypeInfo) (k : Nat) (ht : P.underlying t = some (.slice e)) (hi : P.info? e = some i) (hk : i.size = k)
    (g n cap : Nat) (hs : a.eval s = .slice (some ⟨g, 0, none⟩) n cap) (ad : Addr) (m c : Nat) (hx : a.eval x = .slice (some ad) m c)
    (cur : List Value) (hg : Blk w g e cur.toArray) (news : List Value) (hl : news.length = m * k) (hnews : ∀ j u, news[j]? = some u → w.cell? (ad.add j) = some u) (h1 : ∀ u ∈ news, u.oneCell' = true)
    (hroom : n + m ≤ cap) (hfit : n * k + news.length ≤ cur.length)
    (h : ∀ w', Blk w' g e (splice cur (n * k) news).toArray → w.grownBy w' (some g) → wpList P ops Q rest (a.put o.dst (.slice (some ⟨g, 0, none⟩) (n + m) cap)) w') : wpList P ops Q (o :: rest) a w := by
  refine wpList_plain hgd fun K hK => ?_
  subst hk
  have hrun := run_append_room (P := P) w t o.type e i ht hi g n cap cur.toArray hg ad m c news hl hnews h1 hroom (by simpa using hfit)
  unfold Oper.wp
  simp [execOp, ho, resolve, invoke, builtin, hs, hx, hrun, Result.andThen]
  have e1 : (List.take (n * i.size) cur ++ (news ++ List.drop (n * i.size + news.length) cur)) = splice cur (n * i.size) news := rfl
  exact hK _ _ (h _ (by first | (rw [e1]; exact (hg.setRow _).1) | exact (hg.setRow _).1) (by first | (rw [e1]; exact (hg.setRow _).2) | exact (hg.setRow _).2))
end
end Go.Proofs.YtenmbahfgfmjjaaDoor
