/- DrrTells: both rounds side by side. -/
import Derived.Test.YtckpecddglfjkaaOpenAD
import Derived.Test.YtckpecddglfjkaaDrX
import Derived.Test.YtckpecddglfjkaaDrK
namespace Go.Proofs.Ytckpecddglfjkaa
open Go.ChangeShapes Go.WideShapes Go.ChangeAt Go.RowKit
open Dr
set_option linter.unusedVariables false
set_option linter.unusedSimpArgs false

theorem AddR.same {L : List Fl} {fr : Bool} {id q e : Int} {L' : List Fl} {fr' : Bool} {e2 : Int} {L2 : List Fl} {fr2 : Bool} (h : AddR L fr id q e L' fr') (h2 : AddR L fr id q e2 L2 fr2) : e = e2 ∧ L' = L2 ∧ fr' = fr2 := by
  rcases h with ⟨a, rfl, rfl, rfl⟩ | ⟨a, b, c, rfl, rfl, rfl⟩ | ⟨a, b, c, rfl, rfl, rfl⟩
  · rcases h2 with ⟨_, rfl, rfl, rfl⟩ | ⟨a', b', _⟩ | ⟨a', b', _⟩
    · exact ⟨rfl, rfl, rfl⟩
    · omega
    · omega
  · rcases h2 with ⟨a', _⟩ | ⟨_, _, _, rfl, rfl, rfl⟩ | ⟨_, _, c', _⟩
    · omega
    · exact ⟨rfl, rfl, rfl⟩
    · exact absurd c c'
  · rcases h2 with ⟨a', _⟩ | ⟨_, _, c', _⟩ | ⟨_, _, _, rfl, rfl, rfl⟩
    · omega
    · exact absurd c' c
    · exact ⟨rfl, rfl, rfl⟩
theorem DropR.same {L : List Fl} {fr : Bool} {id : Int} {e : Bool} {L' : List Fl} {fr' : Bool} {e2 : Bool} {L2 : List Fl} {fr2 : Bool} (h : DropR L fr id e L' fr') (h2 : DropR L fr id e2 L2 fr2) : e = e2 ∧ L' = L2 ∧ fr' = fr2 := by
  rcases h with ⟨a, rfl, rfl, rfl⟩ | ⟨a, rfl, rfl, rfl⟩
  · rcases h2 with ⟨_, rfl, rfl, rfl⟩ | ⟨a', _⟩
    · exact ⟨rfl, rfl, rfl⟩
    · exact absurd a' a
  · rcases h2 with ⟨a', _⟩ | ⟨_, rfl, rfl, rfl⟩
    · exact absurd a a'
    · exact ⟨rfl, rfl, rfl⟩
theorem TurnR.same {cs : List (Int × Int)} {L : List Fl} {fr : Bool} {id : Int} {e : Bool} {L' : List Fl} {fr' : Bool} {id2 : Int} {e2 : Bool} {L2 : List Fl} {fr2 : Bool} (h : TurnR cs L fr id e L' fr') (h2 : TurnR cs L fr id2 e2 L2 fr2) : id = id2 ∧ e = e2 ∧ L' = L2 ∧ fr' = fr2 := by
  rcases h2 with ⟨hr, rfl, rfl, rfl, rfl⟩ | ⟨hr, rfl, n, f, r, ht, rfl, rfl⟩
  · exact h.no hr
  · exact h.one n hr ht
/-- The program's round and the document's, side by side. -/
structure Th (w W : World) (d m : Nat) (P : List Fl) (pf : Bool) (R : List Fl) (rf : Bool) : Prop where
  drs : DrS W w.heap.size d P pf
  rms : RmS W w.heap.size m (R.map gl) rf
  bel : Below w.heap.size w W
theorem Th.later {w W W' : World} {d m : Nat} {P R : List Fl} {pf rf : Bool} (h : Th w W d m P pf R rf) (hb : Below W.heap.size W W') : Th w W' d m P pf R rf := by
  obtain ⟨v, l, c, h1, h2⟩ := h.drs
  exact ⟨⟨v, l, c, h1.later hb, h2⟩, h.rms.later hb, bt h.bel hb⟩
def ThA (w W : World) (d m : Nat) (P : List Fl) (pf : Bool) (R : List Fl) (rf : Bool) (id q : Int) (e : Ending) (W1 : World) : Prop :=
  ∃ r P' pf', (e = .returned (.int .i64 r) ∧ AddR P pf id q r P' pf' ∧ Th w W1 d m P' pf' R rf) ∧ FrD W W1
theorem thA {w W : World} {d m : Nat} {P R : List Fl} {pf rf : Bool} (h : Th w W d m P pf R rf) (hn : P.length < 1000) (id q : Int) : Calls Try.prog 11 #[.pointer (some ⟨d, 0, none⟩), .int .i64 id, .int .i64 q] W (ThA w W d m P pf R rf id q) := by
  refine (Add_any w.heap.size d P pf id q W h.drs hn).mono ?_
  rintro e W1 ⟨r, P', pf', ⟨rfl, h1, h2⟩, h3⟩
  exact ⟨r, P', pf', ⟨rfl, h1, ⟨h2, h.rms.frd h3.frm, h.bel.trans h3.bel⟩⟩, h3.frm⟩
def ThRA (w W : World) (d m : Nat) (P : List Fl) (pf : Bool) (R : List Fl) (rf : Bool) (id q : Int) (e : Ending) (W1 : World) : Prop :=
  ∃ r R' rf', (e = .returned (.int .i64 r) ∧ AddR R rf id q r R' rf' ∧ Th w W1 d m P pf R' rf') ∧ FrR W W1
theorem thRA {w W : World} {d m : Nat} {P R : List Fl} {pf rf : Bool} (h : Th w W d m P pf R rf) (hn : R.length < 1000) (id q : Int) : Calls Try.prog 12 #[.pointer (some ⟨m, 0, none⟩), .int .i64 id, .int .i64 q] W (ThRA w W d m P pf R rf id q) := by
  refine (rAdd_any w.heap.size m R rf id q W h.rms hn).mono ?_
  rintro e W1 ⟨r, P', pf', ⟨rfl, h1, h2⟩, h3⟩
  exact ⟨r, P', pf', ⟨rfl, h1, ⟨h.drs.frr h3.frm, h2, h.bel.trans h3.bel⟩⟩, h3.frm⟩
def ThD (w W : World) (d m : Nat) (P : List Fl) (pf : Bool) (R : List Fl) (rf : Bool) (id : Int) (e : Ending) (W1 : World) : Prop :=
  ∃ r P' pf', (e = .returned (.bool r) ∧ DropR P pf id r P' pf' ∧ Th w W1 d m P' pf' R rf) ∧ FrD W W1
theorem thD {w W : World} {d m : Nat} {P R : List Fl} {pf rf : Bool} (h : Th w W d m P pf R rf) (hS : OkS P pf) (id : Int) : Calls Try.prog 13 #[.pointer (some ⟨d, 0, none⟩), .int .i64 id] W (ThD w W d m P pf R rf id) := by
  refine (Drop_any w.heap.size d P pf id W h.drs hS).mono ?_
  rintro e W1 ⟨r, P', pf', ⟨rfl, h1, h2⟩, h3⟩
  exact ⟨r, P', pf', ⟨rfl, h1, ⟨h2, h.rms.frd h3.frm, h.bel.trans h3.bel⟩⟩, h3.frm⟩
def ThRD (w W : World) (d m : Nat) (P : List Fl) (pf : Bool) (R : List Fl) (rf : Bool) (id : Int) (e : Ending) (W1 : World) : Prop :=
  ∃ r R' rf', (e = .returned (.bool r) ∧ DropR R rf id r R' rf' ∧ Th w W1 d m P pf R' rf') ∧ FrR W W1
theorem thRD {w W : World} {d m : Nat} {P R : List Fl} {pf rf : Bool} (h : Th w W d m P pf R rf) (hS : OkS R rf) (id : Int) : Calls Try.prog 14 #[.pointer (some ⟨m, 0, none⟩), .int .i64 id] W (ThRD w W d m P pf R rf id) := by
  refine (rDrop_any w.heap.size m R rf id W h.rms hS).mono ?_
  rintro e W1 ⟨r, P', pf', ⟨rfl, h1, h2⟩, h3⟩
  exact ⟨r, P', pf', ⟨rfl, h1, ⟨h.drs.frr h3.frm, h2, h.bel.trans h3.bel⟩⟩, h3.frm⟩
def ThT (w W : World) (d m : Nat) (P : List Fl) (pf : Bool) (R : List Fl) (rf : Bool) (cs : List (Int × Int)) (e : Ending) (W1 : World) : Prop :=
  ∃ id r P' pf', (e = .returned (.tuple #[.int .i64 id, .bool r]) ∧ TurnR cs P pf id r P' pf' ∧ Th w W1 d m P' pf' R rf) ∧ FrD W W1
theorem thT {w W : World} {d m : Nat} {P R : List Fl} {pf rf : Bool} (h : Th w W d m P pf R rf) (hS : OkS P pf) (lv : Value) (cs : List (Int × Int)) (hl : At W 2 rowC lv cs) (hok : OkC cs) : Calls Try.prog 15 #[.pointer (some ⟨d, 0, none⟩), lv] W (ThT w W d m P pf R rf cs) := by
  refine (Turn_any w.heap.size d P pf lv cs W h.drs hS hl hok).mono ?_
  rintro e W1 ⟨id, r, P', pf', ⟨rfl, h1, h2⟩, h3⟩
  exact ⟨id, r, P', pf', ⟨rfl, h1, ⟨h2, h.rms.frd h3.frm, h.bel.trans h3.bel⟩⟩, h3.frm⟩
def ThRT (w W : World) (d m : Nat) (P : List Fl) (pf : Bool) (R : List Fl) (rf : Bool) (cs : List (Int × Int)) (e : Ending) (W1 : World) : Prop :=
  ∃ id r R' rf', (e = .returned (.tuple #[.int .i64 id, .bool r]) ∧ TurnR cs R rf id r R' rf' ∧ Th w W1 d m P pf R' rf') ∧ FrR W W1
theorem thRT {w W : World} {d m N : Nat} {P R : List Fl} {pf rf : Bool} (h : Th w W d m P pf R rf) (hS : OkS R rf) (lv : Value) (cs : List (Int × Int)) (hl : Own W N 75 2 rowC lv cs) : Calls Try.prog 17 #[.pointer (some ⟨m, 0, none⟩), lv] W (ThRT w W d m P pf R rf cs) := by
  refine (rTurn_any w.heap.size m cs R rf lv W h.rms hS (fun X hX => Own.at_ (f := rowC) (k := 2) (fun _ => rfl) (hl.frm hX.frm (by decide) (by decide)))).mono ?_
  rintro e W1 ⟨id, r, P', pf', ⟨rfl, h1, h2⟩, h3⟩
  exact ⟨id, r, P', pf', ⟨rfl, h1, ⟨h.drs.frr h3.frm, h2, h.bel.trans h3.bel⟩⟩, h3.frm⟩
theorem thF {w W : World} {d m : Nat} {P R : List Fl} {pf rf : Bool} (h : Th w W d m P pf R rf) (hn : P.length ≤ 1000) : Calls Try.prog 19 #[.pointer (some ⟨d, 0, none⟩)] W (FlowsP P W) := Flows_any w.heap.size d P pf W h.drs hn
theorem Th.start {w W : World} {d m : Nat} (hd : DrS W w.heap.size d [] false) (hm : w.heap.size ≤ m) (hB : Blk W m 29 #[.slice none 0 0, .bool false]) (hb : Below w.heap.size w W) : Th w W d m [] false [] false :=
  ⟨hd, ⟨_, ⟨hm, hB, Own.nil _ _ _ _ _⟩⟩, hb⟩
theorem all_fit (cs : List (Int × Int)) (bs : List UInt8) (h : cs.length * 16 ≤ 140737488351232) (hw : ∀ c ∈ cs, wfI c.1 ∧ wfI c.2) : OkC (allC cs bs) ∧ (allC cs bs).length * 16 ≤ 140737488355328 := by
  have hl : (allC cs bs).length ≤ cs.length + 8 := by unfold allC; rw [List.length_append, List.length_map, List.length_take]; omega
  refine ⟨⟨fun c hc => ?_, by unfold maxLen; omega⟩, by omega⟩
  unfold allC at hc
  rcases List.mem_append.1 hc with hc | hc
  · exact hw c hc
  · obtain ⟨b, _, rfl⟩ := List.mem_map.1 hc
    have := b.toNat_lt
    unfold moreC wfI
    simp only
    omega
theorem add_len {L : List Fl} {fr : Bool} {id q e : Int} {L' : List Fl} {fr' : Bool} (h : AddR L fr id q e L' fr') : L'.length ≤ L.length + 1 := by
  rcases h with ⟨_, _, rfl, _⟩ | ⟨_, _, _, _, rfl, _⟩ | ⟨_, _, _, _, rfl, _⟩ <;> simp
theorem drop_len {L : List Fl} {fr : Bool} {id : Int} {e : Bool} {L' : List Fl} {fr' : Bool} (h : DropR L fr id e L' fr') : L'.length ≤ L.length := by
  rcases h with ⟨_, _, rfl, _⟩ | ⟨_, _, rfl, _⟩
  · exact Nat.le_refl _
  · exact List.length_filter_le _ _
end Go.Proofs.Ytckpecddglfjkaa
