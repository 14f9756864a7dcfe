/- EventTells: what is got, told in one way by both. -/
import Derived.Test.YtbmkbpehkpdcmaaRef4I
import Derived.Test.YtbmkbpehkpdcmaaRef4F
import Derived.Test.YtbmkbpehkpdcmaaRefI4
import Derived.Test.YtbmkbpehkpdcmaaRefG4
namespace Go.Proofs.Ytbmkbpehkpdcmaa
open Go.ChangeShapes Go.WideShapes Go.ChangeAt Go.RowKit
open Ev (V3 rightV OkV)
set_option linter.unusedVariables false
set_option linter.unusedSimpArgs false

def IsG {α : Type} (o : Option α) (b : Bool) (g z : α) : Prop := (b = true ∧ o = some g) ∨ (b = false ∧ g = z ∧ o = none)
theorem isG_ex {α : Type} (o : Option α) (z : α) : ∃ b g, IsG o b g z := by
  cases o with
  | none => exact ⟨false, z, Or.inr ⟨rfl, rfl, rfl⟩⟩
  | some g => exact ⟨true, g, Or.inl ⟨rfl, rfl⟩⟩
theorem getI_len {S : ByteArray} {m : Bool} {t : Int} {l : List V3} (h : Ev.getI S = some (m, t, l)) : l.length ≤ 6 := by
  unfold Ev.getI at h
  split at h
  · cases h
  split at h
  · cases hg : Ev.get (S.extract 1 S.size) with
    | none => rw [hg] at h; cases h
    | some p =>
      rw [hg] at h
      obtain ⟨t', l'⟩ := p
      simp only [Option.map_some, Option.some.injEq, Prod.mk.injEq] at h
      obtain ⟨_, _, rfl⟩ := h
      exact (Ev.plain_parts (Ev.get_spec hg).1).2.2.1
  split at h
  · split at h
    · cases h
    · split at h
      · simp only [Option.some.injEq, Prod.mk.injEq] at h
        obtain ⟨_, _, rfl⟩ := h
        simp
      · cases h
  · cases h
abbrev zI : Bool × Int × List V3 := (false, 0, [])
abbrev zE : Int × List V3 := (0, [])
theorem vals_own {T : TypeId} {w : World} {b : Nat} {v : Value} {l : List V3} (h : Own w b T 3 rowV v l) : ValsAt w v l := by
  have h' := h.at_ (f := rowV) (k := 3) (fun _ => rfl)
  obtain ⟨A, cap, rfl, h1, h2, _⟩ := h'.shape
  refine ⟨A, cap, rfl, h1, h2, fun h0 => ?_⟩
  obtain ⟨a, rfl, hc⟩ := h'.cells rfl h0
  exact ⟨a, rfl, fun j hj => hc.row3 j hj rfl⟩
theorem isG_lenI {S : ByteArray} {b : Bool} {g : Bool × Int × List V3} (h : IsG (Ev.getI S) b g zI) : g.2.2.length ≤ 6 := by
  obtain ⟨m, t, l⟩ := g
  rcases h with ⟨_, h⟩ | ⟨_, h, _⟩
  · exact getI_len h
  · cases h; simp
theorem isG_lenE {S : ByteArray} {b : Bool} {g : Int × List V3} (h : IsG (Ev.get S) b g zE) : g.2.length ≤ 6 := by
  obtain ⟨t, l⟩ := g
  rcases h with ⟨_, h⟩ | ⟨_, h, _⟩
  · exact (Ev.plain_parts (Ev.get_spec h).1).2.2.1
  · cases h; simp
theorem GetItem_u {S : ByteArray} {b : Bool} {m : Bool} {t : Int} {l : List V3} (h : IsG (Ev.getI S) b (m, t, l) zI) (w : World) (hs : S.size ≤ maxLen) :
    Calls Try.prog 8 #[.string S] w fun e w' => ∃ (A : Option Addr) (n c : Nat), (e = .returned (.tuple #[item m t (.slice A n c), .bool b]) ∧ ValsAt w' (.slice A n c) l) ∧ Below w.heap.size w w' := by
  rcases h with ⟨rfl, h⟩ | ⟨rfl, hz, h⟩
  · refine (GetItem_yes S w hs m t l h).mono ?_
    rintro e w' ⟨v, ⟨rfl, hv⟩, hb⟩
    obtain ⟨A, c, rfl⟩ := hv.shape
    exact ⟨A, _, c, ⟨rfl, hv.vals⟩, hb⟩
  · obtain ⟨rfl, rfl, rfl⟩ : m = false ∧ t = 0 ∧ l = [] := by simpa using hz
    refine (GetItem_no S w hs h).mono ?_
    rintro e w' ⟨rfl, hb⟩
    exact ⟨none, 0, 0, ⟨rfl, ValsAt.nil _⟩, hb⟩
theorem rGetItem_u {S : ByteArray} {b : Bool} {m : Bool} {t : Int} {l : List V3} (h : IsG (Ev.getI S) b (m, t, l) zI) (w : World) (hs : S.size ≤ maxLen) :
    Calls Try.prog 9 #[.string S] w fun e w' => ∃ (A : Option Addr) (n c : Nat), (e = .returned (.tuple #[item m t (.slice A n c), .bool b]) ∧ ValsAt w' (.slice A n c) l) ∧ Below w.heap.size w w' := by
  refine (rGetItem_any S w hs).mono ?_
  rintro e w' ⟨hg, hb⟩
  rcases h with ⟨rfl, h⟩ | ⟨rfl, hz, h⟩
  · rcases hg with ⟨h2, _⟩ | ⟨m', t', l', v, h2, rfl, hO⟩
    · rw [h] at h2; cases h2
    · rw [h] at h2
      simp only [Option.some.injEq, Prod.mk.injEq] at h2
      obtain ⟨rfl, rfl, rfl⟩ := h2
      obtain ⟨A, n, c, rfl⟩ := own_shape hO
      exact ⟨A, n, c, ⟨rfl, vals_own hO⟩, hb⟩
  · obtain ⟨rfl, rfl, rfl⟩ : m = false ∧ t = 0 ∧ l = [] := by simpa using hz
    rcases hg with ⟨_, rfl⟩ | ⟨m', t', l', v, h2, _⟩
    · exact ⟨none, 0, 0, ⟨rfl, ValsAt.nil _⟩, hb⟩
    · rw [h] at h2; cases h2
theorem Get_u {S : ByteArray} {b : Bool} {t : Int} {l : List V3} (h : IsG (Ev.get S) b (t, l) zE) (w : World) (hs : S.size ≤ maxLen) :
    Calls Try.prog 10 #[.string S] w fun e w' => ∃ (A : Option Addr) (n c : Nat), (e = .returned (.tuple #[ev t (.slice A n c), .bool b]) ∧ ValsAt w' (.slice A n c) l) ∧ Below w.heap.size w w' := by
  rcases h with ⟨rfl, h⟩ | ⟨rfl, hz, h⟩
  · refine (EGet_yes S w hs t l h).mono ?_
    rintro e w' ⟨v, ⟨rfl, hv⟩, hb⟩
    obtain ⟨A, c, rfl⟩ := hv.shape
    exact ⟨A, _, c, ⟨rfl, hv.vals⟩, hb⟩
  · obtain ⟨rfl, rfl⟩ : t = 0 ∧ l = [] := by simpa using hz
    refine (EGet_no S w hs h).mono ?_
    rintro e w' ⟨rfl, hb⟩
    exact ⟨none, 0, 0, ⟨rfl, ValsAt.nil _⟩, hb⟩
theorem rGet_u {S : ByteArray} {b : Bool} {t : Int} {l : List V3} (h : IsG (Ev.get S) b (t, l) zE) (w : World) (hs : S.size ≤ maxLen) :
    Calls Try.prog 11 #[.string S] w fun e w' => ∃ (A : Option Addr) (n c : Nat), (e = .returned (.tuple #[ev t (.slice A n c), .bool b]) ∧ ValsAt w' (.slice A n c) l) ∧ Below w.heap.size w w' := by
  refine (rEGet_any S w hs).mono ?_
  rintro e w' ⟨hg, hb⟩
  rcases h with ⟨rfl, h⟩ | ⟨rfl, hz, h⟩
  · rcases hg with ⟨h2, _⟩ | ⟨t', l', v, h2, rfl, hO⟩
    · rw [h] at h2; cases h2
    · rw [h] at h2
      simp only [Option.some.injEq, Prod.mk.injEq] at h2
      obtain ⟨rfl, rfl⟩ := h2
      obtain ⟨A, n, c, rfl⟩ := own_shape hO
      exact ⟨A, n, c, ⟨rfl, vals_own hO⟩, hb⟩
  · obtain ⟨rfl, rfl⟩ : t = 0 ∧ l = [] := by simpa using hz
    rcases hg with ⟨_, rfl⟩ | ⟨t', l', v, h2, _⟩
    · exact ⟨none, 0, 0, ⟨rfl, ValsAt.nil _⟩, hb⟩
    · rw [h] at h2; cases h2
/-- An item, an event as the document's. -/
theorem refItem_u (m : Bool) (t : Int) (v : Value) (l : List V3) (w : World) (hv : ValsAt w v l) (hl : l.length * 32 ≤ 140737488355328) :
    Calls Try.prog 12 #[item m t v] w fun e w' => ∃ (A : Option Addr) (n c : Nat), (e = .returned (item m t (.slice A n c)) ∧ ValsAt w' (.slice A n c) l) ∧ Below w.heap.size w w' := by
  refine (refItem_any m t v l w hv hl).mono ?_
  rintro e w' ⟨v', ⟨rfl, hO⟩, hb⟩
  obtain ⟨A, n, c, rfl⟩ := own_shape hO
  exact ⟨A, n, c, ⟨rfl, vals_own hO⟩, hb⟩
theorem ref_u (t : Int) (v : Value) (l : List V3) (w : World) (hv : ValsAt w v l) (hl : l.length * 32 ≤ 140737488355328) :
    Calls Try.prog 19 #[ev t v] w fun e w' => ∃ (A : Option Addr) (n c : Nat), (e = .returned (ev t (.slice A n c)) ∧ ValsAt w' (.slice A n c) l) ∧ Below w.heap.size w w' := by
  refine (ref_any t v l w hv hl).mono ?_
  rintro e w' ⟨v', ⟨rfl, hO⟩, hb⟩
  obtain ⟨A, n, c, rfl⟩ := own_shape hO
  exact ⟨A, n, c, ⟨rfl, vals_own hO⟩, hb⟩
/-- An item, an event in a block of its own. -/
def ItemAt (W : World) (b : Nat) (T : TypeId) (m : Bool) (t : Int) (A : Option Addr) (n c : Nat) (l : List V3) : Prop := Blk W b T #[.bool m, .int .i64 t, .slice A n c] ∧ ValsAt W (.slice A n c) l
def EvAt (W : World) (b : Nat) (T : TypeId) (t : Int) (A : Option Addr) (n c : Nat) (l : List V3) : Prop := Blk W b T #[.int .i64 t, .slice A n c] ∧ ValsAt W (.slice A n c) l
theorem ItemAt.v {W : World} {b : Nat} {T : TypeId} {m : Bool} {t : Int} {A : Option Addr} {n c : Nat} {l : List V3} (h : ItemAt W b T m t A n c l) : ValsAt W (.slice A n c) l := h.2
theorem EvAt.v {W : World} {b : Nat} {T : TypeId} {t : Int} {A : Option Addr} {n c : Nat} {l : List V3} (h : EvAt W b T t A n c l) : ValsAt W (.slice A n c) l := h.2
theorem ItemAt.later {W W' : World} {b : Nat} {T : TypeId} {m : Bool} {t : Int} {A : Option Addr} {n c : Nat} {l : List V3} (h : ItemAt W b T m t A n c l) (hb : Below W.heap.size W W') : ItemAt W' b T m t A n c l := ⟨h.1.later hb, h.2.later hb⟩
theorem EvAt.later {W W' : World} {b : Nat} {T : TypeId} {t : Int} {A : Option Addr} {n c : Nat} {l : List V3} (h : EvAt W b T t A n c l) (hb : Below W.heap.size W W') : EvAt W' b T t A n c l := ⟨h.1.later hb, h.2.later hb⟩
theorem ItemAt.new {W : World} {m : Bool} {t : Int} {A : Option Addr} {n c : Nat} {l : List V3} (T : TypeId) (h : ValsAt W (.slice A n c) l) : ItemAt (W.alloc (.cells #[.bool m, .int .i64 t, .slice A n c] T)) W.heap.size T m t A n c l := ⟨Blk.new W T _, h.later (ba _ _)⟩
theorem EvAt.new {W : World} {t : Int} {A : Option Addr} {n c : Nat} {l : List V3} (T : TypeId) (h : ValsAt W (.slice A n c) l) : EvAt (W.alloc (.cells #[.int .i64 t, .slice A n c] T)) W.heap.size T t A n c l := ⟨Blk.new W T _, h.later (ba _ _)⟩
theorem rsame_true (t : Int) (l : List V3) (v v' : Value) (w : World) (hv : ValsAt w v l) (hv' : ValsAt w v' l) :
    Calls Try.prog 16 #[ev t v, ev t v'] w fun e w' => e = .returned (.bool true) ∧ Below w.heap.size w w' :=
  (rSame_any t v l t v' l w hv hv').mono fun e w' ⟨he, hb⟩ => ⟨he.trans (by simp), hb⟩
theorem rsameI_true (m : Bool) (t : Int) (l : List V3) (v v' : Value) (w : World) (hv : ValsAt w v l) (hv' : ValsAt w v' l) :
    Calls Try.prog 18 #[item m t v, item m t v'] w fun e w' => e = .returned (.bool true) ∧ Below w.heap.size w w' :=
  (rSameItem_any m t v l m t v' l w hv hv').mono fun e w' ⟨he, hb⟩ => ⟨he.trans (by simp), hb⟩
end Go.Proofs.Ytbmkbpehkpdcmaa
