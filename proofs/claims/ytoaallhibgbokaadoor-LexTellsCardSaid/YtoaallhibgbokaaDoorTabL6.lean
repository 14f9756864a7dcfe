/- What the rows' list of package-level variables gives: the signs, the search's bound, the error; a world that holds all six. -/
import Derived.Test.YtoaallhibgbokaaDoorLexT
import Derived.Test.YtoaallhibgbokaaDoorRows
import Derived.Lib.LaidTab
import Derived.Shelf.Vars
import Derived.Deep.DeepHandedRow
import Derived.OpenShut
namespace Go.Proofs.YtoaallhibgbokaaDoor
open Go.ChangeShapes Go.WideShapes Go.ChangeAt Go.RowKit
set_option linter.unusedVariables false
set_option linter.unusedSimpArgs false

theorem laid_at {P : Program} {w : World} : ∀ {laid : List (String × DataW Unit)} {ps : List MemPlace}, DataW.LaidVars P w laid ps → ∀ {n : String} {d : DataW Unit}, (n, d) ∈ laid →
    ∃ g t cs fuel p, P.globalNamed n = some g ∧ (P.globals[g]?).map (·.type) = some t ∧ w.var? P n = some cs ∧ DataW.trod (fun _ => ()) P w 0 (fun _ => true) false fuel t cs.toList = some (d, p)
  | [], _, _, _, _, h => by cases h
  | (m, e) :: r, ps, ⟨g, t, cs, fuel, p, q, h1, h2, h3, h4, h5, _⟩, n, d, h => by
    rcases List.mem_cons.1 h with h | h
    · cases h
      exact ⟨g, t, cs, fuel, p, h1, h2, h3, h4⟩
    · exact laid_at h5 h
theorem var_cell {P : Program} {w : World} {n : String} {g : Nat} {cs : Array Value} (hg : P.globalNamed n = some g) (h : w.var? P n = some cs) (i : Nat) : w.cell? ⟨g, i, none⟩ = cs[i]? := by
  unfold World.var? at h
  rw [hg] at h
  simp only [Option.bind_some] at h
  cases hb : w.heap[g]? with
  | none => rw [hb] at h; cases h
  | some o =>
    rw [hb] at h
    cases o with
    | cells c t fr =>
      simp only [Option.some.injEq] at h
      subst h
      exact cell_of_row w g i c t fr hb
    | map _ _ => cases h
    | _ => cases h
theorem trod_if {H : Type} {enc : TypeId × Value → H} {P : Program} {w : World} {base : Nat} {spare : Nat → Bool} {held : Bool} {fuel : Nat} {t : TypeId} {cs : List Value} {x : DataW H × List MemPlace} {ms} (ht : P.underlying t = some (.interface ms)) (h : DataW.trod enc P w base spare held fuel t cs = some x) :
    cs = [.nilIface] ∨ ∃ u v, cs = [.iface u v] := by
  cases fuel with
  | zero => simp [DataW.trod] at h
  | succ m =>
    unfold DataW.trod at h
    rw [ht] at h
    split at h <;> simp_all
theorem tabOf {W : World} (h0 : W.ShapedOpen Tryd.prog) (h : laidMetH Tryd.prog Rows.lexPlacesRow.laid W) : Tab W := by
  have h' : laidMet Tryd.prog Rows.lexPlacesRow.laid W := h
  obtain ⟨ps, hL, _⟩ := h'
  refine ⟨fun i hi => ?_, cell_of_shapedOpen_int (t := 3) (zero := #[.int .i64 0]) h0 (of_decide_eq_true (by kernel_rfl)) (by kernel_rfl) rfl (by kernel_rfl) (by kernel_rfl) Tryd.underlying3, ?_⟩
  · obtain ⟨g, t, cs, fuel, p, h1, h2, h3, h4⟩ := laid_at hL (n := "marshalling/lex.signs") (d := Rows.laid_marshalling_lex_signs) (by simp [Rows.lexPlacesRow])
    have hg : Tryd.prog.globalNamed "marshalling/lex.signs" = some 0 := by kernel_rfl
    obtain rfl := Option.some.inj (hg.symm.trans h1)
    have hty : (Tryd.prog.globals[0]?).map (·.type) = some 52 := by kernel_rfl
    obtain rfl := Option.some.inj (hty.symm.trans h2)
    rw [var_cell hg h3]
    obtain ⟨xs, m, _, hx, hl, hxl, hf⟩ := Go.DataW.trod_array Tryd.underlying52 h4
    have hc1 : Tryd.prog.cellsOf 9 = 1 := by kernel_rfl
    have hi25 : i < 25 := hi
    have hfi := hf i hi25
    rw [hc1, Nat.mul_one] at hfi
    have hmap : xs.map (·.1) = signL.map fun s => (DataW.lit (.string s) : DataW Unit) := by
      have h9 : (DataW.agg (signL.map fun s => (DataW.lit (.string s) : DataW Unit))) = DataW.agg (xs.map (·.1)) := congrArg Prod.fst hx
      exact (DataW.agg.inj h9).symm
    have hlen : i < xs.length := by rw [hxl]; exact hi25
    rw [List.getElem?_eq_getElem hlen] at hfi
    obtain ⟨s, hcs, hxd, _⟩ := DataW.trod_string Tryd.underlying9 hfi
    have hxe : (xs[i]'hlen).1 = DataW.lit (.string (signL[i]'hi)) := by
      have := congrArg (·[i]?) hmap
      simp only [List.getElem?_map, List.getElem?_eq_getElem hlen, List.getElem?_eq_getElem hi, Option.map_some, Option.some.injEq] at this
      exact this
    have hse : s = mk (signL[i]'hi) := by
      rw [hxd] at hxe
      simp only [DataW.lit.injEq, Lit.string.injEq] at hxe
      rw [← hxe]; exact (mk_list s).symm
    have hlt : i < cs.toList.length := by
      rcases Nat.lt_or_ge i cs.toList.length with h | h
      · exact h
      · rw [List.drop_of_length_le h] at hcs; cases hcs
    have : cs.toList[i]? = some (.string s) := by
      rw [List.getElem?_eq_getElem hlt]
      rw [List.drop_eq_getElem_cons hlt, List.take_succ_cons, List.take_zero] at hcs
      simpa using hcs
    rw [← hse, ← this]
    simp
  · obtain ⟨g, t, cs, fuel, p, h1, h2, h3, h4⟩ := laid_at hL (n := "strconv.ErrRange") (d := Rows.laid_strconv_ErrRange) (by simp [Rows.lexPlacesRow])
    have hg : Tryd.prog.globalNamed "strconv.ErrRange" = some 3 := by kernel_rfl
    obtain rfl := Option.some.inj (hg.symm.trans h1)
    have hty : (Tryd.prog.globals[3]?).map (·.type) = some 61 := by kernel_rfl
    obtain rfl := Option.some.inj (hty.symm.trans h2)
    rw [var_cell hg h3]
    rcases trod_if Tryd.underlying61 h4 with he | ⟨u, v, he⟩
    · refine ⟨.nilIface, ?_, Or.inl rfl⟩
      have : cs.toList[0]? = some Value.nilIface := by rw [he]; rfl
      simpa using this
    · refine ⟨.iface u v, ?_, Or.inr ⟨u, v, rfl⟩⟩
      have : cs.toList[0]? = some (Value.iface u v) := by rw [he]; rfl
      simpa using this
/-- The cells of a datum of numbers, of texts. -/
def unD : Nat → DataW Unit → List Value
  | n + 1, .lit (.int q k) => [.int q k]
  | n + 1, .lit (.string s) => [.string (mk s)]
  | n + 1, .agg ds => ds.flatMap (unD n)
  | _, _ => []
def lay (cs : Array Value) : Obj → Obj
  | .cells _ t frozen => .cells cs t frozen
  | o => o
/-- A world for the witness: the settled one, the listed variables holding what their initialisers lay. -/
noncomputable def laidWorld (os : Os) : World :=
  let W := World.holding Tryd.prog os ⟨#[], #[], []⟩
  { W with heap := ((((((((W.heap.modify 5 (lay (unD 8 Rows.laid_math_bits_deBruijn32tab).toArray)).modify 6 (lay (unD 8 Rows.laid_math_bits_deBruijn64tab).toArray)).modify 4 (lay (unD 8 Rows.laid_internal_strconv_uint64pow10).toArray)).modify 0 (lay (unD 8 Rows.laid_marshalling_lex_signs).toArray)).modify 3 (lay #[.iface 93 (.pointer (some ⟨W.heap.size, 0, none⟩))])).modify 2 (lay #[.iface 93 (.pointer (some ⟨W.heap.size + 1, 0, none⟩))])).push (.cells #[.string (mk [118, 97, 108, 117, 101, 32, 111, 117, 116, 32, 111, 102, 32, 114, 97, 110, 103, 101])] 95 (0, 0))).push (.cells #[.string (mk [105, 110, 118, 97, 108, 105, 100, 32, 115, 121, 110, 116, 97, 120])] 95 (0, 0)) ) }
theorem laid_try (os : Os) : laidMet Tryd.prog Rows.lexPlacesRow.laid ((laidWorld os).forCall (fun _ _ => 0) ⟨#[], #[.slice none 0 0, .bool false], []⟩).memory :=
  laidMet_of_run' 40 (by kernel_rfl) (by kernel_rfl)
end Go.Proofs.YtoaallhibgbokaaDoor
