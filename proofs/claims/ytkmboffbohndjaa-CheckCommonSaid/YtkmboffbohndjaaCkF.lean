/- Layer 11: Kind. -/
import Derived.Test.YtkmboffbohndjaaCkD
import Derived.Test.YtkmboffbohndjaaCkE
import Derived.Deep.RegionHeld3
namespace Go.Proofs.Ytkmboffbohndjaa
open Go.ChangeShapes Go.WideShapes Go.ChangeAt Go.RowKit Go.Maps
set_option linter.unusedVariables false
set_option linter.unusedSimpArgs false

theorem val_agg {w : World} {t : Tr} {v : Value} (h : TrAt w t v) : ∃ (k : Int) (op : ByteArray) (vk vn : Int) (vs va f : ByteArray) (A : Option Addr) (n c : Nat), t.val v = ev k op vk vn vs va f (.slice A n c) := by
  obtain ⟨A, n, c, rfl⟩ := h.sl
  cases t with
  | lit k n s => exact ⟨_, _, _, _, _, _, _, _, _, _, rfl⟩
  | ref v f => exact ⟨_, _, _, _, _, _, _, _, _, _, rfl⟩
  | cnt v => exact ⟨_, _, _, _, _, _, _, _, _, _, rfl⟩
  | un op x => exact ⟨_, _, _, _, _, _, _, _, _, _, rfl⟩
  | bin op x y => exact ⟨_, _, _, _, _, _, _, _, _, _, rfl⟩
abbrev SlotsOk (l : List SF) : Prop := ∀ x ∈ l, x.1.size ≤ maxLen ∧ x.2.length ≤ 100 ∧ ∀ f ∈ x.2, okFld f
set_option maxRecDepth 20000 in
set_option maxHeartbeats 4000000 in
theorem Kind_any (t : Tr) (v lv : Value) (l : List SF) (w : World) (h : TrAt w t v) (ho : t.ok = true) (hl : SAt w lv l) (hn : l.length ≤ 100) (hf : SlotsOk l) :
    Calls Try.prog 8 #[t.val v, lv] w fun e w' => e = .returned (tup (kindT l t).1 (kindT l t).2) ∧ Below w.heap.size w w' := by
  have cR := fun W (hW : Below w.heap.size w W) => Right_tr t v W (h.later hW) ho
  have cK := fun W (hW : Below w.heap.size w W) => known_any lv l W (hl.later hW) hn hf
  have cO := fun W (hW : Below w.heap.size w W) b N => of_tr b N l t v W (h.later hW) ho
  obtain ⟨A, c, rfl, _, _⟩ := hl.shape
  obtain ⟨k, op, vk, vn, vs, va, f, B, m, d, e1⟩ := val_agg h
  rw [e1] at cR cO ⊢
  obtain ⟨⟨u1, u2⟩, hu⟩ : ∃ u, u = kindT l t := ⟨_, rfl⟩
  rw [← hu] at cO ⊢
  generalize l.length = n at *
  have bA := ba w (.cells #[.int .i64 k, .string op, .int .i64 vk, .int .i64 vn, .string vs, .string va, .string f, .slice B m d] 38)
  have hB := Blk.new w 38 #[.int .i64 k, .string op, .int .i64 vk, .int .i64 vn, .string vs, .string va, .string f, .slice B m d]
  have H := Lib.hid (And.intro cR (And.intro cK (And.intro cO (And.intro bA hB)))); clear cR cK cO bA hB h ho hl hn hf hu e1
  go_enter Try.func8, Try.ntmps8
  go_wp2_with fail
  try go_at_call 20
  refine (H.out.1 _ H.out.2.2.2.1).mono ?_
  rintro e w1 ⟨rfl, hb⟩
  have y := (H.out.2.2.2.2.later hb).cell
  have hS : ∀ X, Below w1.heap.size w1 X → (∀ j, X.cell? ⟨w.heap.size, j, none⟩ = (#[.int .i64 k, .string op, .int .i64 vk, .int .i64 vn, .string vs, .string va, .string f, .slice B m d] : Array Value)[j]?) := fun X hX => ((H.out.2.2.2.2.later hb).later hX).cell
  have D := Lib.hid (And.intro hS (bt H.out.2.2.2.1 hb)); clear hb hS
  have Z := Lib.hid (Below.refl w1.heap.size w1)
  go_upto_region 3 with fail
  refine wp_region_noPanic ?_
  go_region_held3 (fun w' => (∀ j, w'.cell? ⟨w.heap.size, j, none⟩ = (#[.int .i64 k, .string op, .int .i64 vk, .int .i64 vn, .string vs, .string va, .string f, .slice B m d] : Array Value)[j]?)) (exact D.out.1 _ (by first | exact Z.out | exact below_drew Z.out)) (first
    | (go_at_call 21; ((with_reducible refine (H.out.2.1 _ (bt D.out.2 (by first | exact Z.out | exact below_drew Z.out))).mono ?_); rintro e w2 ⟨b, N, ⟨rfl, hK⟩, hb⟩; (first | replace Z := Lib.hid (bt Z.out hb) | replace Z := Lib.hid (bt (below_drew Z.out) hb)); have KK := Lib.hid hK; clear hb hK))
    | (go_at_call 22; ((with_reducible refine (H.out.2.2.1 _ (bt D.out.2 (by first | exact Z.out | exact below_drew Z.out)) b N (by first | exact KK.out | exact KK.out.later (below_drew (Below.refl _ _)))).mono ?_); rintro e w3 ⟨rfl, hb⟩; (first | replace Z := Lib.hid (bt Z.out hb) | replace Z := Lib.hid (bt (below_drew Z.out) hb)); clear hb)))
  all_goals
    refine NoPanic.normal ?_
    go_wp2_with fail
    exact bodyPost_ret (v := .tuple #[.int .i64 u1, .int .i64 u2]) (by simp [results, Try.results8, go_sem]) rfl ⟨rfl, bt D.out.2 Z.out⟩
end Go.Proofs.Ytkmboffbohndjaa
