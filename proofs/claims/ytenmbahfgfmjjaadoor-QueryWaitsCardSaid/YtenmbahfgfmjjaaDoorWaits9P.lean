/- QueryWaits: the last region. -/
import Derived.Test.YtenmbahfgfmjjaaDoorWaits9
import Derived.Test.YtenmbahfgfmjjaaDoorQ27
import Derived.Test.YtenmbahfgfmjjaaDoorQ11

namespace Go.Proofs.YtenmbahfgfmjjaaDoor
open Go.ChangeShapes Go.WideShapes Go.ChangeAt Go.RowKit Go.Maps
set_option linter.unusedVariables false
set_option linter.unusedSimpArgs false

set_option maxRecDepth 20000 in
set_option maxHeartbeats 4000000 in
theorem waits11 (u0 u1 u2 u7 u8 u9 u10 u11 u12 u13 u14 u15 u16 u17 u18 u19 u20 u21 u22 u23 u24 u25 u26 u27 u28 u29 u30 u31 u32 u33 u34 u35 u36 u37 u38 u39 u40 u41 u42 u43 u44 u45 : Value) {w : World} {g g1 g2 : Nat} {q : Qy} {a : Addr} {Aa Ab O : Option Addr} {n c na ca nb cb m d : Nat} {nm : ByteArray} (hA : AskQ nm 4 q) (hnm : nameB nm = true) (hn : n = q.ps.length)
    (hB0 : Blk w g 27 #[.string q.nm, .bool q.st, (.slice (some a) n c), .int .i64 q.wi, .string q.by_, .slice O m d]) (hB1 : Blk w g1 27 #[.string q.nm, .bool q.st, (.slice Aa na ca), .int .i64 q.wi, .string q.by_, .slice O m d]) (hB2 : Blk w g2 27 #[.string q.nm, .bool q.st, (.slice Ab nb cb), .int .i64 q.wi, .string q.by_, .slice O m d])
    (hQ0 : QyAt w (.slice (some a) n c) (.slice O m d) q) (hQ1 : QyAt w (.slice Aa na ca) (.slice O m d) (qW q true)) (hQ2 : QyAt w (.slice Ab nb cb) (.slice O m d) (qW q false)) {Q : Exit → Act → World → Prop}
    (hQ : ∀ (x46 x47 x48 x49 x50 x51 x52 x53 x54 x55 x56 x57 x58 x59 x60 x61 x62 x63 x64 x65 x66 x67 x68 x69 x70 x71 x72 x73 x74 x75 x76 x77 x78 x79 x80 x81 x82 x83 x84 x85 x86 x87 x88 x89 x90 x91 : Value)  (wx : World), Below w.heap.size w wx → Q .normal ⟨#[u0, u1, .bool true, .bool true, .pointer (some ⟨g, 0, none⟩), .pointer (some ⟨g1, 0, none⟩), .pointer (some ⟨g2, 0, none⟩), u7, u8, u9, u10, u11, u12, u13, u14, u15, u16, u17, u18, u19, u20, u21, u22, u23, u24, u25, u26, u27, u28, u29, u30, u31, u32, u33, u34, u35, u36, u37, u38, u39, u40, u41, u42, u43, u44, u45, x46, x47, x48, x49, x50, x51, x52, x53, x54, x55, x56, x57, x58, x59, x60, x61, x62, x63, x64, x65, x66, x67, x68, x69, x70, x71, x72, x73, x74, x75, x76, x77, x78, x79, x80, x81, x82, x83, x84, x85, x86, x87, x88, x89, x90, x91], []⟩ wx) :
    Code.wp Tryd.prog ((Tryd.f5.body.bind (regionN 11)).getD .skip) Q ⟨#[u0, u1, u2, .bool true, .pointer (some ⟨g, 0, none⟩), .pointer (some ⟨g1, 0, none⟩), .pointer (some ⟨g2, 0, none⟩), u7, u8, u9, u10, u11, u12, u13, u14, u15, u16, u17, u18, u19, u20, u21, u22, u23, u24, u25, u26, u27, u28, u29, u30, u31, u32, u33, u34, u35, u36, u37, u38, u39, u40, u41, u42, u43, u44, u45, undef, undef, undef, undef, undef, undef, undef, undef, undef, undef, undef, undef, undef, undef, undef, undef, undef, undef, undef, undef, undef, undef, undef, undef, undef, undef, undef, undef, undef, undef, undef, undef, undef, undef, undef, undef, undef, undef, undef, undef, undef, undef, undef, undef, undef, undef], []⟩ w := by
  have HQ := Lib.hid hQ; clear hQ
  conv => arg 2; whnf
  have hn4 : n ≤ 4 := by have := hA.2.2.1; omega
  have hn1 : 1 ≤ n := by have := hA.2.1; omega
  obtain ⟨k, hk⟩ : ∃ k, k = n - 1 := ⟨_, rfl⟩
  obtain ⟨bl, hbl⟩ : ∃ b, b = waits q.ps := ⟨_, rfl⟩
  have hcell : w.cell? (a.add (k * 5)) = some (.bool bl) := by
    obtain ⟨r, h1, h2, h3⟩ := hQ0.1
    obtain ⟨a', ha', hca⟩ := h1.cells rfl (by have : r.length = q.ps.length := by rw [← h2, List.length_map]
                                              omega)
    obtain rfl := Option.some.inj ha'
    have hrl : r.length = q.ps.length := by rw [← h2, List.length_map]
    obtain ⟨e0, _⟩ := hca.row5 k (by omega) rfl
    have hw : waits q.ps = (r[k]'(by omega)).1.nt := by
      unfold waits
      rw [List.getLast?_eq_getElem?, ← hn, ← hk, ← h2, List.getElem?_map, List.getElem?_eq_getElem (by omega)]
      rfl
    rw [hbl, hw]; exact e0
  have hlen : ∀ (q' : Qy) (v' : Value), (∀ p ∈ q'.ps, p.ss.length ≤ 1000) → q'.ps.length ≤ 1000 → QyAt w v' (.slice O m d) q' → ∀ W, Below w.heap.size w W → Calls Tryd.prog 12 #[qv q' v' (.slice O m d)] W fun e w' => ∃ (A : Option Addr) (c : Nat), e = .returned (.slice A (inputs q'.ps).length c) ∧ Below W.heap.size W w' := fun q' v' s1 s2 hq W hW => by
    refine (Inputs_any q' v' (.slice O m d) W (hq.1.later hW) s2 s1).mono ?_
    rintro e w' ⟨r, ⟨rfl, hO⟩, hb⟩
    obtain ⟨A, c, rfl, _⟩ := (hO.at_ (f := scV) (k := 1) (fun _ => rfl)).shape
    exact ⟨A, c, rfl, hb⟩
  have o0 := hA.qok (by omega)
  have o1 := qW_qok hA true
  have o2 := qW_qok hA false
  have cI0 : ∀ W, Below w.heap.size w W → Calls Tryd.prog 12 #[.agg #[.string q.nm, .bool q.st, (.slice (some a) n c), .int .i64 q.wi, .string q.by_, .slice O m d]] W fun e w' => ∃ (A : Option Addr) (c : Nat), e = .returned (.slice A (inputs q.ps).length c) ∧ Below W.heap.size W w' := fun W hW => by
    have h := hlen q _ o0.ns o0.np hQ0 W hW
    exact h
  have cI1 : ∀ W, Below w.heap.size w W → Calls Tryd.prog 12 #[.agg #[.string q.nm, .bool q.st, (.slice Aa na ca), .int .i64 q.wi, .string q.by_, .slice O m d]] W fun e w' => ∃ (A : Option Addr) (c : Nat), e = .returned (.slice A ((inputs q.ps).length + 1) c) ∧ Below W.heap.size W w' := fun W hW => by
    have h := hlen (qW q true) _ o1.ns o1.np hQ1 W hW
    rw [qW_inputs hA true] at h
    exact h
  have cW0 : ∀ W, Below w.heap.size w W → Calls Tryd.prog 13 #[.agg #[.string q.nm, .bool q.st, (.slice (some a) n c), .int .i64 q.wi, .string q.by_, .slice O m d]] W fun e w' => e = .returned (.bool bl) ∧ Below W.heap.size W w' := fun W hW => by
    have h := Waits_any q _ (.slice O m d) W (hQ0.1.later hW) (by have := o0.np; omega)
    rw [← hbl] at h
    exact h
  have cW1 : ∀ W, Below w.heap.size w W → Calls Tryd.prog 13 #[.agg #[.string q.nm, .bool q.st, (.slice Aa na ca), .int .i64 q.wi, .string q.by_, .slice O m d]] W fun e w' => e = .returned (.bool true) ∧ Below W.heap.size W w' := fun W hW => by
    have h := Waits_any (qW q true) _ (.slice O m d) W (hQ1.1.later hW) (by have := o1.np; omega)
    rw [qW_waits] at h
    exact h
  have cW2 : ∀ W, Below w.heap.size w W → Calls Tryd.prog 13 #[.agg #[.string q.nm, .bool q.st, (.slice Ab nb cb), .int .i64 q.wi, .string q.by_, .slice O m d]] W fun e w' => e = .returned (.bool false) ∧ Below W.heap.size W w' := fun W hW => by
    have h := Waits_any (qW q false) _ (.slice O m d) W (hQ2.1.later hW) (by have := o2.np; omega)
    rw [qW_waits] at h
    exact h
  have cR1 : ∀ W, Below w.heap.size w W → Calls Tryd.prog 9 #[.agg #[.string q.nm, .bool q.st, (.slice Aa na ca), .int .i64 q.wi, .string q.by_, .slice O m d]] W fun e w' => e = .returned (.bool (!q.st)) ∧ Below W.heap.size W w' := fun W hW => by
    have h := RightQ_any (qW q true) _ _ W (hQ1.later hW) o1
    rw [qW_right hA hnm true, Bool.and_true] at h
    exact h
  have cR2 : ∀ W, Below w.heap.size w W → Calls Tryd.prog 9 #[.agg #[.string q.nm, .bool q.st, (.slice Ab nb cb), .int .i64 q.wi, .string q.by_, .slice O m d]] W fun e w' => e = .returned (.bool true) ∧ Below W.heap.size W w' := fun W hW => by
    have h := RightQ_any (qW q false) _ _ W (hQ2.later hW) o2
    rw [qW_right hA hnm false, Bool.and_false] at h
    exact h
  obtain ⟨t, ht⟩ : ∃ t, t = (inputs q.ps).length := ⟨_, rfl⟩
  have ht16 : t ≤ 16 := by rw [ht]; exact inputs_few hA
  rw [← ht] at cI0 cI1
  obtain ⟨t1, ht1⟩ : ∃ t1, t1 = t + 1 := ⟨_, rfl⟩
  rw [← ht1] at cI1
  have htw : IntKind.i64.wrap ((t : Int) + 1) = (t1 : Int) := by rw [IntWalk.i64_in _ (by omega)]; omega
  have hkw : IntKind.i64.wrap ((n : Int) - 1) = (k : Int) := by rw [IntWalk.i64_in _ (by omega)]; omega
  have hkn : (k : Int) < (n : Int) := by omega
  have p0 := hB0.cell
  have p1 := hB1.cell
  have p2 := hB2.cell
  have hS : ∀ X, Below w.heap.size w X → (∀ j, X.cell? ⟨g, j, none⟩ = (#[.string q.nm, .bool q.st, (.slice (some a) n c), .int .i64 q.wi, .string q.by_, .slice O m d] : Array Value)[j]?) ∧ (∀ j, X.cell? ⟨g1, j, none⟩ = (#[.string q.nm, .bool q.st, (.slice Aa na ca), .int .i64 q.wi, .string q.by_, .slice O m d] : Array Value)[j]?) ∧ (∀ j, X.cell? ⟨g2, j, none⟩ = (#[.string q.nm, .bool q.st, (.slice Ab nb cb), .int .i64 q.wi, .string q.by_, .slice O m d] : Array Value)[j]?) ∧ X.cell? (a.add (k * 5)) = some (.bool bl) := fun X hX => ⟨(hB0.later hX).cell, (hB1.later hX).cell, (hB2.later hX).cell, by rw [hX.cell (World.block_lt_of_cell? w _ hcell)]; exact hcell⟩
  have C := Lib.hid (And.intro cW0 (And.intro cW1 (And.intro cW2 (And.intro cR1 (And.intro cR2 (And.intro cI1 cI0))))))
  have D := Lib.hid hS
  have B := Lib.hid (Below.refl w.heap.size w)
  clear cW0 cW1 cW2 cR1 cR2 cI1 cI0 hS hlen o0 o1 o2 hQ0 hQ1 hQ2 hB0 hB1 hB2 hA hn hbl ht ht1 hk hnm
  generalize q.st = st at *
  generalize q.nm = qnm at *
  generalize q.by_ = qby at *
  generalize q.wi = qwi at *
  refine wp_region_noPanic ?_
  rcases st with _ | _
  · rcases bl with _ | _
    · go_region_held3 (fun w' => (∀ j, w'.cell? ⟨g, j, none⟩ = (#[.string qnm, .bool false, (.slice (some a) n c), .int .i64 qwi, .string qby, .slice O m d] : Array Value)[j]?) ∧ (∀ j, w'.cell? ⟨g1, j, none⟩ = (#[.string qnm, .bool false, (.slice Aa na ca), .int .i64 qwi, .string qby, .slice O m d] : Array Value)[j]?) ∧ (∀ j, w'.cell? ⟨g2, j, none⟩ = (#[.string qnm, .bool false, (.slice Ab nb cb), .int .i64 qwi, .string qby, .slice O m d] : Array Value)[j]?) ∧ w'.cell? (a.add (k * 5)) = some (.bool false)) (exact D.out _ (by first | exact B.out | exact below_drew B.out)) (first
        | (go_at_call 13; ((with_reducible refine (C.out.1 _ (by first | exact B.out | exact below_drew B.out)).mono ?_); rintro e w1 ⟨rfl, hb⟩; (first | replace B := Lib.hid (bt B.out hb) | replace B := Lib.hid (bt (below_drew B.out) hb)); clear hb))
        | (go_at_call 13; ((with_reducible refine (C.out.2.1 _ (by first | exact B.out | exact below_drew B.out)).mono ?_); rintro e w1 ⟨rfl, hb⟩; (first | replace B := Lib.hid (bt B.out hb) | replace B := Lib.hid (bt (below_drew B.out) hb)); clear hb))
        | (go_at_call 13; ((with_reducible refine (C.out.2.2.1 _ (by first | exact B.out | exact below_drew B.out)).mono ?_); rintro e w1 ⟨rfl, hb⟩; (first | replace B := Lib.hid (bt B.out hb) | replace B := Lib.hid (bt (below_drew B.out) hb)); clear hb))
        | (go_at_call 9; ((with_reducible refine (C.out.2.2.2.1 _ (by first | exact B.out | exact below_drew B.out)).mono ?_); rintro e w1 ⟨rfl, hb⟩; (first | replace B := Lib.hid (bt B.out hb) | replace B := Lib.hid (bt (below_drew B.out) hb)); clear hb))
        | (go_at_call 9; ((with_reducible refine (C.out.2.2.2.2.1 _ (by first | exact B.out | exact below_drew B.out)).mono ?_); rintro e w1 ⟨rfl, hb⟩; (first | replace B := Lib.hid (bt B.out hb) | replace B := Lib.hid (bt (below_drew B.out) hb)); clear hb))
        | (go_at_call 12; ((with_reducible refine (C.out.2.2.2.2.2.1 _ (by first | exact B.out | exact below_drew B.out)).mono ?_); rintro e w1 ⟨IA, ic, rfl, hb⟩; (first | replace B := Lib.hid (bt B.out hb) | replace B := Lib.hid (bt (below_drew B.out) hb)); clear hb))
        | (go_at_call 12; ((with_reducible refine (C.out.2.2.2.2.2.2 _ (by first | exact B.out | exact below_drew B.out)).mono ?_); rintro e w1 ⟨IA, ic, rfl, hb⟩; (first | replace B := Lib.hid (bt B.out hb) | replace B := Lib.hid (bt (below_drew B.out) hb)); clear hb)))
      all_goals
        first
        | exact NoPanic.normal (HQ.out _ _ _ _ _ _ _ _ _ _ _ _ _ _ _ _ _ _ _ _ _ _ _ _ _ _ _ _ _ _ _ _ _ _ _ _ _ _ _ _ _ _ _ _ _ _ _ B.out)
        | exact NoPanic.normal (HQ.out _ _ _ _ _ _ _ _ _ _ _ _ _ _ _ _ _ _ _ _ _ _ _ _ _ _ _ _ _ _ _ _ _ _ _ _ _ _ _ _ _ _ _ _ _ _ _ (below_drew B.out))
    · go_region_held3 (fun w' => (∀ j, w'.cell? ⟨g, j, none⟩ = (#[.string qnm, .bool false, (.slice (some a) n c), .int .i64 qwi, .string qby, .slice O m d] : Array Value)[j]?) ∧ (∀ j, w'.cell? ⟨g1, j, none⟩ = (#[.string qnm, .bool false, (.slice Aa na ca), .int .i64 qwi, .string qby, .slice O m d] : Array Value)[j]?) ∧ (∀ j, w'.cell? ⟨g2, j, none⟩ = (#[.string qnm, .bool false, (.slice Ab nb cb), .int .i64 qwi, .string qby, .slice O m d] : Array Value)[j]?) ∧ w'.cell? (a.add (k * 5)) = some (.bool true)) (exact D.out _ (by first | exact B.out | exact below_drew B.out)) (first
        | (go_at_call 13; ((with_reducible refine (C.out.1 _ (by first | exact B.out | exact below_drew B.out)).mono ?_); rintro e w1 ⟨rfl, hb⟩; (first | replace B := Lib.hid (bt B.out hb) | replace B := Lib.hid (bt (below_drew B.out) hb)); clear hb))
        | (go_at_call 13; ((with_reducible refine (C.out.2.1 _ (by first | exact B.out | exact below_drew B.out)).mono ?_); rintro e w1 ⟨rfl, hb⟩; (first | replace B := Lib.hid (bt B.out hb) | replace B := Lib.hid (bt (below_drew B.out) hb)); clear hb))
        | (go_at_call 13; ((with_reducible refine (C.out.2.2.1 _ (by first | exact B.out | exact below_drew B.out)).mono ?_); rintro e w1 ⟨rfl, hb⟩; (first | replace B := Lib.hid (bt B.out hb) | replace B := Lib.hid (bt (below_drew B.out) hb)); clear hb))
        | (go_at_call 9; ((with_reducible refine (C.out.2.2.2.1 _ (by first | exact B.out | exact below_drew B.out)).mono ?_); rintro e w1 ⟨rfl, hb⟩; (first | replace B := Lib.hid (bt B.out hb) | replace B := Lib.hid (bt (below_drew B.out) hb)); clear hb))
        | (go_at_call 9; ((with_reducible refine (C.out.2.2.2.2.1 _ (by first | exact B.out | exact below_drew B.out)).mono ?_); rintro e w1 ⟨rfl, hb⟩; (first | replace B := Lib.hid (bt B.out hb) | replace B := Lib.hid (bt (below_drew B.out) hb)); clear hb))
        | (go_at_call 12; ((with_reducible refine (C.out.2.2.2.2.2.1 _ (by first | exact B.out | exact below_drew B.out)).mono ?_); rintro e w1 ⟨IA, ic, rfl, hb⟩; (first | replace B := Lib.hid (bt B.out hb) | replace B := Lib.hid (bt (below_drew B.out) hb)); clear hb))
        | (go_at_call 12; ((with_reducible refine (C.out.2.2.2.2.2.2 _ (by first | exact B.out | exact below_drew B.out)).mono ?_); rintro e w1 ⟨IA, ic, rfl, hb⟩; (first | replace B := Lib.hid (bt B.out hb) | replace B := Lib.hid (bt (below_drew B.out) hb)); clear hb)))
      all_goals
        first
        | exact NoPanic.normal (HQ.out _ _ _ _ _ _ _ _ _ _ _ _ _ _ _ _ _ _ _ _ _ _ _ _ _ _ _ _ _ _ _ _ _ _ _ _ _ _ _ _ _ _ _ _ _ _ _ B.out)
        | exact NoPanic.normal (HQ.out _ _ _ _ _ _ _ _ _ _ _ _ _ _ _ _ _ _ _ _ _ _ _ _ _ _ _ _ _ _ _ _ _ _ _ _ _ _ _ _ _ _ _ _ _ _ _ (below_drew B.out))
  · rcases bl with _ | _
    · go_region_held3 (fun w' => (∀ j, w'.cell? ⟨g, j, none⟩ = (#[.string qnm, .bool true, (.slice (some a) n c), .int .i64 qwi, .string qby, .slice O m d] : Array Value)[j]?) ∧ (∀ j, w'.cell? ⟨g1, j, none⟩ = (#[.string qnm, .bool true, (.slice Aa na ca), .int .i64 qwi, .string qby, .slice O m d] : Array Value)[j]?) ∧ (∀ j, w'.cell? ⟨g2, j, none⟩ = (#[.string qnm, .bool true, (.slice Ab nb cb), .int .i64 qwi, .string qby, .slice O m d] : Array Value)[j]?) ∧ w'.cell? (a.add (k * 5)) = some (.bool false)) (exact D.out _ (by first | exact B.out | exact below_drew B.out)) (first
        | (go_at_call 13; ((with_reducible refine (C.out.1 _ (by first | exact B.out | exact below_drew B.out)).mono ?_); rintro e w1 ⟨rfl, hb⟩; (first | replace B := Lib.hid (bt B.out hb) | replace B := Lib.hid (bt (below_drew B.out) hb)); clear hb))
        | (go_at_call 13; ((with_reducible refine (C.out.2.1 _ (by first | exact B.out | exact below_drew B.out)).mono ?_); rintro e w1 ⟨rfl, hb⟩; (first | replace B := Lib.hid (bt B.out hb) | replace B := Lib.hid (bt (below_drew B.out) hb)); clear hb))
        | (go_at_call 13; ((with_reducible refine (C.out.2.2.1 _ (by first | exact B.out | exact below_drew B.out)).mono ?_); rintro e w1 ⟨rfl, hb⟩; (first | replace B := Lib.hid (bt B.out hb) | replace B := Lib.hid (bt (below_drew B.out) hb)); clear hb))
        | (go_at_call 9; ((with_reducible refine (C.out.2.2.2.1 _ (by first | exact B.out | exact below_drew B.out)).mono ?_); rintro e w1 ⟨rfl, hb⟩; (first | replace B := Lib.hid (bt B.out hb) | replace B := Lib.hid (bt (below_drew B.out) hb)); clear hb))
        | (go_at_call 9; ((with_reducible refine (C.out.2.2.2.2.1 _ (by first | exact B.out | exact below_drew B.out)).mono ?_); rintro e w1 ⟨rfl, hb⟩; (first | replace B := Lib.hid (bt B.out hb) | replace B := Lib.hid (bt (below_drew B.out) hb)); clear hb))
        | (go_at_call 12; ((with_reducible refine (C.out.2.2.2.2.2.1 _ (by first | exact B.out | exact below_drew B.out)).mono ?_); rintro e w1 ⟨IA, ic, rfl, hb⟩; (first | replace B := Lib.hid (bt B.out hb) | replace B := Lib.hid (bt (below_drew B.out) hb)); clear hb))
        | (go_at_call 12; ((with_reducible refine (C.out.2.2.2.2.2.2 _ (by first | exact B.out | exact below_drew B.out)).mono ?_); rintro e w1 ⟨IA, ic, rfl, hb⟩; (first | replace B := Lib.hid (bt B.out hb) | replace B := Lib.hid (bt (below_drew B.out) hb)); clear hb)))
      all_goals
        first
        | exact NoPanic.normal (HQ.out _ _ _ _ _ _ _ _ _ _ _ _ _ _ _ _ _ _ _ _ _ _ _ _ _ _ _ _ _ _ _ _ _ _ _ _ _ _ _ _ _ _ _ _ _ _ _ B.out)
        | exact NoPanic.normal (HQ.out _ _ _ _ _ _ _ _ _ _ _ _ _ _ _ _ _ _ _ _ _ _ _ _ _ _ _ _ _ _ _ _ _ _ _ _ _ _ _ _ _ _ _ _ _ _ _ (below_drew B.out))
    · go_region_held3 (fun w' => (∀ j, w'.cell? ⟨g, j, none⟩ = (#[.string qnm, .bool true, (.slice (some a) n c), .int .i64 qwi, .string qby, .slice O m d] : Array Value)[j]?) ∧ (∀ j, w'.cell? ⟨g1, j, none⟩ = (#[.string qnm, .bool true, (.slice Aa na ca), .int .i64 qwi, .string qby, .slice O m d] : Array Value)[j]?) ∧ (∀ j, w'.cell? ⟨g2, j, none⟩ = (#[.string qnm, .bool true, (.slice Ab nb cb), .int .i64 qwi, .string qby, .slice O m d] : Array Value)[j]?) ∧ w'.cell? (a.add (k * 5)) = some (.bool true)) (exact D.out _ (by first | exact B.out | exact below_drew B.out)) (first
        | (go_at_call 13; ((with_reducible refine (C.out.1 _ (by first | exact B.out | exact below_drew B.out)).mono ?_); rintro e w1 ⟨rfl, hb⟩; (first | replace B := Lib.hid (bt B.out hb) | replace B := Lib.hid (bt (below_drew B.out) hb)); clear hb))
        | (go_at_call 13; ((with_reducible refine (C.out.2.1 _ (by first | exact B.out | exact below_drew B.out)).mono ?_); rintro e w1 ⟨rfl, hb⟩; (first | replace B := Lib.hid (bt B.out hb) | replace B := Lib.hid (bt (below_drew B.out) hb)); clear hb))
        | (go_at_call 13; ((with_reducible refine (C.out.2.2.1 _ (by first | exact B.out | exact below_drew B.out)).mono ?_); rintro e w1 ⟨rfl, hb⟩; (first | replace B := Lib.hid (bt B.out hb) | replace B := Lib.hid (bt (below_drew B.out) hb)); clear hb))
        | (go_at_call 9; ((with_reducible refine (C.out.2.2.2.1 _ (by first | exact B.out | exact below_drew B.out)).mono ?_); rintro e w1 ⟨rfl, hb⟩; (first | replace B := Lib.hid (bt B.out hb) | replace B := Lib.hid (bt (below_drew B.out) hb)); clear hb))
        | (go_at_call 9; ((with_reducible refine (C.out.2.2.2.2.1 _ (by first | exact B.out | exact below_drew B.out)).mono ?_); rintro e w1 ⟨rfl, hb⟩; (first | replace B := Lib.hid (bt B.out hb) | replace B := Lib.hid (bt (below_drew B.out) hb)); clear hb))
        | (go_at_call 12; ((with_reducible refine (C.out.2.2.2.2.2.1 _ (by first | exact B.out | exact below_drew B.out)).mono ?_); rintro e w1 ⟨IA, ic, rfl, hb⟩; (first | replace B := Lib.hid (bt B.out hb) | replace B := Lib.hid (bt (below_drew B.out) hb)); clear hb))
        | (go_at_call 12; ((with_reducible refine (C.out.2.2.2.2.2.2 _ (by first | exact B.out | exact below_drew B.out)).mono ?_); rintro e w1 ⟨IA, ic, rfl, hb⟩; (first | replace B := Lib.hid (bt B.out hb) | replace B := Lib.hid (bt (below_drew B.out) hb)); clear hb)))
      all_goals
        first
        | exact NoPanic.normal (HQ.out _ _ _ _ _ _ _ _ _ _ _ _ _ _ _ _ _ _ _ _ _ _ _ _ _ _ _ _ _ _ _ _ _ _ _ _ _ _ _ _ _ _ _ _ _ _ _ B.out)
        | exact NoPanic.normal (HQ.out _ _ _ _ _ _ _ _ _ _ _ _ _ _ _ _ _ _ _ _ _ _ _ _ _ _ _ _ _ _ _ _ _ _ _ _ _ _ _ _ _ _ _ _ _ _ _ (below_drew B.out))
end Go.Proofs.YtenmbahfgfmjjaaDoor
