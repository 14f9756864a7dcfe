/- Layer 12: the chapter's examples. -/
import Derived.Test.YtinonfgehbjneaaGphN
import Derived.Deep.DeepCutAuto
import Derived.Deep.CutBlock
namespace Go.Proofs.Ytinonfgehbjneaa
open Go.ChangeShapes Go.WideShapes Go.ChangeAt Go.RowKit Go.Maps
open Gr (Nd nmAt frAt Dist Loopy RankFull IsOrder)
set_option linter.unusedVariables false
set_option linter.unusedSimpArgs false

abbrev sa : ByteArray := ⟨#[97]⟩
abbrev sb : ByteArray := ⟨#[98]⟩
abbrev sc : ByteArray := ⟨#[99]⟩
abbrev ss : ByteArray := ⟨#[115]⟩
abbrev N1 : List Nd := [(sb, [sa]), (sa, [ss])]
abbrev N2 : List Nd := [(sa, [sb]), (sb, [sa]), (sc, [sa])]
abbrev N3 : List Nd := [(sa, []), (sa, [])]
theorem lt2 {k : Nat} (h : k < 2) : k = 0 ∨ k = 1 := by omega
theorem lt3 {k : Nat} (h : k < 3) : k = 0 ∨ k = 1 ∨ k = 2 := by omega
theorem dist1 : Dist N1 := fun i j hi hj => by
  rcases lt2 hi with rfl | rfl <;> rcases lt2 hj with rfl | rfl <;> simp [nmAt]
theorem dist2 : Dist N2 := fun i j hi hj => by
  rcases lt3 hi with rfl | rfl | rfl <;> rcases lt3 hj with rfl | rfl | rfl <;> simp [nmAt]
theorem dist3 : ¬ Dist N3 := fun h => by
  have := h 0 1 (by decide) (by decide) rfl
  cases this
theorem full1 : RankFull N1 (fun k => if k = 0 then 1 else 0) := fun k hk => by
  rcases lt2 hk with rfl | rfl
  · refine ⟨fun p hp hf => ?_, Or.inr ⟨1, by decide, by simp [nmAt, frAt], rfl⟩⟩
    rcases lt2 hp with rfl | rfl
    · simp [nmAt, frAt] at hf
    · simp
  · refine ⟨fun p hp hf => ?_, Or.inl rfl⟩
    rcases lt2 hp with rfl | rfl <;> simp [nmAt, frAt] at hf
theorem loop1 : ¬ Loopy N1 := full1.noLoop
theorem come2a : Gr.Comes N2 sa 0 := .step (j := 1) (.base (by simp [frAt])) (by simp [nmAt, frAt])
theorem come2b : Gr.Comes N2 sb 1 := .step (j := 0) (.base (by simp [frAt])) (by simp [nmAt, frAt])
theorem loop2 : Loopy N2 := ⟨0, by decide, come2a⟩
theorem comes_some {N : List Nd} {s : ByteArray} {k : Nat} (h : Gr.Comes N s k) : ∃ j, s ∈ frAt N j := by
  induction h with
  | base h => exact ⟨_, h⟩
  | step _ _ ih => exact ih
theorem no2 (k : Nat) : ¬ Gr.Comes N2 sc k := fun h => by
  obtain ⟨j, hj⟩ := comes_some h
  rcases lt3 (Gr.fr_lt hj) with rfl | rfl | rfl <;> simp [frAt] at hj
theorem rank1 {R : List Nat} (h : RankFull N1 (fun j => R.getD j 0)) (hl : R.length = N1.length) : R = [1, 0] := by
  have h0 : 1 = R.getD 0 0 := full1.uniq h 1 0 (by simp) (by decide)
  have h1 : 0 = R.getD 1 0 := full1.uniq h 0 1 (by simp) (by decide)
  match R, hl with
  | [a, b], _ => simp at h0 h1; rw [← h0, ← h1]
theorem order1 {R : Nat → Nat} {L : List Nat} (h : RankFull N1 R) (hL : IsOrder R N1.length L) : L = [1, 0] := by
  have h0 : 1 = R 0 := full1.uniq h 1 0 (by simp) (by decide)
  have h1 : 0 = R 1 := full1.uniq h 0 1 (by simp) (by decide)
  refine IsOrder.uniq hL.1 (m := [1, 0]) (by simp [Gr.LexR, ← h0, ← h1]) (fun k => ?_)
  rw [hL.2]
  show k < 2 ↔ _
  simp; omega
theorem loops2 {L : List Nat} (h : Rise (fun k => k < N2.length ∧ Gr.Comes N2 (nmAt N2 k) k) L) : L = [0, 1] := by
  refine rise_uniq h.1 (by simp) (fun k => ?_)
  rw [h.2]
  constructor
  · rintro ⟨h1, h2⟩
    rcases lt3 h1 with rfl | rfl | rfl
    · simp
    · simp
    · exact absurd h2 (no2 2)
  · intro hk
    rcases List.mem_cons.1 hk with rfl | hk
    · exact ⟨by decide, come2a⟩
    · obtain rfl : k = 1 := by simpa using hk
      exact ⟨by decide, come2b⟩
theorem above1 {L : List Nat} (h : Rise (Gr.Comes N1 ss) L) : L = [0, 1] := by
  refine rise_uniq h.1 (by simp) (fun k => ?_)
  rw [h.2]
  constructor
  · intro hc
    rcases lt2 hc.lt with rfl | rfl <;> simp
  · intro hk
    have c1 : Gr.Comes N1 ss 1 := .base (by simp [frAt])
    rcases List.mem_cons.1 hk with rfl | hk
    · exact .step c1 (by simp [nmAt, frAt])
    · obtain rfl : k = 1 := by simpa using hk
      exact c1
theorem above2 {L : List Nat} (h : Rise (Gr.Comes N2 sc) L) : L = [] := by
  refine rise_uniq h.1 List.Pairwise.nil (fun k => ?_)
  rw [h.2]
  exact ⟨fun hc => absurd hc (no2 k), fun hk => by cases hk⟩
/-- Nodes that are written out. -/
theorem nds_lit {W : World} (l : List Ny) {cs : Array Value} {g n : Nat} (hg : g = W.heap.size) (hn : n = l.length) (hm : n ≤ maxLen) (hs : cs.size = n * 2) (hcs : l.flatMap rowN = cs.toList)
    (hl : ∀ y ∈ l, At W 1 scV (sl y.2) y.1.2 ∧ y.1.1.size ≤ maxLen ∧ ∀ f ∈ y.1.2, f.size ≤ maxLen) : NdsAt (W.alloc (.cells cs 45)) (.slice (some ⟨g, 0, none⟩) n n) (l.map (·.1)) :=
  ⟨l, (own_lit (B := 0) l hg (Nat.zero_le _) hn hm hs hcs).at_ (f := rowN) (k := 2) (fun _ => rfl), rfl, fun y hy => ⟨(hl y hy).1.later (ba _ _), (hl y hy).2⟩⟩
theorem size1 (b : UInt8) : (⟨#[b]⟩ : ByteArray).size ≤ maxLen := by show 1 ≤ maxLen; unfold maxLen; omega
/-- One name, one place: a row of one name, as an alloc leaves it. -/
theorem lit1 {w : World} {x : UInt8} : At (w.alloc (.cells #[.string ⟨#[x]⟩] 9)) 1 scV (.slice (some ⟨w.heap.size, 0, none⟩) 1 1) [⟨#[x]⟩] ∧ Below w.heap.size w (w.alloc (.cells #[.string ⟨#[x]⟩] 9)) := ⟨at_newS w _, ba _ _⟩
def X1 (w : World) : World := ((w.alloc (.cells #[.string sa] 9)).alloc (.cells #[.string ss] 9)).alloc (.cells #[.string sb, .slice (some ⟨w.heap.size, 0, none⟩) 1 1, .string sa, .slice (some ⟨w.heap.size + 1, 0, none⟩) 1 1] 45)
theorem x1_nds (w : World) : NdsAt (X1 w) (.slice (some ⟨w.heap.size + 1 + 1, 0, none⟩) 2 2) N1 ∧ Below w.heap.size w (X1 w) := by
  have a1 := at_newS w sa
  have a2 := at_newS (w.alloc (.cells #[.string sa] 9)) ss
  rw [World.size_alloc] at a2
  refine ⟨nds_lit (W := (w.alloc (.cells #[.string sa] 9)).alloc (.cells #[.string ss] 9)) (g := w.heap.size + 1 + 1) (n := 2) [((sb, [sa]), (some ⟨w.heap.size, 0, none⟩, 1, 1)), ((sa, [ss]), (some ⟨w.heap.size + 1, 0, none⟩, 1, 1))] (by simp) rfl (by unfold maxLen; omega) rfl rfl (fun y hy => ?_), bt (bt (ba _ _) (ba _ _)) (ba _ _)⟩
  rcases List.mem_cons.1 hy with rfl | hy
  · exact ⟨a1.later (ba _ _), size1 _, fun f hf => by simp at hf; subst hf; exact size1 _⟩
  · obtain rfl : y = ((sa, [ss]), (some ⟨w.heap.size + 1, 0, none⟩, 1, 1)) := by simpa using hy
    exact ⟨a2, size1 _, fun f hf => by simp at hf; subst hf; exact size1 _⟩
def X2 (w : World) : World := (((w.alloc (.cells #[.string sb] 9)).alloc (.cells #[.string sa] 9)).alloc (.cells #[.string sa] 9)).alloc (.cells #[.string sa, .slice (some ⟨w.heap.size, 0, none⟩) 1 1, .string sb, .slice (some ⟨w.heap.size + 1, 0, none⟩) 1 1, .string sc, .slice (some ⟨w.heap.size + 1 + 1, 0, none⟩) 1 1] 45)
theorem x2_nds (w : World) : NdsAt (X2 w) (.slice (some ⟨w.heap.size + 1 + 1 + 1, 0, none⟩) 3 3) N2 ∧ Below w.heap.size w (X2 w) := by
  have a1 := at_newS w sb
  have a2 := at_newS (w.alloc (.cells #[.string sb] 9)) sa
  have a3 := at_newS ((w.alloc (.cells #[.string sb] 9)).alloc (.cells #[.string sa] 9)) sa
  simp only [World.size_alloc] at a2 a3
  refine ⟨nds_lit (W := ((w.alloc (.cells #[.string sb] 9)).alloc (.cells #[.string sa] 9)).alloc (.cells #[.string sa] 9)) (g := w.heap.size + 1 + 1 + 1) (n := 3) [((sa, [sb]), (some ⟨w.heap.size, 0, none⟩, 1, 1)), ((sb, [sa]), (some ⟨w.heap.size + 1, 0, none⟩, 1, 1)), ((sc, [sa]), (some ⟨w.heap.size + 1 + 1, 0, none⟩, 1, 1))] (by simp) rfl (by unfold maxLen; omega) rfl rfl (fun y hy => ?_), bt (bt (bt (ba _ _) (ba _ _)) (ba _ _)) (ba _ _)⟩
  rcases List.mem_cons.1 hy with rfl | hy
  · exact ⟨(a1.later (ba _ _)).later (ba _ _), size1 _, fun f hf => by simp at hf; subst hf; exact size1 _⟩
  · rcases List.mem_cons.1 hy with rfl | hy
    · exact ⟨a2.later (ba _ _), size1 _, fun f hf => by simp at hf; subst hf; exact size1 _⟩
    · obtain rfl : y = ((sc, [sa]), (some ⟨w.heap.size + 1 + 1, 0, none⟩, 1, 1)) := by simpa using hy
      exact ⟨a3, size1 _, fun f hf => by simp at hf; subst hf; exact size1 _⟩
def X3 (w : World) : World := w.alloc (.cells #[.string sa, .slice none 0 0, .string sa, .slice none 0 0] 45)
theorem x3_nds (w : World) : NdsAt (X3 w) (.slice (some ⟨w.heap.size, 0, none⟩) 2 2) N3 ∧ Below w.heap.size w (X3 w) := by
  refine ⟨nds_lit (W := w) (g := w.heap.size) (n := 2) [((sa, []), (none, 0, 0)), ((sa, []), (none, 0, 0))] rfl rfl (by unfold maxLen; omega) rfl rfl (fun y hy => ?_), ba _ _⟩
  obtain rfl : y = ((sa, []), (none, 0, 0)) := by simpa using hy
  exact ⟨At.nil _ _ _, size1 _, fun f hf => by cases hf⟩
theorem lit2 (w : World) (a b : Nat) : At (w.alloc (.cells #[.int .i64 (a : Int), .int .i64 (b : Int)] 3)) 1 rowP (.slice (some ⟨w.heap.size, 0, none⟩) 2 2) [a, b] ∧ Below w.heap.size w (w.alloc (.cells #[.int .i64 (a : Int), .int .i64 (b : Int)] 3)) :=
  ⟨(own_lit (B := 0) [a, b] rfl (Nat.zero_le _) rfl (by show 2 ≤ maxLen; unfold maxLen; omega) rfl rfl).at_ (f := rowP) (k := 1) (fun _ => rfl), ba _ _⟩
theorem lit10 (w : World) : At (w.alloc (.cells #[.int .i64 1, .int .i64 0] 3)) 1 rowP (.slice (some ⟨w.heap.size, 0, none⟩) 2 2) [1, 0] := (lit2 w 1 0).1
theorem lit01 (w : World) : At (w.alloc (.cells #[.int .i64 0, .int .i64 1] 3)) 1 rowP (.slice (some ⟨w.heap.size, 0, none⟩) 2 2) [0, 1] := (lit2 w 0 1).1
theorem numbers_yes (v v' : Value) (l m : List Nat) (w : World) (h : At w 1 rowP v l) (h' : At w 1 rowP v' m) (e : l = m) :
    Calls Try.prog 18 #[v, v'] w fun e w' => e = .returned (.bool true) ∧ Below w.heap.size w w' := by
  subst e
  have := numbers_any v v' l l w h h'
  rwa [decide_eq_true rfl] at this
set_option maxRecDepth 20000 in
set_option maxHeartbeats 8000000 in
theorem examples_any (w : World) : Calls Try.prog 9 #[] w fun e w' => e = .returned (.bool true) ∧ Below w.heap.size w w' := by
  obtain ⟨n1, b1⟩ := x1_nds w
  have hX1 : X1 w = ((w.alloc (.cells #[.string sa] 9)).alloc (.cells #[.string ss] 9)).alloc (.cells #[.string sb, .slice (some ⟨w.heap.size, 0, none⟩) 1 1, .string sa, .slice (some ⟨w.heap.size + 1, 0, none⟩) 1 1] 45) := rfl
  generalize X1 w = w1 at *
  have K1 := Lib.hid (And.intro n1 b1); clear n1 b1
  go_enter Try.func9, Try.ntmps9
  go_wp2_with fail
  rw [← hX1]
  clear hX1
  try go_at_call 14
  refine (Ranks_any _ N1 w1 K1.out.1 (by decide) (by decide)).mono ?_
  rintro e w2 ⟨r, k, ⟨rfl, hA⟩, b2⟩
  obtain ⟨rfl, R, oR, hR⟩ : k = 0 ∧ ∃ R : List Nat, Own w2 w1.heap.size 3 1 rowP r R ∧ R = [1, 0] := by
    rcases hA with ⟨h, _⟩ | ⟨_, h, _⟩ | ⟨_, hk, R, h1, h2, h3⟩
    · exact absurd dist1 h
    · exact absurd h loop1
    · exact ⟨hk, R, h1, rank1 h3 h2⟩
  subst hR
  obtain ⟨rA, rn, rc, rfl⟩ := own_shape oR
  have K2 := Lib.hid (And.intro (K1.out.1.later b2) (And.intro (bt K1.out.2 b2) oR)); clear b2 oR hA
  go_wp2_with fail
  try go_at_call 16
  refine (Order_any _ N1 w2 K2.out.1 (by decide) (by decide)).mono ?_
  rintro e w3 ⟨r3, k, ⟨rfl, hA⟩, b3⟩
  obtain ⟨rfl, L, oL, hL⟩ : k = 0 ∧ ∃ L : List Nat, Own w3 w2.heap.size 3 1 rowP r3 L ∧ L = [1, 0] := by
    rcases hA with ⟨h, _⟩ | ⟨_, h, _⟩ | ⟨_, hk, R, L, h1, h2, h3⟩
    · exact absurd dist1 h
    · exact absurd h loop1
    · exact ⟨hk, L, h3, order1 h1 h2⟩
  subst hL
  obtain ⟨lA, ln, lc, rfl⟩ := own_shape oL
  have K3 := Lib.hid (And.intro (K2.out.1.later b3) (And.intro (bt K2.out.2.1 b3) (And.intro (K2.out.2.2.later b3) oL))); clear b3 oL hA
  obtain ⟨n2, b4⟩ := x2_nds w3
  have hX2 : X2 w3 = (((w3.alloc (.cells #[.string sb] 9)).alloc (.cells #[.string sa] 9)).alloc (.cells #[.string sa] 9)).alloc (.cells #[.string sa, .slice (some ⟨w3.heap.size, 0, none⟩) 1 1, .string sb, .slice (some ⟨w3.heap.size + 1, 0, none⟩) 1 1, .string sc, .slice (some ⟨w3.heap.size + 1 + 1, 0, none⟩) 1 1] 45) := rfl
  generalize X2 w3 = w4 at *
  have K4 := Lib.hid (And.intro (K3.out.1.later b4) (And.intro (bt K3.out.2.1 b4) (And.intro (K3.out.2.2.1.later b4) (And.intro (K3.out.2.2.2.later b4) n2)))); clear n2 b4
  go_wp2_with fail
  rw [← hX2]
  clear hX2
  try go_at_call 14
  refine (Ranks_any _ N2 w4 K4.out.2.2.2.2 (by decide) (by decide)).mono ?_
  rintro e w5 ⟨r5, k, ⟨rfl, hA⟩, b5⟩
  obtain ⟨rfl, rfl⟩ : r5 = .slice none 0 0 ∧ k = 12 := by
    rcases hA with ⟨h, _⟩ | ⟨_, _, h1, h2⟩ | ⟨_, _, R, _, _, h3⟩
    · exact absurd dist2 h
    · exact ⟨h1, h2⟩
    · exact absurd loop2 h3.noLoop
  obtain ⟨n3, b6⟩ := x3_nds w5
  have hX3 : X3 w5 = w5.alloc (.cells #[.string sa, .slice none 0 0, .string sa, .slice none 0 0] 45) := rfl
  generalize X3 w5 = w6 at *
  have b46 := bt b5 b6
  have K6 := Lib.hid (And.intro (K4.out.1.later b46) (And.intro (bt K4.out.2.1 b46) (And.intro (K4.out.2.2.1.later b46) (And.intro (K4.out.2.2.2.1.later b46) (And.intro (K4.out.2.2.2.2.later b46) n3))))); clear n3 b6 b5 b46 hA
  go_wp2_with fail
  rw [← hX3]
  clear hX3
  try go_at_call 16
  refine (Order_any _ N3 w6 K6.out.2.2.2.2.2 (by decide) (by decide)).mono ?_
  rintro e w7 ⟨r7, k, ⟨rfl, hA⟩, b7⟩
  obtain ⟨rfl, rfl⟩ : r7 = .slice none 0 0 ∧ k = 11 := by
    rcases hA with ⟨_, h1, h2⟩ | ⟨h, _⟩ | ⟨h, _⟩
    · exact ⟨h1, h2⟩
    · exact absurd h dist3
    · exact absurd h dist3
  have K7 := Lib.hid (And.intro (K6.out.1.later b7) (And.intro (bt K6.out.2.1 b7) (And.intro (K6.out.2.2.1.later b7) (And.intro (K6.out.2.2.2.1.later b7) (K6.out.2.2.2.2.1.later b7))))); clear b7 hA
  go_wp2_with fail
  try go_at_call 18
  refine (numbers_yes _ _ [1, 0] [1, 0] _ ((K7.out.2.2.1.later (ba _ _)).at_ (f := rowP) (k := 1) (fun _ => rfl)) (lit10 w7) rfl).mono ?_
  rintro e w8 ⟨rfl, b8⟩
  have b78 := bt (ba w7 (.cells #[.int .i64 1, .int .i64 0] 3)) b8
  have K8 := Lib.hid (And.intro (K7.out.1.later b78) (And.intro (bt K7.out.2.1 b78) (And.intro (K7.out.2.2.2.1.later b78) (K7.out.2.2.2.2.later b78)))); clear b8 b78
  go_wp2_with fail
  try go_at_call 18
  refine (numbers_yes _ _ [1, 0] [1, 0] _ ((K8.out.2.2.1.later (ba _ _)).at_ (f := rowP) (k := 1) (fun _ => rfl)) (lit10 w8) rfl).mono ?_
  rintro e w9 ⟨rfl, b9⟩
  have b89 := bt (ba w8 (.cells #[.int .i64 1, .int .i64 0] 3)) b9
  have K9 := Lib.hid (And.intro (K8.out.1.later b89) (And.intro (bt K8.out.2.1 b89) (K8.out.2.2.2.later b89))); clear b9 b89
  go_wp2_with fail
  try go_at_call 19
  refine (Loops_any _ N2 w9 K9.out.2.2 (by decide) (by decide)).mono ?_
  rintro e w10 ⟨r10, L, ⟨rfl, oL, hL⟩, b10⟩
  obtain rfl := loops2 hL
  obtain ⟨mA, mn, mc, rfl⟩ := own_shape oL
  have K10 := Lib.hid (And.intro (K9.out.1.later b10) (And.intro (bt K9.out.2.1 b10) (And.intro (K9.out.2.2.later b10) oL))); clear b10 oL hL
  go_wp2_with fail
  try go_at_call 18
  refine (numbers_yes _ _ [0, 1] [0, 1] _ ((K10.out.2.2.2.later (ba _ _)).at_ (f := rowP) (k := 1) (fun _ => rfl)) (lit01 w10) rfl).mono ?_
  rintro e w11 ⟨rfl, b11⟩
  have b1011 := bt (ba w10 (.cells #[.int .i64 0, .int .i64 1] 3)) b11
  have K11 := Lib.hid (And.intro (K10.out.1.later b1011) (And.intro (bt K10.out.2.1 b1011) (K10.out.2.2.1.later b1011))); clear b11 b1011
  go_wp2_with fail
  try go_at_call 21
  refine (Above_any _ N1 ss w11 K11.out.1 (size1 _) (by decide) (by decide)).mono ?_
  rintro e w12 ⟨r12, L, ⟨rfl, oL, hL⟩, b12⟩
  obtain rfl := above1 hL
  obtain ⟨pA, pn, pc, rfl⟩ := own_shape oL
  have K12 := Lib.hid (And.intro oL (And.intro (bt K11.out.2.1 b12) (K11.out.2.2.later b12))); clear b12 oL hL
  go_wp2_with fail
  try go_at_call 18
  refine (numbers_yes _ _ [0, 1] [0, 1] _ ((K12.out.1.later (ba _ _)).at_ (f := rowP) (k := 1) (fun _ => rfl)) (lit01 w12) rfl).mono ?_
  rintro e w13 ⟨rfl, b13⟩
  have b1213 := bt (ba w12 (.cells #[.int .i64 0, .int .i64 1] 3)) b13
  have K13 := Lib.hid (And.intro (bt K12.out.2.1 b1213) (K12.out.2.2.later b1213)); clear b13 b1213
  go_wp2_with fail
  try go_at_call 21
  refine (Above_any _ N2 sc w13 K13.out.2 (size1 _) (by decide) (by decide)).mono ?_
  rintro e w14 ⟨r14, L, ⟨rfl, oL, hL⟩, b14⟩
  obtain rfl := above2 hL
  obtain ⟨qA, qn, qc, rfl⟩ := own_shape oL
  have K14 := Lib.hid (And.intro oL (bt K13.out.1 b14)); clear b14 oL hL
  go_wp2_with fail
  try go_at_call 18
  refine (numbers_yes _ _ [] [] _ (K14.out.1.at_ (f := rowP) (k := 1) (fun _ => rfl)) (At.nil _ _ _) rfl).mono ?_
  rintro e w15 ⟨rfl, b15⟩
  have K15 := Lib.hid (bt K14.out.2 b15); clear b15
  go_wp2_with fail
  go_ret
  exact ⟨rfl, K15.out⟩
end Go.Proofs.Ytinonfgehbjneaa
