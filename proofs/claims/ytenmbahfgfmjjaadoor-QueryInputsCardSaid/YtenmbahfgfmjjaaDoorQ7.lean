/- Texts that several proofs stand on, part 7. -/
import Derived.Test.YtenmbahfgfmjjaaDoorQ6
import Derived.Test.YtenmbahfgfmjjaaDoorQ5
import Derived.Test.YtenmbahfgfmjjaaDoorQ3
import Derived.Test.YtenmbahfgfmjjaaDoorQ0
namespace Go.Proofs.YtenmbahfgfmjjaaDoor
open Go.ChangeShapes Go.WideShapes Go.ChangeAt Go.RowKit
set_option linter.unusedVariables false
set_option linter.unusedSimpArgs false

theorem blk_cells {w : World} {g : Nat} {t : TypeId} {cs : Array Value} (h : Blk w g t cs) : ∀ j u, cs.toList[j]? = some u → w.cell? ((⟨g, 0, none⟩ : Addr).add j) = some u := by
  intro j u hu
  rw [addr_pl, Nat.zero_add, h.cell j]
  simpa using hu
/-- 's[:h]'. -/
theorem At.upto {α : Type} {P : Program} {w : World} {k : Nat} {f : α → List Value} {t : TypeId} (ht : P.underlying t = some (.slice (P.elem t))) (hk : ∀ W, (sizeOf (P.elem t)).run P W = .ok k W) {A : Option Addr} {n c : Nat} {l : List α} (h : At w k f (.slice A n c) l) (m : Nat) (hm : m ≤ l.length) :
    ∃ A' c', (∀ W, (Instr.slice t (.slice A n c) none (some (.int .i64 (m : Int))) none).run P W = .ok (.slice A' m c') W) ∧ At w k f (.slice A' m c') (l.take m) := by
  obtain ⟨_, _, hv, h1, _⟩ := h.shape
  simp only [Value.slice.injEq] at hv
  obtain ⟨rfl, rfl, rfl⟩ := hv
  have hs := h.sliced 0 m c (by omega) hm (by omega) (Nat.le_refl _)
  simp only [List.drop_zero] at hs
  refine ⟨if c = 0 then A else A.map (·.add (0 * k)), c, fun W => ?_, ?_⟩
  · rw [run_slice_h W t A l.length c ht .i64 m (by omega) (by omega), hk]
    simp [Result.andThen, Go.sliced]
  · unfold Go.sliced at hs; simpa using hs
/-- 's[l:]'. -/
theorem At.from_ {α : Type} {P : Program} {w : World} {k : Nat} {f : α → List Value} {t : TypeId} (ht : P.underlying t = some (.slice (P.elem t))) (hk : ∀ W, (sizeOf (P.elem t)).run P W = .ok k W) {A : Option Addr} {n c : Nat} {l : List α} (h : At w k f (.slice A n c) l) (m : Nat) (hm : m ≤ l.length) :
    ∃ A' c', (∀ W, (Instr.slice t (.slice A n c) (some (.int .i64 (m : Int))) none none).run P W = .ok (.slice A' (l.length - m) c') W) ∧ At w k f (.slice A' (l.length - m) c') (l.drop m) := by
  obtain ⟨_, _, hv, h1, _⟩ := h.shape
  simp only [Value.slice.injEq] at hv
  obtain ⟨rfl, rfl, rfl⟩ := hv
  have hs := h.sliced m l.length c hm (Nat.le_refl _) h1 (Nat.le_refl _)
  rw [List.take_length] at hs
  refine ⟨if c = m then A else A.map (·.add (m * k)), c - m, fun W => ?_, ?_⟩
  · rw [run_slice_l W t A l.length c ht .i64 m (by omega) (by omega), hk]
    simp [Result.andThen, Go.sliced]
  · unfold Go.sliced at hs; simpa using hs
/-- append onto the call's own row, of a slice that reads as a list, as one step of a region that draws its order. -/
theorem step_append_at {α : Type} {P : Program} {ops : Array Oper} {o : Oper} {a : Act} {w : World} {K : Act → World → Prop} {Q : Exit → Act → World → Prop} {E : Prop} (hgd : o.guard = none) (s x : Operand) (t : TypeId)
    (ho : o.op = .call { callee := .builtin .append, args := #[s, x], argTypes := #[t, t] })
    (base : Nat) (e : TypeId) (i : TypeInfo) (z : Value) (size bytes : Nat) (ht : P.underlying t = some (.slice e)) (hi : P.info? e = some i) (hz : i.zero = some z)
    (hsize : i.size = size) (hby : i.bytes = bytes) (hzs : z.cells.size = size) (hsz : 0 < size)
    {f : α → List Value} (hf : ∀ x, (f x).length = size) (h1 : ∀ x, ∀ u ∈ f x, u.oneCell' = true)
    (v : Value) (l : List α) (hs : a.eval s = v) (hown : Own w base e size f v l)
    (A : Option Addr) (m c : Nat) (news : List α) (hm : m = news.length) (hx : a.eval x = .slice A m c) (hat : At w size f (.slice A m c) news)
    (h63 : l.length + m ≤ maxLen) (hbytes : (l.length + m) * bytes ≤ 140737488355328) (hbase : base ≤ w.heap.size)
    (h : ∀ v' w', Own w' base e size f v' (l ++ news) → w.grownBy w' v.ownBlock → K (a.put o.dst v') w') : if Region.wanted o (yielded ops a.tmps) = true then Oper.wp P o a w K Q else E := by
  subst hm
  obtain ⟨B, c', hv, k1, k2, k3⟩ := hat.shape
  simp only [Value.slice.injEq] at hv
  obtain ⟨rfl, _, rfl⟩ := hv
  cases A with
  | none =>
    obtain rfl := k3 rfl
    obtain rfl : news = [] := List.eq_nil_of_length_eq_zero (by omega)
    rw [if_pos (by simp [Region.wanted, hgd])]
    have hrun := run_append_owned_none (P := P) (w := w) base t o.type e i size ht hi v l.length (l.flatMap f) hown
    unfold Oper.wp
    simp only [List.length_nil] at hx
    simp [execOp, ho, resolve, invoke, builtin, hs, hx, hrun, Result.andThen]
    exact h v w (by simpa using hown) (World.grownBy.refl w _)
  | some ad =>
    have hat' := hat
    obtain ⟨_, _, hv, _, _, _, h4⟩ := hat'
    simp only [Value.slice.injEq] at hv
    obtain ⟨rfl, _, rfl⟩ := hv
    refine step_append_own hgd s x t ho base e i z size bytes ht hi hz hsize hby hzs hsz v l.length (l.flatMap f) hs hown ad news.length c (news.flatMap f) hx (flat_len hf news) ?_ ?_ h63 hbytes hbase ?_
    · intro j u hu
      have hj := (List.getElem?_eq_some_iff.1 hu).1
      rw [flat_len hf] at hj
      have hd : j / size < news.length := Nat.div_lt_of_lt_mul (by rw [Nat.mul_comm]; exact hj)
      have hr : j % size < size := Nat.mod_lt _ hsz
      have e : j / size * size + j % size = j := by rw [Nat.mul_comm]; exact Nat.div_add_mod j size
      have := flat_get hf news (j / size) (j % size) hd hr
      rw [e] at this
      rw [this] at hu
      have h5 := h4 ad rfl (j / size) hd (j % size) u hu
      rw [e] at h5; exact h5
    · intro u hu
      obtain ⟨y, _, hy⟩ := List.mem_flatMap.1 hu
      exact h1 y u hy
    · intro v' w' r1 r2 _
      refine h v' w' ?_ r2
      unfold Own
      rw [List.length_append, List.flatMap_append]; exact r1
end Go.Proofs.YtenmbahfgfmjjaaDoor
namespace Go.Proofs.YtenmbahfgfmjjaaDoor
open Go.ChangeShapes Go.WideShapes Go.ChangeAt Go.RowKit
set_option linter.unusedVariables false
set_option linter.unusedSimpArgs false

/-- Is a tree an operation of two, and how closely does it bind? -/
def Tr.isBin : Tr → Bool
  | .bin _ _ _ => true
  | _ => false
def Tr.opOf : Tr → ByteArray
  | .un op _ => op
  | .bin op _ _ => op
  | _ => e0
def brk (b : Bool) (l : List UInt8) : List UInt8 := if b then 40 :: (l ++ [41]) else l
/-- A tree as a text, with no more brackets than are needed. -/
def putT : Tr → List UInt8
  | .lit k n s => Val.showL k n s
  | .ref v f => v.toList ++ (46 :: f.toList)
  | .cnt v => 35 :: v.toList
  | .un op x => op.toList ++ brk x.isBin (putT x)
  | .bin op x y => brk (x.isBin && decide (lvl x.opOf < lvl op)) (putT x) ++ (32 :: (op.toList ++ [32])) ++ brk (y.isBin && decide (lvl y.opOf ≤ lvl op)) (putT y)
/-- How many nodes a tree has. -/
def Tr.nodes : Tr → Nat
  | .un _ x => x.nodes + 1
  | .bin _ x y => x.nodes + y.nodes + 1
  | _ => 1
theorem Tr.nodes_pos (t : Tr) : 1 ≤ t.nodes := by cases t <;> simp [Tr.nodes]
theorem brk_len (b : Bool) (l : List UInt8) : (brk b l).length ≤ l.length + 2 := by unfold brk; split <;> simp
end Go.Proofs.YtenmbahfgfmjjaaDoor
namespace Go.Proofs.YtenmbahfgfmjjaaDoor
open Go.ChangeShapes Go.WideShapes Go.ChangeAt Go.RowKit

set_option linter.unusedVariables false
set_option linter.unusedSimpArgs false

theorem ret_bytes' {a : ByteArray} {b : List UInt8} (h : a.data.toList = b) : Ending.returned (.string a) = .returned (.string ⟨b.toArray⟩) := by
  rw [← h]
theorem Show_v (k n : Int) (s : ByteArray) (w : World) (hs : s.size ≤ maxLen) (n0 : -9223372036854775808 ≤ n) (n1 : n ≤ 9223372036854775807) (ht : Tab w) :
    Calls Tryd.prog 78 #[vv k n s] w fun e w' => e = .returned (.string ⟨(Val.showL k n s).toArray⟩) ∧ Below w.heap.size w w' := by
  have cR := fun w => Right_any k n s w hs
  unfold maxLen at hs
  have hb0 : Below w.heap.size w (w.alloc (.cells #[.int .i64 k, .int .i64 n, .string s] 40)) := (Below.refl _ _).alloc (Nat.le_refl _) _
  rcases hr : Val.right k n s with _ | _
  · have E := Lib.hid (Val.show_no hr)
    rw [hr] at cR
    have H := Lib.hid cR; clear cR hr
    go_enter Tryd.func78, Tryd.ntmps78
    go_wp2_with (go_at_call 86; ((with_reducible refine (H.out _).mono ?_); rintro e w1 ⟨rfl, b1⟩))
    go_ret
    exact ⟨by rw [E.out]; rfl, bt hb0 b1⟩
  · rcases Val.right_kind hr with rfl | rfl | rfl
    · have E := Lib.hid (Val.show_int hr)
      rw [hr] at cR
      have H := Lib.hid cR; clear cR hr
      have HT := Lib.hid ht; clear ht
      go_enter Tryd.func78, Tryd.ntmps78
      go_wp2_with fail
      go_at_call 86
      ((with_reducible refine (H.out _).mono ?_); rintro e w1 ⟨rfl, b1⟩)
      obtain ⟨hc1, hf1⟩ := bcell b1
      go_wp2_with (go_at_call 24; ((with_reducible refine (FormatInt_any _ _ n0 n1 (HT.out.later (bt hb0 b1))).mono ?_); rintro e w2 ⟨rfl, b2⟩))
      go_ret
      exact ⟨by rw [E.out]; rfl, bt hb0 (bt b1 b2)⟩
    · have E := Lib.hid (Val.show_bool hr)
      rw [hr] at cR
      have H := Lib.hid cR; clear cR hr ht
      go_enter Tryd.func78, Tryd.ntmps78
      go_wp2_with fail
      go_at_call 86
      ((with_reducible refine (H.out _).mono ?_); rintro e w1 ⟨rfl, b1⟩)
      obtain ⟨hc1, hf1⟩ := bcell b1
      go_wp2_with (go_at_call 90; ((with_reducible refine (FormatBool_any _ _).mono ?_); rintro e w2 ⟨rfl, rfl⟩))
      go_ret
      exact ⟨by rw [E.out]; rfl, bt hb0 b1⟩
    · obtain ⟨rfl, hn⟩ := Val.right_text hr
      have E := Lib.hid (Val.show_text hr)
      rw [hr] at cR
      have H := Lib.hid cR; clear cR hr ht
      go_enter Tryd.func78, Tryd.ntmps78
      go_wp2_with fail
      go_at_call 86
      ((with_reducible refine (H.out _).mono ?_); rintro e w1 ⟨rfl, b1⟩)
      obtain ⟨hc1, hf1⟩ := bcell b1
      go_wp2
      go_ret
      exact ⟨ret_bytes' (by rw [E.out]; simp), bt hb0 b1⟩

end Go.Proofs.YtenmbahfgfmjjaaDoor
namespace Go.Proofs.YtenmbahfgfmjjaaDoor
open Go.ChangeShapes Go.WideShapes Go.ChangeAt Go.RowKit
set_option linter.unusedVariables false
set_option linter.unusedSimpArgs false

theorem rightLit_yes (k n : Int) (s : ByteArray) (w : World) (h : (Tr.lit k n s).ok = true) :
    Calls Tryd.prog 74 #[vv k n s] w fun e w' => e = .returned (.bool true) ∧ Below w.heap.size w w' := by
  unfold Tr.ok at h
  simp only [Bool.and_eq_true, Bool.not_eq_true'] at h
  obtain ⟨⟨h1, h2⟩, h3⟩ := h
  have hs := right_size h1
  have cR := fun W => Right_any k n s W (by unfold maxLen; omega)
  rw [h1] at cR
  have cC := fun W => Tryd.strings_Contains_one s 39 W
  rw [h3] at cC
  have C := Lib.hid (And.intro cR cC); clear cR cC h1 h3
  by_cases hk : k = 1
  · subst hk
    have hn : decide (n < 0) = false := by simpa using h2
    have hn2 : ¬ n < 0 := by simpa using h2
    clear h2
    go_enter Tryd.func74, Tryd.ntmps74
    go_wp2_with (first
      | (go_at_call 86; ((with_reducible refine (C.out.1 _).mono ?_); rintro e w1 ⟨rfl, hb⟩; have hc := (bcell hb).1; have B := Lib.hid hb; clear hb))
      | (go_at_call 87; ((with_reducible refine (C.out.2 _).mono ?_); rintro e w1 ⟨rfl, rfl⟩)))
    go_ret
    exact ⟨rfl, bt (ba _ _) B.out⟩
  · have hk1 : decide (k = 1) = false := decide_eq_false hk
    clear h2
    go_enter Tryd.func74, Tryd.ntmps74
    go_wp2_with (first
      | (go_at_call 86; ((with_reducible refine (C.out.1 _).mono ?_); rintro e w1 ⟨rfl, hb⟩; have hc := (bcell hb).1; have B := Lib.hid hb; clear hb))
      | (go_at_call 87; ((with_reducible refine (C.out.2 _).mono ?_); rintro e w1 ⟨rfl, rfl⟩)))
    go_ret
    exact ⟨rfl, bt (ba _ _) B.out⟩
theorem alone_ref (v f : ByteArray) (w : World) (h : (Tr.ref v f).ok = true) :
    Calls Tryd.prog 62 #[ev 1 e0 0 0 e0 v f nilk] w fun e w' => e = .returned (.bool true) ∧ Below w.heap.size w w' := by
  unfold Tr.ok at h
  simp only [Bool.and_eq_true] at h
  have cV := fun W => IsName_any v W (nameB_size h.1)
  have cF := fun W => IsName_any f W (nameB_size h.2)
  rw [h.1] at cV
  rw [h.2] at cF
  have C := Lib.hid (And.intro cV cF); clear cV cF h
  go_enter Tryd.func62, Tryd.ntmps62
  go_wp2_with (go_at_call 19; first
      | ((with_reducible refine (C.out.1 _).mono ?_); rintro e w1 ⟨rfl, rfl⟩)
      | ((with_reducible refine (C.out.2 _).mono ?_); rintro e w1 ⟨rfl, rfl⟩))
  go_ret
  exact ⟨rfl, bt (ba _ _) (ba _ _)⟩
theorem alone_cnt (v : ByteArray) (w : World) (h : (Tr.cnt v).ok = true) :
    Calls Tryd.prog 62 #[ev 2 e0 0 0 e0 v e0 nilk] w fun e w' => e = .returned (.bool true) ∧ Below w.heap.size w w' := by
  unfold Tr.ok at h
  have cV := fun W => IsName_any v W (nameB_size h)
  rw [h] at cV
  have C := Lib.hid cV; clear cV h
  go_enter Tryd.func62, Tryd.ntmps62
  go_wp2_with (go_at_call 19; ((with_reducible refine (C.out _).mono ?_); rintro e w1 ⟨rfl, rfl⟩))
  go_ret
  exact ⟨rfl, bt (ba _ _) (ba _ _)⟩
theorem alone_un (op : ByteArray) (a : Addr) (c : Nat) (w : World) (h : unB op = true) :
    Calls Tryd.prog 62 #[ev 3 op 0 0 e0 e0 e0 (.slice (some a) 1 c)] w fun e w' => e = .returned (.bool true) ∧ Below w.heap.size w w' := by
  unfold unB at h
  simp only [Bool.or_eq_true, beq_iff_eq] at h
  rcases h with h | h
  all_goals
    go_enter Tryd.func62, Tryd.ntmps62
    go_wp2
    go_ret
    exact ⟨rfl, bt (ba _ _) (ba _ _)⟩
theorem alone_bin (op : ByteArray) (a : Addr) (c : Nat) (w : World) (h : 0 < lvl op) :
    Calls Tryd.prog 62 #[ev 4 op 0 0 e0 e0 e0 (.slice (some a) 2 c)] w fun e w' => e = .returned (.bool true) ∧ Below w.heap.size w w' := by
  have cL := fun W => Level_any op W
  generalize lvl op = x at *
  have C := Lib.hid cL; clear cL
  go_enter Tryd.func62, Tryd.ntmps62
  go_wp2_with (go_at_call 75; ((with_reducible refine (C.out _).mono ?_); rintro e w1 ⟨rfl, rfl⟩))
  go_ret
  exact ⟨rfl, bt (ba _ _) (ba _ _)⟩
theorem alone_lit (k n : Int) (s : ByteArray) (w : World) (h : (Tr.lit k n s).ok = true) :
    Calls Tryd.prog 62 #[ev 0 e0 k n s e0 e0 nilk] w fun e w' => e = .returned (.bool true) ∧ Below w.heap.size w w' := by
  have cL := fun W => rightLit_yes k n s W h
  have C := Lib.hid cL; clear cL h
  go_enter Tryd.func62, Tryd.ntmps62
  go_wp2_with (go_at_call 74; ((with_reducible refine (C.out _).mono ?_); rintro e w1 ⟨rfl, hb⟩; have hc := (bcell hb).1; have hf := (bcell hb).2; have B := Lib.hid hb; clear hb))
  go_ret
  exact ⟨rfl, (((bt (bt (ba _ _) (ba _ _)) B.out).setCell (Nat.le_succ _) _).setCell (Nat.le_succ _) _).setCell (Nat.le_succ _) _⟩
/-- All of a node's, and all below it, is right. -/
theorem every_gen (k : Int) (op : ByteArray) (vk vn : Int) (vs va f : ByteArray) (A : Option Addr) (n c : Nat) (w : World) (hn : n ≤ 2)
    (hA : ∀ W, Calls Tryd.prog 62 #[ev k op vk vn vs va f (.slice A n c)] W fun e w' => e = .returned (.bool true) ∧ Below W.heap.size W w')
    (hK : ∀ i, i < n → ∃ a, A = some a ∧ ∃ k' op' vk' vn' vs' va' f' A' n' c', Row8 w (a.add (i * 8)) k' op' vk' vn' vs' va' f' (.slice A' n' c') ∧
      ∀ W, Below w.heap.size w W → Calls Tryd.prog 61 #[ev k' op' vk' vn' vs' va' f' (.slice A' n' c'), .func (.func 62) #[] #[]] W fun e w' => e = .returned (.bool true) ∧ Below W.heap.size W w') :
    Calls Tryd.prog 61 #[ev k op vk vn vs va f (.slice A n c), .func (.func 62) #[] #[]] w fun e w' => e = .returned (.bool true) ∧ Below w.heap.size w w' := by
  have H := Lib.hid (And.intro hA hK); clear hA hK
  go_enter Tryd.func61, Tryd.ntmps61
  go_wp2_with (go_at_call 62; ((with_reducible refine (H.out.1 _).mono ?_); rintro e w1 ⟨rfl, hb⟩; have hc := (bcell hb).1; have B := Lib.hid hb; clear hb))
  go_loopw [14] (fun i wr => ∃ j : Nat, j ≤ n ∧ i = .int .i64 j ∧ Below w.heap.size w wr) (fun i _ => n - (intOf i).toNat)
  case atStart => exact ⟨0, Nat.zero_le _, rfl, bt (ba _ _) B.out⟩
  case round =>
    obtain ⟨j, hj, rfl, hb⟩ := hrel
    by_cases hlt : j < n
    · obtain ⟨a, rfl, k', op', vk', vn', vs', va', f', A', n', c', hr, cE⟩ := H.out.2 j hlt
      obtain ⟨c0, c1, c2, c3, c4, c5, c6, c7⟩ := hr.later hb
      have bA := bt hb (ba wr (.cells #[.int .i64 k', .string op', .int .i64 vk', .int .i64 vn', .string vs', .string va', .string f', .slice A' n' c'] 42))
      have cE2 := cE _ bA
      have E := Lib.hid (And.intro cE2 bA); clear cE cE2 bA hb hr
      go_wp2_with (go_at_call 61; ((with_reducible refine (E.out.1).mono ?_); rintro e w2 ⟨rfl, hb2⟩))
      go_roundw
      case rel => exact ⟨j + 1, by omega, by go_num, bt E.out.2 hb2⟩
      case measure => simp [intOf]; omega
    · have HE := Lib.hid hb; clear hb
      go_wp2_with fail
      go_ret
      exact ⟨rfl, HE.out⟩
theorem TrAt.sl {w : World} {t : Tr} {v : Value} (h : TrAt w t v) : ∃ A n c, v = .slice A n c := by
  cases t with
  | lit k n s => exact ⟨_, _, _, h⟩
  | ref v f => exact ⟨_, _, _, h⟩
  | cnt v => exact ⟨_, _, _, h⟩
  | un op x => obtain ⟨a, c, h0, _⟩ := h; exact ⟨_, _, _, h0⟩
  | bin op x y => obtain ⟨a, c, h0, _⟩ := h; exact ⟨_, _, _, h0⟩
theorem every_tr (t : Tr) : ∀ (v : Value) (w : World), TrAt w t v → t.ok = true →
    Calls Tryd.prog 61 #[t.val v, .func (.func 62) #[] #[]] w fun e w' => e = .returned (.bool true) ∧ Below w.heap.size w w' := by
  induction t with
  | lit k n s =>
    rintro v w rfl ho
    exact every_gen 0 e0 k n s e0 e0 none 0 0 w (by omega) (fun W => alone_lit k n s W ho) (fun i hi => absurd hi (by omega))
  | ref v f =>
    rintro v w rfl ho
    exact every_gen 1 e0 0 0 e0 _ f none 0 0 w (by omega) (fun W => alone_ref _ f W ho) (fun i hi => absurd hi (by omega))
  | cnt v =>
    rintro v w rfl ho
    exact every_gen 2 e0 0 0 e0 _ e0 none 0 0 w (by omega) (fun W => alone_cnt _ W ho) (fun i hi => absurd hi (by omega))
  | un op x ih =>
    rintro v w ⟨a, c, rfl, h1, h2, kx, hx, hr⟩ ho
    unfold Tr.ok at ho
    simp only [Bool.and_eq_true] at ho
    refine every_gen 3 op 0 0 e0 e0 e0 (some a) 1 c w (by omega) (fun W => alone_un op a c W ho.1) (fun i hi => ⟨a, rfl, ?_⟩)
    obtain rfl : i = 0 := by omega
    obtain ⟨A', n', c', rfl⟩ := hx.sl
    have hv := (fun W hb => ih _ W (hx.later hb) ho.2)
    cases x <;> exact ⟨_, _, _, _, _, _, _, _, _, _, hr, hv⟩
  | bin op x y ihx ihy =>
    rintro v w ⟨a, c, rfl, h1, h2, ⟨kx, hx, hr⟩, ky, hy, hs⟩ ho
    unfold Tr.ok at ho
    simp only [Bool.and_eq_true, decide_eq_true_eq] at ho
    refine every_gen 4 op 0 0 e0 e0 e0 (some a) 2 c w (by omega) (fun W => alone_bin op a c W ho.1.1) (fun i hi => ⟨a, rfl, ?_⟩)
    rcases (by omega : i = 0 ∨ i = 1) with rfl | rfl
    · obtain ⟨A', n', c', rfl⟩ := hx.sl
      have hv := (fun W hb => ihx _ W (hx.later hb) ho.1.2)
      cases x <;> exact ⟨_, _, _, _, _, _, _, _, _, _, hr, hv⟩
    · obtain ⟨A', n', c', rfl⟩ := hy.sl
      have hv := (fun W hb => ihy _ W (hy.later hb) ho.2)
      cases y <;> exact ⟨_, _, _, _, _, _, _, _, _, _, hs, hv⟩
/-- Right: all the right trees. -/
theorem Right_gen (k : Int) (op : ByteArray) (vk vn : Int) (vs va f : ByteArray) (A : Option Addr) (n c : Nat) (w : World)
    (hE : ∀ W, Below w.heap.size w W → Calls Tryd.prog 61 #[ev k op vk vn vs va f (.slice A n c), .func (.func 62) #[] #[]] W fun e w' => e = .returned (.bool true) ∧ Below W.heap.size W w') :
    Calls Tryd.prog 44 #[ev k op vk vn vs va f (.slice A n c)] w fun e w' => e = .returned (.bool true) ∧ Below w.heap.size w w' := by
  have cE := hE _ (ba w (.cells #[.int .i64 k, .string op, .int .i64 vk, .int .i64 vn, .string vs, .string va, .string f, .slice A n c] 42))
  have E := Lib.hid cE; clear cE hE
  go_enter Tryd.func44, Tryd.ntmps44
  go_wp2_with (go_at_call 61; ((with_reducible refine (E.out).mono ?_); rintro e w2 ⟨rfl, hb2⟩))
  go_ret
  exact ⟨rfl, bt (ba _ _) hb2⟩
theorem Right_tr (t : Tr) (v : Value) (w : World) (h : TrAt w t v) (ho : t.ok = true) :
    Calls Tryd.prog 44 #[t.val v] w fun e w' => e = .returned (.bool true) ∧ Below w.heap.size w w' := by
  obtain ⟨A, n, c, rfl⟩ := h.sl
  have hE := fun W hb => every_tr t _ W (h.later hb) ho
  cases t <;> exact Right_gen _ _ _ _ _ _ _ _ _ _ w hE
end Go.Proofs.YtenmbahfgfmjjaaDoor
