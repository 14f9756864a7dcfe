/- Contracts of package expr: Vars at whatever tree. -/
import Derived.Test.YtfkcjlpocfjmdaaDoorVarsT
import Derived.Test.YtfkcjlpocfjmdaaDoorKeys
import Derived.Test.YtfkcjlpocfjmdaaDoorNumS
namespace Go.Proofs.YtfkcjlpocfjmdaaDoor
open Go.ChangeShapes Go.WideShapes Go.ChangeAt Go.RowKit Go.Maps Go.Shelf
set_option linter.unusedVariables false
set_option linter.unusedSimpArgs false

abbrev scV (s : ByteArray) : List Value := [.string s]
/-- The names, each once, in order. -/
def Sorted1 (l r : List ByteArray) : Prop := r.Pairwise (fun a b => a.toList < b.toList) ∧ ∀ s, s ∈ r ↔ s ∈ l
def VarsT (w : World) (t : Tr) (e : Ending) (w' : World) : Prop := ∃ (v : Value) (r : List ByteArray), e = .returned v ∧ Own w' w.heap.size 9 1 scV v r ∧ Sorted1 t.vars r
theorem sorted_keys {D : DataW Unit} {w : World} {b n : Nat} {l : List ByteArray} (h1 : w.ownsMap Tryd.prog 9 (plainElem Tryd.prog 4) b n D) (h2 : ∀ s, has D (strKey s) = true ↔ s ∈ l) (ss : List (List UInt8)) (hp : ss.Perm (strKeys D)) :
    Sorted1 l ((ss.mergeSort (fun x y => decide (x ≤ y))).map fun x => ⟨x.toArray⟩) := by
  obtain ⟨es, rfl, hpw, hk⟩ := h1.entries strKeyed
  obtain ⟨es', e', hko⟩ := h1.keysOf
  obtain rfl : es = es' := by simpa using e'
  have hkey : ∀ p ∈ es, ∃ x, p.1 = .string x := fun p hp => by
    obtain ⟨key, hkey⟩ := hko p hp
    obtain ⟨x, _, e, _⟩ := Maps.keyOf_str Tryd.underlying9 hkey
    exact ⟨x, e⟩
  have hnd : (strKeys (DataW.map es : DataW Unit)).Nodup := by
    show (es.map fun p => strOf p.1).Nodup
    refine List.pairwise_map.2 (hpw.imp_of_mem fun {p q} hp' hq' hne e => hne ?_)
    obtain ⟨a, ha⟩ := hkey p hp'
    obtain ⟨b, hb⟩ := hkey q hq'
    rw [ha, hb] at e ⊢
    exact congrArg _ e
  have hmem : ∀ x : List UInt8, x ∈ strKeys (DataW.map es : DataW Unit) ↔ has (DataW.map es : DataW Unit) (.string x) = true := fun x => by
    show x ∈ es.map (fun p => strOf p.1) ↔ _
    rw [has_eq, List.any_eq_true, List.mem_map]
    constructor
    · rintro ⟨p, hp', rfl⟩
      obtain ⟨a, ha⟩ := hkey p hp'
      exact ⟨p, hp', by rw [ha]; simp [Lit.sameKey, strOf]⟩
    · rintro ⟨p, hp', hs⟩
      obtain ⟨a, ha⟩ := hkey p hp'
      rw [ha] at hs
      exact ⟨p, hp', by rw [ha]; simpa [Lit.sameKey, strOf] using hs⟩
  have hss := (List.mergeSort_perm ss (fun x y => decide (x ≤ y))).trans hp
  have tr : ∀ a b c : List UInt8, decide (a ≤ b) = true → decide (b ≤ c) = true → decide (a ≤ c) = true := fun a b c h1 h2 => by simp only [decide_eq_true_eq] at *; exact List.le_trans h1 h2
  have to : ∀ a b : List UInt8, (decide (a ≤ b) || decide (b ≤ a)) = true := fun a b => by simp only [Bool.or_eq_true, decide_eq_true_eq]; exact List.le_total a b
  have hs := List.pairwise_mergeSort (le := fun x y : List UInt8 => decide (x ≤ y)) tr to ss
  have hn2 := hss.nodup_iff.2 hnd
  constructor
  · rw [List.pairwise_map]
    refine (hs.and hn2).imp fun {a b} h => ?_
    rw [Lib.toList_data, Lib.toList_data]
    have h3 : a ≤ b := by simpa using h.1
    show a < b
    rcases Classical.em (a < b) with g | g
    · exact g
    · exact absurd (List.le_antisymm h3 (List.not_lt.1 g)) h.2
  · intro s
    rw [List.mem_map, ← h2 s]
    constructor
    · rintro ⟨x, hx, rfl⟩
      exact (hmem x).1 (hss.mem_iff.1 hx)
    · intro h
      exact ⟨s.data.toList, hss.mem_iff.2 ((hmem _).2 h), rfl⟩
/-- maps.Keys and slices.Sorted at a map of the call's own. -/
theorem keys_any (mb : Option Nat) (W : World) : Calls Tryd.prog 40 #[.map mb] W fun e w' => e = .returned (.func (.func 55) #[] #[.pointer (some ⟨W.heap.size, 0, none⟩)]) ∧ w' = W.alloc (.cells #[.map mb] 69) :=
  (callsIn_wide (n := 5)).1 (Tryd.maps_Keys_40 mb W)
theorem sorted_any (m N : Nat) (t : Tr) (W : World) (hS : SetS W m N (t.vs [])) (hN : N * 16 ≤ 140737488355328) :
    Calls Tryd.prog 39 #[.func (.func 55) #[] #[.pointer (some ⟨W.heap.size, 0, none⟩)]] (W.alloc (.cells #[.map (some m)] 69)) fun e w' => VarsT W t e w' ∧ Below W.heap.size W w' := by
  obtain ⟨D, h1, h2⟩ := hS
  have hz := h1.size_le
  refine ((callsIn_wide (n := 5)).1 (Tryd.slices_Sorted_keys_39_40 m N D _ W h1 (by unfold maxLen; omega) (by omega))).mono ?_
  rintro e w' ⟨v, ss, rfl, hp, hO, _, hb⟩
  have hs := sorted_keys h1 h2 ss hp
  refine ⟨⟨v, _, rfl, ?_, hs.1, fun s => ?_⟩, bt (ba W _) hb⟩
  · unfold Own
    have e1 : (((ss.mergeSort (fun x y => decide (x ≤ y))).map fun x => (⟨x.toArray⟩ : ByteArray)).flatMap scV) = (ss.mergeSort (fun x y => decide (x ≤ y))).map encStr := by
      rw [List.flatMap_map]
      induction (ss.mergeSort (fun x y => decide (x ≤ y))) with
      | nil => rfl
      | cons x l ih => rw [List.flatMap_cons, List.map_cons, ih]; rfl
    rw [e1, List.length_map, List.length_mergeSort]
    exact ownsRow_base_a hO (by simp)
  · rw [hs.2 s, vs_mem]; simp
set_option maxHeartbeats 1000000 in
theorem Vars_gen (k : Int) (op : ByteArray) (vk vn : Int) (vs va f : ByteArray) (A : Option Addr) (n c : Nat) (t : Tr) (N : Nat) (hN : N * 16 ≤ 140737488355328) (w : World)
    (hE : ∀ W g m, Below w.heap.size w W → w.heap.size ≤ g → w.heap.size ≤ m → g ≠ m → Blk W g 69 #[.map (some m)] → SetS W m 0 [] → Calls Tryd.prog 33 #[ev k op vk vn vs va f (.slice A n c), (.func (.func 38) #[] #[.pointer (some ⟨g, 0, none⟩)])] W fun e w' => e = .returned (.bool true) ∧ KS w g m W N (t.vs []) w') :
    Calls Tryd.prog 15 #[ev k op vk vn vs va f (.slice A n c)] w fun e w' => VarsT w t e w' ∧ Below w.heap.size w w' := by
  have b1 := ba w (.cells #[.int .i64 k, .string op, .int .i64 vk, .int .i64 vn, .string vs, .string va, .string f, .slice A n c] 26)
  have b2 := ba (w.alloc (.cells #[.int .i64 k, .string op, .int .i64 vk, .int .i64 vn, .string vs, .string va, .string f, .slice A n c] 26)) (.map #[] 0)
  have b3 := ba ((w.alloc (.cells #[.int .i64 k, .string op, .int .i64 vk, .int .i64 vn, .string vs, .string va, .string f, .slice A n c] 26)).alloc (.map #[] 0)) (.cells #[.map (some (w.heap.size + 1))] 69)
  have hS := (SetS.made (w.alloc (.cells #[.int .i64 k, .string op, .int .i64 vk, .int .i64 vn, .string vs, .string va, .string f, .slice A n c] 26))).later b3
  have hB := Blk.new ((w.alloc (.cells #[.int .i64 k, .string op, .int .i64 vk, .int .i64 vn, .string vs, .string va, .string f, .slice A n c] 26)).alloc (.map #[] 0)) 69 #[.map (some (w.heap.size + 1))]
  simp only [World.size_alloc] at hS hB
  have E := hE _ (w.heap.size + 1 + 1) (w.heap.size + 1) (bt (bt b1 b2) b3) (by omega) (by omega) (by omega) hB hS
  have H := Lib.hid E; clear b1 b2 b3 hS hE hB E
  have hmm := @run_makeMap Tryd.prog
  go_enter Tryd.func15, Tryd.ntmps15
  go_wp2_with fail
  refine H.out.mono ?_
  rintro e w1 ⟨rfl, hz⟩
  have p0 := hz.2.1.cell 0
  have hT := sorted_any (w.heap.size + 1) N t w1 hz.2.2.1 hN
  have Z := Lib.hid (And.intro hz.1 hT); clear hz hT
  go_wp2_with (first
    | (go_at_call 40; refine (keys_any _ _).mono ?_; rintro e w2 ⟨rfl, rfl⟩)
    | (go_at_call 39; refine Z.out.2.mono ?_; rintro e w2 ⟨⟨v, r, rfl, hO, hs⟩, hb⟩; have Y := Lib.hid (And.intro hO (And.intro hs hb)); clear hO hs hb))
  go_ret
  exact ⟨⟨_, r, rfl, Y.out.1.lift Z.out.1.size, Y.out.2.1⟩, bt Z.out.1 Y.out.2.2⟩
/-- Vars at whatever tree. -/
theorem Vars_tr (t : Tr) (K : Value) (w : World) (h : TrAt w t K) (hf : t.fits) (hN : t.nodes * 16 ≤ 140737488355328) :
    Calls Tryd.prog 15 #[t.val K] w fun e w' => VarsT w t e w' ∧ Below w.heap.size w w' := by
  have hE := fun W g m (hW : Below w.heap.size w W) (hg : w.heap.size ≤ g) (hm : w.heap.size ≤ m) (hgm : g ≠ m) (hB : Blk W g 69 #[.map (some m)]) (hS : SetS W m 0 []) => vars_tr w g m hg hm hgm t K h hf W 0 [] hW hB hS (by unfold maxLen; omega)
  obtain ⟨A, n, c, e1⟩ := node_sl h
  unfold Tr.val at hE ⊢
  rw [e1] at hE ⊢
  simp only [Nat.zero_add] at hE
  exact Vars_gen _ _ _ _ _ _ _ A n c t _ hN w hE
end Go.Proofs.YtfkcjlpocfjmdaaDoor
