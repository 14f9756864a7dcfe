/- Contracts of package stream: Put. -/
import Derived.Test.YtdpgdpfalfiijaaDoorStrmA
import Derived.Test.YtdpgdpfalfiijaaDoorShelf
import Derived.Deep.RegionLaw
import Derived.OwnWalk
namespace Go.Proofs.YtdpgdpfalfiijaaDoor
open Go.ChangeShapes Go.WideShapes Go.ChangeAt Go.RowKit
set_option linter.unusedVariables false
set_option linter.unusedSimpArgs false

theorem string_info : (Tryd.prog.info? 9).map (fun i => (i.zero, i.size, i.bytes)) = some (some (.string ⟨#[]⟩), 1, 16) := by kernel_rfl
theorem join_own {w : World} {base n : Nat} {v : Value} {xs : List ByteArray} (sep : ByteArray) (h : w.ownsRow base 9 1 v n (xs.map Value.string)) (hN : xs.length ≤ 140737488355328) (hlen : (Lib.join (xs.map (·.data.toList)) sep.data.toList).length ≤ 140737488355328) :
    Calls Tryd.prog 29 #[v, .string sep] w fun e w' => e = .returned (.string ⟨(Lib.join (xs.map (·.data.toList)) sep.data.toList).toArray⟩) ∧ Below w.heap.size w w' := by
  obtain ⟨hl, hd⟩ := h
  simp only [List.length_map, Nat.mul_one] at hl
  rcases hd with ⟨rfl, h0⟩ | ⟨g, cap, cur, rfl, h1, h2, h3, h4, h5, h6⟩
  · have : xs = [] := List.length_eq_zero_iff.1 (by omega)
    subst this
    refine (Tryd.strings_Join_none none 0 sep w).mono ?_
    rintro e w' ⟨rfl, rfl⟩
    exact ⟨rfl, Below.refl _ _⟩
  · subst hl
    refine Tryd.strings_Join g 0 cap xs sep w (fun j x hj => ?_) (Array.getElem?_eq_some_iff.1 h2).1 hN h3 hlen
    rw [Nat.zero_add, cell_of_row w g j cur 9 (0, 0) h2]
    have hjl := (List.getElem?_eq_some_iff.1 hj).1
    have : (cur.toList.take (xs.length * 1))[j]? = some (.string x) := by rw [h6, List.getElem?_map, hj]; rfl
    rw [List.getElem?_take_of_lt (by omega)] at this
    simpa using this
theorem one_new (w : World) (x : Value) (ty : TypeId) : ∀ j u, [x][j]? = some u → (w.alloc (.cells #[x] ty)).drew.cell? ((⟨w.heap.size, 0, none⟩ : Addr).add j) = some u := by
  intro j u h
  have hj : j = 0 := by have := (List.getElem?_eq_some_iff.1 h).1; simpa using this
  subst hj
  simp at h
  subst h
  rw [addr_pl]
  show (w.alloc (.cells #[x] ty)).cell? ⟨w.heap.size, 0 + 0, none⟩ = _
  rw [World.cell?_alloc_new]; rfl
/-- A field, as Put writes it. -/
def fldS (x : Fld) : ByteArray := x.1 ++ ⟨#[58]⟩ ++ kindL x.2
def putJ (l : List Fld) : List UInt8 := Lib.join ((l.map fldS).map (·.data.toList)) [44]
def putN (n : ByteArray) (l : List Fld) : ByteArray := n ++ ⟨#[40]⟩ ++ ⟨(putJ l).toArray⟩ ++ ⟨#[41]⟩
theorem kindL_size (k : Int) : (kindL k).size ≤ 4 := by
  unfold kindL; split
  · decide
  · split
    · decide
    · split <;> decide
set_option maxRecDepth 20000 in
set_option maxHeartbeats 1000000 in
theorem Put_anyS (n : ByteArray) (v : Value) (l : List Fld) (w : World) (hv : RowsAt rowF w v l) (hn : n.size ≤ 140737488355328) (hl : l.length ≤ 1099511627776) (hs : ∀ x ∈ l, x.1.size ≤ 140737488355328) (hj : (putJ l).length ≤ 140737488355328) :
    Calls Tryd.prog 12 #[.agg #[.string n, v]] w fun e w' => e = .returned (.string (putN n l)) ∧ Below w.heap.size w w' := by
  obtain ⟨A, cap, rfl, h1, h2, h3⟩ := hv
  obtain ⟨i0, hi, hz0, hz1, hz2⟩ := info_parts string_info
  have hc0 : (w.alloc (.cells #[.string n, .slice A l.length cap] 28)).cell? ⟨w.heap.size, 0, none⟩ = some (.string n) := by rw [World.cell?_alloc_new]; rfl
  have hcA : (w.alloc (.cells #[.string n, .slice A l.length cap] 28)).cell? ⟨w.heap.size, 1, none⟩ = some (.slice A l.length cap) := by rw [World.cell?_alloc_new]; rfl
  have hsz : (w.alloc (.cells #[.string n, .slice A l.length cap] 28)).heap.size = w.heap.size + 1 := by simp
  have hb0 := ba w (.cells #[.string n, .slice A l.length cap] 28)
  have H := Lib.hid (And.intro h3 (And.intro hs (And.intro hj (And.intro hc0 (And.intro hb0 (And.intro hsz hcA)))))); clear h3 hs hj hc0 hb0 hsz hcA
  go_enter Tryd.func12, Tryd.ntmps12
  go_wp2_with (at_make; refine wpList_make_own _ rfl _ _ 56 rfl (w.heap.size + 1) 9 i0 (.string ⟨#[]⟩) 1 Tryd.underlying56 hi hz0 hz1 .i64 .i64 _ l.length rfl rfl rfl (by rw [hz2]; omega) (by unfold maxLen; omega) (by have := H.out.2.2.2.2.2.1; omega) ?_; intro w1 ho1 hg1; have hq1 := hg1.cell H.out.2.2.2.2.2.2 (by simp); have hs1 := hg1.size; have HG := Lib.hid (And.intro ho1 (And.intro (hg1.cell H.out.2.2.2.1 (by simp)) (And.intro (H.out.2.2.2.2.1.grown hg1 H.out.2.2.2.2.1.size (by simp)) (show w.heap.size + 1 ≤ w1.heap.size by have := H.out.2.2.2.2.2.1; omega)))); clear ho1 hg1 hs1)
  clear hq1
  go_loopw [3, 13] (fun f i wr => ∃ (k : Nat) (A' : Option Addr) (n' c' : Nat), k ≤ l.length ∧ i = .int .i64 k ∧ f = .slice A' n' c' ∧ wr.ownsRow (w.heap.size + 1) 9 1 (.slice A' n' c') k (((l.take k).map fldS).map Value.string) ∧ wr.cell? ⟨w.heap.size, 0, none⟩ = some (.string n) ∧ Below w.heap.size w wr ∧ w.heap.size + 1 ≤ wr.heap.size) (fun _ i _ => l.length - (intOf i).toNat)
  case atStart =>
    have h := HG.out
    rw [H.out.2.2.2.2.2.1] at h
    exact ⟨0, _, _, _, Nat.zero_le _, rfl, rfl, h⟩
  case round =>
    obtain ⟨k, A', n', c', hk, rfl, rfl, hown, hcn, hb, hz⟩ := hrel
    clear HG
    by_cases hlt : k < l.length
    · obtain ⟨a, rfl, hc⟩ := H.out.1 (by omega)
      obtain ⟨c0, c1⟩ := (hc k hlt).later hb
      have hsk := H.out.2.1 _ (List.getElem_mem hlt)
      have htk : ((l.take (k + 1)).map fldS).map Value.string = ((l.take k).map fldS).map Value.string ++ [.string ((l[k]'hlt).1 ++ ⟨#[58]⟩ ++ kindL (l[k]'hlt).2)] := by
        rw [List.take_succ_eq_append_getElem hlt, List.map_append, List.map_append]; rfl
      clear hc
      generalize (l[k]'hlt).1 = s at *
      generalize (l[k]'hlt).2 = y at *
      have cK := fun W => kindName_any y W
      have hks := kindL_size y
      generalize kindL y = kl at *
      have bA := ba wr (.cells #[.string s, .int .i64 y] 60)
      have hoA := ownsRow_later hown bA
      have d0 : (wr.alloc (.cells #[.string s, .int .i64 y] 60)).cell? ⟨wr.heap.size, 0, none⟩ = some (.string s) := by rw [World.cell?_alloc_new]; rfl
      have d1 : (wr.alloc (.cells #[.string s, .int .i64 y] 60)).cell? ⟨wr.heap.size, 1, none⟩ = some (.int .i64 y) := by rw [World.cell?_alloc_new]; rfl
      have dn : (wr.alloc (.cells #[.string s, .int .i64 y] 60)).cell? ⟨w.heap.size, 0, none⟩ = some (.string n) := by rw [bA.cell (World.block_lt_of_cell? wr _ hcn)]; exact hcn
      have HC := Lib.hid (And.intro hoA (And.intro d0 (And.intro d1 (And.intro dn (And.intro (bt hb bA) (And.intro htk (And.intro cK (show w.heap.size + 1 ≤ (wr.alloc (.cells #[.string s, .int .i64 y] 60)).heap.size by simp; omega))))))))
      clear hoA d0 d1 dn hb htk cK bA hown hcn
      go_wp2_with fail
      have d0 := HC.out.2.1
      have d1 := HC.out.2.2.1
      generalize wr.alloc (.cells #[.string s, .int .i64 y] 60) = W at *
      have hX := HC.out.1.alloc (.cells #[.string (s ++ ⟨#[58]⟩ ++ kl)] 9)
      have bX : Below w.heap.size w (W.alloc (.cells #[.string (s ++ ⟨#[58]⟩ ++ kl)] 9)).drew := below_drew (bt HC.out.2.2.2.2.1 (ba W _))
      have cX : (W.alloc (.cells #[.string (s ++ ⟨#[58]⟩ ++ kl)] 9)).drew.cell? ⟨w.heap.size, 0, none⟩ = some (.string n) := by
        show (W.alloc (.cells #[.string (s ++ ⟨#[58]⟩ ++ kl)] 9)).cell? ⟨w.heap.size, 0, none⟩ = _
        rw [(ba W _).cell (World.block_lt_of_cell? W _ HC.out.2.2.2.1)]; exact HC.out.2.2.2.1
      have HD := Lib.hid (And.intro (show (W.alloc (.cells #[.string (s ++ ⟨#[58]⟩ ++ kl)] 9)).drew.ownsRow _ _ _ _ _ _ from hX) (And.intro (one_new W (.string (s ++ ⟨#[58]⟩ ++ kl)) 9) (And.intro (show k + 1 ≤ maxLen by unfold maxLen; omega) (And.intro (show (k + 1) * 16 ≤ 140737488355328 by omega) (And.intro (show w.heap.size + 1 ≤ (W.alloc (.cells #[.string (s ++ ⟨#[58]⟩ ++ kl)] 9)).drew.heap.size by have := HC.out.2.2.2.2.2.2.2; show _ ≤ (W.alloc (.cells #[.string (s ++ ⟨#[58]⟩ ++ kl)] 9)).heap.size; simp; omega) (And.intro cX bX))))))
      clear hX cX bX
      have hb1 : ¬ 9223372036854775807 < s.size + 1 := by omega
      have hb2 : ¬ 9223372036854775807 < s.size + 1 + kl.size := by omega
      go_region_law (first
        | (refine step_append_own rfl (.tmp 17) (.tmp 25) 56 rfl (w.heap.size + 1) 9 i0 (.string ⟨#[]⟩) 1 16 Tryd.underlying56 hi hz0 hz1 hz2 rfl (by decide) _ _ _ (by simp [Act.eval, Act.put]) HD.out.1 ⟨_, 0, none⟩ 1 1 [.string (s ++ ⟨#[58]⟩ ++ kl)] (by simp [Act.eval, Act.put]) rfl HD.out.2.1 (by simp [Value.oneCell']) HD.out.2.2.1 HD.out.2.2.2.1 HD.out.2.2.2.2.1 ?_; intro v7 w7 ho7 hg7 _; obtain ⟨A8, n8, c8, rfl⟩ := own_shape ho7; have HE := Lib.hid (And.intro ho7 (And.intro (hg7.cell HD.out.2.2.2.2.2.1 (own_ne HD.out.1 (by simp))) (And.intro (HD.out.2.2.2.2.2.2.grown hg7 (Nat.le_trans (Nat.le_succ _) HD.out.2.2.2.2.1) (fun j hj => by have := (HD.out.1.lt j hj).1; omega)) (Nat.le_trans HD.out.2.2.2.2.1 hg7.size)))); clear ho7 hg7)
        | (go_simp; go_at_call 28; ((with_reducible refine (HC.out.2.2.2.2.2.2.1 _).mono ?_); rintro e w5 ⟨rfl, rfl⟩)))
      all_goals
        go_wp2
        go_roundw
        case rel =>
          refine ⟨k + 1, A8, n8, c8, by omega, by go_num, rfl, ?_, HE.out.2⟩
          rw [HC.out.2.2.2.2.2.1]; exact HE.out.1
        case measure => simp [intOf]; omega
    · have hE : l.take k = l := List.take_of_length_le (by omega)
      rw [hE] at hown
      have cJ : ∀ W', Below wr.heap.size wr W' → _ := fun W' h => join_own (w := W') (xs := l.map fldS) ⟨#[44]⟩ (ownsRow_later hown h) (by simp; omega) H.out.2.2.1
      have HB := Lib.hid (And.intro cJ hb); clear cJ hb hown hE
      have hP : putN n l = n ++ ⟨#[40]⟩ ++ ⟨(putJ l).toArray⟩ ++ ⟨#[41]⟩ := rfl
      have hjz : (⟨(putJ l).toArray⟩ : ByteArray).size ≤ 140737488355328 := by
        show (putJ l).toArray.size ≤ _
        rw [List.size_toArray]; exact H.out.2.2.1
      rw [show (⟨(Lib.join ((l.map fldS).map (·.data.toList)) (⟨#[44]⟩ : ByteArray).data.toList).toArray⟩ : ByteArray) = ⟨(putJ l).toArray⟩ from rfl] at HB
      generalize (⟨(putJ l).toArray⟩ : ByteArray) = J at *
      have HP := Lib.hid hP; clear hP
      have hb1 : ¬ 9223372036854775807 < n.size + 1 := by omega
      have hb2 : ¬ 9223372036854775807 < n.size + 1 + J.size := by omega
      have hb3 : ¬ 9223372036854775807 < n.size + 1 + J.size + 1 := by omega
      go_wp2_with fail
      have hq := fun d os => cell_regrown hcn d os
      refine wp_region_quiet_below (by kernel_rfl) (by kernel_rfl) ?_
      repeat (go_big_quiet_step ((go_at_call 29; (with_reducible exact Calls.regrown_of (HB.out.1 _ (below_regrown _ _ _))))))
      refine wpQuiet_nil ?_
      intro wq hw'
      have bq : Below wr.heap.size wr wq := by obtain ⟨p, rfl⟩ := hw'; exact below_regrown _ _ _
      clear hw' hq
      go_wp2
      go_ret
      exact ⟨by rw [HP.out]; rfl, bt HB.out.2 bq⟩
end Go.Proofs.YtdpgdpfalfiijaaDoor
