/- Contracts of package stream: Get, with fields. -/
import Derived.Test.YtdpgdpfalfiijaaDoorStrmI
namespace Go.Proofs.YtdpgdpfalfiijaaDoor
open Go.ChangeShapes Go.WideShapes Go.ChangeAt Go.RowKit
set_option linter.unusedVariables false
set_option linter.unusedSimpArgs false

theorem Split_any (s : ByteArray) (m : Int) (w : World) (hs : s.size < 4294967281) (hm : w.cell? ⟨0, 0, none⟩ = some (.int .i64 m)) :
    Calls Tryd.prog 32 #[.string s, .string ⟨#[44]⟩] w fun e w' => e = .returned (.slice (some ⟨w.heap.size, 0, none⟩) (parts s).length (parts s).length) ∧ w' = w.alloc (.cells ((parts s).map Value.string).toArray 9) :=
  (Tryd.strings_Split s ⟨#[44]⟩ m w hs hm (by decide)).mono fun e w' ⟨h1, h2⟩ => ⟨by rw [h1, parts_length], h2⟩
theorem getF_pos {s : ByteArray} (h : 1 ≤ s.size) : getF s = (parts s).map fieldOf := by unfold getF; rw [if_neg (by omega)]
set_option maxRecDepth 20000 in
set_option maxHeartbeats 1000000 in
theorem SGet_e4 (S : ByteArray) (m : Int) (w : World) (hs : S.size < 4294967281) (hm : w.cell? ⟨0, 0, none⟩ = some (.int .i64 m)) (h : (cutB S ⟨#[40]⟩).2.2 = true) (h2 : (sufB (cutB S ⟨#[40]⟩).2.1 ⟨#[41]⟩).2 = true) (h3 : 1 ≤ (sufB (cutB S ⟨#[40]⟩).2.1 ⟨#[41]⟩).1.size) :
    Calls Tryd.prog 13 #[.string S] w (StreamGot S w) := by
  have E : getN S = if rightN (cutB S ⟨#[40]⟩).1 ((parts (sufB (cutB S ⟨#[40]⟩).2.1 ⟨#[41]⟩).1).map fieldOf) = 0 then some ((cutB S ⟨#[40]⟩).1, (parts (sufB (cutB S ⟨#[40]⟩).2.1 ⟨#[41]⟩).1).map fieldOf) else none := by
    unfold getN; rw [if_neg (by rw [h]; simp), if_neg (by rw [h2]; simp), getF_pos h3]
  have hc0 := (ba w (.cells #[.string ⟨#[]⟩, .slice none 0 0] 28)).cell (World.block_lt_of_cell? w _ hm) |>.trans hm
  have cC := Cut_any S ⟨#[40]⟩ m _ hs hc0
  have hz := (cutB_size S ⟨#[40]⟩)
  have hz2 := sufB_size (cutB S ⟨#[40]⟩).2.1 ⟨#[41]⟩
  generalize cutB S ⟨#[40]⟩ = C at *
  obtain ⟨c1, c2, c3⟩ := C
  simp only at h hz cC h2 h3 E hz2
  subst h
  have cS := fun W => Suf_any c2 ⟨#[41]⟩ W (by omega)
  generalize sufB c2 ⟨#[41]⟩ = X at *
  obtain ⟨x1, x2⟩ := X
  simp only at h2 h3 E hz2
  subst h2
  have hx : ¬ x1.toList = [] := fun e => by have := (size_nil x1).2 e; omega
  have hxb : (x1.toList == []) = false := by simpa using hx
  have hsx : x1.size < 4294967281 := by omega
  have cP := fun W hm' => Split_any x1 m W hsx hm'
  have hpl : (parts x1).length ≤ 4294967281 := by
    rw [parts_length]; have := Lib.countB_le ⟨#[44]⟩ (by decide) _ x1 (Nat.le_refl _); omega
  have hps : ∀ p ∈ parts x1, p.size ≤ x1.size := fun p hp => splitB_le _ _ _ p hp
  generalize parts x1 = P at *
  have cR := fun v W hv => Right_any c1 v (P.map fieldOf) W hv (by unfold maxLen; omega) (fun x hx => by
    obtain ⟨p, hp, rfl⟩ := List.mem_map.1 hx
    exact fieldOf_ok (by have := hps p hp; unfold maxLen; omega))
  generalize rightN c1 (P.map fieldOf) = r at *
  have H := Lib.hid (And.intro cC (And.intro cS (And.intro cP (And.intro cR (And.intro hps (And.intro E hm)))))); clear cC cS cP hc0 hz cR hps E hm
  go_enter Tryd.func13, Tryd.ntmps13
  go_wp2_with (first
    | (go_at_call 30; ((with_reducible refine (H.out.1).mono ?_); rintro e w1 ⟨rfl, b1⟩; have hlt1 : w.heap.size < w1.heap.size := (by have := b1.size; simp only [World.size_alloc] at this; omega); have HB := Lib.hid (And.intro (bt (ba w _) b1) (And.intro ((Blk.new w 28 #[.string ⟨#[]⟩, .slice none 0 0]).later b1) (show (w1.alloc (.cells #[.string c1, .slice none 0 0] 28)).cell? ⟨0, 0, none⟩ = some (.int .i64 m) by rw [(bt (bt (ba w _) b1) (ba w1 _)).cell (World.block_lt_of_cell? w _ H.out.2.2.2.2.2.2)]; exact H.out.2.2.2.2.2.2))); clear b1))
    | (go_at_call 31; ((with_reducible refine (H.out.2.1 _).mono ?_); rintro e w2 ⟨rfl, rfl⟩))
    | (go_at_call 32; ((with_reducible refine (H.out.2.2.1 _ HB.out.2.2).mono ?_); rintro e w2 ⟨rfl, rfl⟩)))
  have hq1 : (w1.alloc (.cells #[.string c1, .slice none 0 0] 28)).heap.size = w1.heap.size + 1 := by simp
  have hq2 : ((w1.alloc (.cells #[.string c1, .slice none 0 0] 28)).alloc (.cells (P.map Value.string).toArray 9)).heap.size = w1.heap.size + 2 := by simp
  have hS := (Blk.new w1 28 #[.string c1, .slice none 0 0]).alloc (.cells (P.map Value.string).toArray 9)
  have hP := Blk.new (w1.alloc (.cells #[.string c1, .slice none 0 0] 28)) 9 (P.map Value.string).toArray
  rw [hq1] at hP
  have hW := bt (bt HB.out.1 (ba w1 (.cells #[.string c1, .slice none 0 0] 28))) (ba _ (.cells (P.map Value.string).toArray 9))
  have hR := (HB.out.2.1.alloc (.cells #[.string c1, .slice none 0 0] 28)).alloc (.cells (P.map Value.string).toArray 9)
  have HG := Lib.hid (And.intro hR (And.intro hS (And.intro hP (And.intro hW (Nat.le_of_eq hq2.symm))))); clear hR hS hP hW hq1 hq2 HB
  go_loopw [40] (fun iv wr => ∃ (k : Nat) (v : Value), k ≤ P.length ∧ iv = .int .i64 (k : Int) ∧ NewF (w1.heap.size + 2) wr v ((P.take k).map fieldOf) ∧
      Blk wr w.heap.size 28 #[.string ⟨#[]⟩, .slice none 0 0] ∧ Blk wr w1.heap.size 28 #[.string c1, v] ∧ Blk wr (w1.heap.size + 1) 9 (P.map Value.string).toArray ∧ Below w.heap.size w wr ∧ w1.heap.size + 2 ≤ wr.heap.size)
    (fun iv _ => P.length - (intOf iv).toNat)
  case atStart => exact ⟨0, .slice none 0 0, Nat.zero_le _, rfl, NewF.nil _ _, HG.out⟩
  case round =>
    clear HG
    obtain ⟨k, v, hk, rfl, hown, hB0, hB1, hBP, hW, hsz⟩ := hrel
    have K := Lib.hid (And.intro hB0 (And.intro hB1 (And.intro hBP (And.intro hW hown)))); clear hB0 hB1 hBP hW hown
    by_cases hlt : k < P.length
    · have hp : wr.cell? ⟨w1.heap.size + 1, k, none⟩ = some (.string (P[k]'hlt)) := by
        rw [K.out.2.2.1.cell]; simp [hlt]
      have hps := H.out.2.2.2.2.1 _ (List.getElem_mem hlt)
      have htk : (P.take (k + 1)).map fieldOf = (P.take k).map fieldOf ++ [fieldOf (P[k]'hlt)] := by
        rw [List.take_succ_eq_append_getElem hlt, List.map_append]; rfl
      have htl : ((P.take k).map fieldOf).length = k := by simp; omega
      generalize (P[k]'hlt) = p at *
      have cC := Cut_any p ⟨#[58]⟩ m wr (by omega) (by rw [K.out.2.2.2.1.cell (World.block_lt_of_cell? w _ H.out.2.2.2.2.2.2)]; exact H.out.2.2.2.2.2.2)
      have hf : fieldOf p = ((cutB p ⟨#[58]⟩).1, kindOfN (cutB p ⟨#[58]⟩).2.1) := rfl
      rw [hf] at htk
      clear hf
      generalize cutB p ⟨#[58]⟩ = D at *
      obtain ⟨d1, d2, d3⟩ := D
      simp only at htk cC
      have cK := fun W => kindOf_any d2 W
      generalize kindOfN d2 = y at *
      have HT := Lib.hid (And.intro cC (And.intro htk (And.intro htl cK))); clear cC htk htl cK
      go_wp2_with fail
      go_at_call 30
      ((with_reducible refine (HT.out.1).mono ?_); rintro e w5 ⟨rfl, b5⟩)
      have B1 := K.out.2.1.later b5
      have z0 : w5.cell? ⟨w1.heap.size, 1, none⟩ = some v := B1.cell 1
      have zf := B1.frozen
      have hlt' := B1.lt
      have hown5 := K.out.2.2.2.2.later b5
      obtain ⟨A7, n7, c7, rfl⟩ := own_shape hown5
      have HF := Lib.hid (And.intro B1 (And.intro (K.out.1.later b5) (And.intro (K.out.2.2.1.later b5) (And.intro (bt K.out.2.2.2.1 b5) (And.intro hown5 (show w1.heap.size + 2 ≤ w5.heap.size by have := b5.size; omega))))))
      clear K B1 hown5 b5 hp
      go_wp2_with fail
      obtain ⟨i0, hi, hz0, hz1, hz2⟩ := info_parts field_info
      go_region_law (first
        | (refine step_append_own rfl (.tmp 51) (.tmp 56) 26 rfl (w1.heap.size + 2) 60 i0 (.agg #[.string ⟨#[]⟩, .int .i64 0]) 2 24 Tryd.underlying26 hi hz0 hz1 hz2 rfl (by decide) _ _ _ (by simp [Act.eval, Act.put]) HD.out.1 ⟨_, 0, none⟩ 1 1 [.string d1, .int .i64 y] (by simp [Act.eval, Act.put]) rfl HD.out.2.1 (two_one d1 y) HD.out.2.2.1 HD.out.2.2.2.1 HD.out.2.2.2.2.1 ?_; intro v7 w7 ho7 hg7 _; obtain ⟨A8, n8, c8, rfl⟩ := own_shape ho7; have C2 := HD.out.2.2.2.2.2.1.grown hg7 (own_ne HD.out.1 (by omega)); have q0 := C2.cell 1; have q1 := C2.frozen; have q2 := C2.lt; have HE := Lib.hid (And.intro ho7 (And.intro (HD.out.2.2.2.2.2.2.1.grown hg7 (own_ne HD.out.1 (by omega))) (And.intro (HD.out.2.2.2.2.2.2.2.1.grown hg7 (own_ne HD.out.1 (by omega))) (And.intro C2 (And.intro (HD.out.2.2.2.2.2.2.2.2.grown hg7 (by have := HD.out.2.2.2.2.1; omega) (fun k hk => by have := (HD.out.1.lt k hk).1; omega)) (show w1.heap.size + 2 ≤ w7.heap.size from Nat.le_trans HD.out.2.2.2.2.1 hg7.size)))))); clear C2 ho7 hg7)
        | (go_simp; go_at_call 33; ((with_reducible refine (HT.out.2.2.2 _).mono ?_); rintro e w6 ⟨rfl, b5⟩; have b6 : Below w5.heap.size w5 w6 := ⟨b5.os, b5.tape, b5.output, b5.size, b5.block⟩; have b7 := bt b6 (ba w6 (.cells #[.string d1, .int .i64 y] 60)); have B2 := HF.out.1.later b6; have z1 : w6.cell? ⟨w1.heap.size, 1, none⟩ = some (.slice A7 n7 c7) := B2.cell 1; have zg := B2.frozen; have hlt6 := B2.lt; have HD := Lib.hid (And.intro (HF.out.2.2.2.2.1.later b7) (And.intro (two_new w6 (.string d1) (.int .i64 y) 60) (And.intro (show ((P.take k).map fieldOf).length + 1 ≤ maxLen by rw [HT.out.2.2.1]; unfold maxLen; omega) (And.intro (show (((P.take k).map fieldOf).length + 1) * 24 ≤ 140737488355328 by rw [HT.out.2.2.1]; omega) (And.intro (show w1.heap.size + 2 ≤ (w6.alloc (.cells #[.string d1, .int .i64 y] 60)).heap.size by have := b6.size; have := HF.out.2.2.2.2.2; simp only [World.size_alloc]; omega) (And.intro (HF.out.1.later b7) (And.intro (HF.out.2.1.later b7) (And.intro (HF.out.2.2.1.later b7) (bt HF.out.2.2.2.1 b7))))))))); clear b5 b6 b7 B2)))
      all_goals
        go_wp2
        go_roundw
        case rel =>
          refine ⟨k + 1, .slice A8 n8 c8, by omega, by go_num, ?_, HE.out.2.1.far (by simp; omega) _, ?_, HE.out.2.2.1.far (by simp) _, (HE.out.2.2.2.2.1).setCell (by simp; omega) _, by rw [World.size_setCell]; exact HE.out.2.2.2.2.2⟩
          · rw [HT.out.2.1]
            unfold NewF
            rw [cells2_snoc, List.length_append]
            exact ownsRow_far HE.out.1 (by simp) _
          · have := HE.out.2.2.2.1.set_ 1 (.slice A8 n8 c8)
            simpa using this
        case measure => simp [intOf]; omega
    · have hE : P.take k = P := List.take_of_length_le (by omega)
      have hown := K.out.2.2.2.2
      rw [hE] at hown
      have cR := H.out.2.2.2.1 v wr hown.rows
      obtain ⟨A7, n7, c7, rfl⟩ := own_shape hown
      have y0 := K.out.2.1.cell 0
      have y1 := K.out.2.1.cell 1
      have HF := Lib.hid (And.intro cR hown); clear cR hown hE
      by_cases hr : r = 0
      · subst hr
        have E := Lib.hid (H.out.2.2.2.2.2.1.trans (if_pos rfl))
        go_wp2_with fail
        go_at_call 22
        ((with_reducible refine (HF.out.1).mono ?_); rintro e w8 ⟨rfl, b8⟩)
        have B0 := K.out.1.later b8
        have B1 := K.out.2.1.later b8
        have z0 := B0.cell 0
        have z1 := B0.cell 1
        have z2 := B0.frozen
        have z3 := B0.lt
        have x0 := B1.cell 0
        have x1 := B1.cell 1
        have HR := Lib.hid (And.intro (B0.put2 (.string c1) (.slice A7 n7 c7)) (And.intro (below_put2 (bt K.out.2.2.2.1 b8) (Nat.le_refl w.heap.size) (.string c1) (.slice A7 n7 c7)) (((HF.out.2.later b8).put2 (g := w.heap.size) (by omega) (.string c1) (.slice A7 n7 c7)).weak (base' := w.heap.size) (by omega))))
        clear b8 B0 B1
        go_wp2
        exact bodyPost_ret (v := .tuple #[st c1 (.slice A7 n7 c7), .bool true]) (by simp [results, Tryd.results13, go_sem, HR.out.1.cell 0, HR.out.1.cell 1]) rfl ⟨Or.inr ⟨_, _, _, E.out, rfl, HR.out.2.2⟩, HR.out.2.1⟩
      · have hrb : (r != 0) = true := by simpa using hr
        have E := Lib.hid (H.out.2.2.2.2.2.1.trans (if_neg hr))
        go_wp2_with fail
        go_at_call 22
        ((with_reducible refine (HF.out.1).mono ?_); rintro e w8 ⟨rfl, b8⟩)
        have B0 := K.out.1.later b8
        have z0 := B0.cell 0
        have z1 := B0.cell 1
        have z2 := B0.frozen
        have z3 := B0.lt
        have HR := Lib.hid (And.intro (B0.put2 (.string ⟨#[]⟩) (.slice none 0 0)) (below_put2 (bt K.out.2.2.2.1 b8) (Nat.le_refl w.heap.size) (.string ⟨#[]⟩) (.slice none 0 0)))
        clear b8 B0
        go_wp2
        exact bodyPost_ret (v := .tuple #[st ⟨#[]⟩ (.slice none 0 0), .bool false]) (by simp [results, Tryd.results13, go_sem, HR.out.1.cell 0, HR.out.1.cell 1]) rfl ⟨Or.inl ⟨E.out, rfl⟩, HR.out.2⟩
theorem SGet_any (S : ByteArray) (m : Int) (w : World) (hs : S.size < 4294967281) (hm : w.cell? ⟨0, 0, none⟩ = some (.int .i64 m)) : Calls Tryd.prog 13 #[.string S] w (StreamGot S w) := by
  cases h : (cutB S ⟨#[40]⟩).2.2
  · exact SGet_e1 S m w hs hm h
  cases h2 : (sufB (cutB S ⟨#[40]⟩).2.1 ⟨#[41]⟩).2
  · exact SGet_e2 S m w hs hm h h2
  by_cases h3 : (sufB (cutB S ⟨#[40]⟩).2.1 ⟨#[41]⟩).1.size = 0
  · exact SGet_e3 S m w hs hm h h2 h3
  · exact SGet_e4 S m w hs hm h h2 (by omega)
end Go.Proofs.YtdpgdpfalfiijaaDoor
