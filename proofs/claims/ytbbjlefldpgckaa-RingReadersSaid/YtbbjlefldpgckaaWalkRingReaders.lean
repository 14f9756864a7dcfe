/- The walk of RingReaders. -/
import Derived.Test.YtbbjlefldpgckaaRgW
import Derived.Test.YtbbjlefldpgckaaReaders25
namespace Go.Proofs.Ytbbjlefldpgckaa
open Go.ChangeShapes Go.WideShapes Go.ChangeAt Go.RowKit Go.Maps
open Ev (V3 rightV OkV)
set_option linter.unusedVariables false
set_option linter.unusedSimpArgs false
set_option maxRecDepth 20000

set_option maxHeartbeats 4000000 in
theorem walk_RingReaders (v0 : Value) (q : List UInt8) (w : World) (h0 : BytesAt w v0 q) (b0 : q.length ≤ 140737488351232) :
    Calls Try.prog 7 #[v0] w fun e w' => e = .returned (.bool true) ∧ Below w.heap.size w w' := by
  obtain ⟨A0, n0, rfl, a0, a1, hc0⟩ := bytes_cell h0
  obtain ⟨m, hm⟩ : ∃ m, m = min q.length 60 := ⟨_, rfl⟩
  have hm60 : m ≤ 60 := by omega
  obtain ⟨i0, hi0, hz0, hz1, hz2⟩ := info_parts (P := Try.prog) (e := 3) (z := .int .i64 0) (size := 1) (bytes := 8) (by kernel_rfl)
  have H := Lib.hid (And.intro hc0 (And.intro h0 (And.intro hm (And.intro hi0 (And.intro hz0 (And.intro hz1 hz2)))))); clear hc0 h0 hm hi0 hz0 hz1 hz2
  obtain ⟨ql, hq0⟩ : ∃ ql, ql = q.length := ⟨_, rfl⟩
  rw [← hq0] at b0 a0 ⊢
  have hql := Lib.hid hq0; clear hq0
  go_enter Try.func7, Try.ntmps7
  go_wp2_with (go_at_call 9; ((with_reducible refine (examples_any _).mono ?_); rintro e x1 ⟨rfl, bx1⟩))
  have B1 := Lib.hid bx1; clear bx1
  go_at_call 10
  refine (New_any 2 (by decide) (by decide) _).mono ?_
  rintro e x2 ⟨d, ⟨rfl, hS⟩, b2⟩
  have K2 := Lib.hid (⟨hS.rx, b2⟩ : Kr (fun _ => False) x1 x2 d (g0 2)); clear hS b2
  go_wp2_with fail
  go_loopw [6, 7, 8] (fun lv nv iv wr => ∃ (i last : Nat) (l : List Int), i ≤ m ∧ last ≤ i ∧ iv = .int .i64 i ∧ nv = .int .i64 last ∧ ROk l last ∧ Own wr x1.heap.size 3 1 i64r lv l ∧ Kr (fun _ => False) x1 wr d (rl 0 l last)) (fun _ _ i _ => m - (intOf i).toNat)
  case atStart => exact ⟨0, 0, [], Nat.zero_le _, Nat.le_refl _, rfl, rfl, ⟨List.nodup_nil, Nat.zero_le _, fun x hx => by cases hx⟩, Own.nil _ _ _ _ _, by have := K2.out; unfold rl; rw [rdL_nil]; exact this⟩
  case round =>
    obtain ⟨i, last, l, hi, hlast, rfl, rfl, hr, hO, hK⟩ := hrel
    obtain ⟨A, c, rfl, _, _, _⟩ := hO.shape
    obtain ⟨nl, hnl⟩ : ∃ nl, nl = l.length := ⟨_, rfl⟩
    rw [← hnl] at hO ⊢
    have hnl16 : nl ≤ 16 := by rw [hnl]; exact hr.len
    have N := Lib.hid (And.intro hK (And.intro hO (And.intro hr hnl))); clear hK hO hr hnl
    by_cases hlt : i < ql ∧ i < 60
    · obtain ⟨c1, c2⟩ := hlt
      have him : i < m := by have := H.out.2.2.1; have := hql.out; omega
      obtain ⟨aa, rfl, hcell⟩ := H.out.1 i (by rw [← hql.out]; exact c1)
      have hld : wr.cell? (aa.add i) = some (.int .u8 ((q[i]'(by rw [← hql.out]; exact c1)).toNat : Int)) := by
        rw [(bt B1.out N.out.1.bel).cell (World.block_lt_of_cell? w _ hcell)]; exact hcell
      have hz8 := (q[i]'(by rw [← hql.out]; exact c1)).toNat_lt
      generalize (q[i]'(by rw [← hql.out]; exact c1)).toNat = z at *
      clear hcell
      by_cases h16 : nl = 16 ∧ 0 < (z : Int) % 3
      · obtain ⟨rfl, hz⟩ := h16
        go_wp2_with fail
        go_at_call 14
        refine (Add_any _ x1.heap.size d _ wr N.out.1.rx (by show last < _; omega)).mono ?_
        rintro e x4 ⟨n, s', ⟨rfl, hR, hS⟩, hX, hk'⟩
        obtain ⟨rfl, rfl⟩ := hR.no (by show 16 ≤ l.length; rw [← N.out.2.2.2]; exact Nat.le_refl _)
        have M := Lib.hid (And.intro (N.out.1.go hS hX) (And.intro (N.out.2.1.frr hX.frm (by decide) (by decide)) N.out.2.2)); clear hS hX hR hk' N
        go_wp2
        go_roundw
        case rel => exact ⟨i + 1, last, l, by omega, by omega, by go_num, rfl, M.out.2.2.1, M.out.2.1, M.out.1⟩
        case measure => simp [intOf]; omega
      · by_cases hD : 0 < nl ∧ ¬ 0 < (z : Int) % 3
        · obtain ⟨hn0, hz⟩ := hD
          clear h16
          have hzd : decide (0 < (z : Int) % 3) = false := decide_eq_false hz
          obtain ⟨k, hk0⟩ : ∃ k, k = z / 3 % nl := ⟨_, rfl⟩
          have hkn : k < nl := by rw [hk0]; exact Nat.mod_lt _ hn0
          have hke : (z : Int) / 3 % (nl : Int) = (k : Int) := by rw [hk0]; simp
          have hne : ¬ (nl : Int) = 0 := by omega
          have hnb : ((nl : Int) == 0) = false := by simpa using hne
          have hn0' : ¬ nl = 0 := by omega
          clear hk0
          have hkl : k < l.length := by rw [← N.out.2.2.2]; exact hkn
          obtain ⟨g, rfl, l0⟩ := int_cell N.out.2.1 k hkl
          have hxw := N.out.2.2.1.le _ (List.getElem_mem hkl)
          have E := Lib.hid (And.intro (fun okb s' (h : DropR (rl 0 l last) (l[k]'hkl) okb s') => rl_cutAt hkl h N.out.2.2.1) (And.intro (rl_goneAt hkl N.out.2.2.1) (And.intro (N.out.2.2.1.cutAt hkl) (fun (W : World) (h : Own W x1.heap.size 3 1 i64r (.slice (some ⟨g, 0, none⟩) nl c) l) => int_cellg h k hkl))))
          generalize (l[k]'hkl) = x at *
          have hxi : wfI x := ⟨by omega, by omega⟩
          go_wp2_with fail
          go_at_call 26
          refine (Drop_any _ x1.heap.size d _ wr x hxi N.out.1.rx).mono ?_
          rintro e x4 ⟨okb, s', ⟨rfl, hR, hS⟩, hX, hk'⟩
          obtain ⟨rfl, rfl⟩ := E.out.1 _ _ hR
          have N4 := Lib.hid (And.intro (N.out.1.go hS hX) (And.intro (N.out.2.1.frr hX.frm (by decide) (by decide)) N.out.2.2)); clear hS hX hR hk' N l0
          have l0 := E.out.2.2.2 _ N4.out.2.1
          go_wp2_with fail
          go_at_call 26
          refine (Drop_any _ x1.heap.size d _ x4 x hxi N4.out.1.rx).mono ?_
          rintro e x5 ⟨okb, s', ⟨rfl, hR, hS⟩, hX, hk'⟩
          obtain ⟨rfl, rfl⟩ := hR.no E.out.2.1
          have N5 := Lib.hid (And.intro (N4.out.1.go hS hX) (And.intro (N4.out.2.1.frr hX.frm (by decide) (by decide)) N4.out.2.2)); clear hS hX hR hk' N4 l0
          have l0 := E.out.2.2.2 _ N5.out.2.1
          go_wp2_with fail
          go_at_call 27
          refine ((Peek_any x1.heap.size d _ x5 x hxi N5.out.1.rs).mono (fun e w' h => rl_peek h)).mono ?_
          rintro e x6 ⟨rfl, hb⟩
          have N6 := Lib.hid (And.intro (N5.out.1.later hb) (And.intro (N5.out.2.1.later hb) N5.out.2.2)); clear hb N5 l0
          have l0 := E.out.2.2.2 _ (N6.out.2.1.later (ba x6 (.cells #[.bool false, .int .i64 0, .slice none 0 0] 37)))
          go_wp2_with fail
          go_at_call 23
          have N7 := Lib.hid (And.intro (N6.out.1.later (ba x6 (.cells #[.bool false, .int .i64 0, .slice none 0 0] 37))) (And.intro (N6.out.2.1.later (ba x6 (.cells #[.bool false, .int .i64 0, .slice none 0 0] 37))) N6.out.2.2)); clear N6
          refine (Wait_any x1.heap.size d _ _ x hxi N7.out.1.rs).mono ?_
          rintro e x7 ⟨he, hb⟩
          rw [rl_wait] at he
          subst he
          have N8 := Lib.hid (And.intro (N7.out.1.later hb) (And.intro (N7.out.2.1.later hb) N7.out.2.2)); clear hb N7 l0
          have l0 := E.out.2.2.2 _ N8.out.2.1
          go_wp2_with fail
          go_at_call 28
          refine (Ended_any x1.heap.size d _ _ x hxi N8.out.1.rs).mono ?_
          rintro e x8 ⟨he, hb⟩
          rw [rl_end] at he
          subst he
          have N9 := Lib.hid (And.intro (N8.out.1.later hb) (And.intro (N8.out.2.1.later hb) N8.out.2.2)); clear hb N8 l0
          go_wp2_with fail
          refine wp_of_eq (c' := ((Try.f7.body.bind (regionN 25)).getD .skip)) ?_ (by kernel_rfl)
          refine readers25 _ _ _ _ _ _ _ _ _ _ _ _ _ _ _ _ _ _ _ _ _ _ _ _ _ _ _ _ _ _ _ _ _ _ _ _ _ _ _ _ _ _ _ _ _ _ _ _ _ _ _ _ _ _ _ _ _ _ _ _ _ _ _ _ _ _ _ _ _ _ _ _ _ _ _ _ _ _ _ _ _ _ _ _ _ _ _ _ _ _ _ _ _ _ _ _ _ _ _ _ _ _ _ _ _ _ _ _ _ _ _ _ _ _ _ _ _ _ _ _ _ _ _ _ _ _ _ _ _ _ _ _ _ _ _ _ _ _ _ _ _ _ _ _ _ _ _ _ _ _ _ _ _ _ _ _ _ _ _ _ _ _ _ _ _ _ _ _ _ _ _ _ _ _ _ _ N9.out.2.1 N9.out.2.2.2.symm hkn (by omega) (fun _ _ _ _ _ _ _ _ _ v6 x9 h9 => ?_)
          have N10 := Lib.hid (And.intro (N9.out.1.later h9.2) (h9.1.lift N9.out.1.bel.size)); clear h9 N9
          go_wp2
          go_roundw
          case rel => exact ⟨i + 1, last, _, by omega, by omega, by go_num, rfl, E.out.2.2.1, N10.out.2, N10.out.1⟩
          case measure => simp [intOf]; omega
        · have hn16 : nl < 16 := by omega
          have hway : 0 < (z : Int) % 3 ∨ (decide (0 < (z : Int) % 3) = false ∧ nl = 0) := by
            by_cases hz : 0 < (z : Int) % 3
            · exact Or.inl hz
            · exact Or.inr ⟨decide_eq_false hz, by omega⟩
          clear h16 hD
          have h16 : ¬ nl = 16 := by omega
          have h16b : ((nl : Int) == 16) = false := by simp; omega
          rcases hway with hz | ⟨hz, rfl⟩
          all_goals
            go_wp2_with fail
            go_at_call 14
            refine (Add_any _ x1.heap.size d _ wr N.out.1.rx (by show last < _; omega)).mono ?_
            rintro e x4 ⟨n, s', ⟨rfl, hR, hS⟩, hX, hk'⟩
            obtain ⟨rfl, rfl⟩ := rl_add hR (by rw [← N.out.2.2.2]; omega)
            have M := Lib.hid (And.intro (N.out.1.go hS hX) (And.intro (N.out.2.1.frr hX.frm (by decide) (by decide)) (And.intro (N.out.2.2.1.add (by rw [← N.out.2.2.2]; omega)) N.out.2.2.2))); clear hS hX hR hk' N
            have hat := Lib.hid (Own.at_ (f := i64r) (k := 1) (fun _ => rfl) (own_lit (W := x4) (e := 3) (k := 1) (f := i64r) (B := 0) (g := x4.heap.size) (n := 1) [(last : Int) + 1] (cs := #[.int .i64 ((last : Int) + 1)]) rfl (Nat.zero_le _) rfl (by decide) rfl rfl))
            go_wp2_with (at_builtin; refine wpList_append_at _ rfl (.tmp 69) (.tmp 71) 44 rfl x1.heap.size 3 i0 (.int .i64 0) 1 8 Try.underlying44 H.out.2.2.2.1 H.out.2.2.2.2.1 H.out.2.2.2.2.2.1 H.out.2.2.2.2.2.2 rfl (by decide) (f := i64r) (fun _ => rfl) int_one _ l rfl (M.out.2.1.later (ba _ _)) (some ⟨x4.heap.size, 0, none⟩) 1 1 [(last : Int) + 1] rfl rfl hat.out (by have := M.out.2.2.2; unfold maxLen; omega) (by have := M.out.2.2.2; omega) (by have := M.out.1.bel.size; simp; omega) ?_; intro v5 x5 hO5 hg5; have M5 := Lib.hid (And.intro hO5 ((M.out.1.later (ba x4 (.cells #[.int .i64 ((last : Int) + 1)] 3))).row (M.out.2.1.later (ba x4 (.cells #[.int .i64 ((last : Int) + 1)] 3))) hg5)); clear hO5 hg5)
            go_roundw
            case rel => exact ⟨i + 1, last + 1, _, by omega, by omega, by go_num, by go_num, M.out.2.2.1, M5.out.1, M5.out.2⟩
            case measure => simp [intOf]; omega
    · have hmi : m ≤ i := by have := H.out.2.2.1; have := hql.out; omega
      have hway : ¬ i < ql ∨ (i < ql ∧ ¬ i < 60) := by omega
      clear hlt
      rcases hway with c1 | ⟨c1, c2⟩
      all_goals
        go_wp2_with fail
        go_loopw [15] (fun jv w2 => ∃ j : Nat, j ≤ 2 ∧ jv = .int .i64 j ∧ Own w2 x1.heap.size 3 1 i64r (.slice A nl c) l ∧ Kr (fun _ => False) x1 w2 d (rl j l last)) (fun j _ => 2 - (intOf j).toNat)
        case atStart => exact ⟨0, Nat.zero_le _, rfl, N.out.2.1, N.out.1⟩
        case round =>
          rename World => w2
          obtain ⟨j, hj, rfl, hO, hK⟩ := hrel
          have M := Lib.hid (And.intro hK (And.intro hO N.out.2.2)); clear hK hO N
          by_cases hj2 : j < 2
          · go_wp2_with fail
            go_at_call 16
            refine (one_any _ _ _).mono ?_
            rintro e x5 ⟨v5, ⟨rfl, hN⟩, b5⟩
            have M5 := Lib.hid (And.intro (M.out.1.later b5) (And.intro (M.out.2.1.later b5) hN)); clear M b5 hN
            go_wp2_with fail
            go_at_call 15
            refine (Put_any _ x1.heap.size d _ false (j : Int) v5 (oneV 0) _ M5.out.1.rx (new_at M5.out.2.2) (one_size _) (by show (h1s j).length < _; rw [h1s_len]; omega)).mono ?_
            rintro e x6 ⟨y, s', ⟨rfl, hR, hS⟩, hX, hk'⟩
            obtain ⟨rfl, rfl⟩ := rl_put hR hj2
            have M6 := Lib.hid (And.intro (M5.out.1.go hS hX) (M5.out.2.1.frr hX.frm (by decide) (by decide))); clear hS hX hR hk' M5
            go_wp2
            go_roundw
            case rel => exact ⟨j + 1, by omega, by go_num, M6.out.2, M6.out.1⟩
            case measure => simp [intOf]; omega
          · obtain rfl : j = 2 := by omega
            go_wp2_with fail
            go_at_call 21
            refine ((Free_any x1.heap.size d _ _ M.out.1.rs).mono (fun e w' h => rl_free h)).mono ?_
            rintro e x7 ⟨he, hb⟩
            obtain ⟨fr, hfr, hfr2⟩ : ∃ fr : Bool, fr = decide (0 < nl) ∧ (2 - ((if l = [] then 0 else 2 : Nat) : Int)) = if fr then 0 else 2 := by
              refine ⟨_, rfl, ?_⟩
              have := M.out.2.2.2
              cases l with
              | nil => simp at this; subst this; rfl
              | cons x l => simp at this; have h0 : 0 < nl := by omega
                            simp [h0]
            rw [hfr2] at he
            have M7 := Lib.hid (And.intro (M.out.1.later hb) (And.intro (M.out.2.1.later hb) M.out.2.2)); clear hb M hfr2
            have hdec : decide (0 < nl) = fr := hfr.symm
            have hdec2 : decide (0 < (nl : Int)) = fr := by rw [hfr, decide_eq_decide]; omega
            clear hfr
            cases fr
            all_goals
              obtain rfl := he
              simp only [if_true, Bool.false_eq_true, if_false]
              go_wp2_with fail
              simp only [Int.cast_ofNat_Int]
              go_loopw [17] (fun jv w3 => ∃ j : Nat, j ≤ nl ∧ jv = .int .i64 j ∧ ROk (l.drop j) last ∧ Own w3 x1.heap.size 3 1 i64r (.slice A nl c) l ∧ Kr (fun _ => False) x1 w3 d (rl 2 (l.drop j) last)) (fun j _ => nl - (intOf j).toNat)
              case atStart => exact ⟨0, Nat.zero_le _, rfl, M7.out.2.2.1, M7.out.2.1, M7.out.1⟩
              case round =>
                rename World => w3
                obtain ⟨j, hj, rfl, hr, hO, hK⟩ := hrel
                have P := Lib.hid (And.intro hK (And.intro hO (And.intro hr M7.out.2.2.2))); clear hK hO hr M7
                by_cases hjn : j < nl
                · have hjl : j < l.length := by rw [← P.out.2.2.2]; exact hjn
                  obtain ⟨g, rfl, l0⟩ := int_cell P.out.2.1 j hjl
                  have hxw := P.out.2.2.1.le (l[j]'hjl) (by rw [List.drop_eq_getElem_cons hjl]; exact List.mem_cons_self ..)
                  have E := Lib.hid (fun okb s' (h : DropR (rl 2 (l.drop j) last) (l[j]'hjl) okb s') => rl_first hjl h P.out.2.2.1)
                  generalize (l[j]'hjl) = x at *
                  have hxi : wfI x := ⟨by omega, by omega⟩
                  go_wp2_with fail
                  go_at_call 26
                  refine (Drop_any _ x1.heap.size d _ w3 x hxi P.out.1.rx).mono ?_
                  rintro e x9 ⟨okb, s', ⟨rfl, hR, hS⟩, hX, hk'⟩
                  obtain ⟨rfl, rfl, hr⟩ := E.out _ _ hR
                  have P2 := Lib.hid (And.intro (P.out.1.go hS hX) (And.intro (P.out.2.1.frr hX.frm (by decide) (by decide)) hr)); clear hS hX hR hk' hr P E l0
                  go_wp2
                  go_roundw
                  case rel => exact ⟨j + 1, by omega, by go_num, P2.out.2.2, P2.out.2.1, P2.out.1⟩
                  case measure => simp [intOf]; omega
                · obtain rfl : j = nl := by omega
                  have hdn : l.drop j = [] := List.drop_eq_nil_of_le (by rw [← P.out.2.2.2]; exact Nat.le_refl _)
                  have P1 := Lib.hid (show Kr (fun _ => False) x1 w3 d (rl 2 [] last) by have := P.out.1; rw [hdn] at this; exact this); clear P hdn
                  go_wp2_with fail
                  go_at_call 21
                  refine ((Free_any x1.heap.size d _ _ P1.out.rs).mono (fun e w' h => rl_free h)).mono ?_
                  rintro e x10 ⟨he, hb⟩
                  obtain rfl : e = .returned (.int .i64 2) := he
                  have P3 := Lib.hid (P1.out.later hb); clear hb P1
                  go_wp2_with fail
                  go_at_call 19
                  refine (Total_any x1.heap.size d _ _ P3.out.rs).mono ?_
                  rintro e x11 ⟨he, hb⟩
                  obtain rfl : e = .returned (.int .i64 2) := he
                  have P4 := Lib.hid (P3.out.later hb); clear hb P3
                  go_wp2
                  go_ret
                  exact ⟨rfl, bt B1.out P4.out.bel⟩
end Go.Proofs.Ytbbjlefldpgckaa
