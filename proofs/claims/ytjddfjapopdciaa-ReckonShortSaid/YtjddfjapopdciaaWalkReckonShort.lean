/- The walk of ReckonShort. -/
import Derived.Test.YtjddfjapopdciaaShort8
import Derived.Test.YtjddfjapopdciaaShort9
import Derived.Test.YtjddfjapopdciaaShort15
import Derived.Test.YtjddfjapopdciaaMadeE
namespace Go.Proofs.Ytjddfjapopdciaa
open Go.ChangeShapes Go.WideShapes Go.ChangeAt Go.RowKit
open Rk (inR)
set_option linter.unusedVariables false
set_option linter.unusedSimpArgs false

theorem two_bad (w : World) : Calls Try.prog 32 #[.string ⟨#[47]⟩, ev 0 e0 1 1 e0 e0 e0 nilk, ev 0 e0 1 0 e0 e0 e0 nilk] w fun e w' => IsN bDiv tBad e w' ∧ Below w.heap.size w w' :=
  two_isN bDiv (.lit 1 1 mt) (.lit 1 0 mt) _ _ nilk nilk w rfl rfl rfl rfl
theorem two_num (w : World) : Calls Try.prog 32 #[.string ⟨#[38, 38]⟩, ev 0 e0 1 0 e0 e0 e0 nilk, ev 0 e0 2 0 e0 e0 e0 nilk] w fun e w' => IsN bAnd (.bin bAnd (.lit 1 0 mt) tFalse) e w' ∧ Below w.heap.size w w' :=
  two_isN bAnd (.lit 1 0 mt) tFalse _ _ nilk nilk w rfl rfl rfl rfl
theorem Reckon_num (l : List Bd) (A : Option Addr) (n c : Nat) (L : Value) (w : World) (h : TrAt w (.bin bAnd (.lit 1 0 mt) tFalse) (.slice A n c)) (hl : BdsAt w L l) (hk : okBds l) :
    Calls Try.prog 14 #[ev 4 bAnd 0 0 e0 e0 e0 (.slice A n c), L] w fun e w' => e = .returned (.tuple #[vv 0 0 mt, .bool false]) ∧ Below w.heap.size w w' :=
  Reckon_isN bAnd _ _ l none A n c L w h (ok_and ok_0 ok_F) ⟨by show inR 0; decide, small_F⟩ hl hk (ev_numAnd l)
set_option maxRecDepth 20000 in
set_option maxHeartbeats 4000000 in
theorem walk_ReckonShort (v : Value) (l : List UInt8) (u : Value) (m : List UInt8) (w : World) (hv : BytesAt w v l) (hl : l.length ≤ 140737488351232) (hu : BytesAt w u m) (hm : m.length ≤ 140737488351232) :
    Calls Try.prog 7 #[v, u] w fun e w' => e = .returned (.bool true) ∧ Below w.heap.size w w' := by
  obtain ⟨VA, Vn, Vc, rfl⟩ := bytes_sl hv
  obtain ⟨UA, Un, Uc, rfl⟩ := bytes_sl hu
  have K := Lib.hid (Keep.start w (fun X => BytesAt X (.slice VA Vn Vc) l ∧ BytesAt X (.slice UA Un Uc) m) ⟨hv, hu⟩ (fun _ _ hb h => ⟨h.1.later hb, h.2.later hb⟩))
  clear hv hu
  go_enter Try.func7, Try.ntmps7
  go_wp2_with fail
  go_at_call 11
  refine (examples_any _).mono ?_
  rintro e w1 ⟨rfl, hb⟩
  replace K := Lib.hid (K.out.go hb); clear hb
  go_wp2_with fail
  go_at_call 13
  refine (made_ev _ l _ K.out.p.1 hl).mono ?_
  rintro e w2 ⟨⟨t, k1, o1, a1, b1, s1, v1, f1, A1, n1, c1, A, n, c, rfl, hT, ho, hs, e1⟩, hb⟩
  replace K := Lib.hid ((((K.out.go hb).and (Q := fun X => TrAt X t (.slice A n c)) hT (fun _ _ hb h => h.later hb)).more 26 #[.int .i64 k1, .string o1, .int .i64 a1, .int .i64 b1, .string s1, .string v1, .string f1, .slice A1 n1 c1]).keepRow (List.mem_cons_self ..)); clear hb hT
  have HO := Lib.hid (And.intro ho (And.intro hs e1)); clear ho hs e1
  go_wp2_with fail
  generalize w2.alloc _ = w2' at *
  generalize w2.heap.size = g at *
  go_at_call 12
  refine (binds_ev _ m _ K.out.p.1.1.2 hm).mono ?_
  rintro e w3 ⟨⟨LA, Ln, Lc, bl, rfl, hB, hk⟩, hb⟩
  replace K := Lib.hid ((K.out.go hb).and (Q := fun X => BdsAt X (.slice LA Ln Lc) bl) hB (fun _ _ hb h => h.later hb)); clear hb hB
  go_wp2_with fail
  go_at_call 33
  refine (lit_any _ _).mono ?_
  rintro e w4 ⟨rfl, hb⟩
  replace K := Lib.hid (K.out.go hb); clear hb
  go_wp2_with fail
  go_at_call 33
  refine (lit_any _ _).mono ?_
  rintro e w5 ⟨rfl, hb⟩
  replace K := Lib.hid (K.out.go hb); clear hb
  go_wp2_with fail
  go_at_call 32
  refine (two_bad _).mono ?_
  rintro e w6 ⟨⟨A2, n2, c2, rfl, hTb⟩, hb⟩
  replace K := Lib.hid ((((K.out.go hb).and (Q := fun X => TrAt X tBad (.slice A2 n2 c2)) hTb (fun _ _ hb h => h.later hb)).more 26 #[.int .i64 4, .string bDiv, .int .i64 0, .int .i64 0, .string e0, .string e0, .string e0, .slice A2 n2 c2]).keepRow (List.mem_cons_self ..)); clear hb hTb
  have p0 : ∀ j, (w6.alloc (.cells (#[.int .i64 4, .string bDiv, .int .i64 0, .int .i64 0, .string e0, .string e0, .string e0, .slice A2 n2 c2] : Array Value) 26)).cell? ⟨g, j, none⟩ = (#[.int .i64 k1, .string o1, .int .i64 a1, .int .i64 b1, .string s1, .string v1, .string f1, .slice A1 n1 c1] : Array Value)[j]? := K.out.p.1.1.1.2.cell
  go_wp2_with fail
  generalize w6.alloc _ = w7 at *
  generalize w6.heap.size = g2 at *
  clear p0
  replace K := Lib.hid (K.out.weak (Q := (fun X => ((((TrAt X t (.slice A n c) ∧ BdsAt X (.slice LA Ln Lc) bl) ∧ Blk X g 26 #[.int .i64 k1, .string o1, .int .i64 a1, .int .i64 b1, .string s1, .string v1, .string f1, .slice A1 n1 c1]) ∧ TrAt X tBad (.slice A2 n2 c2)) ∧ Blk X g2 26 #[.int .i64 4, .string bDiv, .int .i64 0, .int .i64 0, .string e0, .string e0, .string e0, .slice A2 n2 c2]))) (fun X h => ⟨⟨⟨⟨h.1.1.1.1.2, h.1.1.2⟩, h.1.1.1.2⟩, h.1.2⟩, h.2⟩) (fun _ _ hb h => ⟨⟨⟨⟨h.1.1.1.1.later hb, h.1.1.1.2.later hb⟩, h.1.1.2.later hb⟩, h.1.2.later hb⟩, h.2.later hb⟩))
  obtain ⟨ho, hs, e1⟩ := HO.out
  clear HO
  have hR := fun X (h1 : TrAt X t (.slice A n c)) (h2 : BdsAt X (.slice LA Ln Lc) bl) => Reckon_tr t (.slice A n c) (.slice LA Ln Lc) bl X h1 ho hs h2 hk
  rw [e1] at hR
  have hg := fun {x : V3} (h : evalT bl t = some x) => evalT_good hk ho hs h
  have oA : (Tr.bin bAnd tTrue t).ok = true := ok_and ok_T ho
  have oO : (Tr.bin bOr tFalse t).ok = true := ok_or ok_F ho
  have oA2 : (Tr.bin bAnd tFalse t).ok = true := ok_and ok_F ho
  have oO2 : (Tr.bin bOr tTrue t).ok = true := ok_or ok_T ho
  have D := Lib.hid (And.intro e1 (And.intro hs (And.intro hk (And.intro oA (And.intro oO (And.intro oA2 oO2))))))
  clear e1 ho hs hk oA oO oA2 oO2
  cases he : evalT bl t with
  | none =>
    have E1 := Lib.hid (show onlyB (evalT bl t) = none by rw [he]; rfl)
    rw [he] at hR
    replace hR : ∀ X, TrAt X t (.slice A n c) → BdsAt X (.slice LA Ln Lc) bl → Calls Try.prog 14 #[ev k1 o1 a1 b1 s1 v1 f1 (.slice A1 n1 c1), .slice LA Ln Lc] X fun e w' => e = .returned (.tuple #[vv 0 0 mt, .bool false]) ∧ Below X.heap.size X w' := hR
    clear he hg
    have HR := Lib.hid hR; clear hR
    go_wp2_with fail
    go_at_call 14
    refine (HR.out _ K.out.p.1.1.1.1 K.out.p.1.1.1.2).mono ?_
    rintro e w8 ⟨rfl, hb⟩
    replace K := Lib.hid (((K.out.go hb).more 23 #[.int .i64 0, .int .i64 0, .string mt]).keepRow (List.mem_cons_self ..)); clear hb
    go_wp2_with fail
    generalize w8.alloc _ = w9 at *
    generalize w8.heap.size = g9 at *
    refine wp_of_eq (c' := ((Try.f7.body.bind (regionN 8)).getD .skip)) ?_ (by kernel_rfl)
    refine short8 _ _ _ _ _ _ _ _ _ _ _ _ _ _ _ _ _ _ _ _ _ _ _ _ _ _ _ _ _ _ _ _ _ _ _ _ _ _ _ _ _ _ _ _ _ _ _ _ _ _ _ _ _ _ _ _ _ _ _ _ _ _ _ _ _ _ _ _ _ _ _ _ _ _ _ _ _ _ _ _ _ _ _ _ _ _ _ _ _ _ _ _ _ _ _ _ _ _ _ _ _ _ _ _ _ _ _ _ _ _ _ _ _ _ _ _ _ _ _ _ _ _ _ _ K.out (fun X h => h.1.1.1.2) (fun X h => two_isN bAnd tTrue t _ _ nilk (.slice A n c) X rfl D.out.1 rfl h.1.1.1.1.1) (fun X A' n' c' h hT => Reckon_isN bAnd tTrue _ bl (none) A' n' c' _ X hT D.out.2.2.2.1 ⟨small_T, D.out.2.1⟩ h.1.1.1.1.2 D.out.2.2.1 ((ev_and bl t).trans E1.out)) (fun _ _ _ _ _ _ _ _ g11 w10 hK1 => ?_)
    replace K := Lib.hid (hK1.keepRow (List.mem_cons_self ..)); clear hK1
    go_wp2_with fail
    refine wp_of_eq (c' := ((Try.f7.body.bind (regionN 9)).getD .skip)) ?_ (by kernel_rfl)
    refine short9 _ _ _ _ _ _ _ _ _ _ _ _ _ _ _ _ _ _ _ _ _ _ _ _ _ _ _ _ _ _ _ _ _ _ _ _ _ _ _ _ _ _ _ _ _ _ _ _ _ _ _ _ _ _ _ _ _ _ _ _ _ _ _ _ _ _ _ _ _ _ _ _ _ _ _ _ _ _ _ _ _ _ _ _ _ _ _ _ _ _ _ _ _ _ _ _ _ _ _ _ _ _ _ _ _ _ _ _ _ _ _ _ _ _ _ _ _ _ _ _ _ _ _ _ K.out (fun X h => h.1.1.1.1.2) (fun X h => two_isN bOr tFalse t _ _ nilk (.slice A n c) X rfl D.out.1 rfl h.1.1.1.1.1.1) (fun X A' n' c' h hT => Reckon_isN bOr tFalse _ bl (none) A' n' c' _ X hT D.out.2.2.2.2.1 ⟨small_F, D.out.2.1⟩ h.1.1.1.1.1.2 D.out.2.2.1 ((ev_or bl t).trans E1.out)) (fun _ _ _ _ _ _ _ _ g13 w11 hK1 => ?_)
    replace K := Lib.hid (hK1.keepRow (List.mem_cons_self ..)); clear hK1
    have q9 : ∀ j, w11.cell? ⟨g9, j, none⟩ = (#[.int .i64 0, .int .i64 0, .string mt] : Array Value)[j]? := K.out.p.1.1.2.cell
    have q11 : ∀ j, w11.cell? ⟨g11, j, none⟩ = (#[.int .i64 0, .int .i64 0, .string mt] : Array Value)[j]? := K.out.p.1.2.cell
    have q13 : ∀ j, w11.cell? ⟨g13, j, none⟩ = (#[.int .i64 0, .int .i64 0, .string mt] : Array Value)[j]? := K.out.p.2.cell
    go_wp2_with fail
    clear q9 q11 q13
    refine wp_of_eq (c' := ((Try.f7.body.bind (regionN 13)).getD .skip)) ?_ (by kernel_rfl)
    refine short13 (y1 := 0) (y2 := 0) (y3 := mt) (b := false) _ _ _ _ _ _ _ _ _ _ _ _ _ _ _ _ _ _ _ _ _ _ _ _ _ _ _ _ _ _ _ _ _ _ _ _ _ _ _ _ _ _ _ _ _ _ _ _ _ _ _ _ _ _ _ _ _ _ _ _ _ _ _ _ _ _ _ _ _ _ _ _ _ _ _ _ _ _ _ _ _ _ _ _ _ _ _ _ _ _ _ _ _ _ _ _ _ _ _ _ _ _ _ _ _ _ _ _ _ _ _ _ _ _ _ _ _ _ _ _ _ _ _ _ K.out (fun X h => h.1.1.1.2) (fun X h => two_isN bAnd tBad tFalse _ _ (.slice A2 n2 c2) nilk X rfl rfl h.1.1.1.1.2 rfl) (fun X A' n' c' h hT => Reckon_isN bAnd _ _ bl none A' n' c' _ X hT (ok_and ok_bad ok_F) ⟨small_bad, small_F⟩ h.1.1.1.1.1.1.2 D.out.2.2.1 (ev_badAnd bl)) (fun _ _ _ _ _ _ _ _ g16 w12 hK1 => ?_)
    replace K := Lib.hid (hK1.keepRow (List.mem_cons_self ..)); clear hK1
    go_wp2_with fail
    go_at_call 33
    refine (lit_any _ _).mono ?_
    rintro e w13 ⟨rfl, hb⟩
    replace K := Lib.hid (K.out.go hb); clear hb
    go_wp2_with fail
    go_at_call 34
    refine (ltruth_any false _).mono ?_
    rintro e w14 ⟨rfl, hb⟩
    replace K := Lib.hid (K.out.go hb); clear hb
    go_wp2_with fail
    go_at_call 32
    refine (two_num _).mono ?_
    rintro e w15 ⟨⟨A3, n3, c3, rfl, hTn⟩, hb⟩
    replace K := Lib.hid (K.out.go hb); clear hb
    go_wp2_with fail
    go_at_call 14
    refine (Reckon_num bl _ _ _ _ _ hTn K.out.p.1.1.1.1.1.1.1.2 D.out.2.2.1).mono ?_
    rintro e w16 ⟨rfl, hb⟩
    replace K := Lib.hid (((K.out.go hb).more 23 #[.int .i64 0, .int .i64 0, .string mt]).keepRow (List.mem_cons_self ..)); clear hb hTn
    go_wp2_with fail
    refine wp_of_eq (c' := ((Try.f7.body.bind (regionN 15)).getD .skip)) ?_ (by kernel_rfl)
    refine short15 _ _ _ _ _ _ _ _ _ _ _ _ _ _ _ _ _ _ _ _ _ _ _ _ _ _ _ _ _ _ _ _ _ _ _ _ _ _ _ _ _ _ _ _ _ _ _ _ _ _ _ _ _ _ _ _ _ _ _ _ _ _ _ _ _ _ _ _ _ _ _ _ _ _ _ _ _ _ _ _ _ _ _ _ _ _ _ _ _ _ _ _ _ _ _ _ _ _ _ _ _ _ _ _ _ _ _ _ _ _ _ _ _ _ _ _ _ _ _ _ K.out (fun X h => h.1.1.1.1.1.1.1.2) (fun X h => h.1.1.1.1.1.2) (fun X h => two_isN bAnd tFalse t _ _ nilk (.slice A n c) X rfl D.out.1 rfl h.1.1.1.1.1.1.1.1.1) (fun X A' n' c' h hT => Holds_isN bAnd _ _ bl (some (2, 0, mt)) A' n' c' _ X hT D.out.2.2.2.2.2.1 ⟨small_F, D.out.2.1⟩ h.1.1.1.1.1.1.1.1.2 D.out.2.2.1 (ev_andF bl t)) (fun X h => two_isN bOr tTrue t _ _ nilk (.slice A n c) X rfl D.out.1 rfl h.1.1.1.1.1.1.1.1.1) (fun X A' n' c' h hT => Holds_isN bOr _ _ bl (some (2, 1, mt)) A' n' c' _ X hT D.out.2.2.2.2.2.2 ⟨small_T, D.out.2.1⟩ h.1.1.1.1.1.1.1.1.2 D.out.2.2.1 (ev_orT bl t)) (fun X h => two_isN bOr tTrue tBad _ _ nilk (.slice A2 n2 c2) X rfl rfl rfl h.1.1.1.1.1.1.2) (fun X A' n' c' h hT => Holds_isN bOr _ _ bl (some (2, 1, mt)) A' n' c' _ X hT (ok_or ok_T ok_bad) ⟨small_T, small_bad⟩ h.1.1.1.1.1.1.1.1.2 D.out.2.2.1 (ev_orT bl tBad)) (fun _ _ _ _ _ _ _ _ _ _ _ _ _ _ _ _ _ _ _ _ _ _ _ _ _ _ _ _ _ _ _ w17 hb => ?_)
    go_wp2_with fail
    go_ret
    exact ⟨rfl, hb⟩
  | some x =>
    have hx := hg he
    clear hg
    obtain ⟨x1, x2, x3⟩ := x
    by_cases hx2 : x1 = 2
    · subst hx2
      clear hx
      have E1 := Lib.hid (show onlyB (evalT bl t) = some (2, x2, x3) by rw [he]; rfl)
      rw [he] at hR
      replace hR : ∀ X, TrAt X t (.slice A n c) → BdsAt X (.slice LA Ln Lc) bl → Calls Try.prog 14 #[ev k1 o1 a1 b1 s1 v1 f1 (.slice A1 n1 c1), .slice LA Ln Lc] X fun e w' => e = .returned (.tuple #[vv 2 x2 x3, .bool true]) ∧ Below X.heap.size X w' := hR
      clear he
      have HR := Lib.hid hR; clear hR
      go_wp2_with fail
      go_at_call 14
      refine (HR.out _ K.out.p.1.1.1.1 K.out.p.1.1.1.2).mono ?_
      rintro e w8 ⟨rfl, hb⟩
      replace K := Lib.hid (((K.out.go hb).more 23 #[.int .i64 2, .int .i64 x2, .string x3]).keepRow (List.mem_cons_self ..)); clear hb
      go_wp2_with fail
      generalize w8.alloc _ = w9 at *
      generalize w8.heap.size = g9 at *
      refine wp_of_eq (c' := ((Try.f7.body.bind (regionN 8)).getD .skip)) ?_ (by kernel_rfl)
      refine short8 _ _ _ _ _ _ _ _ _ _ _ _ _ _ _ _ _ _ _ _ _ _ _ _ _ _ _ _ _ _ _ _ _ _ _ _ _ _ _ _ _ _ _ _ _ _ _ _ _ _ _ _ _ _ _ _ _ _ _ _ _ _ _ _ _ _ _ _ _ _ _ _ _ _ _ _ _ _ _ _ _ _ _ _ _ _ _ _ _ _ _ _ _ _ _ _ _ _ _ _ _ _ _ _ _ _ _ _ _ _ _ _ _ _ _ _ _ _ _ _ _ _ _ _ K.out (fun X h => h.1.1.1.2) (fun X h => two_isN bAnd tTrue t _ _ nilk (.slice A n c) X rfl D.out.1 rfl h.1.1.1.1.1) (fun X A' n' c' h hT => Reckon_isN bAnd tTrue _ bl (some (2, x2, x3)) A' n' c' _ X hT D.out.2.2.2.1 ⟨small_T, D.out.2.1⟩ h.1.1.1.1.2 D.out.2.2.1 ((ev_and bl t).trans E1.out)) (fun _ _ _ _ _ _ _ _ g11 w10 hK1 => ?_)
      replace K := Lib.hid (hK1.keepRow (List.mem_cons_self ..)); clear hK1
      go_wp2_with fail
      refine wp_of_eq (c' := ((Try.f7.body.bind (regionN 9)).getD .skip)) ?_ (by kernel_rfl)
      refine short9 _ _ _ _ _ _ _ _ _ _ _ _ _ _ _ _ _ _ _ _ _ _ _ _ _ _ _ _ _ _ _ _ _ _ _ _ _ _ _ _ _ _ _ _ _ _ _ _ _ _ _ _ _ _ _ _ _ _ _ _ _ _ _ _ _ _ _ _ _ _ _ _ _ _ _ _ _ _ _ _ _ _ _ _ _ _ _ _ _ _ _ _ _ _ _ _ _ _ _ _ _ _ _ _ _ _ _ _ _ _ _ _ _ _ _ _ _ _ _ _ _ _ _ _ K.out (fun X h => h.1.1.1.1.2) (fun X h => two_isN bOr tFalse t _ _ nilk (.slice A n c) X rfl D.out.1 rfl h.1.1.1.1.1.1) (fun X A' n' c' h hT => Reckon_isN bOr tFalse _ bl (some (2, x2, x3)) A' n' c' _ X hT D.out.2.2.2.2.1 ⟨small_F, D.out.2.1⟩ h.1.1.1.1.1.2 D.out.2.2.1 ((ev_or bl t).trans E1.out)) (fun _ _ _ _ _ _ _ _ g13 w11 hK1 => ?_)
      replace K := Lib.hid (hK1.keepRow (List.mem_cons_self ..)); clear hK1
      have q9 : ∀ j, w11.cell? ⟨g9, j, none⟩ = (#[.int .i64 2, .int .i64 x2, .string x3] : Array Value)[j]? := K.out.p.1.1.2.cell
      have q11 : ∀ j, w11.cell? ⟨g11, j, none⟩ = (#[.int .i64 2, .int .i64 x2, .string x3] : Array Value)[j]? := K.out.p.1.2.cell
      have q13 : ∀ j, w11.cell? ⟨g13, j, none⟩ = (#[.int .i64 2, .int .i64 x2, .string x3] : Array Value)[j]? := K.out.p.2.cell
      go_wp2_with fail
      clear q9 q11 q13
      refine wp_of_eq (c' := ((Try.f7.body.bind (regionN 13)).getD .skip)) ?_ (by kernel_rfl)
      refine short13 (y1 := 0) (y2 := 0) (y3 := mt) (b := false) _ _ _ _ _ _ _ _ _ _ _ _ _ _ _ _ _ _ _ _ _ _ _ _ _ _ _ _ _ _ _ _ _ _ _ _ _ _ _ _ _ _ _ _ _ _ _ _ _ _ _ _ _ _ _ _ _ _ _ _ _ _ _ _ _ _ _ _ _ _ _ _ _ _ _ _ _ _ _ _ _ _ _ _ _ _ _ _ _ _ _ _ _ _ _ _ _ _ _ _ _ _ _ _ _ _ _ _ _ _ _ _ _ _ _ _ _ _ _ _ _ _ _ _ K.out (fun X h => h.1.1.1.2) (fun X h => two_isN bAnd tBad tFalse _ _ (.slice A2 n2 c2) nilk X rfl rfl h.1.1.1.1.2 rfl) (fun X A' n' c' h hT => Reckon_isN bAnd _ _ bl none A' n' c' _ X hT (ok_and ok_bad ok_F) ⟨small_bad, small_F⟩ h.1.1.1.1.1.1.2 D.out.2.2.1 (ev_badAnd bl)) (fun _ _ _ _ _ _ _ _ g16 w12 hK1 => ?_)
      replace K := Lib.hid (hK1.keepRow (List.mem_cons_self ..)); clear hK1
      go_wp2_with fail
      go_at_call 33
      refine (lit_any _ _).mono ?_
      rintro e w13 ⟨rfl, hb⟩
      replace K := Lib.hid (K.out.go hb); clear hb
      go_wp2_with fail
      go_at_call 34
      refine (ltruth_any false _).mono ?_
      rintro e w14 ⟨rfl, hb⟩
      replace K := Lib.hid (K.out.go hb); clear hb
      go_wp2_with fail
      go_at_call 32
      refine (two_num _).mono ?_
      rintro e w15 ⟨⟨A3, n3, c3, rfl, hTn⟩, hb⟩
      replace K := Lib.hid (K.out.go hb); clear hb
      go_wp2_with fail
      go_at_call 14
      refine (Reckon_num bl _ _ _ _ _ hTn K.out.p.1.1.1.1.1.1.1.2 D.out.2.2.1).mono ?_
      rintro e w16 ⟨rfl, hb⟩
      replace K := Lib.hid (((K.out.go hb).more 23 #[.int .i64 0, .int .i64 0, .string mt]).keepRow (List.mem_cons_self ..)); clear hb hTn
      go_wp2_with fail
      refine wp_of_eq (c' := ((Try.f7.body.bind (regionN 15)).getD .skip)) ?_ (by kernel_rfl)
      refine short15 _ _ _ _ _ _ _ _ _ _ _ _ _ _ _ _ _ _ _ _ _ _ _ _ _ _ _ _ _ _ _ _ _ _ _ _ _ _ _ _ _ _ _ _ _ _ _ _ _ _ _ _ _ _ _ _ _ _ _ _ _ _ _ _ _ _ _ _ _ _ _ _ _ _ _ _ _ _ _ _ _ _ _ _ _ _ _ _ _ _ _ _ _ _ _ _ _ _ _ _ _ _ _ _ _ _ _ _ _ _ _ _ _ _ _ _ _ _ _ _ K.out (fun X h => h.1.1.1.1.1.1.1.2) (fun X h => h.1.1.1.1.1.2) (fun X h => two_isN bAnd tFalse t _ _ nilk (.slice A n c) X rfl D.out.1 rfl h.1.1.1.1.1.1.1.1.1) (fun X A' n' c' h hT => Holds_isN bAnd _ _ bl (some (2, 0, mt)) A' n' c' _ X hT D.out.2.2.2.2.2.1 ⟨small_F, D.out.2.1⟩ h.1.1.1.1.1.1.1.1.2 D.out.2.2.1 (ev_andF bl t)) (fun X h => two_isN bOr tTrue t _ _ nilk (.slice A n c) X rfl D.out.1 rfl h.1.1.1.1.1.1.1.1.1) (fun X A' n' c' h hT => Holds_isN bOr _ _ bl (some (2, 1, mt)) A' n' c' _ X hT D.out.2.2.2.2.2.2 ⟨small_T, D.out.2.1⟩ h.1.1.1.1.1.1.1.1.2 D.out.2.2.1 (ev_orT bl t)) (fun X h => two_isN bOr tTrue tBad _ _ nilk (.slice A2 n2 c2) X rfl rfl rfl h.1.1.1.1.1.1.2) (fun X A' n' c' h hT => Holds_isN bOr _ _ bl (some (2, 1, mt)) A' n' c' _ X hT (ok_or ok_T ok_bad) ⟨small_T, small_bad⟩ h.1.1.1.1.1.1.1.1.2 D.out.2.2.1 (ev_orT bl tBad)) (fun _ _ _ _ _ _ _ _ _ _ _ _ _ _ _ _ _ _ _ _ _ _ _ _ _ _ _ _ _ _ _ w17 hb => ?_)
      go_wp2_with fail
      go_ret
      exact ⟨rfl, hb⟩
    · have hd : (x1 == 2) = false := beq_eq_false_iff_ne.2 hx2
      have E1 := Lib.hid (show onlyB (evalT bl t) = none by rw [he]; exact if_neg hx2)
      rw [he] at hR
      replace hR : ∀ X, TrAt X t (.slice A n c) → BdsAt X (.slice LA Ln Lc) bl → Calls Try.prog 14 #[ev k1 o1 a1 b1 s1 v1 f1 (.slice A1 n1 c1), .slice LA Ln Lc] X fun e w' => e = .returned (.tuple #[vv x1 x2 x3, .bool true]) ∧ Below X.heap.size X w' := hR
      clear he hx hx2
      have HR := Lib.hid hR; clear hR
      go_wp2_with fail
      go_at_call 14
      refine (HR.out _ K.out.p.1.1.1.1 K.out.p.1.1.1.2).mono ?_
      rintro e w8 ⟨rfl, hb⟩
      replace K := Lib.hid (((K.out.go hb).more 23 #[.int .i64 x1, .int .i64 x2, .string x3]).keepRow (List.mem_cons_self ..)); clear hb
      go_wp2_with fail
      generalize w8.alloc _ = w9 at *
      generalize w8.heap.size = g9 at *
      refine wp_of_eq (c' := ((Try.f7.body.bind (regionN 8)).getD .skip)) ?_ (by kernel_rfl)
      refine short8 _ _ _ _ _ _ _ _ _ _ _ _ _ _ _ _ _ _ _ _ _ _ _ _ _ _ _ _ _ _ _ _ _ _ _ _ _ _ _ _ _ _ _ _ _ _ _ _ _ _ _ _ _ _ _ _ _ _ _ _ _ _ _ _ _ _ _ _ _ _ _ _ _ _ _ _ _ _ _ _ _ _ _ _ _ _ _ _ _ _ _ _ _ _ _ _ _ _ _ _ _ _ _ _ _ _ _ _ _ _ _ _ _ _ _ _ _ _ _ _ _ _ _ _ K.out (fun X h => h.1.1.1.2) (fun X h => two_isN bAnd tTrue t _ _ nilk (.slice A n c) X rfl D.out.1 rfl h.1.1.1.1.1) (fun X A' n' c' h hT => Reckon_isN bAnd tTrue _ bl (none) A' n' c' _ X hT D.out.2.2.2.1 ⟨small_T, D.out.2.1⟩ h.1.1.1.1.2 D.out.2.2.1 ((ev_and bl t).trans E1.out)) (fun _ _ _ _ _ _ _ _ g11 w10 hK1 => ?_)
      replace K := Lib.hid (hK1.keepRow (List.mem_cons_self ..)); clear hK1
      go_wp2_with fail
      refine wp_of_eq (c' := ((Try.f7.body.bind (regionN 9)).getD .skip)) ?_ (by kernel_rfl)
      refine short9 _ _ _ _ _ _ _ _ _ _ _ _ _ _ _ _ _ _ _ _ _ _ _ _ _ _ _ _ _ _ _ _ _ _ _ _ _ _ _ _ _ _ _ _ _ _ _ _ _ _ _ _ _ _ _ _ _ _ _ _ _ _ _ _ _ _ _ _ _ _ _ _ _ _ _ _ _ _ _ _ _ _ _ _ _ _ _ _ _ _ _ _ _ _ _ _ _ _ _ _ _ _ _ _ _ _ _ _ _ _ _ _ _ _ _ _ _ _ _ _ _ _ _ _ K.out (fun X h => h.1.1.1.1.2) (fun X h => two_isN bOr tFalse t _ _ nilk (.slice A n c) X rfl D.out.1 rfl h.1.1.1.1.1.1) (fun X A' n' c' h hT => Reckon_isN bOr tFalse _ bl (none) A' n' c' _ X hT D.out.2.2.2.2.1 ⟨small_F, D.out.2.1⟩ h.1.1.1.1.1.2 D.out.2.2.1 ((ev_or bl t).trans E1.out)) (fun _ _ _ _ _ _ _ _ g13 w11 hK1 => ?_)
      replace K := Lib.hid (hK1.keepRow (List.mem_cons_self ..)); clear hK1
      have q9 : ∀ j, w11.cell? ⟨g9, j, none⟩ = (#[.int .i64 x1, .int .i64 x2, .string x3] : Array Value)[j]? := K.out.p.1.1.2.cell
      have q11 : ∀ j, w11.cell? ⟨g11, j, none⟩ = (#[.int .i64 0, .int .i64 0, .string mt] : Array Value)[j]? := K.out.p.1.2.cell
      have q13 : ∀ j, w11.cell? ⟨g13, j, none⟩ = (#[.int .i64 0, .int .i64 0, .string mt] : Array Value)[j]? := K.out.p.2.cell
      go_wp2_with fail
      clear q9 q11 q13
      refine wp_of_eq (c' := ((Try.f7.body.bind (regionN 13)).getD .skip)) ?_ (by kernel_rfl)
      refine short13 (y1 := 0) (y2 := 0) (y3 := mt) (b := false) _ _ _ _ _ _ _ _ _ _ _ _ _ _ _ _ _ _ _ _ _ _ _ _ _ _ _ _ _ _ _ _ _ _ _ _ _ _ _ _ _ _ _ _ _ _ _ _ _ _ _ _ _ _ _ _ _ _ _ _ _ _ _ _ _ _ _ _ _ _ _ _ _ _ _ _ _ _ _ _ _ _ _ _ _ _ _ _ _ _ _ _ _ _ _ _ _ _ _ _ _ _ _ _ _ _ _ _ _ _ _ _ _ _ _ _ _ _ _ _ _ _ _ _ K.out (fun X h => h.1.1.1.2) (fun X h => two_isN bAnd tBad tFalse _ _ (.slice A2 n2 c2) nilk X rfl rfl h.1.1.1.1.2 rfl) (fun X A' n' c' h hT => Reckon_isN bAnd _ _ bl none A' n' c' _ X hT (ok_and ok_bad ok_F) ⟨small_bad, small_F⟩ h.1.1.1.1.1.1.2 D.out.2.2.1 (ev_badAnd bl)) (fun _ _ _ _ _ _ _ _ g16 w12 hK1 => ?_)
      replace K := Lib.hid (hK1.keepRow (List.mem_cons_self ..)); clear hK1
      go_wp2_with fail
      go_at_call 33
      refine (lit_any _ _).mono ?_
      rintro e w13 ⟨rfl, hb⟩
      replace K := Lib.hid (K.out.go hb); clear hb
      go_wp2_with fail
      go_at_call 34
      refine (ltruth_any false _).mono ?_
      rintro e w14 ⟨rfl, hb⟩
      replace K := Lib.hid (K.out.go hb); clear hb
      go_wp2_with fail
      go_at_call 32
      refine (two_num _).mono ?_
      rintro e w15 ⟨⟨A3, n3, c3, rfl, hTn⟩, hb⟩
      replace K := Lib.hid (K.out.go hb); clear hb
      go_wp2_with fail
      go_at_call 14
      refine (Reckon_num bl _ _ _ _ _ hTn K.out.p.1.1.1.1.1.1.1.2 D.out.2.2.1).mono ?_
      rintro e w16 ⟨rfl, hb⟩
      replace K := Lib.hid (((K.out.go hb).more 23 #[.int .i64 0, .int .i64 0, .string mt]).keepRow (List.mem_cons_self ..)); clear hb hTn
      go_wp2_with fail
      refine wp_of_eq (c' := ((Try.f7.body.bind (regionN 15)).getD .skip)) ?_ (by kernel_rfl)
      refine short15 _ _ _ _ _ _ _ _ _ _ _ _ _ _ _ _ _ _ _ _ _ _ _ _ _ _ _ _ _ _ _ _ _ _ _ _ _ _ _ _ _ _ _ _ _ _ _ _ _ _ _ _ _ _ _ _ _ _ _ _ _ _ _ _ _ _ _ _ _ _ _ _ _ _ _ _ _ _ _ _ _ _ _ _ _ _ _ _ _ _ _ _ _ _ _ _ _ _ _ _ _ _ _ _ _ _ _ _ _ _ _ _ _ _ _ _ _ _ _ _ K.out (fun X h => h.1.1.1.1.1.1.1.2) (fun X h => h.1.1.1.1.1.2) (fun X h => two_isN bAnd tFalse t _ _ nilk (.slice A n c) X rfl D.out.1 rfl h.1.1.1.1.1.1.1.1.1) (fun X A' n' c' h hT => Holds_isN bAnd _ _ bl (some (2, 0, mt)) A' n' c' _ X hT D.out.2.2.2.2.2.1 ⟨small_F, D.out.2.1⟩ h.1.1.1.1.1.1.1.1.2 D.out.2.2.1 (ev_andF bl t)) (fun X h => two_isN bOr tTrue t _ _ nilk (.slice A n c) X rfl D.out.1 rfl h.1.1.1.1.1.1.1.1.1) (fun X A' n' c' h hT => Holds_isN bOr _ _ bl (some (2, 1, mt)) A' n' c' _ X hT D.out.2.2.2.2.2.2 ⟨small_T, D.out.2.1⟩ h.1.1.1.1.1.1.1.1.2 D.out.2.2.1 (ev_orT bl t)) (fun X h => two_isN bOr tTrue tBad _ _ nilk (.slice A2 n2 c2) X rfl rfl rfl h.1.1.1.1.1.1.2) (fun X A' n' c' h hT => Holds_isN bOr _ _ bl (some (2, 1, mt)) A' n' c' _ X hT (ok_or ok_T ok_bad) ⟨small_T, small_bad⟩ h.1.1.1.1.1.1.1.1.2 D.out.2.2.1 (ev_orT bl tBad)) (fun _ _ _ _ _ _ _ _ _ _ _ _ _ _ _ _ _ _ _ _ _ _ _ _ _ _ _ _ _ _ _ w17 hb => ?_)
      go_wp2_with fail
      go_ret
      exact ⟨rfl, hb⟩
end Go.Proofs.Ytjddfjapopdciaa
