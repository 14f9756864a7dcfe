/- The walk of ReckonKinds. -/
import Derived.Test.YtjddfjapopdciaaKindsA
import Derived.Test.YtjddfjapopdciaaKindsB
import Derived.Test.YtjddfjapopdciaaKindsC1
import Derived.Test.YtjddfjapopdciaaKindsC2
namespace Go.Proofs.Ytjddfjapopdciaa
open Go.ChangeShapes Go.WideShapes Go.ChangeAt Go.RowKit
open Rk (inR)
set_option linter.unusedVariables false
set_option linter.unusedSimpArgs false

theorem Holds_op (op : ByteArray) (x y : Tr) (l : List Bd) (b : Bool) (A : Option Addr) (n c : Nat) (L : Value) (w : World) (h : TrAt w (.bin op x y) (.slice A n c)) (hx : x.ok = true) (hy : y.ok = true) (ho : 0 < lvl op) (sx : x.small) (sy : y.small) (hl : BdsAt w L l) (hk : okBds l) (hr : isYes (evalT l (.bin op x y)) = b) :
    Calls Try.prog 18 #[ev 4 op 0 0 e0 e0 e0 (.slice A n c), L] w fun e w' => e = .returned (.bool b) ∧ Below w.heap.size w w' := by
  rw [← hr]
  exact Holds_isN op x y l _ A n c L w h (by unfold Tr.ok; rw [hx, hy, decide_eq_true ho]; rfl) ⟨sx, sy⟩ hl hk rfl
theorem ok_bin {op : ByteArray} {x y : Tr} (ho : 0 < lvl op) (hx : x.ok = true) (hy : y.ok = true) : (Tr.bin op x y).ok = true := by unfold Tr.ok; rw [hx, hy, decide_eq_true ho]; rfl
set_option maxRecDepth 20000 in
set_option maxHeartbeats 8000000 in
theorem walk_ReckonKinds (v : Value) (l : List UInt8) (u : Value) (k : List UInt8) (x : Value) (m : List UInt8) (p : Int) (w : World) (hv : BytesAt w v l) (hl : l.length ≤ 140737488351232) (hu : BytesAt w u k) (hk : k.length ≤ 140737488351232) (hx : BytesAt w x m) (hm : m.length ≤ 140737488351232) (p0 : 0 ≤ p) (p1 : p ≤ 255) :
    Calls Try.prog 9 #[v, u, x, .int .u8 p] w fun e w' => e = .returned (.bool true) ∧ Below w.heap.size w w' := by
  obtain ⟨VA, Vn, Vc, rfl⟩ := bytes_sl hv
  obtain ⟨UA, Un, Uc, rfl⟩ := bytes_sl hu
  obtain ⟨XA, Xn, Xc, rfl⟩ := bytes_sl hx
  have K := Lib.hid (Keep.start w (fun X => BytesAt X (.slice VA Vn Vc) l ∧ BytesAt X (.slice UA Un Uc) k ∧ BytesAt X (.slice XA Xn Xc) m) ⟨hv, hu, hx⟩ (fun _ _ hb h => ⟨h.1.later hb, h.2.1.later hb, h.2.2.later hb⟩))
  clear hv hu hx
  go_enter Try.func9, Try.ntmps9
  go_wp2_with fail
  go_at_call 11
  refine (examples_any _).mono ?_
  rintro e w1 ⟨rfl, hb⟩
  replace K := Lib.hid (K.out.go hb); clear hb
  go_wp2_with fail
  go_at_call 13
  refine (made_ev _ l _ K.out.p.1 hl).mono ?_
  rintro e w2 ⟨⟨ta, k1, o1, a1, b1, s1, v1, f1, A1, n1, c1, Aa, na, ca, rfl, hT, ho, hs, e1⟩, hb⟩
  replace K := Lib.hid ((((K.out.go hb).and (Q := fun X => TrAt X ta (.slice Aa na ca)) hT (fun _ _ hb h => h.later hb)).more 26 #[.int .i64 k1, .string o1, .int .i64 a1, .int .i64 b1, .string s1, .string v1, .string f1, .slice A1 n1 c1]).keepRow (List.mem_cons_self ..)); clear hb hT
  have OA := Lib.hid (And.intro ho (And.intro hs e1)); clear ho hs e1
  go_wp2_with fail
  generalize w2.alloc _ = w2' at *
  generalize w2.heap.size = ga at *
  go_at_call 13
  refine (made_ev _ k _ K.out.p.1.1.2.1 hk).mono ?_
  rintro e w3 ⟨⟨tb, k2, o2, a2, b2, s2, v2, f2, A2, n2, c2, Ab, nb, cb, rfl, hT, ho, hs, e1⟩, hb⟩
  replace K := Lib.hid ((((K.out.go hb).and (Q := fun X => TrAt X tb (.slice Ab nb cb)) hT (fun _ _ hb h => h.later hb)).more 26 #[.int .i64 k2, .string o2, .int .i64 a2, .int .i64 b2, .string s2, .string v2, .string f2, .slice A2 n2 c2]).keepRow (List.mem_cons_self ..)); clear hb hT
  have OB := Lib.hid (And.intro ho (And.intro hs e1)); clear ho hs e1
  go_wp2_with fail
  generalize w3.alloc _ = w3' at *
  generalize w3.heap.size = gb at *
  go_at_call 12
  refine (binds_ev _ m _ K.out.p.1.1.1.1.2.2 hm).mono ?_
  rintro e w4 ⟨⟨LA, Ln, Lc, bl, rfl, hB, hk⟩, hb⟩
  replace K := Lib.hid (((K.out.go hb).and (Q := fun X => BdsAt X (.slice LA Ln Lc) bl) hB (fun _ _ hb h => h.later hb)).weak (Q := (fun X => ((((TrAt X ta (.slice Aa na ca) ∧ TrAt X tb (.slice Ab nb cb)) ∧ BdsAt X (.slice LA Ln Lc) bl) ∧ Blk X ga 26 #[.int .i64 k1, .string o1, .int .i64 a1, .int .i64 b1, .string s1, .string v1, .string f1, .slice A1 n1 c1]) ∧ Blk X gb 26 #[.int .i64 k2, .string o2, .int .i64 a2, .int .i64 b2, .string s2, .string v2, .string f2, .slice A2 n2 c2]))) (fun X h => ⟨⟨⟨⟨h.1.1.1.1.2, h.1.1.2⟩, h.2⟩, h.1.1.1.2⟩, h.1.2⟩) (fun _ _ hb h => ⟨⟨⟨⟨h.1.1.1.1.later hb, h.1.1.1.2.later hb⟩, h.1.1.2.later hb⟩, h.1.2.later hb⟩, h.2.later hb⟩)); clear hb hB
  have ha := fun X (h1 : TrAt X ta (.slice Aa na ca)) (h2 : BdsAt X (.slice LA Ln Lc) bl) => Reckon_tr ta (.slice Aa na ca) (.slice LA Ln Lc) bl X h1 OA.out.1 OA.out.2.1 h2 hk
  have hb := fun X (h1 : TrAt X tb (.slice Ab nb cb)) (h2 : BdsAt X (.slice LA Ln Lc) bl) => Reckon_tr tb (.slice Ab nb cb) (.slice LA Ln Lc) bl X h1 OB.out.1 OB.out.2.1 h2 hk
  rw [OA.out.2.2] at ha
  rw [OB.out.2.2] at hb
  have ga_ := fun {x : V3} (h : evalT bl ta = some x) => evalT_good hk OA.out.1 OA.out.2.1 h
  have gb_ := fun {x : V3} (h : evalT bl tb = some x) => evalT_good hk OB.out.1 OB.out.2.1 h
  have HK := Lib.hid hk; clear hk
  have pa := K.out.p.1.2.cell
  have pb := K.out.p.2.cell
  cases ea : evalT bl ta with
  | none =>
    cases eb : evalT bl tb with
    | none =>
      replace ha : ∀ X, TrAt X ta (.slice Aa na ca) → BdsAt X (.slice LA Ln Lc) bl → Calls Try.prog 14 #[ev k1 o1 a1 b1 s1 v1 f1 (.slice A1 n1 c1), (.slice LA Ln Lc)] X fun e w' => e = .returned (.tuple #[vv 0 0 mt, .bool false]) ∧ Below X.heap.size X w' := fun X p q => by have := ha X p q; rw [ea] at this; exact this
      have HA := Lib.hid ha; clear ha
      replace hb : ∀ X, TrAt X tb (.slice Ab nb cb) → BdsAt X (.slice LA Ln Lc) bl → Calls Try.prog 14 #[ev k2 o2 a2 b2 s2 v2 f2 (.slice A2 n2 c2), (.slice LA Ln Lc)] X fun e w' => e = .returned (.tuple #[vv 0 0 mt, .bool false]) ∧ Below X.heap.size X w' := fun X p q => by have := hb X p q; rw [eb] at this; exact this
      have HB := Lib.hid hb; clear hb
      clear ea eb ga_ gb_
      go_wp2_with fail
      go_at_call 14
      refine (HA.out _ K.out.p.1.1.1.1 K.out.p.1.1.2).mono ?_
      rintro e w6 ⟨rfl, hb⟩
      replace K := Lib.hid (((K.out.go hb).more 23 #[.int .i64 0, .int .i64 0, .string mt]).keepRow (List.mem_cons_self ..)); clear hb
      clear pb
      have pb : ∀ j, (w6.alloc (.cells (#[.int .i64 0, .int .i64 0, .string mt] : Array Value) 23)).cell? ⟨gb, j, none⟩ = (#[.int .i64 k2, .string o2, .int .i64 a2, .int .i64 b2, .string s2, .string v2, .string f2, .slice A2 n2 c2] : Array Value)[j]? := K.out.p.1.2.cell
      go_wp2_with fail
      go_at_call 14
      refine (HB.out _ K.out.p.1.1.1.1.2 K.out.p.1.1.1.2).mono ?_
      rintro e w7 ⟨rfl, hb⟩
      replace K := Lib.hid (((K.out.go hb).more 23 #[.int .i64 0, .int .i64 0, .string mt]).keepRow (List.mem_cons_self ..)); clear hb pb
      go_wp2_with fail
      go_ret
      exact ⟨rfl, K.out.bel⟩
    | some y =>
      obtain ⟨y1, y2, y3⟩ := y
      replace ha : ∀ X, TrAt X ta (.slice Aa na ca) → BdsAt X (.slice LA Ln Lc) bl → Calls Try.prog 14 #[ev k1 o1 a1 b1 s1 v1 f1 (.slice A1 n1 c1), (.slice LA Ln Lc)] X fun e w' => e = .returned (.tuple #[vv 0 0 mt, .bool false]) ∧ Below X.heap.size X w' := fun X p q => by have := ha X p q; rw [ea] at this; exact this
      have HA := Lib.hid ha; clear ha
      replace hb : ∀ X, TrAt X tb (.slice Ab nb cb) → BdsAt X (.slice LA Ln Lc) bl → Calls Try.prog 14 #[ev k2 o2 a2 b2 s2 v2 f2 (.slice A2 n2 c2), (.slice LA Ln Lc)] X fun e w' => e = .returned (.tuple #[vv y1 y2 y3, .bool true]) ∧ Below X.heap.size X w' := fun X p q => by have := hb X p q; rw [eb] at this; exact this
      have HB := Lib.hid hb; clear hb
      clear ea eb ga_ gb_
      go_wp2_with fail
      go_at_call 14
      refine (HA.out _ K.out.p.1.1.1.1 K.out.p.1.1.2).mono ?_
      rintro e w6 ⟨rfl, hb⟩
      replace K := Lib.hid (((K.out.go hb).more 23 #[.int .i64 0, .int .i64 0, .string mt]).keepRow (List.mem_cons_self ..)); clear hb
      clear pb
      have pb : ∀ j, (w6.alloc (.cells (#[.int .i64 0, .int .i64 0, .string mt] : Array Value) 23)).cell? ⟨gb, j, none⟩ = (#[.int .i64 k2, .string o2, .int .i64 a2, .int .i64 b2, .string s2, .string v2, .string f2, .slice A2 n2 c2] : Array Value)[j]? := K.out.p.1.2.cell
      go_wp2_with fail
      go_at_call 14
      refine (HB.out _ K.out.p.1.1.1.1.2 K.out.p.1.1.1.2).mono ?_
      rintro e w7 ⟨rfl, hb⟩
      replace K := Lib.hid (((K.out.go hb).more 23 #[.int .i64 y1, .int .i64 y2, .string y3]).keepRow (List.mem_cons_self ..)); clear hb pb
      go_wp2_with fail
      go_ret
      exact ⟨rfl, K.out.bel⟩
  | some x =>
    obtain ⟨x1, x2, x3⟩ := x
    cases eb : evalT bl tb with
    | none =>
      replace ha : ∀ X, TrAt X ta (.slice Aa na ca) → BdsAt X (.slice LA Ln Lc) bl → Calls Try.prog 14 #[ev k1 o1 a1 b1 s1 v1 f1 (.slice A1 n1 c1), (.slice LA Ln Lc)] X fun e w' => e = .returned (.tuple #[vv x1 x2 x3, .bool true]) ∧ Below X.heap.size X w' := fun X p q => by have := ha X p q; rw [ea] at this; exact this
      have HA := Lib.hid ha; clear ha
      replace hb : ∀ X, TrAt X tb (.slice Ab nb cb) → BdsAt X (.slice LA Ln Lc) bl → Calls Try.prog 14 #[ev k2 o2 a2 b2 s2 v2 f2 (.slice A2 n2 c2), (.slice LA Ln Lc)] X fun e w' => e = .returned (.tuple #[vv 0 0 mt, .bool false]) ∧ Below X.heap.size X w' := fun X p q => by have := hb X p q; rw [eb] at this; exact this
      have HB := Lib.hid hb; clear hb
      clear ea eb ga_ gb_
      go_wp2_with fail
      go_at_call 14
      refine (HA.out _ K.out.p.1.1.1.1 K.out.p.1.1.2).mono ?_
      rintro e w6 ⟨rfl, hb⟩
      replace K := Lib.hid (((K.out.go hb).more 23 #[.int .i64 x1, .int .i64 x2, .string x3]).keepRow (List.mem_cons_self ..)); clear hb
      clear pb
      have pb : ∀ j, (w6.alloc (.cells (#[.int .i64 x1, .int .i64 x2, .string x3] : Array Value) 23)).cell? ⟨gb, j, none⟩ = (#[.int .i64 k2, .string o2, .int .i64 a2, .int .i64 b2, .string s2, .string v2, .string f2, .slice A2 n2 c2] : Array Value)[j]? := K.out.p.1.2.cell
      go_wp2_with fail
      go_at_call 14
      refine (HB.out _ K.out.p.1.1.1.1.2 K.out.p.1.1.1.2).mono ?_
      rintro e w7 ⟨rfl, hb⟩
      replace K := Lib.hid (((K.out.go hb).more 23 #[.int .i64 0, .int .i64 0, .string mt]).keepRow (List.mem_cons_self ..)); clear hb pb
      go_wp2_with fail
      go_ret
      exact ⟨rfl, K.out.bel⟩
    | some y =>
      obtain ⟨y1, y2, y3⟩ := y
      replace ha : ∀ X, TrAt X ta (.slice Aa na ca) → BdsAt X (.slice LA Ln Lc) bl → Calls Try.prog 14 #[ev k1 o1 a1 b1 s1 v1 f1 (.slice A1 n1 c1), (.slice LA Ln Lc)] X fun e w' => e = .returned (.tuple #[vv x1 x2 x3, .bool true]) ∧ Below X.heap.size X w' := fun X p q => by have := ha X p q; rw [ea] at this; exact this
      have HA := Lib.hid ha; clear ha
      replace hb : ∀ X, TrAt X tb (.slice Ab nb cb) → BdsAt X (.slice LA Ln Lc) bl → Calls Try.prog 14 #[ev k2 o2 a2 b2 s2 v2 f2 (.slice A2 n2 c2), (.slice LA Ln Lc)] X fun e w' => e = .returned (.tuple #[vv y1 y2 y3, .bool true]) ∧ Below X.heap.size X w' := fun X p q => by have := hb X p q; rw [eb] at this; exact this
      have HB := Lib.hid hb; clear hb
      have G := Lib.hid (And.intro (ga_ ea) (gb_ eb)); clear ga_ gb_
      have EE := Lib.hid (And.intro ea eb); clear ea eb
      go_wp2_with fail
      go_at_call 14
      refine (HA.out _ K.out.p.1.1.1.1 K.out.p.1.1.2).mono ?_
      rintro e w6 ⟨rfl, hb⟩
      replace K := Lib.hid (((K.out.go hb).more 23 #[.int .i64 x1, .int .i64 x2, .string x3]).keepRow (List.mem_cons_self ..)); clear hb
      clear pb
      have pb : ∀ j, (w6.alloc (.cells (#[.int .i64 x1, .int .i64 x2, .string x3] : Array Value) 23)).cell? ⟨gb, j, none⟩ = (#[.int .i64 k2, .string o2, .int .i64 a2, .int .i64 b2, .string s2, .string v2, .string f2, .slice A2 n2 c2] : Array Value)[j]? := K.out.p.1.2.cell
      go_wp2_with fail
      go_at_call 14
      refine (HB.out _ K.out.p.1.1.1.1.2 K.out.p.1.1.1.2).mono ?_
      rintro e w7 ⟨rfl, hb⟩
      replace K := Lib.hid (((K.out.go hb).more 23 #[.int .i64 y1, .int .i64 y2, .string y3]).keepRow (List.mem_cons_self ..)); clear hb pb
      go_upto_region 11 with fail
      have gl := K.out.p.1.1.1.2.lt
      generalize w7.alloc _ = w8 at *
      generalize w6.heap.size = gx at *
      generalize w7.heap.size = gy at *
      clear gl
      refine wp_of_eq (c' := ((Try.f9.body.bind (regionN 11)).getD .skip)) ?_ (by kernel_rfl)
      refine kinds11 _ _ _ _ _ _ _ _ _ _ _ _ _ _ _ _ _ _ _ _ _ _ _ _ _ _ _ _ _ _ _ _ _ _ _ _ _ _ _ _ _ _ _ _ _ _ _ _ _ _ _ _ _ _ _ _ _ _ _ _ _ _ _ _ _ _ _ _ _ _ _ _ _ _ _ _ _ _ _ _ _ _ _ _ _ _ _ _ _ _ _ _ _ _ _ _ _ _ _ _ _ _ _ _ _ _ _ _ _ _ _ _ _ _ _ _ _ _ _ _ _ _ _ _ _ _ _ _ _ _ _ _ _ _ _ _ _ _ _ _ _ _ _ _ _ _ _ _ _ _ _ _ _ _ _ _ _ _ _ _ _ _ _ _ _ _ _ _ _ _ _ _ _ _ _ _ _ _ _ _ _ _ _ _ _ _ _ _ _ _ _ _ _ _ _ _ _ _ _ _ _ _ _ _ p0 p1 (fun _ _ _ _ _ w9 hb => ?_)
      replace K := Lib.hid (K.out.go hb); clear hb
      have pa := K.out.p.1.1.1.2.cell
      have pb := K.out.p.1.1.2.cell
      obtain ⟨q, hq⟩ : ∃ q, (p % 8).toNat = q := ⟨_, rfl⟩
      rw [hq]
      have hq8 : q < 8 := by omega
      have hpq : p % 8 = (q : Int) := by omega
      clear hq
      have HPQ := Lib.hid hpq; clear hpq
      by_cases hxy : x1 = y1
      · subst hxy
        obtain ⟨z1, z2, z3, td, hz, hcls⟩ : ∃ z1 z2 z3 td, toldV (evalT bl (.bin (opK q) ta tb)) = .returned (.tuple #[vv z1 z2 z3, .bool td]) ∧ (td = false ∨ (td = true ∧ (5 ≤ q ∨ (q < 5 ∧ z1 = 1 ∧ x1 = 1) ∨ (q = 0 ∧ z1 = 3 ∧ x1 = 3)))) := by
          rcases told_alike q hq8 EE.out.1 EE.out.2 rfl with h | ⟨⟨z1, z2, z3⟩, h, hc⟩
          · exact ⟨0, 0, mt, false, by rw [h]; rfl, Or.inl rfl⟩
          · exact ⟨z1, z2, z3, true, by rw [h]; rfl, Or.inr ⟨rfl, hc⟩⟩
        have HZ := Lib.hid hz; clear hz
        have HC := Lib.hid hcls; clear hcls
        obtain ⟨lb, hlb⟩ : ∃ b, isYes (evalT bl (.bin ⟨#[60]⟩ ta tb)) = b := ⟨_, rfl⟩
        obtain ⟨sb, hsb⟩ : ∃ b, isYes (evalT bl (.bin ⟨#[61, 61]⟩ ta tb)) = b := ⟨_, rfl⟩
        obtain ⟨mb, hmb⟩ : ∃ b, isYes (evalT bl (.bin ⟨#[62]⟩ ta tb)) = b := ⟨_, rfl⟩
        have H1 := Lib.hid hlb; have H2 := Lib.hid hsb; have H3 := Lib.hid hmb
        clear hlb hsb hmb
        have px := K.out.p.1.2.cell
        have py := K.out.p.2.cell
        go_wp2_with fail
        go_at_call 32
        refine (two_isN (opK q) ta tb _ _ (.slice Aa na ca) (.slice Ab nb cb) _ OA.out.2.2 OB.out.2.2 K.out.p.1.1.1.1.1.1 K.out.p.1.1.1.1.1.2).mono ?_
        rintro e w10 ⟨⟨A3, n3, c3, rfl, hT⟩, hb⟩
        have HT := Lib.hid hT; clear hT
        replace K := Lib.hid (K.out.go hb); clear hb
        go_wp2_with fail
        go_at_call 14
        refine (Reckon_isN (opK q) ta tb bl _ _ _ _ _ _ HT.out (ok_bin (opK_lvl q) OA.out.1 OB.out.1) ⟨OA.out.2.1, OB.out.2.1⟩ K.out.p.1.1.1.1.2 HK.out rfl).mono ?_
        rintro e w11 ⟨he, hb⟩
        rw [HZ.out] at he
        subst he
        replace K := Lib.hid (((K.out.go hb).more 23 #[.int .i64 z1, .int .i64 z2, .string z3]).keepRow (List.mem_cons_self ..)); clear hb HT
        clear pa pb px py
        have pa : ∀ j, (w11.alloc (.cells (#[.int .i64 z1, .int .i64 z2, .string z3] : Array Value) 23)).cell? ⟨ga, j, none⟩ = (#[.int .i64 k1, .string o1, .int .i64 a1, .int .i64 b1, .string s1, .string v1, .string f1, .slice A1 n1 c1] : Array Value)[j]? := K.out.p.1.1.1.1.2.cell
        have pb : ∀ j, (w11.alloc (.cells (#[.int .i64 z1, .int .i64 z2, .string z3] : Array Value) 23)).cell? ⟨gb, j, none⟩ = (#[.int .i64 k2, .string o2, .int .i64 a2, .int .i64 b2, .string s2, .string v2, .string f2, .slice A2 n2 c2] : Array Value)[j]? := K.out.p.1.1.1.2.cell
        have px : ∀ j, (w11.alloc (.cells (#[.int .i64 z1, .int .i64 z2, .string z3] : Array Value) 23)).cell? ⟨gx, j, none⟩ = (#[.int .i64 x1, .int .i64 x2, .string x3] : Array Value)[j]? := K.out.p.1.1.2.cell
        have py : ∀ j, (w11.alloc (.cells (#[.int .i64 z1, .int .i64 z2, .string z3] : Array Value) 23)).cell? ⟨gy, j, none⟩ = (#[.int .i64 x1, .int .i64 y2, .string y3] : Array Value)[j]? := K.out.p.1.2.cell
        go_wp2_with fail
        clear px py
        generalize w11.alloc _ = w12 at *
        generalize w11.heap.size = gz at *
        go_upto_region 19 with (first
          | (go_at_call 32; ((with_reducible refine (two_isN _ ta tb _ _ (.slice Aa na ca) (.slice Ab nb cb) _ OA.out.2.2 OB.out.2.2 K.out.p.1.1.1.1.1.1.1 K.out.p.1.1.1.1.1.1.2).mono ?_); rintro e w9 ⟨⟨A3, n3, c3, rfl, hT⟩, hb⟩; have HT := Lib.hid hT; clear hT; replace K := Lib.hid (K.out.go hb); clear hb; clear pa pb; have pa := K.out.p.1.1.1.1.2.cell; have pb := K.out.p.1.1.1.2.cell))
          | (go_at_call 18; ((with_reducible refine (Holds_op ⟨#[60]⟩ ta tb bl lb _ _ _ _ _ HT.out OA.out.1 OB.out.1 (by decide +kernel) OA.out.2.1 OB.out.2.1 K.out.p.1.1.1.1.1.2 HK.out H1.out).mono ?_); rintro e w9 ⟨rfl, hb⟩; replace K := Lib.hid (K.out.go hb); clear hb; clear pa pb; have pa := K.out.p.1.1.1.1.2.cell; have pb := K.out.p.1.1.1.2.cell))
          | (go_at_call 18; ((with_reducible refine (Holds_op ⟨#[61, 61]⟩ ta tb bl sb _ _ _ _ _ HT.out OA.out.1 OB.out.1 (by decide +kernel) OA.out.2.1 OB.out.2.1 K.out.p.1.1.1.1.1.2 HK.out H2.out).mono ?_); rintro e w9 ⟨rfl, hb⟩; replace K := Lib.hid (K.out.go hb); clear hb; clear pa pb; have pa := K.out.p.1.1.1.1.2.cell; have pb := K.out.p.1.1.1.2.cell))
          | (go_at_call 18; ((with_reducible refine (Holds_op ⟨#[62]⟩ ta tb bl mb _ _ _ _ _ HT.out OA.out.1 OB.out.1 (by decide +kernel) OA.out.2.1 OB.out.2.1 K.out.p.1.1.1.1.1.2 HK.out H3.out).mono ?_); rintro e w9 ⟨rfl, hb⟩; replace K := Lib.hid (K.out.go hb); clear hb; clear pa pb; have pa := K.out.p.1.1.1.1.2.cell; have pb := K.out.p.1.1.1.2.cell)))
        have e1 : lb = compM ⟨#[60]⟩ (ordV (x1, x2, x3) (x1, y2, y3)) := H1.out.symm.trans (yes_cmp EE.out.1 EE.out.2 rfl (Or.inl (by kernel_rfl)))
        have e2 : sb = decide (((x1, x2, x3) : V3) = (x1, y2, y3)) := H2.out.symm.trans (yes_eq EE.out.1 EE.out.2 rfl (by kernel_rfl))
        have e3 : mb = compM ⟨#[62]⟩ (ordV (x1, x2, x3) (x1, y2, y3)) := H3.out.symm.trans (yes_cmp EE.out.1 EE.out.2 rfl (Or.inr (Or.inr (Or.inl (by kernel_rfl)))))
        have e4 : isYes (evalT bl (.bin ⟨#[60, 61]⟩ ta tb)) = _ := yes_cmp EE.out.1 EE.out.2 rfl (Or.inr (Or.inl (by kernel_rfl)))
        have e5 : isYes (evalT bl (.bin ⟨#[62, 61]⟩ ta tb)) = _ := yes_cmp EE.out.1 EE.out.2 rfl (Or.inr (Or.inr (Or.inr (by kernel_rfl))))
        have e6 : isYes (evalT bl (.bin ⟨#[33, 61]⟩ ta tb)) = _ := yes_ne EE.out.1 EE.out.2 rfl (by kernel_rfl)
        clear H1 H2 H3
        rcases tri_any G.out.1.1 G.out.2.1 rfl with ⟨hxy, d1, d2, d3, d4⟩ | ⟨hne, ⟨d1, d2, d3, d4⟩ | ⟨d1, d2, d3, d4⟩⟩
        · rw [d1] at e1; rw [decide_eq_true hxy] at e2 e6; rw [d2] at e3; rw [d3] at e4; rw [d4] at e5
          subst e1; subst e2; subst e3
          obtain ⟨rfl, rfl⟩ : x2 = y2 ∧ x3 = y3 := by simpa using hxy
          have E := Lib.hid (And.intro e4 (And.intro e5 e6)); clear e4 e5 e6 d1 d2 d3 d4 hxy
          refine wp_of_eq (c' := ((Try.f9.body.bind (regionN 19)).getD .skip)) ?_ (by kernel_rfl)
          refine kinds19 _ _ _ _ _ _ _ _ _ _ _ _ _ _ _ _ _ _ _ _ _ _ _ _ _ _ _ _ _ _ _ _ _ _ _ _ _ _ _ _ _ _ _ _ _ _ _ _ _ _ _ _ _ _ _ _ _ _ _ _ _ _ _ _ _ _ _ _ _ _ _ _ _ _ _ _ _ _ _ _ _ _ _ _ _ _ _ _ _ _ _ _ _ _ _ _ _ _ _ _ _ _ _ _ _ _ _ _ _ _ _ _ _ _ _ _ _ _ _ _ _ _ _ _ _ _ _ _ _ _ _ _ _ _ _ _ _ _ _ _ _ _ _ _ _ _ _ _ _ _ _ _ _ _ _ _ _ _ _ _ _ _ _ _ _ _ _ _ _ _ _ (Or.inr (Or.inl ⟨rfl, rfl, rfl⟩)) (fun _ _ _ _ _ _ _ _ _ _ _ _ _ _ _ _ _ _ _ _ _ _ _ _ _ _ _ _ _ _ _ w13 hw => ?_)
          subst hw
          go_upto_region 20 with fail
          refine wp_of_eq (c' := ((Try.f9.body.bind (regionN 20)).getD .skip)) ?_ (by kernel_rfl)
          refine kinds20a _ _ _ _ _ _ _ _ _ _ _ _ _ _ _ _ _ _ _ _ _ _ _ _ _ _ _ _ _ _ _ _ _ _ _ _ _ _ _ _ _ _ _ _ _ _ _ _ _ _ _ _ _ _ _ _ _ _ _ _ _ _ _ _ _ _ _ _ _ _ _ _ _ _ _ _ _ _ _ _ _ _ _ _ _ _ _ _ _ _ _ _ _ _ _ _ _ _ _ _ _ _ _ _ _ _ _ _ _ _ _ _ _ _ _ _ _ _ _ _ _ _ _ _ _ _ _ _ _ _ _ _ _ _ _ _ _ _ _ _ _ _ _ _ _ _ _ _ _ _ _ _ _ _ _ _ _ _ _ _ _ _ _ _ _ _ _ _ _ _ _ _ _ _ _ _ _ _ _ _ _ _ _ _ _ _ _ _ _ _ _ _ _ _ _ _ _ _ _ _ _ _ _ _ p0 p1 (fun _ _ _ w14 hw => ?_)
          subst hw
          go_upto_region 21 with fail
          rcases HC.out with hh | ⟨hh, h5 | ⟨h5, g1, g2⟩ | ⟨h5, g1, g2⟩⟩
          · subst hh
            refine wp_of_eq (c' := ((Try.f9.body.bind (regionN 21)).getD .skip)) ?_ (by kernel_rfl)
            refine kinds20_A_eq_same (y2 := 0) (y3 := mt) _ _ _ _ _ _ _ _ _ _ _ _ _ _ _ _ _ _ _ _ _ _ _ _ _ _ _ _ _ _ _ _ _ _ _ _ _ _ _ _ _ _ _ _ _ _ _ _ _ _ _ _ _ _ _ _ _ _ _ _ _ _ _ _ _ _ _ _ _ _ _ _ _ _ _ _ _ _ _ _ _ _ _ _ _ _ _ _ _ _ _ _ _ _ _ _ _ _ _ _ _ _ _ _ _ _ _ _ _ _ _ _ _ _ _ _ _ _ _ _ _ K.out (fun X h => h.1.1.1.1.2) (fun X h => h.1.1.1.2) (fun X h => h.1.1.2) (fun X h => h.1.2) (fun X h => h.2) (fun X h => two_isN ⟨#[60, 61]⟩ ta tb _ _ (.slice Aa na ca) (.slice Ab nb cb) X OA.out.2.2 OB.out.2.2 h.1.1.1.1.1.1.1 h.1.1.1.1.1.1.2) (fun X A n c h hT => Holds_op ⟨#[60, 61]⟩ ta tb bl true A n c _ X hT OA.out.1 OB.out.1 (by decide +kernel) OA.out.2.1 OB.out.2.1 h.1.1.1.1.1.2 HK.out E.out.1) (fun X h => two_isN ⟨#[62, 61]⟩ ta tb _ _ (.slice Aa na ca) (.slice Ab nb cb) X OA.out.2.2 OB.out.2.2 h.1.1.1.1.1.1.1 h.1.1.1.1.1.1.2) (fun X A n c h hT => Holds_op ⟨#[62, 61]⟩ ta tb bl true A n c _ X hT OA.out.1 OB.out.1 (by decide +kernel) OA.out.2.1 OB.out.2.1 h.1.1.1.1.1.2 HK.out E.out.2.1) (fun X h => two_isN ⟨#[33, 61]⟩ ta tb _ _ (.slice Aa na ca) (.slice Ab nb cb) X OA.out.2.2 OB.out.2.2 h.1.1.1.1.1.1.1 h.1.1.1.1.1.1.2) (fun X A n c h hT => Holds_op ⟨#[33, 61]⟩ ta tb bl false A n c _ X hT OA.out.1 OB.out.1 (by decide +kernel) OA.out.2.1 OB.out.2.1 h.1.1.1.1.1.2 HK.out E.out.2.2) (fun _ _ _ _ _ _ _ _ _ _ _ _ _ _ _ _ _ _ _ _ _ _ _ _ _ _ _ _ _ _ _ _ _ _ _ _ _ _ _ _ _ _ _ _ _ _ _ _ _ _ _ _ _ _ _ _ _ _ _ _ _ _ _ _ _ _ _ _ _ _ w15 hb => ?_)
            go_wp2_with fail
            go_ret
            exact ⟨rfl, hb⟩
          · subst hh
            rw [show decide (p % 8 < 5) = false from decide_eq_false (by have := HPQ.out; omega)]
            refine wp_of_eq (c' := ((Try.f9.body.bind (regionN 21)).getD .skip)) ?_ (by kernel_rfl)
            refine kinds20_B_eq_same (y2 := 0) (y3 := mt) (ar := false) _ _ _ _ _ _ _ _ _ _ _ _ _ _ _ _ _ _ _ _ _ _ _ _ _ _ _ _ _ _ _ _ _ _ _ _ _ _ _ _ _ _ _ _ _ _ _ _ _ _ _ _ _ _ _ _ _ _ _ _ _ _ _ _ _ _ _ _ _ _ _ _ _ _ _ _ _ _ _ _ _ _ _ _ _ _ _ _ _ _ _ _ _ _ _ _ _ _ _ _ _ _ _ _ _ _ _ _ _ _ _ _ _ _ _ _ _ _ _ _ _ K.out (fun X h => h.1.1.1.1.2) (fun X h => h.1.1.1.2) (fun X h => h.1.1.2) (fun X h => h.1.2) (fun X h => h.2) (fun X h => two_isN ⟨#[60, 61]⟩ ta tb _ _ (.slice Aa na ca) (.slice Ab nb cb) X OA.out.2.2 OB.out.2.2 h.1.1.1.1.1.1.1 h.1.1.1.1.1.1.2) (fun X A n c h hT => Holds_op ⟨#[60, 61]⟩ ta tb bl true A n c _ X hT OA.out.1 OB.out.1 (by decide +kernel) OA.out.2.1 OB.out.2.1 h.1.1.1.1.1.2 HK.out E.out.1) (fun X h => two_isN ⟨#[62, 61]⟩ ta tb _ _ (.slice Aa na ca) (.slice Ab nb cb) X OA.out.2.2 OB.out.2.2 h.1.1.1.1.1.1.1 h.1.1.1.1.1.1.2) (fun X A n c h hT => Holds_op ⟨#[62, 61]⟩ ta tb bl true A n c _ X hT OA.out.1 OB.out.1 (by decide +kernel) OA.out.2.1 OB.out.2.1 h.1.1.1.1.1.2 HK.out E.out.2.1) (fun X h => two_isN ⟨#[33, 61]⟩ ta tb _ _ (.slice Aa na ca) (.slice Ab nb cb) X OA.out.2.2 OB.out.2.2 h.1.1.1.1.1.1.1 h.1.1.1.1.1.1.2) (fun X A n c h hT => Holds_op ⟨#[33, 61]⟩ ta tb bl false A n c _ X hT OA.out.1 OB.out.1 (by decide +kernel) OA.out.2.1 OB.out.2.1 h.1.1.1.1.1.2 HK.out E.out.2.2) (fun _ _ _ _ _ _ _ _ _ _ _ _ _ _ _ _ _ _ _ _ _ _ _ _ _ _ _ _ _ _ _ _ _ _ _ _ _ _ _ _ _ _ _ _ _ _ _ _ _ _ _ _ _ _ _ _ _ _ _ _ _ _ _ _ _ _ _ _ _ _ w15 hb => ?_)
            go_wp2_with fail
            go_ret
            exact ⟨rfl, hb⟩
          · subst hh; subst g1; subst g2
            rw [show decide (p % 8 < 5) = true from decide_eq_true (by have := HPQ.out; omega)]
            refine wp_of_eq (c' := ((Try.f9.body.bind (regionN 21)).getD .skip)) ?_ (by kernel_rfl)
            refine kinds20_C1_eq_same (y2 := 0) (y3 := mt) (ar := true) (x1 := 0) (z1 := 0) _ _ _ _ _ _ _ _ _ _ _ _ _ _ _ _ _ _ _ _ _ _ _ _ _ _ _ _ _ _ _ _ _ _ _ _ _ _ _ _ _ _ _ _ _ _ _ _ _ _ _ _ _ _ _ _ _ _ _ _ _ _ _ _ _ _ _ _ _ _ _ _ _ _ _ _ _ _ _ _ _ _ _ _ _ _ _ _ _ _ _ _ _ _ _ _ _ _ _ _ _ _ _ _ _ _ _ _ _ _ _ _ _ _ _ _ _ _ _ _ _ K.out (fun X h => h.1.1.1.1.2) (fun X h => h.1.1.1.2) (fun X h => h.1.1.2) (fun X h => h.1.2) (fun X h => h.2) (fun X h => two_isN ⟨#[60, 61]⟩ ta tb _ _ (.slice Aa na ca) (.slice Ab nb cb) X OA.out.2.2 OB.out.2.2 h.1.1.1.1.1.1.1 h.1.1.1.1.1.1.2) (fun X A n c h hT => Holds_op ⟨#[60, 61]⟩ ta tb bl true A n c _ X hT OA.out.1 OB.out.1 (by decide +kernel) OA.out.2.1 OB.out.2.1 h.1.1.1.1.1.2 HK.out E.out.1) (fun X h => two_isN ⟨#[62, 61]⟩ ta tb _ _ (.slice Aa na ca) (.slice Ab nb cb) X OA.out.2.2 OB.out.2.2 h.1.1.1.1.1.1.1 h.1.1.1.1.1.1.2) (fun X A n c h hT => Holds_op ⟨#[62, 61]⟩ ta tb bl true A n c _ X hT OA.out.1 OB.out.1 (by decide +kernel) OA.out.2.1 OB.out.2.1 h.1.1.1.1.1.2 HK.out E.out.2.1) (fun X h => two_isN ⟨#[33, 61]⟩ ta tb _ _ (.slice Aa na ca) (.slice Ab nb cb) X OA.out.2.2 OB.out.2.2 h.1.1.1.1.1.1.1 h.1.1.1.1.1.1.2) (fun X A n c h hT => Holds_op ⟨#[33, 61]⟩ ta tb bl false A n c _ X hT OA.out.1 OB.out.1 (by decide +kernel) OA.out.2.1 OB.out.2.1 h.1.1.1.1.1.2 HK.out E.out.2.2) (fun _ _ _ _ _ _ _ _ _ _ _ _ _ _ _ _ _ _ _ _ _ _ _ _ _ _ _ _ _ _ _ _ _ _ _ _ _ _ _ _ _ _ _ _ _ _ _ _ _ _ _ _ _ _ _ _ _ _ _ _ _ _ _ _ _ _ _ _ _ _ w15 hb => ?_)
            go_wp2_with fail
            go_ret
            exact ⟨rfl, hb⟩
          · subst hh; subst h5; subst g1; subst g2
            rw [show decide (p % 8 < 5) = true from decide_eq_true (by have := HPQ.out; omega)]
            rw [show opK 0 = ⟨#[43]⟩ from rfl]
            refine wp_of_eq (c' := ((Try.f9.body.bind (regionN 21)).getD .skip)) ?_ (by kernel_rfl)
            refine kinds20_C2_eq_same (y2 := 0) (y3 := mt) (ar := true) (x1 := 0) (z1 := 0) (op := mt) _ _ _ _ _ _ _ _ _ _ _ _ _ _ _ _ _ _ _ _ _ _ _ _ _ _ _ _ _ _ _ _ _ _ _ _ _ _ _ _ _ _ _ _ _ _ _ _ _ _ _ _ _ _ _ _ _ _ _ _ _ _ _ _ _ _ _ _ _ _ _ _ _ _ _ _ _ _ _ _ _ _ _ _ _ _ _ _ _ _ _ _ _ _ _ _ _ _ _ _ _ _ _ _ _ _ _ _ _ _ _ _ _ _ _ _ _ _ _ _ _ K.out (fun X h => h.1.1.1.1.2) (fun X h => h.1.1.1.2) (fun X h => h.1.1.2) (fun X h => h.1.2) (fun X h => h.2) (fun X h => two_isN ⟨#[60, 61]⟩ ta tb _ _ (.slice Aa na ca) (.slice Ab nb cb) X OA.out.2.2 OB.out.2.2 h.1.1.1.1.1.1.1 h.1.1.1.1.1.1.2) (fun X A n c h hT => Holds_op ⟨#[60, 61]⟩ ta tb bl true A n c _ X hT OA.out.1 OB.out.1 (by decide +kernel) OA.out.2.1 OB.out.2.1 h.1.1.1.1.1.2 HK.out E.out.1) (fun X h => two_isN ⟨#[62, 61]⟩ ta tb _ _ (.slice Aa na ca) (.slice Ab nb cb) X OA.out.2.2 OB.out.2.2 h.1.1.1.1.1.1.1 h.1.1.1.1.1.1.2) (fun X A n c h hT => Holds_op ⟨#[62, 61]⟩ ta tb bl true A n c _ X hT OA.out.1 OB.out.1 (by decide +kernel) OA.out.2.1 OB.out.2.1 h.1.1.1.1.1.2 HK.out E.out.2.1) (fun X h => two_isN ⟨#[33, 61]⟩ ta tb _ _ (.slice Aa na ca) (.slice Ab nb cb) X OA.out.2.2 OB.out.2.2 h.1.1.1.1.1.1.1 h.1.1.1.1.1.1.2) (fun X A n c h hT => Holds_op ⟨#[33, 61]⟩ ta tb bl false A n c _ X hT OA.out.1 OB.out.1 (by decide +kernel) OA.out.2.1 OB.out.2.1 h.1.1.1.1.1.2 HK.out E.out.2.2) (fun _ _ _ _ _ _ _ _ _ _ _ _ _ _ _ _ _ _ _ _ _ _ _ _ _ _ _ _ _ _ _ _ _ _ _ _ _ _ _ _ _ _ _ _ _ _ _ _ _ _ _ _ _ _ _ _ _ _ _ _ _ _ _ _ _ _ _ _ _ _ w15 hb => ?_)
            go_wp2_with fail
            go_ret
            exact ⟨rfl, hb⟩
        · rw [d1] at e1; rw [decide_eq_false hne] at e2 e6; rw [d2] at e3; rw [d3] at e4; rw [d4] at e5
          subst e1; subst e2; subst e3
          have E := Lib.hid (And.intro e4 (And.intro e5 e6)); clear e4 e5 e6 d1 d2 d3 d4
          refine wp_of_eq (c' := ((Try.f9.body.bind (regionN 19)).getD .skip)) ?_ (by kernel_rfl)
          refine kinds19 _ _ _ _ _ _ _ _ _ _ _ _ _ _ _ _ _ _ _ _ _ _ _ _ _ _ _ _ _ _ _ _ _ _ _ _ _ _ _ _ _ _ _ _ _ _ _ _ _ _ _ _ _ _ _ _ _ _ _ _ _ _ _ _ _ _ _ _ _ _ _ _ _ _ _ _ _ _ _ _ _ _ _ _ _ _ _ _ _ _ _ _ _ _ _ _ _ _ _ _ _ _ _ _ _ _ _ _ _ _ _ _ _ _ _ _ _ _ _ _ _ _ _ _ _ _ _ _ _ _ _ _ _ _ _ _ _ _ _ _ _ _ _ _ _ _ _ _ _ _ _ _ _ _ _ _ _ _ _ _ _ _ _ _ _ _ _ _ _ _ _ (Or.inl ⟨rfl, rfl, rfl⟩) (fun _ _ _ _ _ _ _ _ _ _ _ _ _ _ _ _ _ _ _ _ _ _ _ _ _ _ _ _ _ _ _ w13 hw => ?_)
          subst hw
          go_upto_region 20 with fail
          refine wp_of_eq (c' := ((Try.f9.body.bind (regionN 20)).getD .skip)) ?_ (by kernel_rfl)
          refine kinds20a _ _ _ _ _ _ _ _ _ _ _ _ _ _ _ _ _ _ _ _ _ _ _ _ _ _ _ _ _ _ _ _ _ _ _ _ _ _ _ _ _ _ _ _ _ _ _ _ _ _ _ _ _ _ _ _ _ _ _ _ _ _ _ _ _ _ _ _ _ _ _ _ _ _ _ _ _ _ _ _ _ _ _ _ _ _ _ _ _ _ _ _ _ _ _ _ _ _ _ _ _ _ _ _ _ _ _ _ _ _ _ _ _ _ _ _ _ _ _ _ _ _ _ _ _ _ _ _ _ _ _ _ _ _ _ _ _ _ _ _ _ _ _ _ _ _ _ _ _ _ _ _ _ _ _ _ _ _ _ _ _ _ _ _ _ _ _ _ _ _ _ _ _ _ _ _ _ _ _ _ _ _ _ _ _ _ _ _ _ _ _ _ _ _ _ _ _ _ _ _ _ _ _ _ p0 p1 (fun _ _ _ w14 hw => ?_)
          subst hw
          go_upto_region 21 with fail
          rcases parts_ne G.out.1.1 G.out.2.1 hne with ⟨h3, hy2, hc⟩ | ⟨h3, hc⟩
          · subst hy2
            rcases HC.out with hh | ⟨hh, h5 | ⟨h5, g1, g2⟩ | ⟨h5, g1, g2⟩⟩
            · subst hh
              refine wp_of_eq (c' := ((Try.f9.body.bind (regionN 21)).getD .skip)) ?_ (by kernel_rfl)
              refine kinds20_A_lt_text (y2 := 0) _ _ _ _ _ _ _ _ _ _ _ _ _ _ _ _ _ _ _ _ _ _ _ _ _ _ _ _ _ _ _ _ _ _ _ _ _ _ _ _ _ _ _ _ _ _ _ _ _ _ _ _ _ _ _ _ _ _ _ _ _ _ _ _ _ _ _ _ _ _ _ _ _ _ _ _ _ _ _ _ _ _ _ _ _ _ _ _ _ _ _ _ _ _ _ _ _ _ _ _ _ _ _ _ _ _ _ _ _ _ _ _ _ _ _ _ _ _ _ _ _ hc K.out (fun X h => h.1.1.1.1.2) (fun X h => h.1.1.1.2) (fun X h => h.1.1.2) (fun X h => h.1.2) (fun X h => h.2) (fun X h => two_isN ⟨#[60, 61]⟩ ta tb _ _ (.slice Aa na ca) (.slice Ab nb cb) X OA.out.2.2 OB.out.2.2 h.1.1.1.1.1.1.1 h.1.1.1.1.1.1.2) (fun X A n c h hT => Holds_op ⟨#[60, 61]⟩ ta tb bl true A n c _ X hT OA.out.1 OB.out.1 (by decide +kernel) OA.out.2.1 OB.out.2.1 h.1.1.1.1.1.2 HK.out E.out.1) (fun X h => two_isN ⟨#[62, 61]⟩ ta tb _ _ (.slice Aa na ca) (.slice Ab nb cb) X OA.out.2.2 OB.out.2.2 h.1.1.1.1.1.1.1 h.1.1.1.1.1.1.2) (fun X A n c h hT => Holds_op ⟨#[62, 61]⟩ ta tb bl false A n c _ X hT OA.out.1 OB.out.1 (by decide +kernel) OA.out.2.1 OB.out.2.1 h.1.1.1.1.1.2 HK.out E.out.2.1) (fun X h => two_isN ⟨#[33, 61]⟩ ta tb _ _ (.slice Aa na ca) (.slice Ab nb cb) X OA.out.2.2 OB.out.2.2 h.1.1.1.1.1.1.1 h.1.1.1.1.1.1.2) (fun X A n c h hT => Holds_op ⟨#[33, 61]⟩ ta tb bl true A n c _ X hT OA.out.1 OB.out.1 (by decide +kernel) OA.out.2.1 OB.out.2.1 h.1.1.1.1.1.2 HK.out E.out.2.2) (fun _ _ _ _ _ _ _ _ _ _ _ _ _ _ _ _ _ _ _ _ _ _ _ _ _ _ _ _ _ _ _ _ _ _ _ _ _ _ _ _ _ _ _ _ _ _ _ _ _ _ _ _ _ _ _ _ _ _ _ _ _ _ _ _ _ _ _ _ _ _ w15 hb => ?_)
              go_wp2_with fail
              go_ret
              exact ⟨rfl, hb⟩
            · subst hh
              rw [show decide (p % 8 < 5) = false from decide_eq_false (by have := HPQ.out; omega)]
              refine wp_of_eq (c' := ((Try.f9.body.bind (regionN 21)).getD .skip)) ?_ (by kernel_rfl)
              refine kinds20_B_lt_text (y2 := 0) (ar := false) _ _ _ _ _ _ _ _ _ _ _ _ _ _ _ _ _ _ _ _ _ _ _ _ _ _ _ _ _ _ _ _ _ _ _ _ _ _ _ _ _ _ _ _ _ _ _ _ _ _ _ _ _ _ _ _ _ _ _ _ _ _ _ _ _ _ _ _ _ _ _ _ _ _ _ _ _ _ _ _ _ _ _ _ _ _ _ _ _ _ _ _ _ _ _ _ _ _ _ _ _ _ _ _ _ _ _ _ _ _ _ _ _ _ _ _ _ _ _ _ _ hc K.out (fun X h => h.1.1.1.1.2) (fun X h => h.1.1.1.2) (fun X h => h.1.1.2) (fun X h => h.1.2) (fun X h => h.2) (fun X h => two_isN ⟨#[60, 61]⟩ ta tb _ _ (.slice Aa na ca) (.slice Ab nb cb) X OA.out.2.2 OB.out.2.2 h.1.1.1.1.1.1.1 h.1.1.1.1.1.1.2) (fun X A n c h hT => Holds_op ⟨#[60, 61]⟩ ta tb bl true A n c _ X hT OA.out.1 OB.out.1 (by decide +kernel) OA.out.2.1 OB.out.2.1 h.1.1.1.1.1.2 HK.out E.out.1) (fun X h => two_isN ⟨#[62, 61]⟩ ta tb _ _ (.slice Aa na ca) (.slice Ab nb cb) X OA.out.2.2 OB.out.2.2 h.1.1.1.1.1.1.1 h.1.1.1.1.1.1.2) (fun X A n c h hT => Holds_op ⟨#[62, 61]⟩ ta tb bl false A n c _ X hT OA.out.1 OB.out.1 (by decide +kernel) OA.out.2.1 OB.out.2.1 h.1.1.1.1.1.2 HK.out E.out.2.1) (fun X h => two_isN ⟨#[33, 61]⟩ ta tb _ _ (.slice Aa na ca) (.slice Ab nb cb) X OA.out.2.2 OB.out.2.2 h.1.1.1.1.1.1.1 h.1.1.1.1.1.1.2) (fun X A n c h hT => Holds_op ⟨#[33, 61]⟩ ta tb bl true A n c _ X hT OA.out.1 OB.out.1 (by decide +kernel) OA.out.2.1 OB.out.2.1 h.1.1.1.1.1.2 HK.out E.out.2.2) (fun _ _ _ _ _ _ _ _ _ _ _ _ _ _ _ _ _ _ _ _ _ _ _ _ _ _ _ _ _ _ _ _ _ _ _ _ _ _ _ _ _ _ _ _ _ _ _ _ _ _ _ _ _ _ _ _ _ _ _ _ _ _ _ _ _ _ _ _ _ _ w15 hb => ?_)
              go_wp2_with fail
              go_ret
              exact ⟨rfl, hb⟩
            · exact absurd (h3.symm.trans g2) (by decide)
            · subst hh; subst h5; subst g1; subst g2
              rw [show decide (p % 8 < 5) = true from decide_eq_true (by have := HPQ.out; omega)]
              rw [show opK 0 = ⟨#[43]⟩ from rfl]
              refine wp_of_eq (c' := ((Try.f9.body.bind (regionN 21)).getD .skip)) ?_ (by kernel_rfl)
              refine kinds20_C2_lt_text (y2 := 0) (ar := true) (x1 := 0) (z1 := 0) (op := mt) _ _ _ _ _ _ _ _ _ _ _ _ _ _ _ _ _ _ _ _ _ _ _ _ _ _ _ _ _ _ _ _ _ _ _ _ _ _ _ _ _ _ _ _ _ _ _ _ _ _ _ _ _ _ _ _ _ _ _ _ _ _ _ _ _ _ _ _ _ _ _ _ _ _ _ _ _ _ _ _ _ _ _ _ _ _ _ _ _ _ _ _ _ _ _ _ _ _ _ _ _ _ _ _ _ _ _ _ _ _ _ _ _ _ _ _ _ _ _ _ _ hc K.out (fun X h => h.1.1.1.1.2) (fun X h => h.1.1.1.2) (fun X h => h.1.1.2) (fun X h => h.1.2) (fun X h => h.2) (fun X h => two_isN ⟨#[60, 61]⟩ ta tb _ _ (.slice Aa na ca) (.slice Ab nb cb) X OA.out.2.2 OB.out.2.2 h.1.1.1.1.1.1.1 h.1.1.1.1.1.1.2) (fun X A n c h hT => Holds_op ⟨#[60, 61]⟩ ta tb bl true A n c _ X hT OA.out.1 OB.out.1 (by decide +kernel) OA.out.2.1 OB.out.2.1 h.1.1.1.1.1.2 HK.out E.out.1) (fun X h => two_isN ⟨#[62, 61]⟩ ta tb _ _ (.slice Aa na ca) (.slice Ab nb cb) X OA.out.2.2 OB.out.2.2 h.1.1.1.1.1.1.1 h.1.1.1.1.1.1.2) (fun X A n c h hT => Holds_op ⟨#[62, 61]⟩ ta tb bl false A n c _ X hT OA.out.1 OB.out.1 (by decide +kernel) OA.out.2.1 OB.out.2.1 h.1.1.1.1.1.2 HK.out E.out.2.1) (fun X h => two_isN ⟨#[33, 61]⟩ ta tb _ _ (.slice Aa na ca) (.slice Ab nb cb) X OA.out.2.2 OB.out.2.2 h.1.1.1.1.1.1.1 h.1.1.1.1.1.1.2) (fun X A n c h hT => Holds_op ⟨#[33, 61]⟩ ta tb bl true A n c _ X hT OA.out.1 OB.out.1 (by decide +kernel) OA.out.2.1 OB.out.2.1 h.1.1.1.1.1.2 HK.out E.out.2.2) (fun _ _ _ _ _ _ _ _ _ _ _ _ _ _ _ _ _ _ _ _ _ _ _ _ _ _ _ _ _ _ _ _ _ _ _ _ _ _ _ _ _ _ _ _ _ _ _ _ _ _ _ _ _ _ _ _ _ _ _ _ _ _ _ _ _ _ _ _ _ _ w15 hb => ?_)
              go_wp2_with fail
              go_ret
              exact ⟨rfl, hb⟩
          · rcases HC.out with hh | ⟨hh, h5 | ⟨h5, g1, g2⟩ | ⟨h5, g1, g2⟩⟩
            · subst hh
              refine wp_of_eq (c' := ((Try.f9.body.bind (regionN 21)).getD .skip)) ?_ (by kernel_rfl)
              refine kinds20_A_lt_num _ _ _ _ _ _ _ _ _ _ _ _ _ _ _ _ _ _ _ _ _ _ _ _ _ _ _ _ _ _ _ _ _ _ _ _ _ _ _ _ _ _ _ _ _ _ _ _ _ _ _ _ _ _ _ _ _ _ _ _ _ _ _ _ _ _ _ _ _ _ _ _ _ _ _ _ _ _ _ _ _ _ _ _ _ _ _ _ _ _ _ _ _ _ _ _ _ _ _ _ _ _ _ _ _ _ _ _ _ _ _ _ _ _ _ _ _ _ _ _ _ hc K.out (fun X h => h.1.1.1.1.2) (fun X h => h.1.1.1.2) (fun X h => h.1.1.2) (fun X h => h.1.2) (fun X h => h.2) (fun X h => two_isN ⟨#[60, 61]⟩ ta tb _ _ (.slice Aa na ca) (.slice Ab nb cb) X OA.out.2.2 OB.out.2.2 h.1.1.1.1.1.1.1 h.1.1.1.1.1.1.2) (fun X A n c h hT => Holds_op ⟨#[60, 61]⟩ ta tb bl true A n c _ X hT OA.out.1 OB.out.1 (by decide +kernel) OA.out.2.1 OB.out.2.1 h.1.1.1.1.1.2 HK.out E.out.1) (fun X h => two_isN ⟨#[62, 61]⟩ ta tb _ _ (.slice Aa na ca) (.slice Ab nb cb) X OA.out.2.2 OB.out.2.2 h.1.1.1.1.1.1.1 h.1.1.1.1.1.1.2) (fun X A n c h hT => Holds_op ⟨#[62, 61]⟩ ta tb bl false A n c _ X hT OA.out.1 OB.out.1 (by decide +kernel) OA.out.2.1 OB.out.2.1 h.1.1.1.1.1.2 HK.out E.out.2.1) (fun X h => two_isN ⟨#[33, 61]⟩ ta tb _ _ (.slice Aa na ca) (.slice Ab nb cb) X OA.out.2.2 OB.out.2.2 h.1.1.1.1.1.1.1 h.1.1.1.1.1.1.2) (fun X A n c h hT => Holds_op ⟨#[33, 61]⟩ ta tb bl true A n c _ X hT OA.out.1 OB.out.1 (by decide +kernel) OA.out.2.1 OB.out.2.1 h.1.1.1.1.1.2 HK.out E.out.2.2) (fun _ _ _ _ _ _ _ _ _ _ _ _ _ _ _ _ _ _ _ _ _ _ _ _ _ _ _ _ _ _ _ _ _ _ _ _ _ _ _ _ _ _ _ _ _ _ _ _ _ _ _ _ _ _ _ _ _ _ _ _ _ _ _ _ _ _ _ _ _ _ w15 hb => ?_)
              go_wp2_with fail
              go_ret
              exact ⟨rfl, hb⟩
            · subst hh
              rw [show decide (p % 8 < 5) = false from decide_eq_false (by have := HPQ.out; omega)]
              refine wp_of_eq (c' := ((Try.f9.body.bind (regionN 21)).getD .skip)) ?_ (by kernel_rfl)
              refine kinds20_B_lt_num (ar := false) _ _ _ _ _ _ _ _ _ _ _ _ _ _ _ _ _ _ _ _ _ _ _ _ _ _ _ _ _ _ _ _ _ _ _ _ _ _ _ _ _ _ _ _ _ _ _ _ _ _ _ _ _ _ _ _ _ _ _ _ _ _ _ _ _ _ _ _ _ _ _ _ _ _ _ _ _ _ _ _ _ _ _ _ _ _ _ _ _ _ _ _ _ _ _ _ _ _ _ _ _ _ _ _ _ _ _ _ _ _ _ _ _ _ _ _ _ _ _ _ _ hc K.out (fun X h => h.1.1.1.1.2) (fun X h => h.1.1.1.2) (fun X h => h.1.1.2) (fun X h => h.1.2) (fun X h => h.2) (fun X h => two_isN ⟨#[60, 61]⟩ ta tb _ _ (.slice Aa na ca) (.slice Ab nb cb) X OA.out.2.2 OB.out.2.2 h.1.1.1.1.1.1.1 h.1.1.1.1.1.1.2) (fun X A n c h hT => Holds_op ⟨#[60, 61]⟩ ta tb bl true A n c _ X hT OA.out.1 OB.out.1 (by decide +kernel) OA.out.2.1 OB.out.2.1 h.1.1.1.1.1.2 HK.out E.out.1) (fun X h => two_isN ⟨#[62, 61]⟩ ta tb _ _ (.slice Aa na ca) (.slice Ab nb cb) X OA.out.2.2 OB.out.2.2 h.1.1.1.1.1.1.1 h.1.1.1.1.1.1.2) (fun X A n c h hT => Holds_op ⟨#[62, 61]⟩ ta tb bl false A n c _ X hT OA.out.1 OB.out.1 (by decide +kernel) OA.out.2.1 OB.out.2.1 h.1.1.1.1.1.2 HK.out E.out.2.1) (fun X h => two_isN ⟨#[33, 61]⟩ ta tb _ _ (.slice Aa na ca) (.slice Ab nb cb) X OA.out.2.2 OB.out.2.2 h.1.1.1.1.1.1.1 h.1.1.1.1.1.1.2) (fun X A n c h hT => Holds_op ⟨#[33, 61]⟩ ta tb bl true A n c _ X hT OA.out.1 OB.out.1 (by decide +kernel) OA.out.2.1 OB.out.2.1 h.1.1.1.1.1.2 HK.out E.out.2.2) (fun _ _ _ _ _ _ _ _ _ _ _ _ _ _ _ _ _ _ _ _ _ _ _ _ _ _ _ _ _ _ _ _ _ _ _ _ _ _ _ _ _ _ _ _ _ _ _ _ _ _ _ _ _ _ _ _ _ _ _ _ _ _ _ _ _ _ _ _ _ _ w15 hb => ?_)
              go_wp2_with fail
              go_ret
              exact ⟨rfl, hb⟩
            · subst hh; subst g1; subst g2
              rw [show decide (p % 8 < 5) = true from decide_eq_true (by have := HPQ.out; omega)]
              refine wp_of_eq (c' := ((Try.f9.body.bind (regionN 21)).getD .skip)) ?_ (by kernel_rfl)
              refine kinds20_C1_lt_num (ar := true) (x1 := 0) (z1 := 0) _ _ _ _ _ _ _ _ _ _ _ _ _ _ _ _ _ _ _ _ _ _ _ _ _ _ _ _ _ _ _ _ _ _ _ _ _ _ _ _ _ _ _ _ _ _ _ _ _ _ _ _ _ _ _ _ _ _ _ _ _ _ _ _ _ _ _ _ _ _ _ _ _ _ _ _ _ _ _ _ _ _ _ _ _ _ _ _ _ _ _ _ _ _ _ _ _ _ _ _ _ _ _ _ _ _ _ _ _ _ _ _ _ _ _ _ _ _ _ _ _ hc K.out (fun X h => h.1.1.1.1.2) (fun X h => h.1.1.1.2) (fun X h => h.1.1.2) (fun X h => h.1.2) (fun X h => h.2) (fun X h => two_isN ⟨#[60, 61]⟩ ta tb _ _ (.slice Aa na ca) (.slice Ab nb cb) X OA.out.2.2 OB.out.2.2 h.1.1.1.1.1.1.1 h.1.1.1.1.1.1.2) (fun X A n c h hT => Holds_op ⟨#[60, 61]⟩ ta tb bl true A n c _ X hT OA.out.1 OB.out.1 (by decide +kernel) OA.out.2.1 OB.out.2.1 h.1.1.1.1.1.2 HK.out E.out.1) (fun X h => two_isN ⟨#[62, 61]⟩ ta tb _ _ (.slice Aa na ca) (.slice Ab nb cb) X OA.out.2.2 OB.out.2.2 h.1.1.1.1.1.1.1 h.1.1.1.1.1.1.2) (fun X A n c h hT => Holds_op ⟨#[62, 61]⟩ ta tb bl false A n c _ X hT OA.out.1 OB.out.1 (by decide +kernel) OA.out.2.1 OB.out.2.1 h.1.1.1.1.1.2 HK.out E.out.2.1) (fun X h => two_isN ⟨#[33, 61]⟩ ta tb _ _ (.slice Aa na ca) (.slice Ab nb cb) X OA.out.2.2 OB.out.2.2 h.1.1.1.1.1.1.1 h.1.1.1.1.1.1.2) (fun X A n c h hT => Holds_op ⟨#[33, 61]⟩ ta tb bl true A n c _ X hT OA.out.1 OB.out.1 (by decide +kernel) OA.out.2.1 OB.out.2.1 h.1.1.1.1.1.2 HK.out E.out.2.2) (fun _ _ _ _ _ _ _ _ _ _ _ _ _ _ _ _ _ _ _ _ _ _ _ _ _ _ _ _ _ _ _ _ _ _ _ _ _ _ _ _ _ _ _ _ _ _ _ _ _ _ _ _ _ _ _ _ _ _ _ _ _ _ _ _ _ _ _ _ _ _ w15 hb => ?_)
              go_wp2_with fail
              go_ret
              exact ⟨rfl, hb⟩
            · exact absurd g2 h3
        · rw [d1] at e1; rw [decide_eq_false hne] at e2 e6; rw [d2] at e3; rw [d3] at e4; rw [d4] at e5
          subst e1; subst e2; subst e3
          have E := Lib.hid (And.intro e4 (And.intro e5 e6)); clear e4 e5 e6 d1 d2 d3 d4
          refine wp_of_eq (c' := ((Try.f9.body.bind (regionN 19)).getD .skip)) ?_ (by kernel_rfl)
          refine kinds19 _ _ _ _ _ _ _ _ _ _ _ _ _ _ _ _ _ _ _ _ _ _ _ _ _ _ _ _ _ _ _ _ _ _ _ _ _ _ _ _ _ _ _ _ _ _ _ _ _ _ _ _ _ _ _ _ _ _ _ _ _ _ _ _ _ _ _ _ _ _ _ _ _ _ _ _ _ _ _ _ _ _ _ _ _ _ _ _ _ _ _ _ _ _ _ _ _ _ _ _ _ _ _ _ _ _ _ _ _ _ _ _ _ _ _ _ _ _ _ _ _ _ _ _ _ _ _ _ _ _ _ _ _ _ _ _ _ _ _ _ _ _ _ _ _ _ _ _ _ _ _ _ _ _ _ _ _ _ _ _ _ _ _ _ _ _ _ _ _ _ _ (Or.inr (Or.inr ⟨rfl, rfl, rfl⟩)) (fun _ _ _ _ _ _ _ _ _ _ _ _ _ _ _ _ _ _ _ _ _ _ _ _ _ _ _ _ _ _ _ w13 hw => ?_)
          subst hw
          go_upto_region 20 with fail
          refine wp_of_eq (c' := ((Try.f9.body.bind (regionN 20)).getD .skip)) ?_ (by kernel_rfl)
          refine kinds20a _ _ _ _ _ _ _ _ _ _ _ _ _ _ _ _ _ _ _ _ _ _ _ _ _ _ _ _ _ _ _ _ _ _ _ _ _ _ _ _ _ _ _ _ _ _ _ _ _ _ _ _ _ _ _ _ _ _ _ _ _ _ _ _ _ _ _ _ _ _ _ _ _ _ _ _ _ _ _ _ _ _ _ _ _ _ _ _ _ _ _ _ _ _ _ _ _ _ _ _ _ _ _ _ _ _ _ _ _ _ _ _ _ _ _ _ _ _ _ _ _ _ _ _ _ _ _ _ _ _ _ _ _ _ _ _ _ _ _ _ _ _ _ _ _ _ _ _ _ _ _ _ _ _ _ _ _ _ _ _ _ _ _ _ _ _ _ _ _ _ _ _ _ _ _ _ _ _ _ _ _ _ _ _ _ _ _ _ _ _ _ _ _ _ _ _ _ _ _ _ _ _ _ _ p0 p1 (fun _ _ _ w14 hw => ?_)
          subst hw
          go_upto_region 21 with fail
          rcases parts_ne G.out.1.1 G.out.2.1 hne with ⟨h3, hy2, hc⟩ | ⟨h3, hc⟩
          · subst hy2
            rcases HC.out with hh | ⟨hh, h5 | ⟨h5, g1, g2⟩ | ⟨h5, g1, g2⟩⟩
            · subst hh
              refine wp_of_eq (c' := ((Try.f9.body.bind (regionN 21)).getD .skip)) ?_ (by kernel_rfl)
              refine kinds20_A_gt_text (y2 := 0) _ _ _ _ _ _ _ _ _ _ _ _ _ _ _ _ _ _ _ _ _ _ _ _ _ _ _ _ _ _ _ _ _ _ _ _ _ _ _ _ _ _ _ _ _ _ _ _ _ _ _ _ _ _ _ _ _ _ _ _ _ _ _ _ _ _ _ _ _ _ _ _ _ _ _ _ _ _ _ _ _ _ _ _ _ _ _ _ _ _ _ _ _ _ _ _ _ _ _ _ _ _ _ _ _ _ _ _ _ _ _ _ _ _ _ _ _ _ _ _ _ hc K.out (fun X h => h.1.1.1.1.2) (fun X h => h.1.1.1.2) (fun X h => h.1.1.2) (fun X h => h.1.2) (fun X h => h.2) (fun X h => two_isN ⟨#[60, 61]⟩ ta tb _ _ (.slice Aa na ca) (.slice Ab nb cb) X OA.out.2.2 OB.out.2.2 h.1.1.1.1.1.1.1 h.1.1.1.1.1.1.2) (fun X A n c h hT => Holds_op ⟨#[60, 61]⟩ ta tb bl false A n c _ X hT OA.out.1 OB.out.1 (by decide +kernel) OA.out.2.1 OB.out.2.1 h.1.1.1.1.1.2 HK.out E.out.1) (fun X h => two_isN ⟨#[62, 61]⟩ ta tb _ _ (.slice Aa na ca) (.slice Ab nb cb) X OA.out.2.2 OB.out.2.2 h.1.1.1.1.1.1.1 h.1.1.1.1.1.1.2) (fun X A n c h hT => Holds_op ⟨#[62, 61]⟩ ta tb bl true A n c _ X hT OA.out.1 OB.out.1 (by decide +kernel) OA.out.2.1 OB.out.2.1 h.1.1.1.1.1.2 HK.out E.out.2.1) (fun X h => two_isN ⟨#[33, 61]⟩ ta tb _ _ (.slice Aa na ca) (.slice Ab nb cb) X OA.out.2.2 OB.out.2.2 h.1.1.1.1.1.1.1 h.1.1.1.1.1.1.2) (fun X A n c h hT => Holds_op ⟨#[33, 61]⟩ ta tb bl true A n c _ X hT OA.out.1 OB.out.1 (by decide +kernel) OA.out.2.1 OB.out.2.1 h.1.1.1.1.1.2 HK.out E.out.2.2) (fun _ _ _ _ _ _ _ _ _ _ _ _ _ _ _ _ _ _ _ _ _ _ _ _ _ _ _ _ _ _ _ _ _ _ _ _ _ _ _ _ _ _ _ _ _ _ _ _ _ _ _ _ _ _ _ _ _ _ _ _ _ _ _ _ _ _ _ _ _ _ w15 hb => ?_)
              go_wp2_with fail
              go_ret
              exact ⟨rfl, hb⟩
            · subst hh
              rw [show decide (p % 8 < 5) = false from decide_eq_false (by have := HPQ.out; omega)]
              refine wp_of_eq (c' := ((Try.f9.body.bind (regionN 21)).getD .skip)) ?_ (by kernel_rfl)
              refine kinds20_B_gt_text (y2 := 0) (ar := false) _ _ _ _ _ _ _ _ _ _ _ _ _ _ _ _ _ _ _ _ _ _ _ _ _ _ _ _ _ _ _ _ _ _ _ _ _ _ _ _ _ _ _ _ _ _ _ _ _ _ _ _ _ _ _ _ _ _ _ _ _ _ _ _ _ _ _ _ _ _ _ _ _ _ _ _ _ _ _ _ _ _ _ _ _ _ _ _ _ _ _ _ _ _ _ _ _ _ _ _ _ _ _ _ _ _ _ _ _ _ _ _ _ _ _ _ _ _ _ _ _ hc K.out (fun X h => h.1.1.1.1.2) (fun X h => h.1.1.1.2) (fun X h => h.1.1.2) (fun X h => h.1.2) (fun X h => h.2) (fun X h => two_isN ⟨#[60, 61]⟩ ta tb _ _ (.slice Aa na ca) (.slice Ab nb cb) X OA.out.2.2 OB.out.2.2 h.1.1.1.1.1.1.1 h.1.1.1.1.1.1.2) (fun X A n c h hT => Holds_op ⟨#[60, 61]⟩ ta tb bl false A n c _ X hT OA.out.1 OB.out.1 (by decide +kernel) OA.out.2.1 OB.out.2.1 h.1.1.1.1.1.2 HK.out E.out.1) (fun X h => two_isN ⟨#[62, 61]⟩ ta tb _ _ (.slice Aa na ca) (.slice Ab nb cb) X OA.out.2.2 OB.out.2.2 h.1.1.1.1.1.1.1 h.1.1.1.1.1.1.2) (fun X A n c h hT => Holds_op ⟨#[62, 61]⟩ ta tb bl true A n c _ X hT OA.out.1 OB.out.1 (by decide +kernel) OA.out.2.1 OB.out.2.1 h.1.1.1.1.1.2 HK.out E.out.2.1) (fun X h => two_isN ⟨#[33, 61]⟩ ta tb _ _ (.slice Aa na ca) (.slice Ab nb cb) X OA.out.2.2 OB.out.2.2 h.1.1.1.1.1.1.1 h.1.1.1.1.1.1.2) (fun X A n c h hT => Holds_op ⟨#[33, 61]⟩ ta tb bl true A n c _ X hT OA.out.1 OB.out.1 (by decide +kernel) OA.out.2.1 OB.out.2.1 h.1.1.1.1.1.2 HK.out E.out.2.2) (fun _ _ _ _ _ _ _ _ _ _ _ _ _ _ _ _ _ _ _ _ _ _ _ _ _ _ _ _ _ _ _ _ _ _ _ _ _ _ _ _ _ _ _ _ _ _ _ _ _ _ _ _ _ _ _ _ _ _ _ _ _ _ _ _ _ _ _ _ _ _ w15 hb => ?_)
              go_wp2_with fail
              go_ret
              exact ⟨rfl, hb⟩
            · exact absurd (h3.symm.trans g2) (by decide)
            · subst hh; subst h5; subst g1; subst g2
              rw [show decide (p % 8 < 5) = true from decide_eq_true (by have := HPQ.out; omega)]
              rw [show opK 0 = ⟨#[43]⟩ from rfl]
              refine wp_of_eq (c' := ((Try.f9.body.bind (regionN 21)).getD .skip)) ?_ (by kernel_rfl)
              refine kinds20_C2_gt_text (y2 := 0) (ar := true) (x1 := 0) (z1 := 0) (op := mt) _ _ _ _ _ _ _ _ _ _ _ _ _ _ _ _ _ _ _ _ _ _ _ _ _ _ _ _ _ _ _ _ _ _ _ _ _ _ _ _ _ _ _ _ _ _ _ _ _ _ _ _ _ _ _ _ _ _ _ _ _ _ _ _ _ _ _ _ _ _ _ _ _ _ _ _ _ _ _ _ _ _ _ _ _ _ _ _ _ _ _ _ _ _ _ _ _ _ _ _ _ _ _ _ _ _ _ _ _ _ _ _ _ _ _ _ _ _ _ _ _ hc K.out (fun X h => h.1.1.1.1.2) (fun X h => h.1.1.1.2) (fun X h => h.1.1.2) (fun X h => h.1.2) (fun X h => h.2) (fun X h => two_isN ⟨#[60, 61]⟩ ta tb _ _ (.slice Aa na ca) (.slice Ab nb cb) X OA.out.2.2 OB.out.2.2 h.1.1.1.1.1.1.1 h.1.1.1.1.1.1.2) (fun X A n c h hT => Holds_op ⟨#[60, 61]⟩ ta tb bl false A n c _ X hT OA.out.1 OB.out.1 (by decide +kernel) OA.out.2.1 OB.out.2.1 h.1.1.1.1.1.2 HK.out E.out.1) (fun X h => two_isN ⟨#[62, 61]⟩ ta tb _ _ (.slice Aa na ca) (.slice Ab nb cb) X OA.out.2.2 OB.out.2.2 h.1.1.1.1.1.1.1 h.1.1.1.1.1.1.2) (fun X A n c h hT => Holds_op ⟨#[62, 61]⟩ ta tb bl true A n c _ X hT OA.out.1 OB.out.1 (by decide +kernel) OA.out.2.1 OB.out.2.1 h.1.1.1.1.1.2 HK.out E.out.2.1) (fun X h => two_isN ⟨#[33, 61]⟩ ta tb _ _ (.slice Aa na ca) (.slice Ab nb cb) X OA.out.2.2 OB.out.2.2 h.1.1.1.1.1.1.1 h.1.1.1.1.1.1.2) (fun X A n c h hT => Holds_op ⟨#[33, 61]⟩ ta tb bl true A n c _ X hT OA.out.1 OB.out.1 (by decide +kernel) OA.out.2.1 OB.out.2.1 h.1.1.1.1.1.2 HK.out E.out.2.2) (fun _ _ _ _ _ _ _ _ _ _ _ _ _ _ _ _ _ _ _ _ _ _ _ _ _ _ _ _ _ _ _ _ _ _ _ _ _ _ _ _ _ _ _ _ _ _ _ _ _ _ _ _ _ _ _ _ _ _ _ _ _ _ _ _ _ _ _ _ _ _ w15 hb => ?_)
              go_wp2_with fail
              go_ret
              exact ⟨rfl, hb⟩
          · rcases HC.out with hh | ⟨hh, h5 | ⟨h5, g1, g2⟩ | ⟨h5, g1, g2⟩⟩
            · subst hh
              refine wp_of_eq (c' := ((Try.f9.body.bind (regionN 21)).getD .skip)) ?_ (by kernel_rfl)
              refine kinds20_A_gt_num _ _ _ _ _ _ _ _ _ _ _ _ _ _ _ _ _ _ _ _ _ _ _ _ _ _ _ _ _ _ _ _ _ _ _ _ _ _ _ _ _ _ _ _ _ _ _ _ _ _ _ _ _ _ _ _ _ _ _ _ _ _ _ _ _ _ _ _ _ _ _ _ _ _ _ _ _ _ _ _ _ _ _ _ _ _ _ _ _ _ _ _ _ _ _ _ _ _ _ _ _ _ _ _ _ _ _ _ _ _ _ _ _ _ _ _ _ _ _ _ _ hc K.out (fun X h => h.1.1.1.1.2) (fun X h => h.1.1.1.2) (fun X h => h.1.1.2) (fun X h => h.1.2) (fun X h => h.2) (fun X h => two_isN ⟨#[60, 61]⟩ ta tb _ _ (.slice Aa na ca) (.slice Ab nb cb) X OA.out.2.2 OB.out.2.2 h.1.1.1.1.1.1.1 h.1.1.1.1.1.1.2) (fun X A n c h hT => Holds_op ⟨#[60, 61]⟩ ta tb bl false A n c _ X hT OA.out.1 OB.out.1 (by decide +kernel) OA.out.2.1 OB.out.2.1 h.1.1.1.1.1.2 HK.out E.out.1) (fun X h => two_isN ⟨#[62, 61]⟩ ta tb _ _ (.slice Aa na ca) (.slice Ab nb cb) X OA.out.2.2 OB.out.2.2 h.1.1.1.1.1.1.1 h.1.1.1.1.1.1.2) (fun X A n c h hT => Holds_op ⟨#[62, 61]⟩ ta tb bl true A n c _ X hT OA.out.1 OB.out.1 (by decide +kernel) OA.out.2.1 OB.out.2.1 h.1.1.1.1.1.2 HK.out E.out.2.1) (fun X h => two_isN ⟨#[33, 61]⟩ ta tb _ _ (.slice Aa na ca) (.slice Ab nb cb) X OA.out.2.2 OB.out.2.2 h.1.1.1.1.1.1.1 h.1.1.1.1.1.1.2) (fun X A n c h hT => Holds_op ⟨#[33, 61]⟩ ta tb bl true A n c _ X hT OA.out.1 OB.out.1 (by decide +kernel) OA.out.2.1 OB.out.2.1 h.1.1.1.1.1.2 HK.out E.out.2.2) (fun _ _ _ _ _ _ _ _ _ _ _ _ _ _ _ _ _ _ _ _ _ _ _ _ _ _ _ _ _ _ _ _ _ _ _ _ _ _ _ _ _ _ _ _ _ _ _ _ _ _ _ _ _ _ _ _ _ _ _ _ _ _ _ _ _ _ _ _ _ _ w15 hb => ?_)
              go_wp2_with fail
              go_ret
              exact ⟨rfl, hb⟩
            · subst hh
              rw [show decide (p % 8 < 5) = false from decide_eq_false (by have := HPQ.out; omega)]
              refine wp_of_eq (c' := ((Try.f9.body.bind (regionN 21)).getD .skip)) ?_ (by kernel_rfl)
              refine kinds20_B_gt_num (ar := false) _ _ _ _ _ _ _ _ _ _ _ _ _ _ _ _ _ _ _ _ _ _ _ _ _ _ _ _ _ _ _ _ _ _ _ _ _ _ _ _ _ _ _ _ _ _ _ _ _ _ _ _ _ _ _ _ _ _ _ _ _ _ _ _ _ _ _ _ _ _ _ _ _ _ _ _ _ _ _ _ _ _ _ _ _ _ _ _ _ _ _ _ _ _ _ _ _ _ _ _ _ _ _ _ _ _ _ _ _ _ _ _ _ _ _ _ _ _ _ _ _ hc K.out (fun X h => h.1.1.1.1.2) (fun X h => h.1.1.1.2) (fun X h => h.1.1.2) (fun X h => h.1.2) (fun X h => h.2) (fun X h => two_isN ⟨#[60, 61]⟩ ta tb _ _ (.slice Aa na ca) (.slice Ab nb cb) X OA.out.2.2 OB.out.2.2 h.1.1.1.1.1.1.1 h.1.1.1.1.1.1.2) (fun X A n c h hT => Holds_op ⟨#[60, 61]⟩ ta tb bl false A n c _ X hT OA.out.1 OB.out.1 (by decide +kernel) OA.out.2.1 OB.out.2.1 h.1.1.1.1.1.2 HK.out E.out.1) (fun X h => two_isN ⟨#[62, 61]⟩ ta tb _ _ (.slice Aa na ca) (.slice Ab nb cb) X OA.out.2.2 OB.out.2.2 h.1.1.1.1.1.1.1 h.1.1.1.1.1.1.2) (fun X A n c h hT => Holds_op ⟨#[62, 61]⟩ ta tb bl true A n c _ X hT OA.out.1 OB.out.1 (by decide +kernel) OA.out.2.1 OB.out.2.1 h.1.1.1.1.1.2 HK.out E.out.2.1) (fun X h => two_isN ⟨#[33, 61]⟩ ta tb _ _ (.slice Aa na ca) (.slice Ab nb cb) X OA.out.2.2 OB.out.2.2 h.1.1.1.1.1.1.1 h.1.1.1.1.1.1.2) (fun X A n c h hT => Holds_op ⟨#[33, 61]⟩ ta tb bl true A n c _ X hT OA.out.1 OB.out.1 (by decide +kernel) OA.out.2.1 OB.out.2.1 h.1.1.1.1.1.2 HK.out E.out.2.2) (fun _ _ _ _ _ _ _ _ _ _ _ _ _ _ _ _ _ _ _ _ _ _ _ _ _ _ _ _ _ _ _ _ _ _ _ _ _ _ _ _ _ _ _ _ _ _ _ _ _ _ _ _ _ _ _ _ _ _ _ _ _ _ _ _ _ _ _ _ _ _ w15 hb => ?_)
              go_wp2_with fail
              go_ret
              exact ⟨rfl, hb⟩
            · subst hh; subst g1; subst g2
              rw [show decide (p % 8 < 5) = true from decide_eq_true (by have := HPQ.out; omega)]
              refine wp_of_eq (c' := ((Try.f9.body.bind (regionN 21)).getD .skip)) ?_ (by kernel_rfl)
              refine kinds20_C1_gt_num (ar := true) (x1 := 0) (z1 := 0) _ _ _ _ _ _ _ _ _ _ _ _ _ _ _ _ _ _ _ _ _ _ _ _ _ _ _ _ _ _ _ _ _ _ _ _ _ _ _ _ _ _ _ _ _ _ _ _ _ _ _ _ _ _ _ _ _ _ _ _ _ _ _ _ _ _ _ _ _ _ _ _ _ _ _ _ _ _ _ _ _ _ _ _ _ _ _ _ _ _ _ _ _ _ _ _ _ _ _ _ _ _ _ _ _ _ _ _ _ _ _ _ _ _ _ _ _ _ _ _ _ hc K.out (fun X h => h.1.1.1.1.2) (fun X h => h.1.1.1.2) (fun X h => h.1.1.2) (fun X h => h.1.2) (fun X h => h.2) (fun X h => two_isN ⟨#[60, 61]⟩ ta tb _ _ (.slice Aa na ca) (.slice Ab nb cb) X OA.out.2.2 OB.out.2.2 h.1.1.1.1.1.1.1 h.1.1.1.1.1.1.2) (fun X A n c h hT => Holds_op ⟨#[60, 61]⟩ ta tb bl false A n c _ X hT OA.out.1 OB.out.1 (by decide +kernel) OA.out.2.1 OB.out.2.1 h.1.1.1.1.1.2 HK.out E.out.1) (fun X h => two_isN ⟨#[62, 61]⟩ ta tb _ _ (.slice Aa na ca) (.slice Ab nb cb) X OA.out.2.2 OB.out.2.2 h.1.1.1.1.1.1.1 h.1.1.1.1.1.1.2) (fun X A n c h hT => Holds_op ⟨#[62, 61]⟩ ta tb bl true A n c _ X hT OA.out.1 OB.out.1 (by decide +kernel) OA.out.2.1 OB.out.2.1 h.1.1.1.1.1.2 HK.out E.out.2.1) (fun X h => two_isN ⟨#[33, 61]⟩ ta tb _ _ (.slice Aa na ca) (.slice Ab nb cb) X OA.out.2.2 OB.out.2.2 h.1.1.1.1.1.1.1 h.1.1.1.1.1.1.2) (fun X A n c h hT => Holds_op ⟨#[33, 61]⟩ ta tb bl true A n c _ X hT OA.out.1 OB.out.1 (by decide +kernel) OA.out.2.1 OB.out.2.1 h.1.1.1.1.1.2 HK.out E.out.2.2) (fun _ _ _ _ _ _ _ _ _ _ _ _ _ _ _ _ _ _ _ _ _ _ _ _ _ _ _ _ _ _ _ _ _ _ _ _ _ _ _ _ _ _ _ _ _ _ _ _ _ _ _ _ _ _ _ _ _ _ _ _ _ _ _ _ _ _ _ _ _ _ w15 hb => ?_)
              go_wp2_with fail
              go_ret
              exact ⟨rfl, hb⟩
            · exact absurd g2 h3
      · have hxb : (x1 == y1) = false := beq_eq_false_iff_ne.2 hxy
        rcases told_unlike q hq8 EE.out.1 EE.out.2 hxy with ⟨rfl, hx, he⟩ | ⟨hn, he⟩
        · obtain ⟨rfl, rfl, rfl⟩ : x1 = 2 ∧ x2 = 0 ∧ x3 = mt := by simpa using hx
          rw [show opK 7 = bAnd from rfl] at he ⊢
          have HE := Lib.hid he; clear he hx
          have px := K.out.p.1.2.cell
          have py := K.out.p.2.cell
          go_wp2_with fail
          go_at_call 32
          refine (two_isN bAnd ta tb _ _ (.slice Aa na ca) (.slice Ab nb cb) _ OA.out.2.2 OB.out.2.2 K.out.p.1.1.1.1.1.1 K.out.p.1.1.1.1.1.2).mono ?_
          rintro e w10 ⟨⟨A3, n3, c3, rfl, hT⟩, hb⟩
          have HT := Lib.hid hT; clear hT
          replace K := Lib.hid (K.out.go hb); clear hb
          go_wp2_with fail
          go_at_call 14
          refine (Reckon_isN bAnd ta tb bl (some (2, 0, mt)) _ _ _ _ _ HT.out (ok_bin (by decide +kernel) OA.out.1 OB.out.1) ⟨OA.out.2.1, OB.out.2.1⟩ K.out.p.1.1.1.1.2 HK.out HE.out).mono ?_
          rintro e w11 ⟨he, hb⟩
          replace he : e = .returned (.tuple #[vv 2 0 mt, .bool true]) := he
          subst he
          replace K := Lib.hid (((K.out.go hb).more 23 #[.int .i64 2, .int .i64 0, .string mt]).keepRow (List.mem_cons_self ..)); clear hb HT
          clear pa pb px py
          have px : ∀ j, (w11.alloc (.cells (#[.int .i64 2, .int .i64 0, .string mt] : Array Value) 23)).cell? ⟨gx, j, none⟩ = (#[.int .i64 2, .int .i64 0, .string mt] : Array Value)[j]? := K.out.p.1.1.2.cell
          have py : ∀ j, (w11.alloc (.cells (#[.int .i64 2, .int .i64 0, .string mt] : Array Value) 23)).cell? ⟨gy, j, none⟩ = (#[.int .i64 y1, .int .i64 y2, .string y3] : Array Value)[j]? := K.out.p.1.2.cell
          go_wp2_with fail
          go_ret
          exact ⟨rfl, K.out.bel⟩
        · by_cases h7 : q = 7
          · subst h7
            have hn' : ¬ (x1 = 2 ∧ x2 = 0 ∧ x3 = mt) := fun h => hn ⟨rfl, by rw [h.1, h.2.1, h.2.2]⟩
            rw [show opK 7 = bAnd from rfl] at he ⊢
            have HE := Lib.hid he; clear he hn
            have h5' : ¬ x1 = 2 ∨ ¬ x2 = 0 ∨ ¬ x3.toList = [] := by
              by_cases q1 : x1 = 2
              · by_cases q2 : x2 = 0
                · exact Or.inr (Or.inr fun q3 => hn' ⟨q1, q2, toList_inj (q3.trans (by kernel_rfl))⟩)
                · exact Or.inr (Or.inl q2)
              · exact Or.inl q1
            rcases h5' with h5 | h5 | h5
            all_goals
              clear hn'
              have px := K.out.p.1.2.cell
              have py := K.out.p.2.cell
              go_wp2_with fail
              go_at_call 32
              refine (two_isN bAnd ta tb _ _ (.slice Aa na ca) (.slice Ab nb cb) _ OA.out.2.2 OB.out.2.2 K.out.p.1.1.1.1.1.1 K.out.p.1.1.1.1.1.2).mono ?_
              rintro e w10 ⟨⟨A3, n3, c3, rfl, hT⟩, hb⟩
              have HT := Lib.hid hT; clear hT
              replace K := Lib.hid (K.out.go hb); clear hb
              go_wp2_with fail
              go_at_call 14
              refine (Reckon_isN bAnd ta tb bl (none) _ _ _ _ _ HT.out (ok_bin (by decide +kernel) OA.out.1 OB.out.1) ⟨OA.out.2.1, OB.out.2.1⟩ K.out.p.1.1.1.1.2 HK.out HE.out).mono ?_
              rintro e w11 ⟨he, hb⟩
              replace he : e = .returned (.tuple #[vv 0 0 mt, .bool false]) := he
              subst he
              replace K := Lib.hid (((K.out.go hb).more 23 #[.int .i64 0, .int .i64 0, .string mt]).keepRow (List.mem_cons_self ..)); clear hb HT
              clear pa pb px py
              have px : ∀ j, (w11.alloc (.cells (#[.int .i64 0, .int .i64 0, .string mt] : Array Value) 23)).cell? ⟨gx, j, none⟩ = (#[.int .i64 x1, .int .i64 x2, .string x3] : Array Value)[j]? := K.out.p.1.1.2.cell
              have py : ∀ j, (w11.alloc (.cells (#[.int .i64 0, .int .i64 0, .string mt] : Array Value) 23)).cell? ⟨gy, j, none⟩ = (#[.int .i64 y1, .int .i64 y2, .string y3] : Array Value)[j]? := K.out.p.1.2.cell
              go_wp2_with fail
              go_ret
              exact ⟨rfl, K.out.bel⟩
          · have hop : ((opK q).toList == [38, 38]) = false := by
              refine beq_eq_false_iff_ne.2 fun h => h7 ?_
              rcases opK_list q hq8 with ⟨rfl, g⟩ | ⟨rfl, g⟩ | ⟨rfl, g⟩ | ⟨rfl, g⟩ | ⟨rfl, g⟩ | ⟨rfl, g⟩ | ⟨rfl, g⟩ | ⟨rfl, g⟩ <;> first | rfl | (rw [h] at g; exact absurd g (by decide))
            have hop2 : ¬ (opK q).toList = [38, 38] := beq_eq_false_iff_ne.1 hop
            have hlv := opK_lvl q
            generalize opK q = op at *
            have HE := Lib.hid he; clear he hn h7
            have HL := Lib.hid hlv; clear hlv
            have px := K.out.p.1.2.cell
            have py := K.out.p.2.cell
            go_wp2_with fail
            go_at_call 32
            refine (two_isN op ta tb _ _ (.slice Aa na ca) (.slice Ab nb cb) _ OA.out.2.2 OB.out.2.2 K.out.p.1.1.1.1.1.1 K.out.p.1.1.1.1.1.2).mono ?_
            rintro e w10 ⟨⟨A3, n3, c3, rfl, hT⟩, hb⟩
            have HT := Lib.hid hT; clear hT
            replace K := Lib.hid (K.out.go hb); clear hb
            go_wp2_with fail
            go_at_call 14
            refine (Reckon_isN op ta tb bl (none) _ _ _ _ _ HT.out (ok_bin HL.out OA.out.1 OB.out.1) ⟨OA.out.2.1, OB.out.2.1⟩ K.out.p.1.1.1.1.2 HK.out HE.out).mono ?_
            rintro e w11 ⟨he, hb⟩
            replace he : e = .returned (.tuple #[vv 0 0 mt, .bool false]) := he
            subst he
            replace K := Lib.hid (((K.out.go hb).more 23 #[.int .i64 0, .int .i64 0, .string mt]).keepRow (List.mem_cons_self ..)); clear hb HT
            clear pa pb px py
            have px : ∀ j, (w11.alloc (.cells (#[.int .i64 0, .int .i64 0, .string mt] : Array Value) 23)).cell? ⟨gx, j, none⟩ = (#[.int .i64 x1, .int .i64 x2, .string x3] : Array Value)[j]? := K.out.p.1.1.2.cell
            have py : ∀ j, (w11.alloc (.cells (#[.int .i64 0, .int .i64 0, .string mt] : Array Value) 23)).cell? ⟨gy, j, none⟩ = (#[.int .i64 y1, .int .i64 y2, .string y3] : Array Value)[j]? := K.out.p.1.2.cell
            go_wp2_with fail
            go_ret
            exact ⟨rfl, K.out.bel⟩
end Go.Proofs.Ytjddfjapopdciaa
