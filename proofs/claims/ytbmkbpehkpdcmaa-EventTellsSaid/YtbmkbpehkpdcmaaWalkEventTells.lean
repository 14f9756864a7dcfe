/- EventTells: the walk. -/
import Derived.Test.YtbmkbpehkpdcmaaEx04
import Derived.Test.YtbmkbpehkpdcmaaEventL
import Derived.Test.YtbmkbpehkpdcmaaRef4F
import Derived.Test.YtbmkbpehkpdcmaaRef4I
import Derived.Test.YtbmkbpehkpdcmaaRefI4
import Derived.Test.YtbmkbpehkpdcmaaEt13
import Derived.Test.YtbmkbpehkpdcmaaEtU
import Derived.Test.YtbmkbpehkpdcmaaEt32
import Derived.Test.YtbmkbpehkpdcmaaEtC
import Derived.Test.YtbmkbpehkpdcmaaRowB
import Derived.Deep.DeepCutAuto
import Derived.Deep.CutBlock
import Derived.Deep.RegionHeld3
namespace Go.Proofs.Ytbmkbpehkpdcmaa
open Go.ChangeShapes Go.WideShapes Go.ChangeAt Go.RowKit
open Ev (V3 rightV OkV)
set_option linter.unusedVariables false
set_option linter.unusedSimpArgs false

/-- What the law's own boxes hold. -/
structure ES (w W : World) (m1 : Bool) (tm : Int) (v : Value) (L : List V3) (m2 : Bool) (t2 : Int) (u : Value) (L2 : List V3) (qn : ByteArray) (fv : Value) (F : List (ByteArray × Int)) : Prop where
  b : Below w.heap.size w W
  x : Blk W w.heap.size 26 #[.bool m1, .int .i64 tm, v]
  y : Blk W (w.heap.size + 1) 26 #[.bool m2, .int .i64 t2, u]
  q : Blk W (w.heap.size + 1 + 1) 30 #[.string qn, fv]
  vx : ValsAt W v L
  vy : ValsAt W u L2
  vf : FieldsAt W fv F
theorem ES.later {w W W' : World} {m1 : Bool} {tm : Int} {v : Value} {L : List V3} {m2 : Bool} {t2 : Int} {u : Value} {L2 : List V3} {qn : ByteArray} {fv : Value} {F : List (ByteArray × Int)} (h : ES w W m1 tm v L m2 t2 u L2 qn fv F) (hb : Below W.heap.size W W') : ES w W' m1 tm v L m2 t2 u L2 qn fv F :=
  ⟨bt h.b hb, h.x.later hb, h.y.later hb, h.q.later hb, h.vx.later hb, h.vy.later hb, h.vf.later hb⟩
theorem NewAt.put2' {base : Nat} {w : World} {v : Value} {l : List V3} (h : NewAt base w v l) {g : Nat} (hp : g < base) (x y : Value) : NewAt base ((w.setCell ⟨g, 1, none⟩ x).setCell ⟨g, 2, none⟩ y) v l := (h.far (p := ⟨g, 1, none⟩) hp x).far (p := ⟨g, 2, none⟩) hp y
theorem RawV.plain (l : List UInt8) (s : ByteArray) : RawV (plainV l s) := fun y hy => by
  have := plainV_ok l s y hy
  exact ⟨by have := this.size; unfold maxLen; omega, this.lo, this.hi⟩
theorem put_len' {t : Int} {l : List V3} (hr : RawV l) : (Ev.put t l).length ≤ 500 := by
  rcases hp : Ev.plain t l with _ | _
  · rw [Ev.put_no hp]; simp
  · exact Ev.put_len hp (hr.ok hp)
theorem putI_len (m : Bool) {t : Int} {l : List V3} (hr : RawV l) : (Ev.putI m t l).length ≤ 501 := by
  unfold Ev.putI
  split
  · rename_i h
    split
    · obtain ⟨p0, p1, _, _⟩ := Ev.plain_parts (Ev.rightI_plain h)
      have := Num.put_ten (u := t.toNat) (by omega)
      simp; omega
    · have := put_len' (t := t) hr
      simp; omega
  · simp
theorem EPut_raw (t : Int) (v : Value) (l : List V3) (w : World) (hv : ValsAt w v l) (hr : RawV l) :
    Calls Try.prog 7 #[ev t v] w fun e w' => e = .returned (.string ⟨(Ev.put t l).toArray⟩) ∧ Below w.heap.size w w' := EPut_any t v l w hv (fun x hx => (hr x hx).1) (fun hp => hr.ok hp)
/-- An int lies in no block of a string and a slice. -/
theorem int_apart {w : World} {G : Nat} {t : TypeId} {s : ByteArray} {A : Option Addr} {n c : Nat} (hB : Blk w G t #[.string s, .slice A n c]) {p : Addr} {k : IntKind} {x : Int} (h : w.cell? p = some (.int k x)) : p.block ≠ G := fun e => by
  obtain ⟨b, o, q⟩ := p
  simp only at e
  subst e
  have hb : w.heap[b]? = some (.cells #[.string s, .slice A n c] t (0, 0)) := hB
  unfold World.cell? at h
  simp only [hb] at h
  match o with
  | 0 => simp at h
  | 1 => simp at h
  | o + 2 => simp at h
theorem ValsAt.keep {w w' : World} {v : Value} {l : List V3} (h : ValsAt w v l) {G : Nat} {t : TypeId} {s : ByteArray} {A : Option Addr} {n c : Nat} (hB : Blk w G t #[.string s, .slice A n c]) (hs : ∀ g, g < w.heap.size → g ≠ G → w'.heap[g]? = w.heap[g]?) : ValsAt w' v l := by
  obtain ⟨B, cap, rfl, h1, h2, h3⟩ := h
  refine ⟨B, cap, rfl, h1, h2, fun h0 => ?_⟩
  obtain ⟨a, rfl, h4⟩ := h3 h0
  refine ⟨a, rfl, fun j hj => ?_⟩
  obtain ⟨c0, c1, c2⟩ := h4 j hj
  have hl := World.block_lt_of_cell? w _ c0
  have hn := int_apart hB c0
  have e := hs _ hl hn
  exact ⟨by rw [cell_same e]; exact c0, by rw [cell_same (p := ⟨(a.add (j * 3)).block, (a.add (j * 3)).off + 1, none⟩) e]; exact c1, by rw [cell_same (p := ⟨(a.add (j * 3)).block, (a.add (j * 3)).off + 2, none⟩) e]; exact c2⟩
set_option maxRecDepth 20000 in
set_option maxHeartbeats 8000000 in
theorem walk_EventTells (m1 : Bool) (t1 : Int) (s1 : SV) (L1 : List V3) (m2 : Bool) (t2 : Int) (s2 : SV) (L2 : List V3) (lv : Value) (l : List UInt8) (near : Bool) (s : ByteArray) (how by_ : Int) (qn : ByteArray) (qs : SV) (F : List (ByteArray × Int)) (w : World)
    (hx : ValsAt w (sl s1) L1) (rx : RawV L1) (tx : -9223372036854775808 ≤ t1 ∧ t1 ≤ 9223372036854775807) (lx : L1.length * 32 ≤ 140737488351232)
    (hy : ValsAt w (sl s2) L2) (ry : RawV L2) (ty : -9223372036854775808 ≤ t2 ∧ t2 ≤ 9223372036854775807) (ly : L2.length * 32 ≤ 140737488351232)
    (hl : BytesAt w lv l) (hl' : l.length ≤ 140737488351232) (hs : s.size ≤ 140737488351232) (h0 : 0 ≤ how) (h1 : how ≤ 255) (y0 : 0 ≤ by_) (y1 : by_ ≤ 255)
    (hf : FieldsAt w (sl qs) F) (lf : F.length * 24 ≤ 140737488351232) :
    Calls Try.prog 3 #[item m1 t1 (sl s1), item m2 t2 (sl s2), lv, .bool near, .string s, .int .u8 how, .int .u8 by_, strm qn (sl qs)] w fun e w' => e = .returned (.bool true) ∧ Below w.heap.size w w' := by
  obtain ⟨A1, n1, c1⟩ := s1
  obtain ⟨A2, n2, c2⟩ := s2
  obtain ⟨AQ, nq, cq⟩ := qs
  obtain ⟨lA, lc, rfl⟩ := bytes_slice hl
  obtain ⟨ln, hln⟩ : ∃ n, n = l.length := ⟨_, rfl⟩
  rw [← hln] at hl ⊢
  change ValsAt w (.slice A1 n1 c1) L1 at hx
  change ValsAt w (.slice A2 n2 c2) L2 at hy
  change FieldsAt w (.slice AQ nq cq) F at hf
  change Calls _ _ #[item m1 t1 (.slice A1 n1 c1), item m2 t2 (.slice A2 n2 c2), .slice lA ln lc, .bool near, .string s, .int .u8 how, .int .u8 by_, strm qn (.slice AQ nq cq)] w _
  have A := Lib.hid (And.intro hl (And.intro rx (And.intro ry (And.intro hl' (And.intro hln (And.intro hy hf)))))); clear hl rx ry hln
  obtain ⟨W1, hW1⟩ : ∃ W1, W1 = ((w.alloc (.cells #[.bool m1, .int .i64 t1, .slice A1 n1 c1] 26)).alloc (.cells #[.bool m2, .int .i64 t2, .slice A2 n2 c2] 26)).alloc (.cells #[.string qn, .slice AQ nq cq] 30) := ⟨_, rfl⟩
  have hE : ES w W1 m1 t1 (.slice A1 n1 c1) L1 m2 t2 (.slice A2 n2 c2) L2 qn (.slice AQ nq cq) F := by
    have b1 : Below w.heap.size w W1 := by rw [hW1]; exact bt (ba _ _) (bt (ba _ _) (ba _ _))
    refine ⟨b1, ?_, ?_, ?_, hx.later b1, hy.later b1, hf.later b1⟩
    · rw [hW1]; exact ((Blk.new w _ _).later (ba _ _)).later (ba _ _)
    · rw [hW1]
      have := (Blk.new (w.alloc (.cells #[.bool m1, .int .i64 t1, .slice A1 n1 c1] 26)) 26 #[.bool m2, .int .i64 t2, .slice A2 n2 c2]).later (ba _ (.cells #[.string qn, .slice AQ nq cq] 30))
      simpa using this
    · rw [hW1]
      have := Blk.new ((w.alloc (.cells #[.bool m1, .int .i64 t1, .slice A1 n1 c1] 26)).alloc (.cells #[.bool m2, .int .i64 t2, .slice A2 n2 c2] 26)) 30 #[.string qn, .slice AQ nq cq]
      simpa using this
  have HE := Lib.hid hE; clear hE hx hy hf
  go_enter Try.func3, Try.ntmps3
  go_upto_region 1 with fail
  rw [← hW1]
  clear hW1
  go_wp2_with fail
  try go_at_call 4
  refine (examples_any _).mono ?_
  rintro e w1 ⟨rfl, hb⟩
  replace HE := Lib.hid (HE.out.later hb); clear hb
  go_upto_if 40 with fail
  go_cut [] from 41 to 273 (fun wx => ∃ (tm : Int) (v : Value) (L : List V3), ES w wx m1 tm v L m2 t2 (.slice A2 n2 c2) L2 qn (.slice AQ nq cq) F ∧ RawV L ∧ L.length * 32 ≤ 140737488351232 ∧ -9223372036854775808 ≤ tm ∧ tm ≤ 9223372036854775807)
  case first => as_aux_lemma =>
    have p0 := HE.out.x.cell
    cases near with
    | false =>
      go_wp2_with fail
      go_meet
      exact ⟨_, _, _, HE.out, A.out.2.1, lx, tx.1, tx.2⟩
    | true =>
      have hw : 0 ≤ IntKind.u64.wrap t1 ∧ IntKind.u64.wrap t1 ≤ 18446744073709551615 := by rw [IntKind.wrap_u64]; omega
      go_wp2_with fail
      try go_at_call 5
      refine (plain_any _ _ l s _ hw.1 hw.2 (A.out.1.later HE.out.b) (by have := A.out.2.2.2.2.1; omega) (by unfold maxLen; omega)).mono ?_
      rintro e w2 ⟨u, ⟨rfl, hN⟩, hb⟩
      obtain ⟨uA, uc, rfl⟩ := hN.shape
      obtain ⟨tm, htm⟩ : ∃ t, t = plainT (IntKind.u64.wrap t1) := ⟨_, rfl⟩
      have htb : 0 ≤ tm ∧ tm ≤ 2305843009213693952 := by rw [htm]; unfold plainT; omega
      rw [← htm]
      clear htm hw p0
      have hE2 := HE.out.later hb
      have hlt : w.heap.size < w1.heap.size := HE.out.x.lt
      have b2 := (hE2.b.setCell (p := ⟨w.heap.size, 1, none⟩) (Nat.le_refl _) (.int .i64 tm)).setCell (p := ⟨w.heap.size, 2, none⟩) (Nat.le_refl _) (.slice uA (plainV l s).length uc)
      have x2 : Blk ((w2.setCell ⟨w.heap.size, 1, none⟩ (.int .i64 tm)).setCell ⟨w.heap.size, 2, none⟩ (.slice uA (plainV l s).length uc)) w.heap.size 26 #[.bool m1, .int .i64 tm, .slice uA (plainV l s).length uc] := by
        have := (hE2.x.set_ 1 (.int .i64 tm)).set_ 2 (.slice uA (plainV l s).length uc)
        simpa using this
      have y2 := (hE2.y.far (p := ⟨w.heap.size, 1, none⟩) (by simp) (.int .i64 tm)).far (p := ⟨w.heap.size, 2, none⟩) (by simp) (.slice uA (plainV l s).length uc)
      have q2 := (hE2.q.far (p := ⟨w.heap.size, 1, none⟩) (by simp; omega) (.int .i64 tm)).far (p := ⟨w.heap.size, 2, none⟩) (by simp; omega) (.slice uA (plainV l s).length uc)
      have v2 := (NewAt.put2' hN hlt (.int .i64 tm) (.slice uA (plainV l s).length uc)).vals
      have E2 : ES w ((w2.setCell ⟨w.heap.size, 1, none⟩ (.int .i64 tm)).setCell ⟨w.heap.size, 2, none⟩ (.slice uA (plainV l s).length uc)) m1 tm (.slice uA (plainV l s).length uc) (plainV l s) m2 t2 (.slice A2 n2 c2) L2 qn (.slice AQ nq cq) F := ⟨b2, x2, y2, q2, v2, A.out.2.2.2.2.2.1.later b2, A.out.2.2.2.2.2.2.later b2⟩
      have p0 := hE2.x.cell
      have p1 := hE2.x.frozen
      have p2 := hE2.x.lt
      have hln6 := plainV_len l s
      have HE2 := Lib.hid E2; clear E2 b2 x2 y2 q2 v2 hN hb hE2
      generalize (plainV l s).length = pl at *
      cases m1 with
      | false =>
        go_wp2_with fail
        go_meet
        exact ⟨_, _, _, HE2.out, RawV.plain l s, by have := plainV_len l s; omega, by omega, by omega⟩
      | true =>
        by_cases hm : (0 : Int) < by_ % 4
        · have p0' := HE2.out.x.cell
          have p1' := HE2.out.x.frozen
          have p2' := HE2.out.x.lt
          go_wp2_with fail
          go_meet
          have E3 := HE2.out
          have b3 := E3.b.setCell (p := ⟨w.heap.size, 2, none⟩) (Nat.le_refl _) (.slice none 0 0)
          refine ⟨tm, .slice none 0 0, [], ⟨b3, ?_, E3.y.far (p := ⟨w.heap.size, 2, none⟩) (by simp) _, E3.q.far (p := ⟨w.heap.size, 2, none⟩) (by simp; omega) _, ValsAt.nil _, A.out.2.2.2.2.2.1.later b3, A.out.2.2.2.2.2.2.later b3⟩, (fun y hy => by cases hy), by simp, by omega, by omega⟩
          have := E3.x.set_ 2 (.slice none 0 0)
          simpa using this
        · have hm2 : decide (0 < by_ % 4) = false := decide_eq_false hm
          go_wp2_with fail
          go_meet
          exact ⟨_, _, _, HE2.out, RawV.plain l s, by have := plainV_len l s; omega, by omega, by omega⟩
  case rest =>
    rename World => wz
    clear HE
    obtain ⟨tm, v, L, hE, hraw, hL, tm0, tm1⟩ := hcut
    obtain ⟨vA, vc, hv', _, _, _⟩ := hE.vx
    subst hv'
    obtain ⟨vn, hvn⟩ : ∃ n, n = L.length := ⟨_, rfl⟩
    rw [← hvn] at hE
    have HE := Lib.hid hE
    have R := Lib.hid (And.intro hraw (And.intro hL hvn)); clear hE hraw hL hvn
    go_upto_if 60 with fail
    go_cut [18] from 58 to 273 (fun kv wx => ∃ (fA : Option Addr) (fn fc : Nat) (F' : List (ByteArray × Int)), fn = F'.length ∧ ES w wx m1 tm (.slice vA vn vc) L m2 t2 (.slice A2 n2 c2) L2 qn (.slice fA fn fc) F' ∧ F'.length * 24 ≤ 140737488355000)
    case first => as_aux_lemma =>
      have hnq : nq = F.length := by
        obtain ⟨_, _, e, _⟩ := A.out.2.2.2.2.2.2
        simp only [Value.slice.injEq] at e
        exact e.2.1
      have HNQ := Lib.hid hnq; clear hnq
      by_cases hh : how % 2 = 0
      · have p0 := HE.out.q.cell
        have p1 := HE.out.q.frozen
        have p2 := HE.out.q.lt
        have hvl : vn ≤ 4398046510976 := by have := R.out.2.1; have := R.out.2.2; omega
        go_upto_region 10 with fail
        clear p0 p1 p2
        have hB0 : Blk (wz.setCell ⟨w.heap.size + 1 + 1, 1, none⟩ (.slice none 0 0)) (w.heap.size + 1 + 1) 30 #[.string qn, .slice none 0 0] := by
          have := HE.out.q.set_ 1 (.slice none 0 0)
          simpa using this
        have hs0 : ∀ g, g < wz.heap.size → g ≠ w.heap.size + 1 + 1 → (wz.setCell ⟨w.heap.size + 1 + 1, 1, none⟩ (.slice none 0 0)).heap[g]? = wz.heap[g]? := fun g _ hg => Below.heap_setCell wz ⟨w.heap.size + 1 + 1, 1, none⟩ _ g hg
        have hb0 : Below (w.heap.size + 1 + 1) wz (wz.setCell ⟨w.heap.size + 1 + 1, 1, none⟩ (.slice none 0 0)) := (Below.refl _ _).setCell (p := ⟨w.heap.size + 1 + 1, 1, none⟩) (Nat.le_refl _) _
        have D0 := Lib.hid (And.intro hB0 (And.intro hs0 hb0)); clear hB0 hs0 hb0
        generalize wz.setCell _ _ = wq at *
        obtain ⟨G, hG⟩ : ∃ G, G = w.heap.size + 1 + 1 := ⟨_, rfl⟩
        rw [← hG] at D0 ⊢
        have HG := Lib.hid hG; clear hG
        go_wp2_with fail
        go_loopw [18] (fun iv wr => ∃ (i : Nat) (fv : Value), i ≤ vn ∧ iv = .int .i64 (i : Int) ∧ Blk wr G 30 #[.string qn, fv] ∧ Own wr wz.heap.size 37 2 rowF4 fv ((L.take i).map (fun x => (xS, x.1))) ∧ (∀ g, g < wz.heap.size → g ≠ G → wr.heap[g]? = wz.heap[g]?) ∧ Below G wz wr) (fun iv _ => vn - (intOf iv).toNat)
        case atStart => exact ⟨0, _, Nat.zero_le _, rfl, D0.out.1, Own.nil _ _ _ _ _, D0.out.2.1, D0.out.2.2⟩
        case round =>
          rename World => wr
          obtain ⟨i, fv, hi, rfl, hBq, hO, hS, hb⟩ := hrel
          obtain ⟨fA, fn, fc, rfl⟩ := own_shape hO
          have hGw : G < wz.heap.size := by rw [HG.out]; exact HE.out.q.lt
          have hbx : w.heap.size < wz.heap.size := HE.out.x.lt
          have hx : Blk wr w.heap.size 26 #[.bool m1, .int .i64 tm, .slice vA vn vc] := (hS _ hbx (by have := HG.out; omega)).trans HE.out.x
          have p0 := hx.cell
          by_cases hlt : i < vn
          · have hil : i < L.length := by have := R.out.2.2; omega
            obtain ⟨A', cap', e, _, _, h3⟩ := HE.out.vx
            simp only [Value.slice.injEq] at e
            obtain ⟨rfl, _, rfl⟩ := e
            obtain ⟨va, rfl, h4⟩ := h3 (by omega)
            have c0 := (h4 i hil).1
            have hvl' := World.block_lt_of_cell? wz _ c0
            have hne := int_apart HE.out.q c0
            rw [← HG.out] at hne
            have c0' : wr.cell? (va.add (i * 3)) = some (.int .i64 (L[i]'hil).1) := by rw [cell_same (hS _ hvl' hne)]; exact c0
            have htk : (L.take (i + 1)).map (fun x => (xS, x.1)) = (L.take i).map (fun x => (xS, x.1)) ++ [(xS, (L[i]'hil).1)] := by
              rw [List.take_succ_eq_append_getElem hil, List.map_append]; rfl
            have hll : ((L.take i).map (fun x => (xS, x.1))).length = i := by rw [List.length_map, List.length_take]; omega
            generalize (L[i]'hil).1 = kd at *
            have hNr : wz.heap.size ≤ wr.heap.size := hb.size
            have d1 : (i : Int) < (vn : Int) := by omega
            have C := Lib.hid (And.intro hx (And.intro hBq (And.intro hO (And.intro hll (And.intro c0' (And.intro htk (And.intro hS hb))))))); clear hx hBq hO hll c0' htk hS hb h4 h3 c0
            go_upto_region 13 with fail
            refine wp_of_eq (c' := (Try.f3.body.bind (regionN 13)).getD .skip) ?_ (by kernel_rfl)
            refine tells13 _ _ _ _ _ _ _ _ _ _ _ _ _ _ _ _ _ _ _ _ _ _ _ _ _ _ _ _ _ _ _ _ _ _ _ _ _ _ _ _ _ _ _ _ _ _ _ _ _ _ _ _ _ _ _ _ _ _ _ _ _ _ _ _ _ _ _ _ _ _ _ _ _ _ _ _ _ _ _ _ _ _ _ _ _ _ _ _ _ _ _ _ _ _ _ _ _ _ _ _ _ _ _ _ _ _ _ _ _ _ _ _ _ _ _ _ _ _ _ _ _ _ _ _ _ _ _ _ _ _ _ _ _ _ _ _ _ _ _ _ _ _ _ _ _ _ _ _ _ _ _ _ _ _ _ _ _ _ _ _ _ _ _ _ _ _ _ _ _ _ _ _ _ _ _ _ _ _ _ _ _ _ _ _ _ _ _ _ _ _ _ _ _ _ _ _ _ _ _ _ _ _ _ _ _ _ _ _ _ _ _ _ _ _ _ _ _ _ _ _ _ _ _ _ _ _ _ _ _ _ _ _ _ _ _ _ _ _ _ _ _ _ _ _ _ _ _ _ _ _ _ _ _ _ _ _ _ _ _ _ _ _ _ _ _ _ _ _ _ _ _ C.out.1 C.out.2.1 C.out.2.2.1 (by rw [C.out.2.2.2.1]; omega) hbx hGw hNr hlt C.out.2.2.2.2.1 hvl' (fun _ _ _ _ _ _ _ _ _ _ _ _ _ v wx hR => ?_)
            obtain ⟨r1, r2, r3, r4⟩ := hR
            obtain ⟨nA, nn, nc, rfl⟩ := own_shape r2
            have Y := Lib.hid (And.intro r1 (And.intro (C.out.2.2.2.2.2.1 ▸ r2) (And.intro (fun g hg hn => (r3 g hg hn).trans (C.out.2.2.2.2.2.2.1 g hg hn)) (C.out.2.2.2.2.2.2.2.trans r4)))); clear r1 r2 r3 r4
            go_wp2_with fail
            go_roundw
            case rel => exact ⟨i + 1, _, by omega, by go_num, Y.out.1, Y.out.2.1, Y.out.2.2.1, Y.out.2.2.2⟩
            case measure => simp [intOf]; omega
          · obtain rfl : i = vn := by omega
            have hF' : (L.take i).map (fun x => (xS, x.1)) = L.map (fun x => (xS, x.1)) := by rw [List.take_of_length_le (by have := R.out.2.2; omega)]
            rw [hF'] at hO
            obtain ⟨fA', fc', e, _, _, _⟩ := hO.shape
            simp only [Value.slice.injEq] at e
            obtain ⟨rfl, rfl, rfl⟩ := e
            have hbw : Below w.heap.size w wr := HE.out.b.trans (hb.mono (by have := HG.out; omega))
            have hyy : Blk wr (w.heap.size + 1) 26 #[.bool m2, .int .i64 t2, .slice A2 n2 c2] := (hS _ HE.out.y.lt (by have := HG.out; omega)).trans HE.out.y
            have hQ0 : Blk wz G 30 #[.string qn, .slice AQ nq cq] := by rw [HG.out]; exact HE.out.q
            have E9 : ES w wr m1 tm (.slice vA i vc) L m2 t2 (.slice A2 n2 c2) L2 qn (.slice fA (L.map (fun x => (xS, x.1))).length fc) (L.map (fun x => (xS, x.1))) :=
              ⟨hbw, hx, hyy, by rw [← HG.out]; exact hBq, HE.out.vx.keep hQ0 hS, A.out.2.2.2.2.2.1.later hbw, fields_of_at (hO.at_ (f := rowF4) (k := 2) (fun _ => rfl))⟩
            have hl24 : (L.map (fun x => (xS, x.1))).length * 24 ≤ 140737488355000 := by rw [List.length_map]; have := R.out.2.1; omega
            have p0' := hBq.cell
            have Y := Lib.hid (And.intro E9 hl24); clear E9 hl24 hbw hyy hQ0 hO hBq hS hb hx hF'
            have dn : ¬ (i : Int) < (i : Int) := by omega
            rw [HG.out]
            rw [HG.out] at p0'
            go_wp2_with fail
            go_meet
            exact ⟨_, _, _, _, rfl, Y.out.1, Y.out.2⟩
      · have d0 : (how % 2 == 0) = false := by simpa using hh
        go_wp2_with fail
        go_meet
        exact ⟨_, _, _, _, HNQ.out, HE.out, by omega⟩
    case rest =>
      rename World => wy
      clear HE
      obtain ⟨fA, fn, fc, F', hfn, hE, hl24⟩ := hcut
      have HF := Lib.hid (And.intro hfn hl24)
      have HE := Lib.hid hE; clear hE hfn hl24
      have p0 := HE.out.x.cell
      have hal := putI_len m1 (t := tm) R.out.1
      have htl := put_len' (t := tm) R.out.1
      rw [← arr_size] at hal htl
      obtain ⟨Sa, hSa⟩ : ∃ S : ByteArray, S = ⟨(Ev.putI m1 tm L).toArray⟩ := ⟨_, rfl⟩
      obtain ⟨St, hSt⟩ : ∃ S : ByteArray, S = ⟨(Ev.put tm L).toArray⟩ := ⟨_, rfl⟩
      have cPI := fun (X : World) (h : ValsAt X (.slice vA vn vc) L) => PutItem_any m1 tm _ L X h R.out.1
      have cPE := fun (X : World) (h : ValsAt X (.slice vA vn vc) L) => EPut_raw tm _ L X h R.out.1
      have rPI := fun (X : World) (u : Value) (h : ValsAt X u L) => rPutItem_any m1 tm u L X h R.out.1
      have rPE := fun (X : World) (u : Value) (h : ValsAt X u L) => rEPut_any tm u L X h R.out.1
      rw [← hSa] at hal cPI rPI
      rw [← hSt] at htl cPE rPE
      have P := Lib.hid (And.intro cPI (And.intro cPE (And.intro rPI rPE))); clear cPI cPE rPI rPE hSa hSt
      go_wp2_with fail
      try go_at_call 6
      with_reducible refine (P.out.1 _ HE.out.vx).mono ?_
      rintro e w3 ⟨rfl, hb⟩
      replace HE := Lib.hid (HE.out.later hb); clear hb p0
      have p0 := HE.out.x.cell
      go_wp2_with fail
      try go_at_call 7
      with_reducible refine (P.out.2.1 _ HE.out.vx).mono ?_
      rintro e w4 ⟨rfl, hb⟩
      replace HE := Lib.hid (HE.out.later hb); clear hb p0
      go_upto_if 90 with fail
      refine wp_of_eq (c' := (Try.f3.body.bind (condN 90)).getD .skip) ?_ (by kernel_rfl)
      refine tellsC _ _ _ _ _ _ _ _ _ _ _ _ _ _ _ _ _ _ _ _ _ _ _ _ _ _ _ _ _ _ _ _ _ _ _ _ _ _ _ _ _ _ _ _ _ _ _ _ _ _ _ _ _ _ _ _ _ _ _ _ _ _ _ _ _ _ _ _ _ _ _ _ _ _ _ _ _ _ _ _ _ _ _ _ _ _ _ _ _ _ _ _ _ _ _ _ _ _ _ _ _ _ _ _ _ _ _ _ _ _ _ _ _ _ _ _ _ _ _ _ _ _ _ _ _ _ _ _ _ _ _ _ _ _ _ _ _ _ _ _ _ _ _ _ _ _ _ _ _ _ _ _ _ _ _ _ _ _ _ _ _ _ _ _ _ _ _ _ _ _ _ _ _ _ _ _ _ _ _ _ _ _ _ _ _ _ _ _ _ _ _ _ _ _ _ _ _ _ _ _ _ _ _ _ _ _ _ _ _ _ _ _ _ _ _ _ _ _ _ _ _ _ _ _ _ _ _ _ _ _ _ _ _ _ _ _ _ _ _ _ _ _ _ _ _ _ _ _ _ _ _ _ _ _ _ _ _ _ _ _ _ _ _ _ _ _ _ _ hs hal (by omega) h0 h1 y0 y1 (fun _ _ _ _ _ _ _ _ _ _ _ _ _ _ _ _ _ _ _ _ _ _ _ _ _ _ _ _ _ _ _ _ _ _ _ _ _ _ _ _ _ S wa hR => ?restC)
      case restC =>
        --R
        obtain ⟨hS, hb⟩ := hR
        try clear p0
        replace HE := Lib.hid (HE.out.later hb); clear hb hal htl
        have hSm : S.size ≤ maxLen := by unfold maxLen; omega
        obtain ⟨ok, ⟨mg, tg, lg⟩, hg⟩ := isG_ex (Ev.getI S) zI
        obtain ⟨good, ⟨te, le_⟩, he⟩ := isG_ex (Ev.get S) zE
        have G := Lib.hid (And.intro hg (And.intro he hSm)); clear hg he hS hSm
        go_wp2_with fail
        try go_at_call 8
        with_reducible refine (GetItem_u G.out.1 _ G.out.2.2).mono ?_
        rintro e wb ⟨gA, gn, gc, ⟨rfl, hv1⟩, hb⟩
        replace HE := Lib.hid (HE.out.later (bt hb (ba _ (.cells #[.bool mg, .int .i64 tg, .slice gA gn gc] 26)))); clear hb
        go_wp2_with fail
        have X1 := Lib.hid (ItemAt.new (m := mg) (t := tg) 26 hv1); clear hv1
        generalize wb.alloc _ = wb' at *
        generalize wb.heap.size = g1 at *
        try go_at_call 9
        with_reducible refine (rGetItem_u G.out.1 _ G.out.2.2).mono ?_
        rintro e wc ⟨hA, hn, hc, ⟨rfl, hv1⟩, hb⟩
        replace HE := Lib.hid (HE.out.later (bt hb (ba _ (.cells #[.bool mg, .int .i64 tg, .slice hA hn hc] 46))))
        replace X1 := Lib.hid (X1.out.later (bt hb (ba _ (.cells #[.bool mg, .int .i64 tg, .slice hA hn hc] 46)))); clear hb
        go_wp2_with fail
        have X2 := Lib.hid (ItemAt.new (m := mg) (t := tg) 46 hv1); clear hv1
        generalize wc.alloc _ = wc' at *
        generalize wc.heap.size = g2 at *
        try go_at_call 10
        with_reducible refine (Get_u G.out.2.1 _ G.out.2.2).mono ?_
        rintro e wd ⟨eA, en, ec, ⟨rfl, hv1⟩, hb⟩
        replace HE := Lib.hid (HE.out.later (bt hb (ba _ (.cells #[.int .i64 te, .slice eA en ec] 24))))
        replace X1 := Lib.hid (X1.out.later (bt hb (ba _ (.cells #[.int .i64 te, .slice eA en ec] 24))))
        replace X2 := Lib.hid (X2.out.later (bt hb (ba _ (.cells #[.int .i64 te, .slice eA en ec] 24)))); clear hb
        go_wp2_with fail
        have X3 := Lib.hid (EvAt.new (t := te) 24 hv1); clear hv1
        generalize wd.alloc _ = wd' at *
        generalize wd.heap.size = g3 at *
        try go_at_call 11
        with_reducible refine (rGet_u G.out.2.1 _ G.out.2.2).mono ?_
        rintro e we ⟨rA, rn, rc, ⟨rfl, hv1⟩, hb⟩
        replace HE := Lib.hid (HE.out.later (bt hb (ba _ (.cells #[.int .i64 te, .slice rA rn rc] 44))))
        replace X1 := Lib.hid (X1.out.later (bt hb (ba _ (.cells #[.int .i64 te, .slice rA rn rc] 44))))
        replace X2 := Lib.hid (X2.out.later (bt hb (ba _ (.cells #[.int .i64 te, .slice rA rn rc] 44))))
        replace X3 := Lib.hid (X3.out.later (bt hb (ba _ (.cells #[.int .i64 te, .slice rA rn rc] 44)))); clear hb
        go_wp2_with fail
        have X4 := Lib.hid (EvAt.new (t := te) 44 hv1); clear hv1
        generalize we.alloc _ = we' at *
        generalize we.heap.size = g4 at *
        have X := Lib.hid (And.intro X1.out (And.intro X2.out (And.intro X3.out X4.out))); clear X1 X2 X3 X4
        go_loopw [30, 31] (fun gv iv wr => ∃ i : Nat, i ≤ fn ∧ iv = .int .i64 (i : Int) ∧ Own wr we'.heap.size 54 2 rowF4 gv (F'.take i) ∧ Below we'.heap.size we' wr) (fun _ iv _ => fn - (intOf iv).toNat)
        case atStart => exact ⟨0, Nat.zero_le _, rfl, Own.nil _ _ _ _ _, Below.refl _ _⟩
        case round =>
          rename World => wr
          obtain ⟨i, hi, rfl, hO, hb⟩ := hrel
          obtain ⟨qA, qn', qc, rfl⟩ := own_shape hO
          have hq := HE.out.q.later hb
          have p0 := hq.cell
          have hfl : fn = F'.length := HF.out.1
          have hf24 := HF.out.2
          by_cases hlt : i < fn
          · have hil : i < F'.length := by omega
            have hvf := HE.out.vf
            obtain ⟨A', cap', e, _, _, h3⟩ := hvf
            simp only [Value.slice.injEq] at e
            obtain ⟨rfl, _, rfl⟩ := e
            obtain ⟨va, rfl, h4⟩ := h3 (by omega)
            have c0 := (h4 i hil).1
            have c1 := (h4 i hil).2
            have hvb := World.block_lt_of_cell? we' _ c0
            have c0' : wr.cell? (va.add (i * 2)) = some (.string (F'[i]'hil).1) := by rw [cell_same (hb.block _ hvb)]; exact c0
            have c1' : wr.cell? ⟨(va.add (i * 2)).block, (va.add (i * 2)).off + 1, none⟩ = some (.int .i64 (F'[i]'hil).2) := by rw [cell_same (p := ⟨(va.add (i * 2)).block, (va.add (i * 2)).off + 1, none⟩) (hb.block _ hvb)]; exact c1
            have htk : F'.take (i + 1) = F'.take i ++ [((F'[i]'hil).1, (F'[i]'hil).2)] := List.take_succ_eq_append_getElem hil
            have hll : (F'.take i).length = i := by rw [List.length_take]; omega
            have hGN : w.heap.size + 1 + 1 < we'.heap.size := HE.out.q.lt
            have hNr := hb.size
            have d1 : (i : Int) < (fn : Int) := by omega
            generalize (F'[i]'hil).1 = nm at *
            generalize (F'[i]'hil).2 = kd at *
            have C := Lib.hid (And.intro hq (And.intro hO (And.intro hll (And.intro c0' (And.intro c1' (And.intro htk hb)))))); clear hq hO hll c0' c1' htk hb h4 h3 c0 c1
            go_upto_region 32 with fail
            refine wp_of_eq (c' := (Try.f3.body.bind (regionN 32)).getD .skip) ?_ (by kernel_rfl)
            refine tells32 _ _ _ _ _ _ _ _ _ _ _ _ _ _ _ _ _ _ _ _ _ _ _ _ _ _ _ _ _ _ _ _ _ _ _ _ _ _ _ _ _ _ _ _ _ _ _ _ _ _ _ _ _ _ _ _ _ _ _ _ _ _ _ _ _ _ _ _ _ _ _ _ _ _ _ _ _ _ _ _ _ _ _ _ _ _ _ _ _ _ _ _ _ _ _ _ _ _ _ _ _ _ _ _ _ _ _ _ _ _ _ _ _ _ _ _ _ _ _ _ _ _ _ _ _ _ _ _ _ _ _ _ _ _ _ _ _ _ _ _ _ _ _ _ _ _ _ _ _ _ _ _ _ _ _ _ _ _ _ _ _ _ _ _ _ _ _ _ _ _ _ _ _ _ _ _ _ _ _ _ _ _ _ _ _ _ _ _ _ _ _ _ _ _ _ _ _ _ _ _ _ _ _ _ _ _ _ _ _ _ _ _ _ _ _ _ _ _ _ _ _ _ _ _ _ _ _ _ _ _ _ _ _ _ _ _ _ _ _ _ _ _ _ _ _ _ _ _ _ _ _ _ _ _ _ _ _ _ _ _ _ _ _ _ _ _ _ _ _ _ _ C.out.1 C.out.2.1 (by rw [C.out.2.2.1]; omega) hGN hNr hlt C.out.2.2.2.1 C.out.2.2.2.2.1 hvb (fun _ _ _ _ _ _ _ _ _ _ _ _ _ _ _ _ v wx hR => ?_)
            obtain ⟨nA, nn, nc, rfl⟩ := own_shape hR.1
            have Y := Lib.hid (And.intro (C.out.2.2.2.2.2.1 ▸ hR.1) (C.out.2.2.2.2.2.2.trans hR.2)); clear hR
            go_wp2_with fail
            go_roundw
            case rel => exact ⟨i + 1, by omega, by go_num, Y.out.1, Y.out.2⟩
            case measure => simp [intOf]; omega
          · obtain rfl : i = fn := by omega
            rw [show F'.take i = F' from List.take_of_length_le (by omega)] at hO
            have hrf := fields_of_at (hO.at_ (f := rowF4) (k := 2) (fun _ => rfl))
            have dn : ¬ (i : Int) < (i : Int) := by omega
            replace HE := Lib.hid (HE.out.later hb)
            replace X := Lib.hid (And.intro (X.out.1.later hb) (And.intro (X.out.2.1.later hb) (And.intro (X.out.2.2.1.later hb) (X.out.2.2.2.later hb))))
            have Z := Lib.hid hrf; clear hrf hO hb hq hfl hf24
            --LAST
            have p1 := HE.out.x.cell
            have R32 : L.length * 32 ≤ 140737488355328 := by have := R.out.2.1; omega
            have Y32 : L2.length * 32 ≤ 140737488355328 := by omega
            go_wp2_with fail
            try go_at_call 12
            with_reducible refine (refItem_u m1 tm _ L _ HE.out.vx R32).mono ?_
            rintro e wf ⟨bA, bn, bc, ⟨rfl, hv1⟩, hb⟩
            have hb2 := bt hb (ba _ (.cells #[.bool m1, .int .i64 tm, .slice bA bn bc] 46))
            replace HE := Lib.hid (HE.out.later hb2)
            replace X := Lib.hid (And.intro (X.out.1.later hb2) (And.intro (X.out.2.1.later hb2) (And.intro (X.out.2.2.1.later hb2) (X.out.2.2.2.later hb2))))
            replace Z := Lib.hid (Z.out.later hb2); clear hb hb2 p0 p1
            have p1 := HE.out.y.cell
            go_wp2_with fail
            have X5 := Lib.hid (ItemAt.new (m := m1) (t := tm) 46 hv1); clear hv1
            generalize wf.alloc _ = wf' at *
            generalize wf.heap.size = g5 at *
            try go_at_call 12
            with_reducible refine (refItem_u m2 t2 _ L2 _ HE.out.vy Y32).mono ?_
            rintro e wg ⟨dA, dn, dc, ⟨rfl, hv1⟩, hb⟩
            have hb2 := bt hb (ba _ (.cells #[.bool m2, .int .i64 t2, .slice dA dn dc] 46))
            replace HE := Lib.hid (HE.out.later hb2)
            replace X := Lib.hid (And.intro (X.out.1.later hb2) (And.intro (X.out.2.1.later hb2) (And.intro (X.out.2.2.1.later hb2) (X.out.2.2.2.later hb2))))
            replace X5 := Lib.hid (X5.out.later hb2)
            replace Z := Lib.hid (Z.out.later hb2); clear hb hb2 p1
            go_upto_region 35 with fail
            have X6 := Lib.hid (ItemAt.new (m := m2) (t := t2) 46 hv1); clear hv1
            generalize wg.alloc _ = wh at *
            generalize wg.heap.size = g6 at *
            go_cut [34] from 178 to 273 (fun bv wx => bv = .bool true ∧ Below wh.heap.size wh wx)
            case first => as_aux_lemma =>
              have kp : ∀ X, Below wh.heap.size wh X → (∀ j, X.cell? ⟨w.heap.size, j, none⟩ = (#[.bool m1, .int .i64 tm, .slice vA vn vc] : Array Value)[j]?) ∧ (∀ j, X.cell? ⟨w.heap.size + 1 + 1, j, none⟩ = (#[.string qn, .slice fA i fc] : Array Value)[j]?) ∧ (∀ j, X.cell? ⟨g5, j, none⟩ = (#[.bool m1, .int .i64 tm, .slice bA bn bc] : Array Value)[j]?) := fun Y hX => ⟨(HE.out.x.later hX).cell, (HE.out.q.later hX).cell, (X5.out.later hX).1.cell⟩
              have S0 := kp _ (Below.refl _ _)
              have cF := Lib.hid (show ∀ X, Below wh.heap.size wh X → Calls Try.prog 13 #[strm qn (.slice fA i fc), ev tm (.slice vA vn vc)] X (fun e w' => e = .returned (.int .i64 (fitsE F' tm L)) ∧ Below X.heap.size X w') from fun Y hX => Fits_any qn _ F' tm _ L _ (HE.out.vf.later hX) (HE.out.vx.later hX) (fun x hx => (R.out.1 x hx).1))
              have rF := Lib.hid (show ∀ X, Below wh.heap.size wh X → Calls Try.prog 14 #[strm qn (.slice qA qn' qc), ev tm (.slice bA bn bc)] X (fun e w' => e = .returned (.int .i64 (fitsE F' tm L)) ∧ Below X.heap.size X w') from fun Y hX => rFits_any qn _ F' tm _ L _ (Z.out.later hX) (X5.out.later hX).2 (fun x hx => (R.out.1 x hx).1))
              have KP := Lib.hid kp; clear kp
              have K := Lib.hid (Below.refl wh.heap.size wh)
              generalize fitsE F' tm L = kf at *
              refine wp_region_noPanic ?_
              go_region_held3 (fun w' => (∀ j, w'.cell? ⟨w.heap.size, j, none⟩ = (#[.bool m1, .int .i64 tm, .slice vA vn vc] : Array Value)[j]?) ∧ (∀ j, w'.cell? ⟨w.heap.size + 1 + 1, j, none⟩ = (#[.string qn, .slice fA i fc] : Array Value)[j]?) ∧ (∀ j, w'.cell? ⟨g5, j, none⟩ = (#[.bool m1, .int .i64 tm, .slice bA bn bc] : Array Value)[j]?)) (exact KP.out _ (by first | exact K.out | exact below_drew K.out)) (first
                | (go_at_call 13; ((with_reducible refine (cF.out _ (by first | exact K.out | exact below_drew K.out)).mono ?_); rintro e w1 ⟨rfl, hb⟩; (first | replace K := Lib.hid (K.out.trans (hb.mono K.out.size)) | replace K := Lib.hid ((below_drew K.out).trans (hb.mono K.out.size))); clear hb))
                | (go_at_call 14; ((with_reducible refine (rF.out _ (by first | exact K.out | exact below_drew K.out)).mono ?_); rintro e w1 ⟨rfl, hb⟩; (first | replace K := Lib.hid (K.out.trans (hb.mono K.out.size)) | replace K := Lib.hid ((below_drew K.out).trans (hb.mono K.out.size))); clear hb)))
              all_goals (refine NoPanic.normal ?_; first | (go_meet; exact ⟨rfl, K.out⟩) | (go_wp2_with fail; go_meet; exact ⟨rfl, K.out⟩))
            case rest =>
              rename World => wi
              obtain ⟨rfl, hb⟩ := hcut
              replace HE := Lib.hid (HE.out.later hb)
              replace X := Lib.hid (And.intro (X.out.1.later hb) (And.intro (X.out.2.1.later hb) (And.intro (X.out.2.2.1.later hb) (X.out.2.2.2.later hb))))
              replace X5 := Lib.hid (X5.out.later hb)
              replace X6 := Lib.hid (X6.out.later hb)
              replace Z := Lib.hid (Z.out.later hb); clear hb
              go_upto_region 36 with fail
              go_cut [35] from 190 to 273 (fun bv wx => bv = .bool true ∧ Below wi.heap.size wi wx)
              case first => as_aux_lemma =>
                have kp : ∀ X, Below wi.heap.size wi X → (∀ j, X.cell? ⟨w.heap.size, j, none⟩ = (#[.bool m1, .int .i64 tm, .slice vA vn vc] : Array Value)[j]?) ∧ (∀ j, X.cell? ⟨w.heap.size + 1, j, none⟩ = (#[.bool m2, .int .i64 t2, .slice A2 n2 c2] : Array Value)[j]?) ∧ (∀ j, X.cell? ⟨g5, j, none⟩ = (#[.bool m1, .int .i64 tm, .slice bA bn bc] : Array Value)[j]?) ∧ (∀ j, X.cell? ⟨g6, j, none⟩ = (#[.bool m2, .int .i64 t2, .slice dA dn dc] : Array Value)[j]?) := fun Y hX => ⟨(HE.out.x.later hX).cell, (HE.out.y.later hX).cell, (X5.out.later hX).1.cell, (X6.out.later hX).1.cell⟩
                have S0 := kp _ (Below.refl _ _)
                have cS := Lib.hid (show ∀ X, Below wi.heap.size wi X → Calls Try.prog 15 #[ev tm (.slice vA vn vc), ev t2 (.slice A2 n2 c2)] X (fun e w' => e = .returned (.bool (decide (tm = t2) && decide (L = L2))) ∧ Below X.heap.size X w') from fun Y hX => Same_any tm _ L t2 _ L2 _ (HE.out.vx.later hX) (HE.out.vy.later hX))
                have rS := Lib.hid (show ∀ X, Below wi.heap.size wi X → Calls Try.prog 16 #[ev tm (.slice bA bn bc), ev t2 (.slice dA dn dc)] X (fun e w' => e = .returned (.bool (decide (tm = t2) && decide (L = L2))) ∧ Below X.heap.size X w') from fun Y hX => rSame_any tm _ L t2 _ L2 _ (X5.out.later hX).2 (X6.out.later hX).2)
                have cT := Lib.hid (show ∀ X, Below wi.heap.size wi X → Calls Try.prog 17 #[item m1 tm (.slice vA vn vc), item m2 t2 (.slice A2 n2 c2)] X (fun e w' => e = .returned (.bool (decide (m1 = m2) && (decide (tm = t2) && decide (L = L2)))) ∧ Below X.heap.size X w') from fun Y hX => SameItem_any m1 tm _ L m2 t2 _ L2 _ (HE.out.vx.later hX) (HE.out.vy.later hX))
                have rT := Lib.hid (show ∀ X, Below wi.heap.size wi X → Calls Try.prog 18 #[item m1 tm (.slice bA bn bc), item m2 t2 (.slice dA dn dc)] X (fun e w' => e = .returned (.bool (decide (m1 = m2) && (decide (tm = t2) && decide (L = L2)))) ∧ Below X.heap.size X w') from fun Y hX => rSameItem_any m1 tm _ L m2 t2 _ L2 _ (X5.out.later hX).2 (X6.out.later hX).2)
                have cU := Lib.hid (show ∀ X, Below wi.heap.size wi X → Calls Try.prog 17 #[item m1 tm (.slice vA vn vc), item m1 tm (.slice vA vn vc)] X (fun e w' => e = .returned (.bool true) ∧ Below X.heap.size X w') from fun Y hX => (SameItem_any m1 tm _ L m1 tm _ L _ (HE.out.vx.later hX) (HE.out.vx.later hX)).mono fun e w' ⟨he, hb⟩ => ⟨he.trans (by simp), hb⟩)
                have KP := Lib.hid kp; clear kp
                have K := Lib.hid (Below.refl wi.heap.size wi)
                generalize (decide (tm = t2) && decide (L = L2)) = k1 at *
                generalize (decide (m1 = m2) && k1) = k2 at *
                refine wp_region_noPanic ?_
                go_region_held3 (fun w' => (∀ j, w'.cell? ⟨w.heap.size, j, none⟩ = (#[.bool m1, .int .i64 tm, .slice vA vn vc] : Array Value)[j]?) ∧ (∀ j, w'.cell? ⟨w.heap.size + 1, j, none⟩ = (#[.bool m2, .int .i64 t2, .slice A2 n2 c2] : Array Value)[j]?) ∧ (∀ j, w'.cell? ⟨g5, j, none⟩ = (#[.bool m1, .int .i64 tm, .slice bA bn bc] : Array Value)[j]?) ∧ (∀ j, w'.cell? ⟨g6, j, none⟩ = (#[.bool m2, .int .i64 t2, .slice dA dn dc] : Array Value)[j]?)) (exact KP.out _ (by first | exact K.out | exact below_drew K.out)) (first
                  | (go_at_call 15; ((with_reducible refine (cS.out _ (by first | exact K.out | exact below_drew K.out)).mono ?_); rintro e w1 ⟨rfl, hb⟩; (first | replace K := Lib.hid (K.out.trans (hb.mono K.out.size)) | replace K := Lib.hid ((below_drew K.out).trans (hb.mono K.out.size))); clear hb))
                  | (go_at_call 16; ((with_reducible refine (rS.out _ (by first | exact K.out | exact below_drew K.out)).mono ?_); rintro e w1 ⟨rfl, hb⟩; (first | replace K := Lib.hid (K.out.trans (hb.mono K.out.size)) | replace K := Lib.hid ((below_drew K.out).trans (hb.mono K.out.size))); clear hb))
                  | (go_at_call 17; ((with_reducible refine (cT.out _ (by first | exact K.out | exact below_drew K.out)).mono ?_); rintro e w1 ⟨rfl, hb⟩; (first | replace K := Lib.hid (K.out.trans (hb.mono K.out.size)) | replace K := Lib.hid ((below_drew K.out).trans (hb.mono K.out.size))); clear hb))
                  | (go_at_call 18; ((with_reducible refine (rT.out _ (by first | exact K.out | exact below_drew K.out)).mono ?_); rintro e w1 ⟨rfl, hb⟩; (first | replace K := Lib.hid (K.out.trans (hb.mono K.out.size)) | replace K := Lib.hid ((below_drew K.out).trans (hb.mono K.out.size))); clear hb))
                  | (go_at_call 17; ((with_reducible refine (cU.out _ (by first | exact K.out | exact below_drew K.out)).mono ?_); rintro e w1 ⟨rfl, hb⟩; (first | replace K := Lib.hid (K.out.trans (hb.mono K.out.size)) | replace K := Lib.hid ((below_drew K.out).trans (hb.mono K.out.size))); clear hb)))
                all_goals (refine NoPanic.normal ?_; first | (go_meet; exact ⟨rfl, K.out⟩) | (go_wp2_with fail; go_meet; exact ⟨rfl, K.out⟩))
              case rest =>
                rename World => wj
                obtain ⟨rfl, hb⟩ := hcut
                replace HE := Lib.hid (HE.out.later hb)
                replace X := Lib.hid (And.intro (X.out.1.later hb) (And.intro (X.out.2.1.later hb) (And.intro (X.out.2.2.1.later hb) (X.out.2.2.2.later hb))))
                replace X5 := Lib.hid (X5.out.later hb)
                replace X6 := Lib.hid (X6.out.later hb)
                replace Z := Lib.hid (Z.out.later hb); clear hb
                go_upto_region 37 with fail
                go_cut [36] from 215 to 273 (fun bv wx => bv = .bool true ∧ Below wj.heap.size wj wx)
                case first => as_aux_lemma =>
                  have kp : ∀ X, Below wj.heap.size wj X → (∀ j, X.cell? ⟨g1, j, none⟩ = (#[.bool mg, .int .i64 tg, .slice gA gn gc] : Array Value)[j]?) ∧ (∀ j, X.cell? ⟨g2, j, none⟩ = (#[.bool mg, .int .i64 tg, .slice hA hn hc] : Array Value)[j]?) ∧ (∀ j, X.cell? ⟨g3, j, none⟩ = (#[.int .i64 te, .slice eA en ec] : Array Value)[j]?) ∧ (∀ j, X.cell? ⟨g4, j, none⟩ = (#[.int .i64 te, .slice rA rn rc] : Array Value)[j]?) := fun Y hX => ⟨(X.out.1.later hX).1.cell, (X.out.2.1.later hX).1.cell, (X.out.2.2.1.later hX).1.cell, (X.out.2.2.2.later hX).1.cell⟩
                  have S0 := kp _ (Below.refl _ _)
                  have KP := Lib.hid kp; clear kp
                  have K := Lib.hid (Below.refl wj.heap.size wj)
                  have lgl : lg.length * 32 ≤ 140737488355328 := by have h6 : lg.length ≤ 6 := isG_lenI G.out.1; omega
                  have lel : le_.length * 32 ≤ 140737488355328 := by have h6 : le_.length ≤ 6 := isG_lenE G.out.2.1; omega
                  refine wp_region_noPanic ?_
                  go_region_held3 (fun w' => (∀ j, w'.cell? ⟨g1, j, none⟩ = (#[.bool mg, .int .i64 tg, .slice gA gn gc] : Array Value)[j]?) ∧ (∀ j, w'.cell? ⟨g2, j, none⟩ = (#[.bool mg, .int .i64 tg, .slice hA hn hc] : Array Value)[j]?) ∧ (∀ j, w'.cell? ⟨g3, j, none⟩ = (#[.int .i64 te, .slice eA en ec] : Array Value)[j]?) ∧ (∀ j, w'.cell? ⟨g4, j, none⟩ = (#[.int .i64 te, .slice rA rn rc] : Array Value)[j]?)) (exact KP.out _ (by first | exact K.out | exact below_drew K.out)) (first
                    | (go_at_call 12; ((with_reducible refine (refItem_u mg tg _ lg _ (X.out.1.later (by first | exact K.out | exact below_drew K.out)).v lgl).mono ?_); rintro e w1 ⟨iA, inn, ic, ⟨rfl, hv1⟩, hb⟩; (first | replace K := Lib.hid (K.out.trans (hb.mono K.out.size)) | replace K := Lib.hid ((below_drew K.out).trans (hb.mono K.out.size))); have M := Lib.hid hv1; clear hb hv1))
                    | (go_at_call 19; ((with_reducible refine (ref_u te _ le_ _ (X.out.2.2.1.later (by first | exact K.out | exact below_drew K.out)).v lel).mono ?_); rintro e w1 ⟨iA, inn, ic, ⟨rfl, hv1⟩, hb⟩; (first | replace K := Lib.hid (K.out.trans (hb.mono K.out.size)) | replace K := Lib.hid ((below_drew K.out).trans (hb.mono K.out.size))); have M2 := Lib.hid hv1; clear hb hv1))
                    | (go_at_call 18; ((with_reducible refine (rsameI_true mg tg lg _ _ _ (by first | exact M.out | exact M.out.later (below_drew (Below.refl _ _))) (X.out.2.1.later (by first | exact K.out | exact below_drew K.out)).v).mono ?_); rintro e w1 ⟨rfl, hb⟩; (first | replace K := Lib.hid (K.out.trans (hb.mono K.out.size)) | replace K := Lib.hid ((below_drew K.out).trans (hb.mono K.out.size))); clear hb))
                    | (go_at_call 16; ((with_reducible refine (rsame_true te le_ _ _ _ (by first | exact M2.out | exact M2.out.later (below_drew (Below.refl _ _))) (X.out.2.2.2.later (by first | exact K.out | exact below_drew K.out)).v).mono ?_); rintro e w1 ⟨rfl, hb⟩; (first | replace K := Lib.hid (K.out.trans (hb.mono K.out.size)) | replace K := Lib.hid ((below_drew K.out).trans (hb.mono K.out.size))); clear hb)))
                  all_goals (refine NoPanic.normal ?_; first | (go_meet; exact ⟨rfl, K.out⟩) | (go_wp2_with fail; go_meet; exact ⟨rfl, K.out⟩))
                case rest =>
                  rename World => wk
                  obtain ⟨rfl, hb⟩ := hcut
                  replace HE := Lib.hid (HE.out.later hb)
                  replace X := Lib.hid (And.intro (X.out.1.later hb) (And.intro (X.out.2.1.later hb) (And.intro (X.out.2.2.1.later hb) (X.out.2.2.2.later hb))))
                  replace X5 := Lib.hid (X5.out.later hb)
                  replace X6 := Lib.hid (X6.out.later hb)
                  replace Z := Lib.hid (Z.out.later hb); clear hb
                  go_upto_region 38 with fail
                  go_cut [16] from 235 to 273 (fun bv wx => bv = .bool true ∧ Below wk.heap.size wk wx)
                  case first => as_aux_lemma =>
                    have kp : ∀ X, Below wk.heap.size wk X → (∀ j, X.cell? ⟨w.heap.size, j, none⟩ = (#[.bool m1, .int .i64 tm, .slice vA vn vc] : Array Value)[j]?) ∧ (∀ j, X.cell? ⟨g5, j, none⟩ = (#[.bool m1, .int .i64 tm, .slice bA bn bc] : Array Value)[j]?) := fun Y hX => ⟨(HE.out.x.later hX).cell, (X5.out.later hX).1.cell⟩
                    have S0 := kp _ (Below.refl _ _)
                    have cP := Lib.hid (show ∀ X, Below wk.heap.size wk X → Calls Try.prog 20 #[ev tm (.slice vA vn vc)] X (fun e w' => e = .returned (.bool (Ev.plain tm L)) ∧ Below X.heap.size X w') from fun Y hX => Plain_any tm _ L _ (HE.out.vx.later hX) (fun x hx => (R.out.1 x hx).1))
                    have rP := Lib.hid (show ∀ X, Below wk.heap.size wk X → Calls Try.prog 21 #[ev tm (.slice bA bn bc)] X (fun e w' => e = .returned (.bool (Ev.plain tm L)) ∧ Below X.heap.size X w') from fun Y hX => rPlain_any tm _ L _ (X5.out.later hX).2 (fun x hx => (R.out.1 x hx).1))
                    have cR := Lib.hid (show ∀ X, Below wk.heap.size wk X → Calls Try.prog 22 #[item m1 tm (.slice vA vn vc)] X (fun e w' => e = .returned (.bool (Ev.rightI m1 tm L)) ∧ Below X.heap.size X w') from fun Y hX => Right_i m1 tm _ L _ (HE.out.vx.later hX) (fun x hx => (R.out.1 x hx).1))
                    have rR := Lib.hid (show ∀ X, Below wk.heap.size wk X → Calls Try.prog 23 #[item m1 tm (.slice bA bn bc)] X (fun e w' => e = .returned (.bool (Ev.rightI m1 tm L)) ∧ Below X.heap.size X w') from fun Y hX => rRight_i m1 tm _ L _ (X5.out.later hX).2 (fun x hx => (R.out.1 x hx).1))
                    have rI := Lib.hid (show ∀ X, Below wk.heap.size wk X → Calls Try.prog 24 #[item m1 tm (.slice bA bn bc)] X (fun e w' => e = .returned (.string Sa) ∧ Below X.heap.size X w') from fun Y hX => P.out.2.2.1 _ _ (X5.out.later hX).2)
                    have rE := Lib.hid (show ∀ X, Below wk.heap.size wk X → Calls Try.prog 25 #[ev tm (.slice bA bn bc)] X (fun e w' => e = .returned (.string St) ∧ Below X.heap.size X w') from fun Y hX => P.out.2.2.2 _ _ (X5.out.later hX).2)
                    have KP := Lib.hid kp; clear kp
                    have K := Lib.hid (Below.refl wk.heap.size wk)
                    generalize Ev.plain tm L = k1 at *
                    generalize Ev.rightI m1 tm L = k2 at *
                    refine wp_region_noPanic ?_
                    go_region_held3 (fun w' => (∀ j, w'.cell? ⟨w.heap.size, j, none⟩ = (#[.bool m1, .int .i64 tm, .slice vA vn vc] : Array Value)[j]?) ∧ (∀ j, w'.cell? ⟨g5, j, none⟩ = (#[.bool m1, .int .i64 tm, .slice bA bn bc] : Array Value)[j]?)) (exact KP.out _ (by first | exact K.out | exact below_drew K.out)) (first
                      | (go_at_call 20; ((with_reducible refine (cP.out _ (by first | exact K.out | exact below_drew K.out)).mono ?_); rintro e w1 ⟨rfl, hb⟩; (first | replace K := Lib.hid (K.out.trans (hb.mono K.out.size)) | replace K := Lib.hid ((below_drew K.out).trans (hb.mono K.out.size))); clear hb))
                      | (go_at_call 21; ((with_reducible refine (rP.out _ (by first | exact K.out | exact below_drew K.out)).mono ?_); rintro e w1 ⟨rfl, hb⟩; (first | replace K := Lib.hid (K.out.trans (hb.mono K.out.size)) | replace K := Lib.hid ((below_drew K.out).trans (hb.mono K.out.size))); clear hb))
                      | (go_at_call 22; ((with_reducible refine (cR.out _ (by first | exact K.out | exact below_drew K.out)).mono ?_); rintro e w1 ⟨rfl, hb⟩; (first | replace K := Lib.hid (K.out.trans (hb.mono K.out.size)) | replace K := Lib.hid ((below_drew K.out).trans (hb.mono K.out.size))); clear hb))
                      | (go_at_call 23; ((with_reducible refine (rR.out _ (by first | exact K.out | exact below_drew K.out)).mono ?_); rintro e w1 ⟨rfl, hb⟩; (first | replace K := Lib.hid (K.out.trans (hb.mono K.out.size)) | replace K := Lib.hid ((below_drew K.out).trans (hb.mono K.out.size))); clear hb))
                      | (go_at_call 24; ((with_reducible refine (rI.out _ (by first | exact K.out | exact below_drew K.out)).mono ?_); rintro e w1 ⟨rfl, hb⟩; (first | replace K := Lib.hid (K.out.trans (hb.mono K.out.size)) | replace K := Lib.hid ((below_drew K.out).trans (hb.mono K.out.size))); clear hb))
                      | (go_at_call 25; ((with_reducible refine (rE.out _ (by first | exact K.out | exact below_drew K.out)).mono ?_); rintro e w1 ⟨rfl, hb⟩; (first | replace K := Lib.hid (K.out.trans (hb.mono K.out.size)) | replace K := Lib.hid ((below_drew K.out).trans (hb.mono K.out.size))); clear hb)))
                    all_goals (refine NoPanic.normal ?_; first | (go_meet; exact ⟨rfl, K.out⟩) | (go_wp2_with fail; go_meet; exact ⟨rfl, K.out⟩))
                  case rest =>
                    rename World => wl
                    obtain ⟨rfl, hb⟩ := hcut
                    replace HE := Lib.hid (HE.out.later hb)
                    replace X := Lib.hid (And.intro (X.out.1.later hb) (And.intro (X.out.2.1.later hb) (And.intro (X.out.2.2.1.later hb) (X.out.2.2.2.later hb))))
                    replace X5 := Lib.hid (X5.out.later hb)
                    replace X6 := Lib.hid (X6.out.later hb)
                    replace Z := Lib.hid (Z.out.later hb); clear hb
                    have b9 := HE.out.b; clear HE X X5 X6 Z
                    go_wp2_with fail
                    go_ret
                    exact ⟨rfl, b9⟩
end Go.Proofs.Ytbmkbpehkpdcmaa
