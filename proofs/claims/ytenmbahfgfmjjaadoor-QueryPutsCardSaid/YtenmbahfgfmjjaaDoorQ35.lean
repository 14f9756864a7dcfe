/- Texts that several proofs stand on, part 35. -/
import Derived.Test.YtenmbahfgfmjjaaDoorQ34
import Derived.Test.YtenmbahfgfmjjaaDoorQ22
import Derived.Deep.DeepCutAuto
import Derived.Deep.CutBlock
import Derived.OwnWalk
namespace Go.Proofs.YtenmbahfgfmjjaaDoor
open Go.ChangeShapes Go.WideShapes Go.ChangeAt Go.RowKit
set_option linter.unusedVariables false
set_option linter.unusedSimpArgs false

theorem fv_new (w : World) (lv : Value) (L : List UInt8) (h : BytesAt w lv L) : FV w (w.heap.size + 1) [] (.slice none 0 0) 0 lv L ((w.alloc (.cells zQ 27)).alloc (.cells #[lv, .int .i64 0, .slice none 0 0, .int .i64 0] 50)) := by
  refine ⟨bt (ba _ _) (ba _ _), by omega, h, ⟨0, Nat.zero_le _, ?_⟩, ⟨Own.nil _ _ _ _ _, by simp⟩, fun x hx => by simp at hx⟩
  have e : (w.alloc (.cells zQ 27)).heap.size = w.heap.size + 1 := World.size_alloc _ _
  rw [← e]
  exact Blk.new (w.alloc (.cells zQ 27)) 50 (fV lv 0 (.slice none 0 0) 0)
/-- A first Part is told and stored. -/
theorem AK.first {w0 W : World} {g qb : Nat} {vv lv : Value} {vl : List Sl} {L : List UInt8} {nm : ByteArray} {st : Bool} {wi : Int} {by_ : ByteArray} (hF : FV w0 g vl vv 0 lv L W) (hvl : vl = []) (hq : Blk W qb 27 #[.string nm, .bool st, .slice none 0 0, .int .i64 wi, .string by_, .slice none 0 0]) (hg : g < qb) (hr : Blk W w0.heap.size 27 zQ) (hrg : w0.heap.size < g) :
    AK w0 g qb [] [] vl vv lv L nm st wi by_ (.slice none 0 0) (.slice none 0 0) W := by
  subst hvl
  exact ⟨hF, hq, hg, Own.nil _ _ _ _ _, fun x hx => by simp at hx, rfl, fun x hx => by simp at hx, fun _ x hx => by simp at hx, fun x hx => by simp at hx, by simp, fun h => by simp at h, hr, hrg⟩
abbrev setO (W : World) (b : Nat) (x1 x2 x3 x4 x5 x6 x7 x8 : Value) : World := (((((((W.setCell ⟨b, 1, none⟩ x1).setCell ⟨b, 2, none⟩ x2).setCell ⟨b, 3, none⟩ x3).setCell ⟨b, 4, none⟩ x4).setCell ⟨b, 5, none⟩ x5).setCell ⟨b, 6, none⟩ x6).setCell ⟨b, 7, none⟩ x7).setCell ⟨b, 8, none⟩ x8
theorem setO_gb (W : World) (b : Nat) (x1 x2 x3 x4 x5 x6 x7 x8 : Value) : GB b W (setO W b x1 x2 x3 x4 x5 x6 x7 x8) :=
  gb_trans (gb_trans (gb_trans (gb_trans (gb_trans (gb_trans (gb_trans (gb_set W 1 x1) (gb_set _ 2 x2)) (gb_set _ 3 x3)) (gb_set _ 4 x4)) (gb_set _ 5 x5)) (gb_set _ 6 x6)) (gb_set _ 7 x7)) (gb_set _ 8 x8)
theorem gb_off {g b : Nat} {w W W' : World} (h : GB g w W) (hb : w.heap.size ≤ b) (h2 : GB b W W') : GB g w W' :=
  ⟨h2.os.trans h.os, h2.tape.trans h.tape, h2.output.trans h.output, Nat.le_trans h.size h2.size, fun k hk hn => (h2.block k (by have := h.size; omega) (fun e => by have := Option.some.inj e; omega)).trans (h.block k hk hn)⟩
theorem out_end {w0 wr w6 : World} {g many ob B : Nat} {vl : List Sl} {vv lv : Value} {L : List UInt8} {fn : ByteArray} {a1 a2 a3 a4 a5 a6 a7 a8 : Value} (hF : FV w0 g vl vv many lv L wr) (hF6 : FV w0 g vl vv many lv L w6) (hG6 : GB g wr w6) (ho6 : Blk w6 ob 45 #[.string fn, a1, a2, a3, a4, a5, a6, a7, a8]) (hob : wr.heap.size < ob) (hB : ob < B)
    {t : Tr} {K : Value} {k : Int} {op : ByteArray} {vk vn : Int} {vs va f : ByteArray} {kd : Value} (hT : TrF B w6 t K) (ho : t.ok = true) (hs : t.smd 1) (hnd : t.node K = (k, op, vk, vn, vs, va, f, kd)) :
    ∃ (t : Tr) (K : Value), Blk (setO w6 ob (.int .i64 k) (.string op) (.int .i64 vk) (.int .i64 vn) (.string vs) (.string va) (.string f) kd) ob 45 (otF (⟨fn, t⟩, K)).toArray ∧ TrF (ob + 1) (setO w6 ob (.int .i64 k) (.string op) (.int .i64 vk) (.int .i64 vn) (.string vs) (.string va) (.string f) kd) t K ∧ t.ok = true ∧ t.smd 1 ∧
      FV w0 g vl vv many lv L (setO w6 ob (.int .i64 k) (.string op) (.int .i64 vk) (.int .i64 vn) (.string vs) (.string va) (.string f) kd) ∧ GB g wr (setO w6 ob (.int .i64 k) (.string op) (.int .i64 vk) (.int .i64 vn) (.string vs) (.string va) (.string f) kd) := by
  have h2 := setO_gb w6 ob (.int .i64 k) (.string op) (.int .i64 vk) (.int .i64 vn) (.string vs) (.string va) (.string f) kd
  have hG := gb_off hG6 (by omega) h2
  obtain ⟨at_, ha, hg⟩ := hF6.2.2.2.1
  obtain ⟨_, _, hg0⟩ := hF.2.2.2.1
  have hgl := hg0.lt
  refine ⟨t, K, ?_, (hT.grown h2 hB).mono (by omega), ho, hs, hF.grown hG at_ ha (hg.grown h2 (fun e => by have := Option.some.inj e; omega)), hG⟩
  have hb := (((((((ho6.set_ 1 (.int .i64 k)).set_ 2 (.string op)).set_ 3 (.int .i64 vk)).set_ 4 (.int .i64 vn)).set_ 5 (.string vs)).set_ 6 (.string va)).set_ 7 (.string f)).set_ 8 kd
  have e : (otF ((⟨fn, t⟩ : Ot), K)).toArray = #[.string fn, .int .i64 k, .string op, .int .i64 vk, .int .i64 vn, .string vs, .string va, .string f, kd] := by simp only [otF, exF, hnd]
  rw [e]
  simpa using hb
theorem at_newOy (w : World) (y : OyA) : At (w.alloc (.cells (otA y).toArray 45)) 9 otA (.slice (some ⟨w.heap.size, 0, none⟩) 1 1) [y] :=
  at_of_blk (k := 9) (f := otA) (fun _ => rfl) [y] (Blk.new _ _ _) rfl (by unfold maxLen; omega) (by simp)
abbrev set6 (W : World) (b : Nat) (x0 x1 x2 x3 x4 x5 : Value) : World := (((((W.setCell ⟨b, 0, none⟩ x0).setCell ⟨b, 1, none⟩ x1).setCell ⟨b, 2, none⟩ x2).setCell ⟨b, 3, none⟩ x3).setCell ⟨b, 4, none⟩ x4).setCell ⟨b, 5, none⟩ x5
theorem set6_gb (W : World) (b : Nat) (x0 x1 x2 x3 x4 x5 : Value) : GB b W (set6 W b x0 x1 x2 x3 x4 x5) :=
  gb_trans (gb_trans (gb_trans (gb_trans (gb_trans (gb_set W 0 x0) (gb_set _ 1 x1)) (gb_set _ 2 x2)) (gb_set _ 3 x3)) (gb_set _ 4 x4)) (gb_set _ 5 x5)
/-- The query that was made stays when the answer is stored. -/
theorem AO.told {w0 W W1 : World} {g qb M lb : Nat} {s : Sl} {ps : List Px} {os : List OyA} {vl : List Sl} {vv lv : Value} {L : List UInt8} {nm : ByteArray} {st : Bool} {wi : Int} {by_ : ByteArray} {pv ov : Value} (h : AO w0 g qb M lb s ps os vl vv lv L nm st wi by_ pv ov W) (hb : GB w0.heap.size W W1) (hn : nm.size ≤ maxLen) (hy : by_.size ≤ maxLen) (hf : ∀ y ∈ os, y.1.f.size ≤ maxLen) :
    QyAt W1 pv ov ⟨nm, st, ps.map (·.1), wi, by_, os.map (·.1)⟩ := by
  have hgq := h.gq
  have hqM := h.qM
  have hrg := h.rg
  have hsz := h.sz
  refine ⟨⟨ps, (h.pown.grown hb (fun b hb' e => by have := Option.some.inj hb'; have := (ownBI h.pown e).1; omega)).at_ (f := ptF) (k := 5) (fun _ => rfl), rfl, fun x hx => ?_⟩, ⟨os.map (fun x => (x.1, Go.Proofs.YtenmbahfgfmjjaaDoor.sl x.2)), at_mapA ((h.oown.grown hb (fun b hb' e => by have := Option.some.inj hb'; have := (ownBI h.oown e).1; omega)).at_ (f := otA) (k := 9) (fun x => rfl)), by rw [List.map_map]; rfl, fun z hz => ?_⟩, hn, hy⟩
  · obtain ⟨B, N, h1, h2, h3⟩ := h.inn x hx
    exact h3 W1 (fun k hk hk2 => hb.block k (by omega) (fun e => by have := Option.some.inj e; omega))
  · obtain ⟨y, hy, rfl⟩ := List.mem_map.1 hz
    obtain ⟨B, N, h1, h2, h3, h4, _⟩ := h.otr y hy
    exact ⟨h4 W1 (fun k hk hk2 => hb.block k (by omega) (fun e => by have := Option.some.inj e; omega)), hf y hy⟩
def nfk (k : Nat) : ByteArray := [nK, nX].getD k ⟨#[]⟩
theorem nfk_cell {w : World} {b : Nat} {t : TypeId} (h : Blk w b t #[.string nK, .string nX]) (k : Nat) (hk : k < 2) : w.cell? ⟨b, k, none⟩ = some (.string (nfk k)) := by
  rw [h.cell k]
  rcases (by omega : k = 0 ∨ k = 1) with rfl | rfl <;> rfl
theorem first_grown (w : World) (o : Obj) : w.grownBy (w.alloc o) (Value.ownBlock (.slice none 0 0)) := ⟨rfl, rfl, rfl, by simp, fun k hk _ => heap_alloc_old w o hk⟩
theorem first_own (w : World) (x : Px) (B : Nat) (hB : B ≤ w.heap.size) : Own (w.alloc (.cells #[.bool x.1.nt, .bool x.1.pl, sl x.2.1, .string x.1.v, sl x.2.2] 37)) B 37 5 ptF (.slice (some ⟨w.heap.size, 0, none⟩) 1 1) ([] ++ [x]) := by
  have h := World.ownsRow_lit w (e := 37) #[.bool x.1.nt, .bool x.1.pl, sl x.2.1, .string x.1.v, sl x.2.2] 1 hB (by unfold maxLen; omega) (show _ = 1 * 5 from rfl)
  simpa [Own] using h
/-- What is asked of what is asked for. -/
def AskQ (nm : ByteArray) (most : Nat) (q : Qy) : Prop :=
  q.nm = nm ∧ 1 ≤ q.ps.length ∧ q.ps.length ≤ most ∧ (q.by_ = ⟨#[]⟩ ∨ q.by_ = nK) ∧ (0 ≤ q.wi ∧ q.wi ≤ 8) ∧ q.os.length ≤ 2 ∧
  q.ps.map (·.v) = (List.range q.ps.length).map nm8 ∧ (∀ p ∈ q.ps, partB p = true ∧ (∀ s ∈ p.ss, s ∈ q3) ∧ ∀ t ∈ p.pd, Sm t) ∧
  (q.st = true → ∀ p ∈ q.ps, p.nt = false) ∧ (∀ p, q.ps.head? = some p → p.nt = false) ∧ q.os.map (·.f) = [nK, nX].take q.os.length ∧ ∀ o ∈ q.os, Sm o.e
theorem AO.ask {w0 W : World} {g qb M lb : Nat} {s : Sl} {ps : List Px} {os : List OyA} {vl : List Sl} {vv lv : Value} {L : List UInt8} {nm : ByteArray} {st : Bool} {wi : Int} {by_ : ByteArray} {pv ov : Value} {most : Nat} (h : AO w0 g qb M lb s ps os vl vv lv L nm st wi by_ pv ov W)
    (h1 : 1 ≤ ps.length) (h2 : ps.length ≤ most) (hy : by_ = ⟨#[]⟩ ∨ by_ = nK) (hw : 0 ≤ wi ∧ wi ≤ 8) (ho : os.length ≤ 2) (hf : os.map (·.1.f) = [nK, nX].take os.length) (hs : ∀ y ∈ os, Sm y.1.e) : AskQ nm most ⟨nm, st, ps.map (·.1), wi, by_, os.map (·.1)⟩ := by
  refine ⟨rfl, by simpa using h1, by simpa using h2, hy, hw, by simpa using ho, ?_, fun p hp => ?_, fun hst p hp => ?_, fun p hp => ?_, ?_, fun o ho => ?_⟩
  · have := h.vs
    simp only [List.map_map, List.length_map]
    exact this
  · obtain ⟨x, hx, rfl⟩ := List.mem_map.1 hp
    exact h.ok x hx
  · obtain ⟨x, hx, rfl⟩ := List.mem_map.1 hp
    exact h.nn hst x hx
  · simp only [List.head?_map] at hp
    obtain ⟨x, hx, rfl⟩ := Option.map_eq_some_iff.1 hp
    exact h.hd x hx
  · simp only [List.map_map, List.length_map]
    exact hf
  · obtain ⟨y, hy, rfl⟩ := List.mem_map.1 ho
    exact hs y hy

set_option maxRecDepth 20000 in
set_option maxHeartbeats 8000000 in
theorem asked_any (nm : ByteArray) (lv : Value) (L : List UInt8) (most : Nat) (w : World) (hL : L.length ≤ 140737488351232) (hl : BytesAt w lv L) (hn : nm.size ≤ maxLen) (hm1 : 1 ≤ most) (hm8 : most ≤ 8) :
    Calls Tryd.prog 8 #[.string nm, lv, .int .i64 (most : Nat)] w fun e w' => ∃ (q : Qy) (pv ov : Value), e = .returned (qv q pv ov) ∧ QyAt w' pv ov q ∧ Below w.heap.size w w' ∧ AskQ nm most q := by
  have hF0 := fv_new w lv L hl
  obtain ⟨lA, ln, lc, rfl⟩ : ∃ A n c, lv = .slice A n c := by
    rcases hl with ⟨rfl, _⟩ | ⟨a, cap, rfl, _⟩
    · exact ⟨_, _, _, rfl⟩
    · exact ⟨_, _, _, rfl⟩
  obtain rfl : ln = L.length := by
    rcases hl with ⟨e, h⟩ | ⟨a, cap, e, _⟩
    · simp only [Value.slice.injEq] at e; rw [h]; exact e.2.1
    · simp only [Value.slice.injEq] at e; exact e.2.1
  obtain ⟨g, hg⟩ : ∃ g, g = w.heap.size + 1 := ⟨_, rfl⟩
  obtain ⟨W0, hW0⟩ : ∃ W0, W0 = ((w.alloc (.cells zQ 27)).alloc (.cells #[.slice lA L.length lc, .int .i64 0, .slice none 0 0, .int .i64 0] 50)) := ⟨_, rfl⟩
  have hr0 : Blk W0 w.heap.size 27 zQ := by rw [hW0]; exact (Blk.new w _ _).alloc _
  have hr1 : w.heap.size ≠ g := by omega
  have hlg : w.heap.size < g := by omega
  rw [← hW0, ← hg] at hF0
  have cN := next_fv w g [] (.slice none 0 0) 0 (.slice lA L.length lc) L W0 hL hF0
  have K0 := Lib.hid (And.intro hF0 (And.intro hr0 (And.intro hr1 hlg))); clear hF0 hr0 hr1 hlg
  have CN := Lib.hid cN; clear cN hl
  have HM := Lib.hid (And.intro hm1 hm8); clear hm1 hm8
  have HN := Lib.hid hn; clear hn
  go_enter Tryd.func8, Tryd.ntmps8
  go_wp2_with fail
  try rw [← hW0]
  try rw [← hg]
  clear hg hW0
  try go_at_call 15
  refine CN.out.mono ?_
  rintro e w1 ⟨⟨b, hb255, rfl⟩, hF1, hg1⟩
  have cN := next_fv w g [] (.slice none 0 0) 0 (.slice lA L.length lc) L w1 hL hF1
  have hr1 := K0.out.2.1.grown hg1 (fun e => K0.out.2.2.1 (by have := Option.some.inj e; omega))
  have K1 := Lib.hid (And.intro hF1 (And.intro hr1 K0.out.2.2)); clear hF1 hr1 hg1 K0 CN
  have CN := Lib.hid cN; clear cN
  go_wp2_with fail
  try go_at_call 15
  refine CN.out.mono ?_
  rintro e w2 ⟨⟨b2, hb2, rfl⟩, hF2, hg2⟩
  have hr2 := K1.out.2.1.grown hg2 (fun e => K1.out.2.2.1 (by have := Option.some.inj e; omega))
  have hgl : g < w2.heap.size := by obtain ⟨_, _, h⟩ := hF2.2.2.2.1; exact h.lt
  have K2 := Lib.hid (And.intro hF2 (And.intro hr2 K1.out.2.2)); clear hF2 hr2 hg2 K1 CN
  go_upto_if 30 with fail
  obtain ⟨st, hst⟩ : ∃ st, st = ((b : Int) % 8 == 0) := ⟨_, rfl⟩
  obtain ⟨wi, hwi⟩ : ∃ wi, wi = (b2 : Int) % 9 := ⟨_, rfl⟩
  have hwi2 : 0 ≤ wi ∧ wi ≤ 8 := by omega
  rw [← hst, ← hwi]
  obtain ⟨W3, hW3⟩ : ∃ W3, W3 = w2.alloc (.cells #[.string nm, .bool st, .slice none 0 0, .int .i64 wi, .string ⟨#[]⟩, .slice none 0 0] 27) := ⟨_, rfl⟩
  rw [← hW3]
  have hq3 := Blk.new w2 27 #[.string nm, .bool st, .slice none 0 0, .int .i64 wi, .string ⟨#[]⟩, .slice none 0 0]
  have bq3 := ba w2 (.cells #[.string nm, .bool st, .slice none 0 0, .int .i64 wi, .string ⟨#[]⟩, .slice none 0 0] 27)
  rw [← hW3] at hq3 bq3
  obtain ⟨qb, hqb⟩ : ∃ qb, qb = w2.heap.size := ⟨_, rfl⟩
  rw [← hqb] at hq3 hgl ⊢
  have y1 := hq3.cell
  have y2 := hq3.frozen
  have y3 := hq3.lt
  have hF3 := K2.out.1.go bq3
  have hr3 := K2.out.2.1.later bq3
  have hG3 : GB g w2 W3 := gb_of bq3
  have K3 := Lib.hid (And.intro hF3 (And.intro hr3 (And.intro hq3 (And.intro K2.out.2.2 (And.intro hwi2 (And.intro K2.out.1 (And.intro hG3 hqb))))))); clear hF3 hr3 hq3 hwi2 hW3 bq3 hst hwi K2 hG3 hqb
  go_cut [] (fun wx => ∃ by_ : ByteArray, (by_ = ⟨#[]⟩ ∨ by_ = nK) ∧ FV w g [] (.slice none 0 0) 0 (.slice lA L.length lc) L wx ∧ Blk wx w.heap.size 27 zQ ∧ Blk wx qb 27 #[.string nm, .bool st, .slice none 0 0, .int .i64 wi, .string by_, .slice none 0 0])
  case first =>
    by_cases hq : (b : Int) / 8 % 2 = 0
    · go_wp2_with fail
      go_meet
      refine ⟨nK, Or.inr rfl, fv_put K3.out.1 K3.out.2.2.2.2.2.2.1 K3.out.2.2.2.2.2.1 ⟨qb, 4, none⟩ (by show w2.heap.size ≤ qb; rw [K3.out.2.2.2.2.2.2.2]; exact Nat.le_refl _) _, K3.out.2.1.far (p := ⟨qb, 4, none⟩) (by show w.heap.size ≠ qb; have := K3.out.2.2.2.1.2; omega) _, ?_⟩
      have := K3.out.2.2.1.set_ 4 (.string nK)
      simpa using this
    · have hq' : ((b : Int) / 8 % 2 == 0) = false := by simpa using hq
      go_wp2_with fail
      go_meet
      exact ⟨⟨#[]⟩, Or.inl rfl, K3.out.1, K3.out.2.1, K3.out.2.2.1⟩
  case rest =>
    obtain ⟨by_, hby, hF4, hr4, hq4⟩ := hcut
    have hA0 := AK.first hF4 rfl hq4 hgl hr4 K3.out.2.2.2.1.2
    have cP := part_any w g [] (.slice none 0 0) 0 (.slice lA L.length lc) L wc false hL (by decide) (by decide) hF4
    have K4 := Lib.hid (And.intro hA0 (And.intro hby K3.out.2.2.2.2.1)); clear hA0 hby hF4 hr4 hq4 y1 y2 y3 K3
    have CP := Lib.hid cP; clear cP
    go_wp2_with fail
    try go_at_call 16
    refine CP.out.mono ?_
    rintro e w5 hP
    obtain ⟨x, vl, vv, rfl, hA5, hs5⟩ := K4.out.1.part (nt := false) (fun e => by cases e) hP
    have y1 := hA5.q.cell
    have y2 := hA5.q.frozen
    have y3 := hA5.q.lt
    have HB := Lib.hid hA5; clear hA5 hP CP
    go_upto_region 7 with fail
    rw [← World.setCell_alloc_past _ _ _ _ y3]
    have hA6 := HB.out.push (pv' := .slice (some ⟨w5.heap.size, 0, none⟩) 1 1) (Wb := w5) (W7 := w5.alloc (.cells #[.bool x.1.nt, .bool x.1.pl, sl x.2.1, .string x.1.v, sl x.2.2] 37)) (Below.refl _ _) (first_grown _ _) (first_own _ _ _ (by omega)) (Or.inr rfl)
    obtain ⟨W6, hW6⟩ : ∃ W6, W6 = (w5.alloc (.cells #[.bool x.1.nt, .bool x.1.pl, sl x.2.1, .string x.1.v, sl x.2.2] 37)).setCell ⟨qb, 2, none⟩ (.slice (some ⟨w5.heap.size, 0, none⟩) 1 1) := ⟨_, rfl⟩
    rw [← hW6] at hA6 ⊢
    have K6 := Lib.hid hA6; clear hA6 hW6 y1 y2 y3 HB hs5
    go_wp2_with fail
    go_loopw [10] (fun iv wr => ∃ (i : Nat) (ps : List Px) (vl : List Sl) (vv pv : Value), iv = .int .i64 (i : Int) ∧ AK w g qb ps ps vl vv (.slice lA L.length lc) L nm st wi by_ pv (.slice none 0 0) wr ∧ ps.length = i ∧ 1 ≤ i ∧ i ≤ most) (fun iv _ => most - (intOf iv).toNat)
    case atStart => exact ⟨1, [x], vl, vv, _, rfl, K6.out, rfl, Nat.le_refl _, HM.out.1⟩
    case round =>
      rename World => wr
      clear K6
      obtain ⟨i, ps, vl, vv, pv, rfl, hA, hpi, hi1, him⟩ := hrel
      have hAA := hA
      obtain ⟨at_, ha, hg⟩ := hA.fv.2.2.2.1
      have c0 := hg.cell 0
      have c1 := hg.cell 1
      simp only [fV, List.getElem?_toArray, List.getElem?_cons_succ, List.getElem?_cons_zero] at c0 c1
      have hm8 := HM.out.2
      have U := Lib.hid (And.intro hA hpi); clear hA hAA hpi hg
      go_upto_region 8 with fail
      go_cut [50] from 36 to 62 (fun bv wx => ∃ bb : Bool, bv = .bool bb ∧ (bb = true → i < most) ∧ Below wr.heap.size wr wx)
      case first =>
        by_cases hlt : i < most
        · have hlt' : (i : Int) < (most : Int) := by omega
          have d1 : decide ((i : Int) < (most : Int)) = true := decide_eq_true hlt'
          have d1n : decide (i < most) = true := decide_eq_true hlt
          go_quiet (fail)
          go_wp2_with fail
          go_meet
          exact ⟨decide (at_ < L.length), rfl, fun _ => hlt, below_drewN (Below.refl _ _) _⟩
        · have d1 : decide ((i : Int) < (most : Int)) = false := decide_eq_false (by omega)
          have d1n : decide (i < most) = false := decide_eq_false hlt
          go_quiet (fail)
          go_wp2_with fail
          go_meet
          exact ⟨false, rfl, by simp, below_drewN (Below.refl _ _) _⟩
      case rest =>
        obtain ⟨bb, rfl, hbb, hbw⟩ := hcut
        have hA := U.out.1.go hbw
        have hpi := U.out.2
        clear c0 c1 hbw U
        cases bb with
        | true =>
          have hlt := hbb rfl
          clear hbb
          have V := Lib.hid (And.intro hA hpi); clear hA hpi
          go_upto_region 10 with fail
          refine wp_of_eq (c' := ((Tryd.f8.body.bind (regionN 10)).getD .skip)) ?_ (by kernel_rfl)
          refine ask10 _ _ _ _ _ _ _ _ _ _ _ _ _ _ _ _ _ _ _ _ _ _ _ _ _ _ _ _ _ _ _ _ _ _ _ _ _ _ _ _ _ _ _ _ _ _ _ _ _ _ _ _ _ _ _ _ _ _ _ _ _ _ _ _ _ _ _ _ _ _ _ _ _ _ _ _ _ _ _ _ _ _ _ _ _ _ _ _ _ _ _ _ _ _ _ _ _ _ _ _ _ _ _ _ _ _ _ _ hL V.out.1 (by rw [V.out.2]; omega) (by rw [V.out.2]; omega) (fun y0 y1 y2 y3 y4 y5 y6 y7 y8 y9 wx hR => ?_)
          obtain ⟨y, vl', vv', pv', hR⟩ := hR
          have Y := Lib.hid hR; clear hR
          go_wp2_with fail
          go_roundw
          case rel => exact ⟨i + 1, ps ++ [y], vl', vv', pv', by go_num, Y.out, by rw [List.length_append, V.out.2]; rfl, by omega, by omega⟩
          case measure => simp [intOf]; omega
        | false =>
          clear hbb
          have V := Lib.hid (And.intro hA hpi); clear hA hpi
          go_upto_region 11 with fail
          refine wp_of_eq (c' := ((Tryd.f8.body.bind (regionN 11)).getD .skip)) ?_ (by kernel_rfl)
          refine ask11 _ _ _ _ _ _ _ _ _ _ _ _ _ _ _ _ _ _ _ _ _ _ _ _ _ _ _ _ _ _ _ _ _ _ _ _ _ _ _ _ _ _ _ _ _ _ _ _ _ _ _ _ _ _ _ _ _ _ _ _ _ _ _ _ _ _ _ _ _ _ _ _ _ _ _ _ _ _ _ _ _ _ _ _ _ _ _ _ _ _ _ _ _ _ _ _ _ _ _ _ _ _ _ _ _ _ _ _ _ V.out.1.fv (V.out.1.vl1 (by rw [V.out.2]; omega)) (fun y0 y1 y2 y3 y4 y5 y6 y7 y8 y9 y10 y11 wx hR => ?_)
          obtain ⟨s, hs, hlb, hbx⟩ := hR
          have hO := AO.new V.out.1 hs hbx rfl hlb
          have Y := Lib.hid (And.intro hO V.out.2); clear hO hs hlb hbx V
          obtain ⟨c, hc⟩ : ∃ c : Nat, c = b / 16 % 3 := ⟨_, rfl⟩
          have hc1 : (b : Int) / 16 % 3 = (c : Int) := by omega
          have hc2 : c ≤ 2 := by omega
          have hb60 : (0 : Int) ≤ (b : Int) / 64 % 2 := by omega
          clear hc
          obtain ⟨lb, hlb0⟩ : ∃ lb, lb = wc.heap.size := ⟨_, rfl⟩
          obtain ⟨M, hM⟩ : ∃ M, M = wx.heap.size := ⟨_, rfl⟩
          rw [← hlb0, ← hM] at Y
          rw [← hlb0]
          clear hlb0 hM
          go_wp2_with fail
          go_loopw [12] (fun iv wr => ∃ (k : Nat) (os : List OyA) (ov : Value), iv = .int .i64 (k : Int) ∧ AO w g qb M lb s ps os vl vv (.slice lA L.length lc) L nm st wi by_ pv ov wr ∧ os.length = k ∧ k ≤ c ∧ os.map (·.1.f) = [nK, nX].take k ∧ ∀ y ∈ os, Sm y.1.e) (fun iv _ => c - (intOf iv).toNat)
          case atStart => exact ⟨0, [], _, rfl, Y.out.1, rfl, Nat.zero_le _, rfl, fun y hy => by simp at hy⟩
          case round =>
            rename World => wr2
            obtain ⟨k, os, ov, rfl, hO, hok, hkc, hfn, hsm⟩ := hrel
            by_cases hlt : k < c
            · have hlt' : (k : Int) < (c : Int) := by omega
              have hcell := nfk_cell (Blk.new wr2 9 #[.string nK, .string nX]) k (by omega)
              have V := Lib.hid (And.intro hO (And.intro hok (And.intro hfn hsm))); clear hO hok hfn hsm
              go_upto_region 16 with fail
              obtain ⟨W5, hW5⟩ : ∃ W5, W5 = (wr2.alloc (.cells #[.string nK, .string nX] 9)).alloc (.cells #[.string (nfk k), .int .i64 0, .string ⟨#[]⟩, .int .i64 0, .int .i64 0, .string ⟨#[]⟩, .string ⟨#[]⟩, .string ⟨#[]⟩, .slice none 0 0] 45) := ⟨_, rfl⟩
              rw [← hW5]
              have b5 : Below wr2.heap.size wr2 W5 := by rw [hW5]; exact bt (ba _ _) (ba _ _)
              have ho5 : Blk W5 (wr2.heap.size + 1) 45 #[.string (nfk k), .int .i64 0, .string ⟨#[]⟩, .int .i64 0, .int .i64 0, .string ⟨#[]⟩, .string ⟨#[]⟩, .string ⟨#[]⟩, .slice none 0 0] := by
                rw [hW5]
                have := Blk.new (wr2.alloc (.cells #[.string nK, .string nX] 9)) 45 #[.string (nfk k), .int .i64 0, .string ⟨#[]⟩, .int .i64 0, .int .i64 0, .string ⟨#[]⟩, .string ⟨#[]⟩, .string ⟨#[]⟩, .slice none 0 0]
                simpa using this
              obtain ⟨ob, hob⟩ : ∃ ob, ob = wr2.heap.size + 1 := ⟨_, rfl⟩
              have hwo : wr2.heap.size < ob := by omega
              rw [← hob] at ho5 ⊢
              have V5 := Lib.hid (And.intro V.out (And.intro b5 (And.intro ho5 hwo))); clear b5 ho5 hob hW5 V hcell hwo
              go_cut [94] from 75 to 108 (fun bv wx => ∃ bb : Bool, bv = .bool bb ∧ wx = W5)
              case first =>
                by_cases hq : (b : Int) / 64 % 2 = 0
                · have hq' : ((b : Int) / 64 % 2 == 0) = true := by simpa using hq
                  go_wp2_with fail
                  go_meet
                  exact ⟨_, rfl, rfl⟩
                · have hq' : ((b : Int) / 64 % 2 == 0) = false := by simpa using hq
                  go_wp2_with fail
                  go_meet
                  exact ⟨_, rfl, rfl⟩
              case rest =>
                obtain ⟨bb, rfl, rfl⟩ := hcut
                have hO5 := V5.out.1.1.go V5.out.2.1
                have hFD : FD w g ⟨vl, vv, ps.length, s.1.1, s.1.2.1, s.1.2.2.1, s.1.2.2.2, s.2⟩ (.slice lA L.length lc) L wc := FV.fd hO5.fv (hO5.fv.2.2.2.2.2 s hO5.smem)
                have l1 := hO5.lb.cell
                have o1 := V5.out.2.2.1.cell
                have o2 := V5.out.2.2.1.frozen
                have o3 := V5.out.2.2.1.lt
                have cNu := numF_any w g _ (.slice lA L.length lc) L hL 1 (by omega) wc hFD
                have cTe := text_any w g _ (.slice lA L.length lc) L hL 1 (by omega) wc hFD
                have CC := Lib.hid (And.intro cNu cTe); clear cNu cTe hFD hO5
                go_upto_if 94 with fail
                go_cut [] from 75 to 108 (fun wx => ∃ (t : Tr) (K : Value), Blk wx ob 45 (otF (⟨nfk k, t⟩, K)).toArray ∧ TrF (ob + 1) wx t K ∧ t.ok = true ∧ t.smd 1 ∧ FV w g vl vv ps.length (.slice lA L.length lc) L wx ∧ GB g wr2 wx)
                case first =>
                  cases bb with
                  | true =>
                    go_wp2_with fail
                    try go_at_call 17
                    refine CC.out.1.mono ?_
                    rintro e w6 ⟨hM6, hF6, hg6⟩
                    obtain ⟨t, K, k', op, vk, vn, vs, va, f, A', n', c', rfl, hT, hto, hts, hnd⟩ := hM6.open_
                    have hgo : g < wr2.heap.size := by have := V5.out.1.1.gq; have := V5.out.1.1.qM; have := V5.out.1.1.sz; omega
                    have ho6 := V5.out.2.2.1.grown hg6 (fun e => by have := Option.some.inj e; have := V5.out.2.2.2; omega)
                    have hE := out_end V5.out.1.1.fv hF6.fv (gb_trans (gb_of V5.out.2.1) hg6) ho6 V5.out.2.2.2 o3 hT hto hts hnd
                    have o1' := ho6.cell
                    have o2' := ho6.frozen
                    have o3' := ho6.lt
                    have HE := Lib.hid hE; clear hE hT hto hts hnd ho6 hF6 hg6 hM6 hgo
                    go_wp2_with fail
                    go_meet
                    exact HE.out
                  | false =>
                    go_wp2_with fail
                    try go_at_call 18
                    refine CC.out.2.mono ?_
                    rintro e w6 ⟨hM6, hF6, hg6⟩
                    obtain ⟨t, K, k', op, vk, vn, vs, va, f, A', n', c', rfl, hT, hto, hts, hnd⟩ := hM6.open_
                    have hgo : g < wr2.heap.size := by have := V5.out.1.1.gq; have := V5.out.1.1.qM; have := V5.out.1.1.sz; omega
                    have ho6 := V5.out.2.2.1.grown hg6 (fun e => by have := Option.some.inj e; have := V5.out.2.2.2; omega)
                    have hE := out_end V5.out.1.1.fv hF6.fv (gb_trans (gb_of V5.out.2.1) hg6) ho6 V5.out.2.2.2 o3 hT hto hts hnd
                    have o1' := ho6.cell
                    have o2' := ho6.frozen
                    have o3' := ho6.lt
                    have HE := Lib.hid hE; clear hE hT hto hts hnd ho6 hF6 hg6 hM6 hgo
                    go_wp2_with fail
                    go_meet
                    exact HE.out
                case rest =>
                  obtain ⟨t, K, ho7, hT, hto, hts, hF7, hG7⟩ := hcut
                  have hO7 := V5.out.1.1.gb hF7 hG7
                  obtain ⟨js, sj, sy0, sy1, sy2⟩ := info_parts (P := Tryd.prog) (e := 45) (z := .agg #[.string ⟨#[]⟩, .int .i64 0, .string ⟨#[]⟩, .int .i64 0, .int .i64 0, .string ⟨#[]⟩, .string ⟨#[]⟩, .string ⟨#[]⟩, .slice none 0 0]) (size := 9) (bytes := 128) (by kernel_rfl)
                  obtain ⟨kA, kn, kc, rfl⟩ := hT.sl
                  have q1 := hO7.q.cell
                  have q2 := hO7.q.frozen
                  have q3 := hO7.q.lt
                  have o1 := ho7.cell
                  have V7 := Lib.hid (And.intro hO7 (And.intro ho7 (And.intro hT (And.intro hto (And.intro hts hG7))))); clear hO7 ho7 hT hto hts hF7 hG7 CC l1
                  have hk2 : os.length ≤ 2 := by have := V5.out.1.2.1; omega
                  go_wp2_with (at_builtin; go_loud (refine wpList_append_loc _ rfl (.tmp 104) (.tmp 106) 25 rfl M 45 js (.agg #[.string ⟨#[]⟩, .int .i64 0, .string ⟨#[]⟩, .int .i64 0, .int .i64 0, .string ⟨#[]⟩, .string ⟨#[]⟩, .string ⟨#[]⟩, .slice none 0 0]) 9 128 Tryd.underlying25 sj sy0 sy1 sy2 rfl (by decide) (f := otA) (fun _ => rfl) otA_one ov os rfl (V7.out.1.oown.later (ba _ _)) (some ⟨wc.heap.size, 0, none⟩) 1 1 [((⟨nfk k, t⟩ : Ot), (kA, kn, kc))] rfl rfl (at_newOy wc (⟨nfk k, t⟩, (kA, kn, kc))) (by unfold maxLen; omega) (by omega) (by have := V7.out.1.sz; have := World.size_alloc wc (.cells (otA ((⟨nfk k, t⟩ : Ot), (kA, kn, kc))).toArray 45); first | omega | (simp only [World.size_alloc]; omega)) ?_; intro v7 w7 hO8 hg8 hl8; obtain ⟨nA, nn, nc, rfl⟩ := own_shape hO8; have x1 : Blk w7 qb 27 #[.string nm, .bool st, pv, .int .i64 wi, .string by_, ov] := (V7.out.1.q.later (ba _ _)).grown hg8 (fun e => own_off2 V7.out.1.oown V7.out.1.q (by decide) e.symm); have z1 := x1.cell; have z2 := x1.frozen; have z3 := x1.lt))
                  go_roundw
                  case rel =>
                    have hob2 := V5.out.2.2.2
                    have hM2 := V5.out.1.1.sz
                    refine ⟨k + 1, os ++ [((⟨nfk k, t⟩ : Ot), (kA, kn, kc))], .slice nA nn nc, by go_num, V7.out.1.push (B := ob + 1) (N := wc.heap.size) (by omega) V7.out.2.1.lt (Nat.le_refl _) (fun W hW => (V7.out.2.2.1.alike hW).at_) (fun j hj => Or.inl (by have := own_ltP V5.out.1.1.oown hj; omega)) (ba _ _) hg8 hO8 hl8, by rw [List.length_append, V5.out.1.2.1]; rfl, by omega, ?_, fun y hy => ?_⟩
                    · rw [List.map_append, V5.out.1.2.2.1]
                      rcases (by omega : k = 0 ∨ k = 1) with rfl | rfl <;> rfl
                    · rcases List.mem_append.1 hy with hy | hy
                      · exact V5.out.1.2.2.2 y hy
                      · obtain rfl : y = ((⟨nfk k, t⟩ : Ot), (kA, kn, kc)) := by simpa using hy
                        exact sm_of (by omega) V7.out.2.2.2.1 V7.out.2.2.2.2.1
                  case measure => simp [intOf]; omega
            · obtain rfl : k = c := by omega
              have r1 := hO.r.cell
              have r2 := hO.r.frozen
              have r3 := hO.r.lt
              have q1 := hO.q.cell
              have V := Lib.hid (And.intro hO (And.intro hok (And.intro hfn hsm))); clear hO hok hfn hsm
              obtain ⟨pA, pn, pc, rfl⟩ := own_shape V.out.1.pown
              obtain ⟨oA, on, oc, rfl⟩ := own_shape V.out.1.oown
              have hbl : by_.size ≤ maxLen := by rcases K4.out.2.1 with h | h <;> (rw [h]; decide)
              have hfl : ∀ y ∈ os, y.1.f.size ≤ maxLen := fun y hy => by
                have hm : y.1.f ∈ [nK, nX].take k := by rw [← V.out.2.2.1]; exact List.mem_map.2 ⟨y, hy, rfl⟩
                have := List.mem_of_mem_take hm
                simp at this
                rcases this with h | h <;> (rw [h]; decide)
              have hE := fun (x0 x1 x2 x3 x4 x5 : Value) => V.out.1.told (set6_gb wr2 w.heap.size x0 x1 x2 x3 x4 x5) HN.out hbl hfl
              have hB := fun (x0 x1 x2 x3 x4 x5 : Value) => V.out.1.fv.1.trans (gb_below (set6_gb wr2 w.heap.size x0 x1 x2 x3 x4 x5) V.out.1.fv.1.size (Nat.le_refl _))
              have hQ : AskQ nm most ⟨nm, st, ps.map (·.1), wi, by_, os.map (·.1)⟩ := V.out.1.ask (by rw [Y.out.2]; exact hi1) (by rw [Y.out.2]; exact him) K4.out.2.1 K4.out.2.2 (by rw [V.out.2.1]; exact hc2) (by rw [V.out.2.1]; exact V.out.2.2.1) V.out.2.2.2
              have HE := Lib.hid (And.intro hE (And.intro hB hQ)); clear hE hB hQ hbl hfl V
              go_wp2_with fail
              exact bodyPost_ret (v := qv ⟨nm, st, ps.map (·.1), wi, by_, os.map (·.1)⟩ (.slice pA pn pc) (.slice oA on oc)) (by simp [results, Tryd.results8, go_sem, r1]) rfl ⟨_, _, _, rfl, HE.out.1 _ _ _ _ _ _, HE.out.2.1 _ _ _ _ _ _, HE.out.2.2⟩
end Go.Proofs.YtenmbahfgfmjjaaDoor
