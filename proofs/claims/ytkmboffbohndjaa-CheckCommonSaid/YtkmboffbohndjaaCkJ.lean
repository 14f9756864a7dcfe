/- Layer 11: checkPart. -/
import Derived.Test.YtkmboffbohndjaaCkF
import Derived.Test.YtkmboffbohndjaaCkH
import Derived.Test.YtkmboffbohndjaaCkI
import Derived.Test.YtkmboffbohndjaaKeep
import Derived.Deep.RegionHeld3
import Derived.Deep.DeepCutAuto
import Derived.Deep.CutBlock
namespace Go.Proofs.Ytkmboffbohndjaa
open Go.ChangeShapes Go.WideShapes Go.ChangeAt Go.RowKit Go.Maps
set_option linter.unusedVariables false
set_option linter.unusedSimpArgs false

abbrev zS : Array Value := #[.string ⟨#[]⟩, .slice none 0 0]
/-- What a call of checkPart stands on. -/
structure CPs (lv : Value) (ls : List SF) (pv : Value) (r : List Px) (x : Px) (av : Value) (ah : List SF) (b1 b2 R : Nat) (CQ CPt : Array Value) (X : World) : Prop where
  sl : SAt X lv ls
  rows : At X 5 ptF pv r
  pxs : ∀ y ∈ r, PxAt X y
  px : PxAt X x
  ah : SAt X av ah
  bq : Blk X b1 65 CQ
  bp : Blk X b2 59 CPt
  br : Blk X R 29 zS
theorem CPs.later {lv : Value} {ls : List SF} {pv : Value} {r : List Px} {x : Px} {av : Value} {ah : List SF} {b1 b2 R : Nat} {CQ CPt : Array Value} {w w' : World} (h : CPs lv ls pv r x av ah b1 b2 R CQ CPt w) (hb : Below w.heap.size w w') : CPs lv ls pv r x av ah b1 b2 R CQ CPt w' :=
  ⟨h.sl.later hb, h.rows.later hb, fun y hy => (h.pxs y hy).later hb, h.px.later hb, h.ah.later hb, h.bq.later hb, h.bp.later hb, h.br.later hb⟩
theorem Keep.both {w W : World} {N : Nat} {bs : List RowB} {P Q1 Q2 : World → Prop} (h : Keep w W N bs P) (h1 : Q1 W) (h2 : Q2 W) (s1 : ∀ A B : World, Below A.heap.size A B → Q1 A → Q1 B) (s2 : ∀ A B : World, Below A.heap.size A B → Q2 A → Q2 B) : Keep w W W.heap.size [] (fun X => P X ∧ Q1 X ∧ Q2 X) :=
  h.and (Q := fun X => Q1 X ∧ Q2 X) ⟨h1, h2⟩ (fun A B hb hq => ⟨s1 A B hb hq.1, s2 A B hb hq.2⟩)
/-- What checkPart tells. -/
def PartE (nm : ByteArray) (F : List Fld) (E : Int) (w : World) (e : Ending) (w' : World) : Prop :=
  ∃ (s : ByteArray) (A : Option Addr) (n c : Nat), e = .returned (.tuple #[.agg #[.string s, .slice A n c], .int .i64 E]) ∧ (E = 0 → s = nm ∧ Own w' w.heap.size 26 2 fldF (.slice A n c) F) ∧ Below w.heap.size w w'
theorem predsE_app (l : List SF) : ∀ a b : List Tr, predsE l a = 0 → predsE l (a ++ b) = predsE l b
  | [], b, _ => rfl
  | t :: a, b, h => by
    unfold predsE at h
    simp only [List.cons_append]
    show (if (kindT l t).2 ≠ 0 then (kindT l t).2 else if (kindT l t).1 ≠ 2 then 6 else predsE l (a ++ b)) = predsE l b
    by_cases h1 : (kindT l t).2 ≠ 0
    · rw [if_pos h1] at h; exact absurd h h1
    · rw [if_neg h1] at h ⊢
      by_cases h2 : (kindT l t).1 ≠ 2
      · rw [if_pos h2] at h; exact absurd h (by decide)
      · rw [if_neg h2] at h ⊢
        exact predsE_app l a b h
theorem node_ev {w : World} {t : Tr} {v : Value} (h : TrAt w t v) : ∃ (k : Int) (op : ByteArray) (vk vn : Int) (vs va f : ByteArray) (A : Option Addr) (n c : Nat), t.node v = (k, op, vk, vn, vs, va, f, .slice A n c) := by
  obtain ⟨A, n, c, rfl⟩ := h.sl
  cases t <;> exact ⟨_, _, _, _, _, _, _, _, _, _, rfl⟩
/-- The first streams are all there. -/
theorem lookS_all (ls : List SF) : ∀ ss : List ByteArray, (∀ s ∈ ss, ls.find? (fun y => sameB y.1 s) ≠ none) → lookS ls ss ≠ none
  | [], _ => by simp [lookS]
  | s :: ss, h => by
    unfold lookS
    have h1 := h s (by simp)
    have h2 := lookS_all ls ss (fun t ht => h t (List.mem_cons_of_mem _ ht))
    cases e1 : ls.find? (fun y => sameB y.1 s) with
    | none => exact absurd e1 h1
    | some y =>
      cases e2 : lookS ls ss with
      | none => exact absurd e2 h2
      | some T => simp
theorem commonF_ok {ls : List SF} (h : OkS ls) : (commonF ls).length ≤ 100 ∧ ∀ f ∈ commonF ls, okFld f := by
  cases ls with
  | nil => exact ⟨by simp [commonF], fun f hf => by simp [commonF] at hf⟩
  | cons s r =>
    obtain ⟨h1, h2⟩ := h s (by simp)
    unfold commonF
    refine ⟨Nat.le_trans (List.length_filter_le _ _) h1, fun f hf => h2 f (List.mem_filter.1 hf).1⟩
theorem ofF_ok {ls : List SF} (h : OkS ls) (ss : List ByteArray) : (ofF ls ss).length ≤ 100 ∧ ∀ f ∈ ofF ls ss, okFld f := by
  unfold ofF
  cases hl : lookS ls ss with
  | none => exact ⟨by simp, fun f hf => by simp at hf⟩
  | some T => exact commonF_ok (fun x hx => h x ((lookS_mem ls ss T hl).2 x hx))
set_option maxRecDepth 20000 in
set_option maxHeartbeats 8000000 in
theorem checkPart_any (lv : Value) (ls : List SF) (q : Qy) (pv ov : Value) (r : List Px) (y0 : Px) (x : Px) (av : Value) (ah : List SF) (w : World)
    (hv : SAt w lv ls) (hr : At w 5 ptF pv r) (hrx : ∀ y ∈ r, PxAt w y) (hr0 : r.head? = some y0) (hrq : r.map (·.1) = q.ps) (hov : ∃ A n c, ov = .slice A n c) (hx : PxAt w x) (hah : SAt w av ah)
    (hn : ls.length ≤ 100) (hf : OkS ls) (hs : x.1.ss.length ≤ 100) (hs0 : y0.1.ss.length ≤ 100) (hahn : ah.length ≤ 50) (haf : SlotsOk ah) (hby : q.by_.size ≤ maxLen) (hpd : x.1.pd.length ≤ 100) (hok : ∀ t ∈ x.1.pd, t.ok = true)
    (hF : q.by_.size ≠ 0 → (fieldK (ofF ls x.1.ss) q.by_).isSome = true → (fieldK (ofF ls y0.1.ss) q.by_).isSome = true) :
    Calls Try.prog 29 #[lv, qv q pv ov, ptV' x, av] w fun e w' => PartE x.1.v (ofF ls x.1.ss) (partE ls q x.1 ah) w e w' := by
  obtain ⟨A, c, rfl, a1, a2⟩ := hv.shape
  obtain ⟨A2, c2, rfl, _, _, _⟩ := hr.shape
  obtain ⟨A3, c3, rfl, _, _⟩ := hah.shape
  obtain ⟨OA, on, oc, rfl⟩ := hov
  obtain ⟨⟨nt, pl, ss, vn, pd⟩, ⟨sA, sn', sc⟩, ⟨dA, dn', dc⟩⟩ := x
  have hx' := hx
  obtain ⟨g1, g2, g3, g4⟩ := hx
  simp only at g1 g2 g3 g4 hs hpd hok hF ⊢
  obtain ⟨B1, cc, hvv, _⟩ := g1.shape
  simp only [Value.slice.injEq] at hvv
  obtain ⟨rfl, rfl, rfl⟩ := hvv
  obtain ⟨D1, dc', hvd, _⟩ := g2.shape
  simp only [Value.slice.injEq] at hvd
  obtain ⟨rfl, rfl, rfl⟩ := hvd
  obtain ⟨n, hnl⟩ : ∃ n, n = ls.length := ⟨_, rfl⟩
  obtain ⟨m, hml⟩ : ∃ m, m = r.length := ⟨_, rfl⟩
  obtain ⟨k, hkl⟩ : ∃ k, k = ah.length := ⟨_, rfl⟩
  obtain ⟨sn, hsn⟩ : ∃ sn, sn = ss.length := ⟨_, rfl⟩
  obtain ⟨dn, hdn⟩ : ∃ dn, dn = pd.length := ⟨_, rfl⟩
  rw [← hnl] at hv hn ⊢
  rw [← hml] at hr ⊢
  rw [← hkl] at hah hahn ⊢
  rw [← hsn] at g1 hs hx' ⊢
  rw [← hdn] at g2 hpd hx' ⊢
  obtain ⟨E, hE⟩ : ∃ E, E = partE ls q ⟨nt, pl, ss, vn, pd⟩ ah := ⟨_, rfl⟩
  rw [← hE]
  have k1 := ((((((Keep.start w (fun X => SAt X (.slice A n c) ls ∧ (At X 5 ptF (.slice A2 m c2) r ∧ ∀ y ∈ r, PxAt X y) ∧ PxAt X (⟨nt, pl, ss, vn, pd⟩, (sA, sn, sc), (dA, dn, dc)) ∧ SAt X (.slice A3 k c3) ah) ⟨hv, ⟨hr, hrx⟩, hx', hah⟩ (fun _ _ hb h => ⟨h.1.later hb, ⟨h.2.1.1.later hb, fun y hy => (h.2.1.2 y hy).later hb⟩, h.2.2.1.later hb, h.2.2.2.later hb⟩)).more 65 #[.string q.nm, .bool q.st, .slice A2 m c2, .int .i64 q.wi, .string q.by_, .slice OA on oc]).keepRow (List.mem_cons_self ..)).more 59 #[.bool nt, .bool pl, .slice sA sn sc, .string vn, .slice dA dn dc]).keepRow (List.mem_cons_self ..)).more 29 zS).keepRow (List.mem_cons_self ..)
  have k2 := k1.weak (Q := CPs (.slice A n c) ls (.slice A2 m c2) r (⟨nt, pl, ss, vn, pd⟩, (sA, sn, sc), (dA, dn, dc)) (.slice A3 k c3) ah w.heap.size (w.heap.size + 1) (w.heap.size + 1 + 1) #[.string q.nm, .bool q.st, .slice A2 m c2, .int .i64 q.wi, .string q.by_, .slice OA on oc] #[.bool nt, .bool pl, .slice sA sn sc, .string vn, .slice dA dn dc]) (fun X h => ⟨h.1.1.1.1, h.1.1.1.2.1.1, h.1.1.1.2.1.2, h.1.1.1.2.2.1, h.1.1.1.2.2.2, h.1.1.2, by simpa using h.1.2, by simpa using h.2⟩) (fun _ _ hb h => h.later hb)
  simp only [World.size_alloc] at k2
  have H := Lib.hid (And.intro hnl (And.intro hml (And.intro hkl (And.intro hsn (And.intro hdn (And.intro hE (And.intro hf (And.intro haf (And.intro hok (And.intro hF (And.intro hr0 hrq)))))))))))
  clear k1 hnl hml hkl hsn hdn hE hf haf hok hF hr0 hrq hv hr hrx hx' hah g1 g2 g4 a1
  go_enter Try.func29, Try.ntmps29
  go_upto_region 1 with fail
  obtain ⟨W1, hW1⟩ : ∃ W1, W1 = ((w.alloc (.cells #[.string q.nm, .bool q.st, .slice A2 m c2, .int .i64 q.wi, .string q.by_, .slice OA on oc] 65)).alloc (.cells #[.bool nt, .bool pl, .slice sA sn sc, .string vn, .slice dA dn dc] 59)).alloc (.cells zS 29) := ⟨_, rfl⟩
  rw [← hW1] at k2 ⊢
  clear hW1
  obtain ⟨N, hN⟩ : ∃ N, N = w.heap.size + 1 + 1 + 1 := ⟨_, rfl⟩
  rw [← hN] at k2
  clear hN
  have HR := Lib.hid (show w.heap.size ≤ w.heap.size + 1 + 1 by omega)
  generalize hb2 : w.heap.size + 1 = b2 at *
  clear hb2
  generalize hR : b2 + 1 = R at *
  have HR2 := Lib.hid hR; clear hR
  generalize hb1 : w.heap.size = b1 at *
  have HB1 := Lib.hid hb1; clear hb1
  have HRR := Lib.hid (show w.heap.size ≤ R by rw [HB1.out]; exact HR.out)
  have K := Lib.hid k2; clear k2
  have p0 := K.out.p.bp.cell
  go_wp2_with fail
  clear p0
  go_loopw [22] (fun jv wr => ∃ j : Nat, j ≤ sn ∧ jv = .int .i64 (j : Int) ∧ (∀ s ∈ ss.take j, ls.find? (fun y => sameB y.1 s) ≠ none) ∧ Keep w wr N [] (CPs (.slice A n c) ls (.slice A2 m c2) r (⟨nt, pl, ss, vn, pd⟩, (sA, sn, sc), (dA, dn, dc)) (.slice A3 k c3) ah b1 b2 R #[.string q.nm, .bool q.st, .slice A2 m c2, .int .i64 q.wi, .string q.by_, .slice OA on oc] #[.bool nt, .bool pl, .slice sA sn sc, .string vn, .slice dA dn dc])) (fun jv _ => sn - (intOf jv).toNat)
  case atStart => exact ⟨0, Nat.zero_le _, rfl, fun s hs => by simp at hs, K.out⟩
  case round =>
    rename World => wr
    clear K
    obtain ⟨j, hj, rfl, hall, hK⟩ := hrel
    have K := Lib.hid hK; clear hK
    by_cases hlt : j < sn
    · have hjs : j < ss.length := by have := H.out.2.2.2.1; omega
      obtain ⟨a2', rfl, hc2⟩ := K.out.p.px.1.cells rfl (show 0 < ss.length by omega)
      have z0 := hc2.row1 j hjs rfl
      rw [Nat.mul_one] at z0
      have hmem := List.getElem_mem hjs
      have htk := take_snoc hjs
      have hno := lookS_none ls (ss[j]'hjs)
      generalize ss[j]'hjs = s at *
      have cF := FindS_any s _ ls wr K.out.p.sl.stms
      rcases at_look s ls with ⟨e1, e2⟩ | ⟨i, hi, e1, e2⟩
      · rw [e1] at cF
        have hE5 : E = 5 := by
          rw [H.out.2.2.2.2.2.1]
          unfold partE
          rw [if_pos (hno e2 ss hmem)]
        have V := Lib.hid (And.intro cF hE5); clear cF hE5 hall hmem htk hno hc2 e1 e2
        go_wp2_with (go_at_call 28; ((with_reducible refine (V.out.1).mono ?_); rintro e w2 ⟨rfl, hb⟩; replace K := Lib.hid (K.out.go hb); clear hb; have r1 := K.out.p.br.cell; have r2 := K.out.p.br.frozen; have r3 := K.out.p.br.lt))
        exact bodyPost_ret (v := .tuple #[.agg #[.string ⟨#[]⟩, .slice none 0 0], .int .i64 5]) (by simp [results, Try.results29, go_sem, r1, r2, r3]) rfl ⟨_, _, _, _, by rw [V.out.2], fun h => (by rw [V.out.2] at h; cases h), (K.out.bel.setCell (p := ⟨R, 0, none⟩) HRR.out _).setCell (p := ⟨R, 1, none⟩) HRR.out _⟩
      · rw [e1] at cF
        have hi0 : ¬ (i : Int) < 0 := by omega
        have d1 : decide ((i : Int) < 0) = false := decide_eq_false hi0
        have hall2 : ∀ t ∈ ss.take (j + 1), ls.find? (fun y => sameB y.1 t) ≠ none := fun t ht => by
          rw [htk] at ht
          rcases List.mem_append.1 ht with ht | ht
          · exact hall t ht
          · obtain rfl := List.mem_singleton.1 ht; rw [e2]; simp
        have V := Lib.hid (And.intro cF hall2); clear cF hall hall2 hmem htk hno hc2 e1 e2
        go_wp2_with (go_at_call 28; ((with_reducible refine (V.out.1).mono ?_); rintro e w2 ⟨rfl, hb⟩; replace K := Lib.hid (K.out.go hb); clear hb))
        go_roundw
        case rel => exact ⟨j + 1, by omega, by go_num, V.out.2, K.out⟩
        case measure => simp [intOf]; omega
    · have hjn : sn = j := by omega
      subst hjn
      have hl0 : lookS ls ss ≠ none := lookS_all ls ss (by rw [← List.take_of_length_le (show ss.length ≤ sn by have := H.out.2.2.2.1; omega)]; exact hall)
      have HL := Lib.hid hl0; clear hl0 hall
      go_upto_region 7 with fail
      go_cut [12] from 19 to 80 (fun gv wx => ∃ (g N2 B : Nat) (FA : Option Addr) (fn fc : Nat), gv = .pointer (some ⟨g, 0, none⟩) ∧ R < B ∧ Keep w wx N2 [] (fun X => CPs (.slice A n c) ls (.slice A2 m c2) r (⟨nt, pl, ss, vn, pd⟩, (sA, sn, sc), (dA, dn, dc)) (.slice A3 k c3) ah b1 b2 R #[.string q.nm, .bool q.st, .slice A2 m c2, .int .i64 q.wi, .string q.by_, .slice OA on oc] #[.bool nt, .bool pl, .slice sA sn sc, .string vn, .slice dA dn dc] X ∧ Blk X g 29 #[.string vn, .slice FA fn fc] ∧ Own X B 26 2 fldF (.slice FA fn fc) (ofF ls ss)))
      case first =>
        have cO := fun W (hW : CPs (.slice A n c) ls (.slice A2 m c2) r (⟨nt, pl, ss, vn, pd⟩, (sA, sn, sc), (dA, dn, dc)) (.slice A3 k c3) ah b1 b2 R #[.string q.nm, .bool q.st, .slice A2 m c2, .int .i64 q.wi, .string q.by_, .slice OA on oc] #[.bool nt, .bool pl, .slice sA sn sc, .string vn, .slice dA dn dc] W) => Of_any (.slice A n c) ls (⟨nt, pl, ss, vn, pd⟩, (sA, sn, sc), (dA, dn, dc)) W hW.sl hW.px (by have := H.out.1; omega) H.out.2.2.2.2.2.2.1 (show ss.length ≤ 100 by have := H.out.2.2.2.1; omega)
        have C := Lib.hid cO; clear cO
        have p0 := K.out.p.bp.cell
        have HRl := Lib.hid K.out.p.br.lt
        refine wp_region_noPanic ?_
        go_region_held3 (fun w' => ∀ i, w'.cell? ⟨b2, i, none⟩ = (#[.bool nt, .bool pl, .slice sA sn sc, .string vn, .slice dA dn dc] : Array Value)[i]?) (exact (show CPs (.slice A n c) ls (.slice A2 m c2) r (⟨nt, pl, ss, vn, pd⟩, (sA, sn, sc), (dA, dn, dc)) (.slice A3 k c3) ah b1 b2 R #[.string q.nm, .bool q.st, .slice A2 m c2, .int .i64 q.wi, .string q.by_, .slice OA on oc] #[.bool nt, .bool pl, .slice sA sn sc, .string vn, .slice dA dn dc] _ by first | exact K.out.p | exact K.out.drw.p | exact (K.out.more _ _).p | exact (K.out.more _ _).drw.p | exact (K.out.dmore _ _).p | exact ((K.out.put (l1 := []) (l2 := []) 0 _).put (l1 := []) (l2 := []) 1 _).p).bp.cell) (first
          | (go_at_call 42; ((with_reducible refine (C.out _ (by first | exact K.out.p | exact K.out.drw.p | exact (K.out.more _ _).p | exact (K.out.more _ _).drw.p | exact (K.out.dmore _ _).p)).mono ?_); rintro e w2 ⟨fv, ⟨rfl, hO⟩, hb⟩; obtain ⟨FA, fn, fc, rfl⟩ := own_shape hO; have HO := Lib.hid hO; clear hO; (first | replace K := Lib.hid (K.out.go hb) | replace K := Lib.hid (K.out.drw.go hb) | replace K := Lib.hid ((K.out.more _ _).go hb) | replace K := Lib.hid ((K.out.more _ _).drw.go hb) | replace K := Lib.hid ((K.out.dmore _ _).go hb)); clear hb; (try obtain ⟨q0, q1, q2⟩ := K.out.head))))
        all_goals
          refine NoPanic.normal ?_
          go_wp2_with fail
          go_meet
          first
          | exact ⟨w2.heap.size, _, wr.heap.size, FA, fn, fc, rfl, HRl.out, (K.out.more _ _).both (Blk.new w2 29 #[.string vn, .slice FA fn fc]) (own_down' (HO.out.later (ba _ _)) (Nat.le_refl _)) (fun _ _ hb h => h.later hb) (fun _ _ hb h => h.later hb)⟩
          | exact ⟨wr.heap.size, _, wr.heap.size, FA, fn, fc, rfl, HRl.out, ((K.out.put (l1 := []) (l2 := []) 0 _).put (l1 := []) (l2 := []) 1 _).both (((K.out.put (l1 := []) (l2 := []) 0 (.string vn)).put (l1 := []) (l2 := []) 1 (.slice FA fn fc)).blk (List.mem_cons_self ..)) (own_down' ((HO.out.far (p := ⟨wr.heap.size, 0, none⟩) (by simp) _).far (p := ⟨wr.heap.size, 1, none⟩) (by simp) _) (by simp)) (fun _ _ hb h => h.later hb) (fun _ _ hb h => h.later hb)⟩
      case rest =>
        rename World => wx
        obtain ⟨g, N2, B, FA, fn, fc, rfl, hRB, hK⟩ := hcut
        replace K := Lib.hid hK
        clear hK
        obtain ⟨ps', hps⟩ : ∃ ps', q.ps = y0.1 :: ps' := by
          obtain ⟨h1, h2⟩ := H.out.2.2.2.2.2.2.2.2.2.2
          cases hrr : r with
          | nil => rw [hrr] at h1; simp at h1
          | cons z zs =>
            rw [hrr] at h1 h2
            obtain rfl : z = y0 := by simpa using h1
            exact ⟨_, h2.symm⟩
        have hmem0 : y0 ∈ r := List.mem_of_head? H.out.2.2.2.2.2.2.2.2.2.2.1
        have hm0 : 0 < m := by
          have := H.out.2.1
          have := List.length_pos_of_mem hmem0
          omega
        have hr0' : ∀ (h : 0 < r.length), r[0]'h = y0 := fun h => by
          have h1 := H.out.2.2.2.2.2.2.2.2.2.2.1
          rw [List.head?_eq_getElem?, List.getElem?_eq_getElem h] at h1
          exact Option.some.inj h1
        obtain ⟨be, hbe⟩ : ∃ be, be = byE q.by_ (ofF ls y0.1.ss) (ofF ls ss) := ⟨_, rfl⟩
        have hE1 : E = if be ≠ 0 then be else predsE (ah ++ [(vn, ofF ls ss)]) pd := by
          rw [H.out.2.2.2.2.2.1]
          unfold partE
          rw [if_neg HL.out, hps]
          simp only
          rw [← hbe]
        have HE := Lib.hid hE1; clear hE1
        go_upto_region 8 with fail
        go_cut [13] from 19 to 80 (fun ev wz => ev = .int .i64 be ∧ Keep w wz N2 [] (fun X => CPs (.slice A n c) ls (.slice A2 m c2) r (⟨nt, pl, ss, vn, pd⟩, (sA, sn, sc), (dA, dn, dc)) (.slice A3 k c3) ah b1 b2 R #[.string q.nm, .bool q.st, .slice A2 m c2, .int .i64 q.wi, .string q.by_, .slice OA on oc] #[.bool nt, .bool pl, .slice sA sn sc, .string vn, .slice dA dn dc] X ∧ Blk X g 29 #[.string vn, .slice FA fn fc] ∧ Own X B 26 2 fldF (.slice FA fn fc) (ofF ls ss)))
        case first =>
          have cO := fun W (hW : CPs (.slice A n c) ls (.slice A2 m c2) r (⟨nt, pl, ss, vn, pd⟩, (sA, sn, sc), (dA, dn, dc)) (.slice A3 k c3) ah b1 b2 R #[.string q.nm, .bool q.st, .slice A2 m c2, .int .i64 q.wi, .string q.by_, .slice OA on oc] #[.bool nt, .bool pl, .slice sA sn sc, .string vn, .slice dA dn dc] W) => Of_any (.slice A n c) ls y0 W hW.sl (hW.pxs y0 hmem0) (by have := H.out.1; omega) H.out.2.2.2.2.2.2.1 hs0
          have cB := fun v u W (h1 : At W 2 fldF v (ofF ls y0.1.ss)) (h2 : At W 2 fldF u (ofF ls ss)) => checkBy_any q.by_ v u _ _ W h1 h2 hby H.out.2.2.2.2.2.2.2.2.2.1
          rw [← hbe] at cB
          have hrow : ∀ W, CPs (.slice A n c) ls (.slice A2 m c2) r (⟨nt, pl, ss, vn, pd⟩, (sA, sn, sc), (dA, dn, dc)) (.slice A3 k c3) ah b1 b2 R #[.string q.nm, .bool q.st, .slice A2 m c2, .int .i64 q.wi, .string q.by_, .slice OA on oc] #[.bool nt, .bool pl, .slice sA sn sc, .string vn, .slice dA dn dc] W → ∃ a0, A2 = some a0 ∧ W.cell? a0 = some (.bool y0.1.nt) ∧ W.cell? ⟨a0.block, a0.off + 1, none⟩ = some (.bool y0.1.pl) ∧ W.cell? ⟨a0.block, a0.off + 2, none⟩ = some (sl y0.2.1) ∧ W.cell? ⟨a0.block, a0.off + 3, none⟩ = some (.string y0.1.v) ∧ W.cell? ⟨a0.block, a0.off + 4, none⟩ = some (sl y0.2.2) := fun W hW => by
            obtain ⟨a0, ha0, hc⟩ := hW.rows.cells rfl (by have := H.out.2.1; omega)
            obtain ⟨e0', e1', e2', e3', e4'⟩ := hc.row5 0 (by have := H.out.2.1; omega) rfl
            rw [hr0'] at e0' e1' e2' e3' e4'
            rw [Nat.zero_mul, addr_zero] at e0' e1' e2' e3' e4'
            exact ⟨a0, ha0, e0', e1', e2', e3', e4'⟩
          obtain ⟨a0, rfl, _⟩ := hrow _ K.out.p.1
          have hrow2 : ∀ W, CPs (.slice A n c) ls (.slice (some a0) m c2) r (⟨nt, pl, ss, vn, pd⟩, (sA, sn, sc), (dA, dn, dc)) (.slice A3 k c3) ah b1 b2 R #[.string q.nm, .bool q.st, .slice (some a0) m c2, .int .i64 q.wi, .string q.by_, .slice OA on oc] #[.bool nt, .bool pl, .slice sA sn sc, .string vn, .slice dA dn dc] W → W.cell? a0 = some (.bool y0.1.nt) ∧ W.cell? ⟨a0.block, a0.off + 1, none⟩ = some (.bool y0.1.pl) ∧ W.cell? ⟨a0.block, a0.off + 2, none⟩ = some (sl y0.2.1) ∧ W.cell? ⟨a0.block, a0.off + 3, none⟩ = some (.string y0.1.v) ∧ W.cell? ⟨a0.block, a0.off + 4, none⟩ = some (sl y0.2.2) := fun W hW => by
            obtain ⟨a0', ha0, h⟩ := hrow W hW
            obtain rfl := Option.some.inj ha0
            exact h
          clear hrow
          clear hr0' hmem0 hbe hps
          obtain ⟨⟨nt0, pl0, ss0, v0, pd0⟩, ⟨sA0, sn0, sc0⟩, ⟨dA0, dn0, dc0⟩⟩ := y0
          have C := Lib.hid (And.intro cO (And.intro cB hrow2)); clear cO cB hrow2
          have p0 := K.out.p.1.bq.cell
          have p1 := K.out.p.2.1.cell
          obtain ⟨x0, x1, x2, x3, x4⟩ := C.out.2.2 _ K.out.p.1
          have hK5 : ∀ W, CPs (.slice A n c) ls (.slice (some a0) m c2) r (⟨nt, pl, ss, vn, pd⟩, (sA, sn, sc), (dA, dn, dc)) (.slice A3 k c3) ah b1 b2 R #[.string q.nm, .bool q.st, .slice (some a0) m c2, .int .i64 q.wi, .string q.by_, .slice OA on oc] #[.bool nt, .bool pl, .slice sA sn sc, .string vn, .slice dA dn dc] W ∧ Blk W g 29 #[.string vn, .slice FA fn fc] ∧ Own W B 26 2 fldF (.slice FA fn fc) (ofF ls ss) → ((∀ i, W.cell? ⟨b1, i, none⟩ = (#[.string q.nm, .bool q.st, .slice (some a0) m c2, .int .i64 q.wi, .string q.by_, .slice OA on oc] : Array Value)[i]?) ∧ (∀ i, W.cell? ⟨g, i, none⟩ = (#[.string vn, .slice FA fn fc] : Array Value)[i]?) ∧ W.cell? a0 = some (.bool nt0) ∧ W.cell? ⟨a0.block, a0.off + 1, none⟩ = some (.bool pl0) ∧ W.cell? ⟨a0.block, a0.off + 2, none⟩ = some (.slice sA0 sn0 sc0) ∧ W.cell? ⟨a0.block, a0.off + 3, none⟩ = some (.string v0) ∧ W.cell? ⟨a0.block, a0.off + 4, none⟩ = some (.slice dA0 dn0 dc0)) := fun W hW => ⟨hW.1.bq.cell, hW.2.1.cell, C.out.2.2 W hW.1⟩
          have D := Lib.hid hK5; clear hK5
          have hG6 : ∀ W, CPs (.slice A n c) ls (.slice (some a0) m c2) r (⟨nt, pl, ss, vn, pd⟩, (sA, sn, sc), (dA, dn, dc)) (.slice A3 k c3) ah b1 b2 R #[.string q.nm, .bool q.st, .slice (some a0) m c2, .int .i64 q.wi, .string q.by_, .slice OA on oc] #[.bool nt, .bool pl, .slice sA sn sc, .string vn, .slice dA dn dc] W ∧ Blk W g 29 #[.string vn, .slice FA fn fc] ∧ Own W B 26 2 fldF (.slice FA fn fc) (ofF ls ss) → At W 2 fldF (.slice FA fn fc) (ofF ls ss) := fun W h => h.2.2.at_ (f := fldF) (k := 2) (fun _ => rfl)
          have G6 := Lib.hid hG6; clear hG6
          refine wp_region_noPanic ?_
          go_region_held3 (fun w' => (∀ i, w'.cell? ⟨b1, i, none⟩ = (#[.string q.nm, .bool q.st, .slice (some a0) m c2, .int .i64 q.wi, .string q.by_, .slice OA on oc] : Array Value)[i]?) ∧ (∀ i, w'.cell? ⟨g, i, none⟩ = (#[.string vn, .slice FA fn fc] : Array Value)[i]?) ∧ w'.cell? a0 = some (.bool nt0) ∧ w'.cell? ⟨a0.block, a0.off + 1, none⟩ = some (.bool pl0) ∧ w'.cell? ⟨a0.block, a0.off + 2, none⟩ = some (.slice sA0 sn0 sc0) ∧ w'.cell? ⟨a0.block, a0.off + 3, none⟩ = some (.string v0) ∧ w'.cell? ⟨a0.block, a0.off + 4, none⟩ = some (.slice dA0 dn0 dc0)) (exact D.out _ (by first | exact K.out.p | exact K.out.drw.p)) (first
            | (go_at_call 42; ((with_reducible refine (C.out.1 _ (by first | exact K.out.p.1 | exact K.out.drw.p.1)).mono ?_); rintro e w2 ⟨fv, ⟨rfl, hO⟩, hb⟩; obtain ⟨FB, fm, fd, rfl⟩ := own_shape hO; have HO := Lib.hid (hO.at_ (f := fldF) (k := 2) (fun _ => rfl)); clear hO; (first | replace K := Lib.hid (K.out.go hb) | replace K := Lib.hid (K.out.drw.go hb)); clear hb))
            | (go_at_call 43; ((with_reducible refine (C.out.2.1 _ _ _ (by first | exact HO.out | exact HO.out.later (below_drew (Below.refl _ _))) (G6.out _ (by first | exact K.out.p | exact K.out.drw.p))).mono ?_); rintro e w3 ⟨rfl, hb⟩; (first | replace K := Lib.hid (K.out.go hb) | replace K := Lib.hid (K.out.drw.go hb)); clear hb)))
          all_goals
            refine NoPanic.normal ?_
            go_wp2_with fail
            go_meet
            exact ⟨rfl, K.out⟩
        case rest =>
          rename World => wz
          obtain ⟨rfl, hK⟩ := hcut
          replace K := Lib.hid hK
          clear hK hps hmem0 hr0' hbe
          by_cases hb0 : be = 0
          · subst hb0
            have hE2 : E = predsE (ah ++ [(vn, ofF ls ss)]) pd := by rw [HE.out, if_neg (by simp)]
            have HE2 := Lib.hid hE2; clear hE2
            obtain ⟨rah, h1, h2, h3⟩ := K.out.p.1.ah
            have hrk : rah.length = k := by have := H.out.2.2.1; rw [this, ← h2, List.length_map]
            obtain ⟨W0, hW0⟩ : ∃ W0, W0 = wz.alloc (.cells #[.string vn, .slice FA fn fc] 29) := ⟨_, rfl⟩
            obtain ⟨W2, hW2⟩ : ∃ W2, W2 = W0.alloc (.cells #[.slice A3 k c3, .slice (some ⟨wz.heap.size, 0, none⟩) 1 1] 30) := ⟨_, rfl⟩
            have bW0 : Below wz.heap.size wz W0 := by rw [hW0]; exact ba _ _
            have bW2 : Below W0.heap.size W0 W2 := by rw [hW2]; exact ba _ _
            have hB0 : Blk W0 wz.heap.size 29 #[.string vn, .slice FA fn fc] := by rw [hW0]; exact Blk.new _ _ _
            have hs0' : W0.heap.size = wz.heap.size + 1 := by rw [hW0]; exact World.size_alloc _ _
            have hB2 : Blk W2 (wz.heap.size + 1) 30 #[.slice A3 k c3, .slice (some ⟨wz.heap.size, 0, none⟩) 1 1] := by rw [hW2, ← hs0']; exact Blk.new _ _ _
            have hatL : At W2 1 lxF (.slice (some ⟨wz.heap.size + 1, 0, none⟩) 2 2) [((A3, k, c3), rah), ((some ⟨wz.heap.size, 0, none⟩, 1, 1), [((vn, ofF ls ss), (FA, fn, fc))])] := at_blkC (k := 1) (f := lxF) (fun _ => rfl) [((A3, k, c3), rah), ((some ⟨wz.heap.size, 0, none⟩, 1, 1), [((vn, ofF ls ss), (FA, fn, fc))])] hB2 rfl (by unfold maxLen; omega) rfl
            have cC := ConcatS_any _ [((A3, k, c3), rah), ((some ⟨wz.heap.size, 0, none⟩, 1, 1), [((vn, ofF ls ss), (FA, fn, fc))])] W2 hatL (fun x hx => by
              rcases List.mem_cons.1 hx with rfl | hx
              · exact h1.later (bt bW0 bW2)
              · obtain rfl := List.mem_singleton.1 hx
                exact (at_blkC (k := 2) (f := sxF) (fun _ => rfl) [((vn, ofF ls ss), (FA, fn, fc))] hB0 (n := 1) rfl (by unfold maxLen; omega) rfl).later bW2) (by simp) (by simp) (by simp; omega)
            have hfl : ([((A3, k, c3), rah), ((some ⟨wz.heap.size, 0, none⟩, 1, 1), [((vn, ofF ls ss), (FA, fn, fc))])] : List Lx).flatMap (·.2) = rah ++ [((vn, ofF ls ss), (FA, fn, fc))] := by simp
            rw [hfl] at cC
            have hAF := K.out.p.2.2.at_ (f := fldF) (k := 2) (fun _ => rfl)
            have C := Lib.hid (And.intro cC (And.intro (bt bW0 bW2) (And.intro h2 (And.intro h3 hAF)))); clear cC h1 h2 h3 bW0 bW2 hB0 hB2 hatL hfl hAF
            have p0 := K.out.p.2.1.cell
            have hbe0 : ((0 : Int) == 0) = true := rfl
            rw [hW0] at hW2
            go_wp2_with fail
            rw [← hW2]
            try go_at_call 44
            refine C.out.1.mono ?_
            rintro e w4 ⟨rv, ⟨rfl, hO⟩, hb⟩
            obtain ⟨VA, Vn, Vc, rfl⟩ := own_shape hO
            have hSL : SAt w4 (.slice VA Vn Vc) (ah ++ [(vn, ofF ls ss)]) := ⟨rah ++ [((vn, ofF ls ss), (FA, fn, fc))], hO.at_ (f := sxF) (k := 2) (fun _ => rfl), by rw [List.map_append, C.out.2.2.1]; rfl, fun x hx => by
              rcases List.mem_append.1 hx with hx | hx
              · exact (C.out.2.2.2.1 x hx).later (bt C.out.2.1 hb)
              · obtain rfl := List.mem_singleton.1 hx
                exact C.out.2.2.2.2.later (bt C.out.2.1 hb)⟩
            replace K := Lib.hid ((K.out.go (bt C.out.2.1 hb)).and (Q := fun X => SAt X (.slice VA Vn Vc) (ah ++ [(vn, ofF ls ss)])) hSL (fun _ _ hb h => h.later hb))
            clear hSL hO hb C p0 hW0 hW2 hs0' hrk rah
            have hso : SlotsOk (ah ++ [(vn, ofF ls ss)]) := fun x hx => by
              rcases List.mem_append.1 hx with hx | hx
              · exact H.out.2.2.2.2.2.2.2.1 x hx
              · obtain rfl := List.mem_singleton.1 hx
                exact ⟨g3, ofF_ok H.out.2.2.2.2.2.2.1 ss⟩
            have hsl : (ah ++ [(vn, ofF ls ss)]).length ≤ 100 := by have := H.out.2.2.1; simp; omega
            generalize ah ++ [(vn, ofF ls ss)] = SL at *
            have HS := Lib.hid (And.intro hso hsl); clear hso hsl
            have p0 := K.out.p.1.1.bp.cell
            have hN4 := w4.heap.size
            go_wp2_with fail
            clear p0
            go_loopw [61] (fun jv wr => ∃ j : Nat, j ≤ dn ∧ jv = .int .i64 (j : Int) ∧ predsE SL (pd.take j) = 0 ∧ ∃ N4, Keep w wr N4 [] (fun X => (CPs (.slice A n c) ls (.slice A2 m c2) r (⟨nt, pl, ss, vn, pd⟩, (sA, sn, sc), (dA, dn, dc)) (.slice A3 k c3) ah b1 b2 R #[.string q.nm, .bool q.st, .slice A2 m c2, .int .i64 q.wi, .string q.by_, .slice OA on oc] #[.bool nt, .bool pl, .slice sA sn sc, .string vn, .slice dA dn dc] X ∧ Blk X g 29 #[.string vn, .slice FA fn fc] ∧ Own X B 26 2 fldF (.slice FA fn fc) (ofF ls ss)) ∧ SAt X (.slice VA Vn Vc) SL)) (fun jv _ => dn - (intOf jv).toNat)
            case atStart => exact ⟨0, Nat.zero_le _, rfl, rfl, _, K.out⟩
            case round =>
              rename World => wr5
              clear K
              obtain ⟨j, hj, rfl, hpe, N4, hK⟩ := hrel
              have K := Lib.hid hK; clear hK
              by_cases hlt : j < dn
              · have hjd : j < pd.length := by have := H.out.2.2.2.2.1; omega
                obtain ⟨rx, x1, x2', x3⟩ := K.out.p.1.1.px.2.1
                have x2 : rx.map (·.1) = pd := x2'
                clear x2'
                have hjr : j < rx.length := by rw [← x2, List.length_map] at hjd; exact hjd
                obtain ⟨a3, ha3, hcx⟩ := x1.cells rfl (by omega)
                subst ha3
                have hT := x3 _ (List.getElem_mem hjr)
                have hxe : (rx[j]'hjr).1 = pd[j]'hjd := by simp only [← x2, List.getElem_map]
                have hokj := H.out.2.2.2.2.2.2.2.2.1 _ (List.getElem_mem hjd)
                have happ := predsE_app SL (pd.take j) (pd.drop j) hpe
                rw [List.take_append_drop, List.drop_eq_getElem_cons hjd] at happ
                have happ2 := predsE_app SL (pd.take j) [pd[j]'hjd] hpe
                rw [← take_snoc hjd] at happ2
                rw [← hxe] at hokj happ happ2
                clear hxe
                obtain ⟨⟨t, tv⟩, hz⟩ : ∃ z, rx[j]'hjr = z := ⟨_, rfl⟩
                rw [hz] at hT hokj happ happ2
                simp only at hT hokj happ happ2
                obtain ⟨k1, o1, vk1, vn1, vs1, va1, f1, B1, m1, d1, hnode⟩ := node_ev hT
                have hval : t.val tv = ev k1 o1 vk1 vn1 vs1 va1 f1 (.slice B1 m1 d1) := by unfold Tr.val; rw [hnode]
                have y0' : wr5.cell? (a3.add (j * 8)) = some (.int .i64 k1) := hcx j hjr 0 _ (by rw [hz]; simp only [exF, hnode]; rfl)
                have y1' : wr5.cell? ⟨(a3.add (j * 8)).block, (a3.add (j * 8)).off + 1, none⟩ = some (.string o1) := by rw [addr_in _ _ _ (by omega)]; exact hcx j hjr 1 _ (by rw [hz]; simp only [exF, hnode]; rfl)
                have y2' : wr5.cell? ⟨(a3.add (j * 8)).block, (a3.add (j * 8)).off + 2, none⟩ = some (.int .i64 vk1) := by rw [addr_in _ _ _ (by omega)]; exact hcx j hjr 2 _ (by rw [hz]; simp only [exF, hnode]; rfl)
                have y3' : wr5.cell? ⟨(a3.add (j * 8)).block, (a3.add (j * 8)).off + 3, none⟩ = some (.int .i64 vn1) := by rw [addr_in _ _ _ (by omega)]; exact hcx j hjr 3 _ (by rw [hz]; simp only [exF, hnode]; rfl)
                have y4' : wr5.cell? ⟨(a3.add (j * 8)).block, (a3.add (j * 8)).off + 4, none⟩ = some (.string vs1) := by rw [addr_in _ _ _ (by omega)]; exact hcx j hjr 4 _ (by rw [hz]; simp only [exF, hnode]; rfl)
                have y5' : wr5.cell? ⟨(a3.add (j * 8)).block, (a3.add (j * 8)).off + 5, none⟩ = some (.string va1) := by rw [addr_in _ _ _ (by omega)]; exact hcx j hjr 5 _ (by rw [hz]; simp only [exF, hnode]; rfl)
                have y6' : wr5.cell? ⟨(a3.add (j * 8)).block, (a3.add (j * 8)).off + 6, none⟩ = some (.string f1) := by rw [addr_in _ _ _ (by omega)]; exact hcx j hjr 6 _ (by rw [hz]; simp only [exF, hnode]; rfl)
                have y7' : wr5.cell? ⟨(a3.add (j * 8)).block, (a3.add (j * 8)).off + 7, none⟩ = some (.slice B1 m1 d1) := by rw [addr_in _ _ _ (by omega)]; exact hcx j hjr 7 _ (by rw [hz]; simp only [exF, hnode]; rfl)
                have bB := ba wr5 (.cells #[.int .i64 k1, .string o1, .int .i64 vk1, .int .i64 vn1, .string vs1, .string va1, .string f1, .slice B1 m1 d1] 38)
                have cK := Kind_any t tv _ SL (wr5.alloc (.cells #[.int .i64 k1, .string o1, .int .i64 vk1, .int .i64 vn1, .string vs1, .string va1, .string f1, .slice B1 m1 d1] 38)) (hT.later bB) hokj (K.out.p.2.later bB) HS.out.2 HS.out.1
                rw [hval] at cK
                obtain ⟨⟨K1, E1⟩, hKE⟩ : ∃ u, u = kindT SL t := ⟨_, rfl⟩
                rw [← hKE] at cK
                simp only [predsE, ← hKE] at happ happ2
                have V := Lib.hid (And.intro cK (And.intro bB (And.intro happ (And.intro happ2 hpe)))); clear cK bB happ happ2 hpe hT hokj hKE hval hnode hz hcx x1 x2 x3
                have hdec : (E1 == 0) = decide (E1 = 0) := by rw [Bool.eq_iff_iff]; simp
                by_cases hE0 : E1 = 0
                · subst hE0
                  by_cases hK2 : K1 = 2
                  · subst hK2
                    go_wp2_with (go_at_call 8; ((with_reducible refine (V.out.1).mono ?_); rintro e w6 ⟨rfl, hb⟩; replace K := Lib.hid (K.out.go (bt V.out.2.1 hb)); clear hb))
                    go_roundw
                    case rel => exact ⟨j + 1, by omega, by go_num, by rw [V.out.2.2.2.1]; simp, N4, K.out⟩
                    case measure => simp [intOf]; omega
                  · have hkf : (K1 == 2) = false := by simpa using hK2
                    have hE6 : E = 6 := by rw [HE2.out, V.out.2.2.1]; simp [hK2]
                    have HE6 := Lib.hid hE6; clear hE6
                    go_wp2_with (go_at_call 8; ((with_reducible refine (V.out.1).mono ?_); rintro e w6 ⟨rfl, hb⟩; replace K := Lib.hid (K.out.go (bt V.out.2.1 hb)); clear hb; have r1 := K.out.p.1.1.br.cell; have r2 := K.out.p.1.1.br.frozen; have r3 := K.out.p.1.1.br.lt))
                    exact bodyPost_ret (v := .tuple #[.agg #[.string ⟨#[]⟩, .slice none 0 0], .int .i64 6]) (by simp [results, Try.results29, go_sem, r1, r2, r3]) rfl ⟨_, _, _, _, by rw [HE6.out], fun h => (by rw [HE6.out] at h; cases h), (K.out.bel.setCell (p := ⟨R, 0, none⟩) HRR.out _).setCell (p := ⟨R, 1, none⟩) HRR.out _⟩
                · have hkf : (E1 == 0) = false := by simpa using hE0
                  have hE6 : E = E1 := by rw [HE2.out, V.out.2.2.1]; simp [hE0]
                  have HE6 := Lib.hid (And.intro hE6 hE0); clear hE6
                  go_wp2_with (go_at_call 8; ((with_reducible refine (V.out.1).mono ?_); rintro e w6 ⟨rfl, hb⟩; replace K := Lib.hid (K.out.go (bt V.out.2.1 hb)); clear hb; have r1 := K.out.p.1.1.br.cell; have r2 := K.out.p.1.1.br.frozen; have r3 := K.out.p.1.1.br.lt))
                  exact bodyPost_ret (v := .tuple #[.agg #[.string ⟨#[]⟩, .slice none 0 0], .int .i64 E1]) (by simp [results, Try.results29, go_sem, r1, r2, r3]) rfl ⟨_, _, _, _, by rw [HE6.out.1], fun h => (by exact absurd (HE6.out.1.symm.trans h) HE6.out.2), (K.out.bel.setCell (p := ⟨R, 0, none⟩) HRR.out _).setCell (p := ⟨R, 1, none⟩) HRR.out _⟩
              · have hjn : dn = j := by omega
                subst hjn
                have hE0 : E = 0 := by
                  rw [HE2.out]
                  rw [List.take_of_length_le (by have := H.out.2.2.2.2.1; omega)] at hpe
                  exact hpe
                have HE0 := Lib.hid hE0; clear hE0 hpe
                have p0 := K.out.p.1.2.1.cell
                have r1 := K.out.p.1.1.br.cell
                have r2 := K.out.p.1.1.br.frozen
                have r3 := K.out.p.1.1.br.lt
                have hAF := own_down' ((K.out.p.1.2.2.far (p := ⟨R, 0, none⟩) hRB (.string vn)).far (p := ⟨R, 1, none⟩) hRB (.slice FA fn fc)) (Nat.le_of_lt (Nat.lt_of_le_of_lt HRR.out hRB))
                have HA := Lib.hid hAF; clear hAF
                go_wp2_with fail
                exact bodyPost_ret (v := .tuple #[.agg #[.string vn, .slice FA fn fc], .int .i64 0]) (by simp [results, Try.results29, go_sem, r1, r2, r3]) rfl ⟨_, _, _, _, by rw [HE0.out], fun h => ⟨rfl, HA.out⟩, (K.out.bel.setCell (p := ⟨R, 0, none⟩) HRR.out _).setCell (p := ⟨R, 1, none⟩) HRR.out _⟩
          · have hE2 : E = be := by rw [HE.out, if_pos hb0]
            have HE2 := Lib.hid (And.intro hE2 hb0)
            have hbf : (be == 0) = false := by simpa using hb0
            have r1 := K.out.p.1.br.cell
            have r2 := K.out.p.1.br.frozen
            have r3 := K.out.p.1.br.lt
            clear hE2
            go_wp2_with fail
            exact bodyPost_ret (v := .tuple #[.agg #[.string ⟨#[]⟩, .slice none 0 0], .int .i64 be]) (by simp [results, Try.results29, go_sem, r1, r2, r3]) rfl ⟨_, _, _, _, by rw [HE2.out.1], fun h => (by exact absurd (HE2.out.1.symm.trans h) HE2.out.2), (K.out.bel.setCell (p := ⟨R, 0, none⟩) HRR.out _).setCell (p := ⟨R, 1, none⟩) HRR.out _⟩
end Go.Proofs.Ytkmboffbohndjaa
