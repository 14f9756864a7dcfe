/- Texts that several proofs stand on, part 38. -/
import Derived.Test.YtenmbahfgfmjjaaDoorQ37
namespace Go.Proofs.YtenmbahfgfmjjaaDoor
open Go.ChangeShapes Go.WideShapes Go.ChangeAt Go.RowKit Go.Maps
set_option linter.unusedVariables false
set_option linter.unusedSimpArgs false

theorem qy_eq {a b : Qy} : a = b ↔ a.nm = b.nm ∧ a.st = b.st ∧ a.wi = b.wi ∧ a.by_ = b.by_ ∧ a.ps = b.ps ∧ a.os = b.os := by
  cases a; cases b; simp only [Qy.mk.injEq]
  constructor
  · rintro ⟨h1, h2, h3, h4, h5, h6⟩; exact ⟨h1, h2, h4, h5, h3, h6⟩
  · rintro ⟨h1, h2, h3, h4, h5, h6⟩; exact ⟨h1, h2, h5, h3, h4, h6⟩
theorem ptsSame {v v' : Value} {a b : List Pt} {w : World} (h : PtsAt w v a) (h' : PtsAt w v' b) (hn : a.length ≤ 1000) (hn' : b.length ≤ 1000) (ha : ∀ p ∈ a, p.ss.length ≤ 1000 ∧ p.pd.length ≤ 1000) (hb : ∀ p ∈ b, p.ss.length ≤ 1000 ∧ p.pd.length ≤ 1000) :
    Calls Tryd.prog 27 #[v, v', .func (.func 28) #[] #[]] w fun e w' => e = .returned (.bool (eqB a b)) ∧ Below w.heap.size w w' := by
  obtain ⟨r, h1, h2, h3⟩ := h
  obtain ⟨s, g1, g2, g3⟩ := h'
  have hr : r.length = a.length := by rw [← h2, List.length_map]
  have hs : s.length = b.length := by rw [← g2, List.length_map]
  have := equalP v v' r s w h1 g1 (by omega) (by omega) (fun x hx y hy W hW => PtSame_any x y W ((h3 x hx).later hW) ((g3 y hy).later hW)
    (by have := ha x.1 (by rw [← h2]; exact List.mem_map.2 ⟨x, hx, rfl⟩); omega) (by have := ha x.1 (by rw [← h2]; exact List.mem_map.2 ⟨x, hx, rfl⟩); omega)
    (by have := hb y.1 (by rw [← g2]; exact List.mem_map.2 ⟨y, hy, rfl⟩); omega) (by have := hb y.1 (by rw [← g2]; exact List.mem_map.2 ⟨y, hy, rfl⟩); omega))
  rw [h2, g2] at this
  exact this
theorem otsSame {v v' : Value} {a b : List Ot} {w : World} (h : OtsAt w v a) (h' : OtsAt w v' b) (hn : a.length ≤ 1000) (hn' : b.length ≤ 1000) :
    Calls Tryd.prog 29 #[v, v', .func (.func 30) #[] #[]] w fun e w' => e = .returned (.bool (eqB a b)) ∧ Below w.heap.size w w' := by
  obtain ⟨r, h1, h2, h3⟩ := h
  obtain ⟨s, g1, g2, g3⟩ := h'
  have hr : r.length = a.length := by rw [← h2, List.length_map]
  have hs : s.length = b.length := by rw [← g2, List.length_map]
  have := equalO v v' r s w h1 g1 (by omega) (by omega) (fun x hx => (h3 x hx).1.sl) (fun x hx => (g3 x hx).1.sl) (fun x hx y hy W hW => OtSame_any x y W ((h3 x hx).1.later hW) ((g3 y hy).1.later hW))
  rw [h2, g2] at this
  exact this
set_option maxRecDepth 20000 in
set_option maxHeartbeats 4000000 in
theorem SameQ_any (a b : Qy) (pv ov pv' ov' : Value) (w : World) (h : QyAt w pv ov a) (h' : QyAt w pv' ov' b) (ho : QOk a) (ho' : QOk b) :
    Calls Tryd.prog 11 #[qv a pv ov, qv b pv' ov'] w fun e w' => e = .returned (.bool (eqB a b)) ∧ Below w.heap.size w w' := by
  have cP := fun W (hW : Below w.heap.size w W) => ptsSame (h.1.later hW) (h'.1.later hW) ho.np ho'.np (fun p hp => ⟨ho.ns p hp, ho.nd p hp⟩) (fun p hp => ⟨ho'.ns p hp, ho'.nd p hp⟩)
  have cO := fun W (hW : Below w.heap.size w W) => otsSame (h.2.1.later hW) (h'.2.1.later hW) ho.no ho'.no
  have hqe := qy_eq (a := a) (b := b)
  obtain ⟨A, c, rfl, _, _⟩ := h.1.shape
  obtain ⟨A2, c2, rfl, _, _⟩ := h.2.1.shape
  obtain ⟨A3, c3, rfl, _, _⟩ := h'.1.shape
  obtain ⟨A4, c4, rfl, _, _⟩ := h'.2.1.shape
  obtain ⟨nm, st, ps, wi, by_, os⟩ := a
  obtain ⟨nmY, stY, psY, wiY, byY, osY⟩ := b
  simp only at cP cO hqe ⊢
  clear h h' ho ho'
  generalize ps.length = n at *
  generalize os.length = m at *
  generalize psY.length = nY at *
  generalize osY.length = mY at *
  have b0 := bt (ba w (.cells #[.string nm, .bool st, .slice A n c, .int .i64 wi, .string by_, .slice A2 m c2] 27)) (ba (w.alloc (.cells #[.string nm, .bool st, .slice A n c, .int .i64 wi, .string by_, .slice A2 m c2] 27)) (.cells #[.string nmY, .bool stY, .slice A3 nY c3, .int .i64 wiY, .string byY, .slice A4 mY c4] 27))
  have hB1 := (Blk.new w 27 #[.string nm, .bool st, .slice A n c, .int .i64 wi, .string by_, .slice A2 m c2]).later (ba (w.alloc (.cells #[.string nm, .bool st, .slice A n c, .int .i64 wi, .string by_, .slice A2 m c2] 27)) (.cells #[.string nmY, .bool stY, .slice A3 nY c3, .int .i64 wiY, .string byY, .slice A4 mY c4] 27))
  have hB2 := Blk.new (w.alloc (.cells #[.string nm, .bool st, .slice A n c, .int .i64 wi, .string by_, .slice A2 m c2] 27)) 27 #[.string nmY, .bool stY, .slice A3 nY c3, .int .i64 wiY, .string byY, .slice A4 mY c4]
  rw [World.size_alloc] at hB2
  have H := Lib.hid (And.intro cP (And.intro cO (And.intro hqe (And.intro b0 (And.intro hB1 hB2))))); clear cP cO hqe b0 hB1 hB2
  go_enter Tryd.func11, Tryd.ntmps11
  by_cases h1 : nm = nmY
  · subst h1
    have hbb0 : (nm.toList == nm.toList) = true := by simp
    by_cases h2 : st = stY
    · subst h2
      have hbb1 : (st == st) = true := by simp
      by_cases h3 : wi = wiY
      · subst h3
        have hbb2 : (wi == wi) = true := by simp
        by_cases h4 : by_ = byY
        · subst h4
          have hbb3 : (by_.toList == by_.toList) = true := by simp
          go_wp2_with fail
          refine (H.out.1 _ H.out.2.2.2.1).mono ?_
          rintro e w5 ⟨rfl, b5⟩
          have p5 := (H.out.2.2.2.2.1.later b5).cell
          have q5 := (H.out.2.2.2.2.2.later b5).cell
          have B5 := Lib.hid (bt H.out.2.2.2.1 b5); clear b5
          by_cases h5 : ps = psY
          · subst h5
            rw [show eqB ps ps = true from eqB_true rfl]
            go_wp2_with fail
            clear p5 q5
            refine (H.out.2.1 _ B5.out).mono ?_
            rintro e w6 ⟨rfl, b6⟩
            have B6 := Lib.hid (bt B5.out b6); clear b6
            have HE := Lib.hid (show eqB (⟨nm, st, ps, wi, by_, os⟩ : Qy) ⟨nm, st, ps, wi, by_, osY⟩ = eqB os osY by
              rw [Bool.eq_iff_iff, eqB_iff, eqB_iff, H.out.2.2.1]; simp)
            go_wp2_with fail
            go_ret
            refine ⟨?_, B6.out⟩
            rw [HE.out]; rfl
          · rw [show eqB ps psY = false from eqB_false h5]
            have HE := Lib.hid (show eqB (⟨nm, st, ps, wi, by_, os⟩ : Qy) ⟨nm, st, psY, wi, by_, osY⟩ = false from eqB_false (fun e => h5 (H.out.2.2.1.1 e).2.2.2.2.1))
            clear h5
            go_wp2_with fail
            go_ret
            refine ⟨?_, B5.out⟩
            rw [HE.out]; rfl
        · have hxl : ¬ by_.toList = byY.toList := fun h => h4 (toList_inj h)
          have hxb : (by_.toList == byY.toList) = false := by simpa using hxl
          have HE := Lib.hid (show eqB (⟨nm, st, ps, wi, by_, os⟩ : Qy) ⟨nm, st, psY, wi, byY, osY⟩ = false from eqB_false (fun e => h4 (H.out.2.2.1.1 e).2.2.2.1))
          clear h4
          go_wp2_with fail
          go_ret
          refine ⟨?_, H.out.2.2.2.1⟩
          rw [HE.out]; rfl
      · have hbb2 : (wi == wiY) = false := by simpa using h3
        have HE := Lib.hid (show eqB (⟨nm, st, ps, wi, by_, os⟩ : Qy) ⟨nm, st, psY, wiY, byY, osY⟩ = false from eqB_false (fun e => h3 (H.out.2.2.1.1 e).2.2.1))
        go_wp2_with fail
        go_ret
        refine ⟨?_, H.out.2.2.2.1⟩
        rw [HE.out]; rfl
    · have hbb1 : (st == stY) = false := by simpa using h2
      have HE := Lib.hid (show eqB (⟨nm, st, ps, wi, by_, os⟩ : Qy) ⟨nm, stY, psY, wiY, byY, osY⟩ = false from eqB_false (fun e => h2 (H.out.2.2.1.1 e).2.1))
      go_wp2_with fail
      go_ret
      refine ⟨?_, H.out.2.2.2.1⟩
      rw [HE.out]; rfl
  · have hxl : ¬ nm.toList = nmY.toList := fun h => h1 (toList_inj h)
    have hxb : (nm.toList == nmY.toList) = false := by simpa using hxl
    have HE := Lib.hid (show eqB (⟨nm, st, ps, wi, by_, os⟩ : Qy) ⟨nmY, stY, psY, wiY, byY, osY⟩ = false from eqB_false (fun e => h1 (H.out.2.2.1.1 e).1))
    clear h1
    go_wp2_with fail
    go_ret
    refine ⟨?_, H.out.2.2.2.1⟩
    rw [HE.out]; rfl
end Go.Proofs.YtenmbahfgfmjjaaDoor
