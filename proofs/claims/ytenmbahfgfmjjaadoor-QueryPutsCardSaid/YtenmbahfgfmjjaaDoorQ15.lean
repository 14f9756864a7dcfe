/- Texts that several proofs stand on, part 15. -/
import Derived.Test.YtenmbahfgfmjjaaDoorQ14
import Derived.IntWalk
namespace Go.Proofs.YtenmbahfgfmjjaaDoor
open Go.ChangeShapes Go.WideShapes Go.ChangeAt Go.RowKit
open Rk (inR)
set_option linter.unusedVariables false
set_option linter.unusedSimpArgs false

/-- A tree all of whose rows lie from block B on. -/
def TrF (B : Nat) (w : World) : Tr → Value → Prop
  | .lit k n s, kids => kids = nilk
  | .ref v f, kids => kids = nilk
  | .cnt v, kids => kids = nilk
  | .un op x, kids => ∃ (a : Addr) (c : Nat), kids = .slice (some a) 1 c ∧ 1 ≤ c ∧ c ≤ maxLen ∧ B ≤ a.block ∧ ∃ kx, TrF B w x kx ∧
      Row8 w a (x.node kx).1 (x.node kx).2.1 (x.node kx).2.2.1 (x.node kx).2.2.2.1 (x.node kx).2.2.2.2.1 (x.node kx).2.2.2.2.2.1 (x.node kx).2.2.2.2.2.2.1 (x.node kx).2.2.2.2.2.2.2
  | .bin op x y, kids => ∃ (a : Addr) (c : Nat), kids = .slice (some a) 2 c ∧ 2 ≤ c ∧ c ≤ maxLen ∧ B ≤ a.block ∧ (∃ kx, TrF B w x kx ∧
      Row8 w a (x.node kx).1 (x.node kx).2.1 (x.node kx).2.2.1 (x.node kx).2.2.2.1 (x.node kx).2.2.2.2.1 (x.node kx).2.2.2.2.2.1 (x.node kx).2.2.2.2.2.2.1 (x.node kx).2.2.2.2.2.2.2) ∧
      ∃ ky, TrF B w y ky ∧ Row8 w (a.add 8) (y.node ky).1 (y.node ky).2.1 (y.node ky).2.2.1 (y.node ky).2.2.2.1 (y.node ky).2.2.2.2.1 (y.node ky).2.2.2.2.2.1 (y.node ky).2.2.2.2.2.2.1 (y.node ky).2.2.2.2.2.2.2
theorem TrF.at_ {B : Nat} {w : World} : ∀ {t : Tr} {v : Value}, TrF B w t v → TrAt w t v
  | .lit .., _, h => h
  | .ref .., _, h => h
  | .cnt .., _, h => h
  | .un .., _, ⟨a, c, h0, h1, h2, _, kx, h3, h4⟩ => ⟨a, c, h0, h1, h2, kx, h3.at_, h4⟩
  | .bin .., _, ⟨a, c, h0, h1, h2, _, ⟨kx, h3, h4⟩, ky, h5, h6⟩ => ⟨a, c, h0, h1, h2, ⟨kx, h3.at_, h4⟩, ky, h5.at_, h6⟩
theorem Row8.grown {w w' : World} {b : Nat} {a : Addr} {k : Int} {op : ByteArray} {vk vn : Int} {vs va f : ByteArray} {kids : Value} (h : Row8 w a k op vk vn vs va f kids) (hb : GB b w w') (hne : a.block ≠ b) : Row8 w' a k op vk vn vs va f kids := by
  obtain ⟨h0, h1, h2, h3, h4, h5, h6, h7⟩ := h
  have e := hb.block a.block (World.block_lt_of_cell? w _ h0) (fun e => hne (Option.some.inj e))
  exact ⟨(World.cell?_of_block e).trans h0, (World.cell?_of_block (a := ⟨a.block, a.off + 1, none⟩) e).trans h1, (World.cell?_of_block (a := ⟨a.block, a.off + 2, none⟩) e).trans h2, (World.cell?_of_block (a := ⟨a.block, a.off + 3, none⟩) e).trans h3, (World.cell?_of_block (a := ⟨a.block, a.off + 4, none⟩) e).trans h4, (World.cell?_of_block (a := ⟨a.block, a.off + 5, none⟩) e).trans h5, (World.cell?_of_block (a := ⟨a.block, a.off + 6, none⟩) e).trans h6, (World.cell?_of_block (a := ⟨a.block, a.off + 7, none⟩) e).trans h7⟩
theorem TrF.grown {B b : Nat} {w w' : World} (hb : GB b w w') (hB : b < B) : ∀ {t : Tr} {v : Value}, TrF B w t v → TrF B w' t v
  | .lit .., _, h => h
  | .ref .., _, h => h
  | .cnt .., _, h => h
  | .un .., _, ⟨a, c, h0, h1, h2, hl, kx, h3, h4⟩ => ⟨a, c, h0, h1, h2, hl, kx, h3.grown hb hB, h4.grown hb (by omega)⟩
  | .bin .., _, ⟨a, c, h0, h1, h2, hl, ⟨kx, h3, h4⟩, ky, h5, h6⟩ => ⟨a, c, h0, h1, h2, hl, ⟨kx, h3.grown hb hB, h4.grown hb (by omega)⟩, ky, h5.grown hb hB, h6.grown hb (by rw [addr_blk]; omega)⟩
theorem TrF.later {B : Nat} {w w' : World} (hb : Below w.heap.size w w') : ∀ {t : Tr} {v : Value}, TrF B w t v → TrF B w' t v
  | .lit .., _, h => h
  | .ref .., _, h => h
  | .cnt .., _, h => h
  | .un .., _, ⟨a, c, h0, h1, h2, hl, kx, h3, h4⟩ => ⟨a, c, h0, h1, h2, hl, kx, h3.later hb, h4.later hb⟩
  | .bin .., _, ⟨a, c, h0, h1, h2, hl, ⟨kx, h3, h4⟩, ky, h5, h6⟩ => ⟨a, c, h0, h1, h2, hl, ⟨kx, h3.later hb, h4.later hb⟩, ky, h5.later hb, h6.later hb⟩
theorem TrF.mono {B B' : Nat} {w : World} (hB : B' ≤ B) : ∀ {t : Tr} {v : Value}, TrF B w t v → TrF B' w t v
  | .lit .., _, h => h
  | .ref .., _, h => h
  | .cnt .., _, h => h
  | .un .., _, ⟨a, c, h0, h1, h2, hl, kx, h3, h4⟩ => ⟨a, c, h0, h1, h2, by omega, kx, h3.mono hB, h4⟩
  | .bin .., _, ⟨a, c, h0, h1, h2, hl, ⟨kx, h3, h4⟩, ky, h5, h6⟩ => ⟨a, c, h0, h1, h2, by omega, ⟨kx, h3.mono hB, h4⟩, ky, h5.mono hB, h6⟩
/-- How many lie below one another. -/
def Tr.dep : Tr → Nat
  | .lit .. => 0
  | .ref .. => 0
  | .cnt .. => 0
  | .un _ x => x.dep + 1
  | .bin _ x y => max x.dep y.dep + 1
def Tr.smd (D : Nat) (t : Tr) : Prop := t.small ∧ t.dep ≤ D
/-- What is told is a right tree, its rows from block B on, of at most so many below one another. -/
def Made (D B : Nat) (e : Ending) (w : World) : Prop := ∃ (t : Tr) (K : Value), e = .returned (t.val K) ∧ TrF B w t K ∧ t.ok = true ∧ t.smd D
theorem Made.up {D D' B : Nat} {e : Ending} {w : World} (h : Made D B e w) (hD : D ≤ D') : Made D' B e w := by
  obtain ⟨t, K, h1, h2, h3, h4, h5⟩ := h
  exact ⟨t, K, h1, h2, h3, h4, Nat.le_trans h5 hD⟩
abbrev z8 : Array Value := #[.int .i64 0, .string e0, .int .i64 0, .int .i64 0, .string e0, .string e0, .string e0, nilk]
/-- The rows of a call of 'of'. -/
def KO (w0 : World) (g : Nat) (oo : Oo) (lv : Value) (L : List UInt8) (w : World) (v : V3) (vv : Value) (W : World) : Prop :=
  FD w0 g oo lv L W ∧ GB g w W ∧ Blk W (w.heap.size + 1) 40 #[.int .i64 v.1, .int .i64 v.2.1, .string v.2.2] ∧ Blk W (w.heap.size + 1 + 1) 42 z8 ∧ Own W w.heap.size 54 2 slF vv (oo.vl.map (·.1) ++ [oo.own.1]) ∧ g < w.heap.size
section
variable {w0 w W W1 : World} {g : Nat} {oo : Oo} {lv : Value} {L : List UInt8} {v : V3} {vv : Value}
theorem KO.step (h : KO w0 g oo lv L w v vv W) (hb : Below W.heap.size W W1) : KO w0 g oo lv L w v vv W1 :=
  ⟨h.1.go hb, gb_trans h.2.1 (gb_of hb), h.2.2.1.later hb, h.2.2.2.1.later hb, h.2.2.2.2.1.later hb, h.2.2.2.2.2⟩
theorem KO.facts (h : KO w0 g oo lv L w v vv W) : (∀ j, W.cell? ⟨w.heap.size + 1, j, none⟩ = #[Value.int .i64 v.1, .int .i64 v.2.1, .string v.2.2][j]?) ∧ (∀ j, W.cell? ⟨w.heap.size + 1 + 1, j, none⟩ = z8[j]?) ∧ (∀ j, W.frozen? ⟨w.heap.size + 1 + 1, j, none⟩ = false) :=
  ⟨fun j => h.2.2.1.cell j, fun j => h.2.2.2.1.cell j, fun j => h.2.2.2.1.frozen j⟩
theorem gb_put {w W : World} {g : Nat} (h : GB g w W) (p : Addr) (hp : w.heap.size ≤ p.block) (x : Value) : GB g w (W.setCell p x) :=
  ⟨h.os, h.tape, h.output, by simpa using h.size, fun k hk hn => by
    rw [Below.heap_setCell W p x k (by omega)]; exact h.block k hk hn⟩
theorem fd_put {w W : World} (h : FD w0 g oo lv L W) (hgw : GB g w W) (hw : FD w0 g oo lv L w) (p : Addr) (hp : w.heap.size ≤ p.block) (x : Value) : FD w0 g oo lv L (W.setCell p x) := by
  obtain ⟨at_, ha, hg⟩ := h.2.2.2.1
  obtain ⟨_, _, hg0⟩ := hw.2.2.2.1
  have hl := hg0.lt
  exact hw.grown (gb_put hgw p hp x) at_ ha (hg.far (by show g ≠ p.block; omega) x)
abbrev set8 (W : World) (b : Nat) (x0 x1 x2 x3 x4 x5 x6 x7 : Value) : World := (((((((W.setCell ⟨b, 0, none⟩ x0).setCell ⟨b, 1, none⟩ x1).setCell ⟨b, 2, none⟩ x2).setCell ⟨b, 3, none⟩ x3).setCell ⟨b, 4, none⟩ x4).setCell ⟨b, 5, none⟩ x5).setCell ⟨b, 6, none⟩ x6).setCell ⟨b, 7, none⟩ x7
theorem gb_put8 {w W : World} {g b : Nat} (h : GB g w W) (hb : w.heap.size ≤ b) (x0 x1 x2 x3 x4 x5 x6 x7 : Value) : GB g w (set8 W b x0 x1 x2 x3 x4 x5 x6 x7) :=
  gb_put (gb_put (gb_put (gb_put (gb_put (gb_put (gb_put (gb_put h ⟨b, 0, none⟩ hb _) ⟨b, 1, none⟩ hb _) ⟨b, 2, none⟩ hb _) ⟨b, 3, none⟩ hb _) ⟨b, 4, none⟩ hb _) ⟨b, 5, none⟩ hb _) ⟨b, 6, none⟩ hb _) ⟨b, 7, none⟩ hb _
theorem fd_put8 {w W : World} {b : Nat} (h : FD w0 g oo lv L W) (hgw : GB g w W) (hw : FD w0 g oo lv L w) (hb : w.heap.size ≤ b) (x0 x1 x2 x3 x4 x5 x6 x7 : Value) : FD w0 g oo lv L (set8 W b x0 x1 x2 x3 x4 x5 x6 x7) := by
  obtain ⟨at_, ha, hg⟩ := h.2.2.2.1
  obtain ⟨_, _, hg0⟩ := hw.2.2.2.1
  have hl := hg0.lt
  have hne : g ≠ b := by omega
  exact hw.grown (gb_put8 hgw hb x0 x1 x2 x3 x4 x5 x6 x7) at_ ha ((((((((hg.far (p := ⟨b, 0, none⟩) hne x0).far (p := ⟨b, 1, none⟩) hne x1).far (p := ⟨b, 2, none⟩) hne x2).far (p := ⟨b, 3, none⟩) hne x3).far (p := ⟨b, 4, none⟩) hne x4).far (p := ⟨b, 5, none⟩) hne x5).far (p := ⟨b, 6, none⟩) hne x6).far (p := ⟨b, 7, none⟩) hne x7)
theorem Made.lit {D B : Nat} {k n : Int} {s : ByteArray} (w : World) (h : (Tr.lit k n s).ok = true) (hn : inR n) : Made D B (.returned (ev 0 e0 k n s e0 e0 nilk)) w := ⟨.lit k n s, nilk, rfl, rfl, h, hn, Nat.zero_le _⟩
theorem Made.ref {D B : Nat} {x f : ByteArray} (w : World) (h : nameB x = true) (hf : nameB f = true) : Made D B (.returned (ev 1 e0 0 0 e0 x f nilk)) w := ⟨.ref x f, nilk, rfl, rfl, by show (nameB x && nameB f) = true; rw [h, hf]; rfl, trivial, Nat.zero_le _⟩
theorem Made.cnt {D B : Nat} {x : ByteArray} (w : World) (h : nameB x = true) : Made D B (.returned (ev 2 e0 0 0 e0 x e0 nilk)) w := ⟨.cnt x, nilk, rfl, rfl, h, trivial, Nat.zero_le _⟩
end
set_option maxRecDepth 20000 in
set_option maxHeartbeats 4000000 in
theorem of_any (D : Nat) (w0 : World) (g : Nat) (oo : Oo) (lv : Value) (L : List UInt8) (w : World) (Fs : ByteArray) (k0 n0 : Int) (s0 : ByteArray) (hL : L.length ≤ 140737488351232) (hF : Fs.size ≤ 3) (ho : (Tr.lit k0 n0 s0).ok = true) (hn : inR n0) (h : FD w0 g oo lv L w) :
    Calls Tryd.prog 32 #[.pointer (some ⟨g, 0, none⟩), .agg #[.string oo.nm, .slice oo.A oo.n oo.c], .string Fs, vv k0 n0 s0] w fun e w' => Made D w.heap.size e w' ∧ FD w0 g oo lv L w' ∧ GB g w w' := by
  have hgl : g < w.heap.size := by obtain ⟨_, _, h2⟩ := h.2.2.2.1; exact h2.lt
  have b0 : Below w.heap.size w (((w.alloc (.cells #[.string oo.nm, .slice oo.A oo.n oo.c] 54)).alloc (.cells #[.int .i64 k0, .int .i64 n0, .string s0] 40)).alloc (.cells z8 42)) := bt (bt (ba _ _) (ba _ _)) (ba _ _)
  have r0 : Blk (((w.alloc (.cells #[.string oo.nm, .slice oo.A oo.n oo.c] 54)).alloc (.cells #[.int .i64 k0, .int .i64 n0, .string s0] 40)).alloc (.cells z8 42)) w.heap.size 54 #[.string oo.nm, .slice oo.A oo.n oo.c] := ((Blk.new w _ _).alloc _).alloc _
  have r1 : Blk (((w.alloc (.cells #[.string oo.nm, .slice oo.A oo.n oo.c] 54)).alloc (.cells #[.int .i64 k0, .int .i64 n0, .string s0] 40)).alloc (.cells z8 42)) (w.heap.size + 1) 40 #[.int .i64 k0, .int .i64 n0, .string s0] := by
    have := (Blk.new (w.alloc (.cells #[.string oo.nm, .slice oo.A oo.n oo.c] 54)) 40 #[.int .i64 k0, .int .i64 n0, .string s0]).alloc (.cells z8 42)
    simpa using this
  have r2 : Blk (((w.alloc (.cells #[.string oo.nm, .slice oo.A oo.n oo.c] 54)).alloc (.cells #[.int .i64 k0, .int .i64 n0, .string s0] 40)).alloc (.cells z8 42)) (w.heap.size + 1 + 1) 42 z8 := by
    have := Blk.new ((w.alloc (.cells #[.string oo.nm, .slice oo.A oo.n oo.c] 54)).alloc (.cells #[.int .i64 k0, .int .i64 n0, .string s0] 40)) 42 z8
    simpa using this
  have HN := Lib.hid (And.intro (h.go b0) (And.intro r0 (And.intro r1 (And.intro r2 (And.intro b0 (And.intro h (And.intro ho hn))))))); clear b0 r0 r1 r2 h ho hn
  go_enter Tryd.func32, Tryd.ntmps32
  go_wp2_with (go_at_call 15; ((with_reducible refine (next_any w0 g oo lv L _ hL HN.out.1).mono ?_); rintro e w1 ⟨⟨b, hb255, rfl⟩, hF1, hg1⟩; have H1 := Lib.hid (And.intro hF1 hg1); clear hF1 hg1))
  have r0 : Blk w1 w.heap.size 54 #[.string oo.nm, .slice oo.A oo.n oo.c] := HN.out.2.1.grown H1.out.2 (by simp; omega)
  have hgw : GB g w w1 := gb_trans (gb_of HN.out.2.2.2.2.1) H1.out.2
  have r1 := HN.out.2.2.1.grown H1.out.2 (by simp; omega)
  have r2 := HN.out.2.2.2.1.grown H1.out.2 (by simp; omega)
  have H2 := Lib.hid (And.intro r1 (And.intro r2 hgw)); clear r1 r2 hgw
  refine wp_of_eq (c' := ((Tryd.f32.body.bind (regionN 2)).getD .skip)) ?_ (by kernel_rfl)
  refine of_vars _ _ _ _ _ _ _ _ _ _ _ _ _ _ _ _ _ _ _ _ _ _ _ _ _ _ _ _ _ _ _ _ _ _ _ _ _ _ _ _ _ _ _ _ _ _ _ _ _ _ _ _ _ _ _ _ _ _ _ _ _ _ _ _ _ _ _ _ _ _ _ _ _ _ _ _ _ H1.out.1 r0 (fun _ _ _ _ _ _ _ _ vv wx hwx => ?_)
  obtain ⟨hO, hbx⟩ := hwx
  have K : KO w0 g oo lv L w (k0, n0, s0) vv wx := ⟨H1.out.1.go hbx, gb_trans H2.out.2.2 (gb_of hbx), H2.out.1.later hbx, H2.out.2.1.later hbx, hO.lift H2.out.2.2.size, hgl⟩
  replace K := Lib.hid K
  obtain ⟨v1, v3, hv, v4, v5, v6⟩ := hO.shape
  obtain ⟨nl, hnl⟩ : ∃ nl, nl = oo.vl.length + 1 := ⟨_, rfl⟩
  have hlen : (oo.vl.map (·.1) ++ [oo.own.1]).length = nl := by rw [hnl]; simp
  have hnl9 : nl ≤ 9 := by have := H1.out.1.2.2.2.2.1.2; omega
  rw [hlen] at hv
  subst hv
  clear hO hbx r0 H1 H2 v4 v5 v6 hnl
  go_wp2_with fail
  clear w1
  go_loopw [11] (fun iv wr => ∃ i : Nat, i ≤ nl ∧ iv = .int .i64 i ∧ KO w0 g oo lv L w (k0, n0, s0) (.slice v1 nl v3) wr) (fun iv _ => nl - (intOf iv).toNat)
  case atStart => exact ⟨0, Nat.zero_le _, rfl, K.out⟩
  case round =>
    obtain ⟨i, hi, rfl, hK⟩ := hrel
    clear K
    have K := Lib.hid hK; clear hK
    by_cases hlt : i < nl
    · have HI := Lib.hid (show i + 1 ≤ nl by omega)
      obtain ⟨ge, rfl, _, _, _, hc⟩ := Own.cells (k := 2) (f := slF) (fun _ => rfl) K.out.2.2.2.2.1 rfl (by rw [hlen]; omega)
      obtain ⟨q, hq, hqe⟩ : ∃ q : Nat, q < nl ∧ ((b : Int) + (i : Int)).tmod (nl : Int) = (q : Int) := ⟨(b + i) % nl, Nat.mod_lt _ (by omega), by rw [Int.tmod_eq_emod_of_nonneg (by omega)]; simp⟩
      have hqe2 : ((b : Int) + (i : Int)) % (nl : Int) = (q : Int) := by rw [← Int.tmod_eq_emod_of_nonneg (by omega)]; exact hqe
      obtain ⟨Nm, gf, m, hNm, hm0, hm4, hrow, cq0, cq1⟩ : ∃ (Nm : ByteArray) (gf m : Nat), nameB Nm = true ∧ 0 < m ∧ m ≤ 4 ∧ (∀ r, r < m → ∃ M, nameB M = true ∧ wr.cell? ⟨gf, r, none⟩ = some (.string M)) ∧ wr.cell? ⟨ge, q * 2, none⟩ = some (.string Nm) ∧ wr.cell? ⟨ge, q * 2 + 1, none⟩ = some (.slice (some ⟨gf, 0, none⟩) m m) := by
        have hql : q < (oo.vl.map (·.1) ++ [oo.own.1]).length := by rw [hlen]; exact hq
        have hx : ∃ x : Sl, (oo.vl.map (·.1) ++ [oo.own.1])[q]'hql = x.1 ∧ SlotR wr g x := by
          by_cases h1 : q < oo.vl.length
          · refine ⟨oo.vl[q]'h1, ?_, K.out.1.2.2.2.2.2.1 _ (List.getElem_mem h1)⟩
            rw [List.getElem_append_left (by simpa using h1), List.getElem_map]
          · refine ⟨oo.own, ?_, K.out.1.2.2.2.2.2.2⟩
            rw [List.getElem_append_right (by simpa using Nat.le_of_not_lt h1)]
            simp
        obtain ⟨x, hx1, hx2, bb, hx3, hx4, hx5, hx6, hx7, hx8⟩ := hx
        have c0 := hc q hql 0 _ rfl
        have c1 := hc q hql 1 _ rfl
        rw [hx1] at c0 c1
        rw [hx4] at c1
        refine ⟨x.1.1, bb, x.2.length, hx2, hx6, hx7, fun r hr => ⟨x.2[r]'hr, hx8 _ (List.getElem_mem hr), ?_⟩, c0, c1⟩
        rw [hx5.cell r]
        simp [strsC, List.getElem?_eq_getElem hr]
      have HR := Lib.hid (And.intro hrow hNm); clear hrow hNm hc hqe
      have hq0 : (0 : Int) ≤ (q : Int) := by omega
      have hq2 : (q : Int) < (nl : Int) := by omega
      have hnz : (nl : Int) ≠ 0 := by omega
      go_wp2_with fail
      have bN := ba wr (.cells #[.string Nm, .slice (some ⟨gf, 0, none⟩) m m] 54)
      have rN := Blk.new wr 54 #[.string Nm, .slice (some ⟨gf, 0, none⟩) m m]
      have K2 := Lib.hid (And.intro (K.out.step bN) (And.intro rN (And.intro bN (fun r (hr : r < m) => (HR.out.1 r hr).imp fun M hM => (⟨hM.1, (bN.cell (World.block_lt_of_cell? wr _ hM.2)).trans hM.2⟩ : nameB M = true ∧ (wr.alloc (.cells #[.string Nm, .slice (some ⟨gf, 0, none⟩) m m] 54)).cell? ⟨gf, r, none⟩ = some (.string M)))))); clear bN rN K cq0 cq1
      generalize wr.alloc _ = W2 at *
      generalize wr.heap.size = sb at *
      clear hqe2 hq0 hq2 hlt
      go_loopw [13] (fun kv w3 => ∃ k : Nat, k ≤ m ∧ kv = .int .i64 k ∧ Below W2.heap.size W2 w3) (fun kv _ => m - (intOf kv).toNat)
      case atStart => exact ⟨0, Nat.zero_le _, rfl, Below.refl _ _⟩
      case round =>
        obtain ⟨k, hk, rfl, hb3⟩ := hrel
        have HB3 := Lib.hid hb3
        have y := K2.out.2.1.later hb3
        have y0 := y.cell 0
        have y1 := y.cell 1
        clear y hb3
        by_cases hk2 : k < m
        · obtain ⟨r, hr, hre⟩ : ∃ r : Nat, r < m ∧ ((b : Int) / 8 + (k : Int)) % (m : Int) = (r : Int) := ⟨(b / 8 + k) % m, Nat.mod_lt _ hm0, by simp⟩
          obtain ⟨M, hM, hcM⟩ := K2.out.2.2.2 r hr
          have z0 : wr.cell? ⟨gf, r, none⟩ = some (.string M) := by rw [HB3.out.cell (World.block_lt_of_cell? W2 _ hcM)]; exact hcM
          have HM := Lib.hid hM; clear hM hcM
          have x2 : (m : Int) ≠ 0 := by omega
          have x3 : (r : Int) < (m : Int) := by omega
          go_wp2_with fail
          go_quiet (fail)
          go_wp2_with fail
          have hb4 := bt HB3.out (below_drewN (Below.refl wr.heap.size wr) nq)
          generalize wr.drewN nq = w4 at *
          have K4 := Lib.hid (And.intro (K2.out.1.step hb4) (And.intro (K2.out.2.1.later hb4) hb4))
          obtain ⟨p0, p1, p2⟩ := K4.out.1.facts
          have y4 := K4.out.2.1.cell 0
          clear hb4 y0 y1 z0 x2 x3 hre
          go_loop [15] (fun nv => ∃ n : Nat, n ≤ Fs.size ∧ nv = .int .i64 n) (fun nv => Fs.size - (intOf nv).toNat)
          case atStart => exact ⟨0, Nat.zero_le _, rfl⟩
          case round =>
            obtain ⟨n, hn, rfl⟩ := hrel
            by_cases hn2 : n < Fs.size
            · have hsl := slice_string Tryd.prog w4 9 Tryd.underlying9 Fs n (n + 1) (by omega) (by omega)
              rw [show ((n + 1 : Nat) : Int) = (n : Int) + 1 from rfl] at hsl
              have hFs : Fs.size ≤ 9223372036854775807 := by omega
              cases hq3 : (M.toList == (Fs.extract n (n + 1)).toList) with
              | true =>
                have hq4 : M.toList = (Fs.extract n (n + 1)).toList := by simpa using hq3
                go_wp2_with fail
                exact bodyPost_ret (v := ev 1 e0 0 0 e0 Nm M nilk) (by simp [results, Tryd.results32, go_sem, p1]) rfl ⟨Made.ref _ HR.out.2 HM.out, fd_put8 K4.out.1.1 K4.out.1.2.1 HN.out.2.2.2.2.2.1 (by omega) _ _ _ _ _ _ _ _, gb_put8 K4.out.1.2.1 (by omega) _ _ _ _ _ _ _ _⟩
              | false =>
                have hq4 : ¬ M.toList = (Fs.extract n (n + 1)).toList := by simpa using hq3
                go_wp2_with fail
                go_round
                case rel => exact ⟨n + 1, by omega, by go_num⟩
                case measure => simp [intOf]; omega
            · go_wp2_with fail
              go_roundw
              case rel => exact ⟨k + 1, by omega, by go_num, K4.out.2.2⟩
              case measure => simp [intOf]; omega
        · have hb9 := K2.out.2.2.1
          go_wp2_with fail
          go_roundw
          case rel => exact ⟨i + 1, HI.out, by go_num, K2.out.1.step HB3.out⟩
          case measure => (have := HI.out; simp [intOf]; omega)
    · obtain ⟨p0, p1, p2⟩ := K.out.facts
      go_wp2_with fail
      exact bodyPost_ret (v := ev 0 e0 k0 n0 s0 e0 e0 nilk) (by simp [results, Tryd.results32, go_sem, p1]) rfl ⟨Made.lit _ HN.out.2.2.2.2.2.2.1 HN.out.2.2.2.2.2.2.2, fd_put8 K.out.1 K.out.2.1 HN.out.2.2.2.2.2.1 (by omega) _ _ _ _ _ _ _ _, gb_put8 K.out.2.1 (by omega) _ _ _ _ _ _ _ _⟩
end Go.Proofs.YtenmbahfgfmjjaaDoor
