/- The walk of GraphAdds. -/
import Derived.Test.YtinonfgehbjneaaGphU
import Derived.Test.YtinonfgehbjneaaGphV
import Derived.Test.YtinonfgehbjneaaWalkGraphAbove
namespace Go.Proofs.Ytinonfgehbjneaa
open Go.ChangeShapes Go.WideShapes Go.ChangeAt Go.RowKit Go.Maps
open Gr (Nd nmAt frAt Dist Loopy RankFull IsOrder AddLoop)
set_option linter.unusedVariables false
set_option linter.unusedSimpArgs false

theorem bytes_at {w : World} {v : Value} {l : List UInt8} (h : BytesAt w v l) : At w 1 rowB v l := by
  rcases h with ⟨rfl, rfl⟩ | ⟨a, cap, rfl, h1, h2, h3⟩
  · exact At.nil _ _ _
  · refine ⟨some a, cap, rfl, h1, h2, fun h => by simp at h, fun b hb j hj i u hu => ?_⟩
    obtain rfl : a = b := by simpa using hb
    have hi : i = 0 := by
      have := (List.getElem?_eq_some_iff.1 hu).1
      simp at this; exact this
    subst hi
    rw [Nat.mul_one, Nat.add_zero, h3 j hj]
    simpa using hu
set_option maxRecDepth 20000 in
set_option maxHeartbeats 4000000 in
theorem adds7 (u0 u1 u3 u4 u5 u6 u7 u8 u9 u10 u11 u13 u14 u15 u16 u17 u18 u19 u20 u21 u22 u23 u24 u25 u26 u27 u28 u29 u30 u31 u32 u33 u34 u35 u36 u37 u38 u39 u40 u41 u42 u43 u44 u45 u46 u47 u48 u49 u50 u51 u52 u53 u54 u55 u56 u57 u58 u59 u60 u61 u62 u63 u64 u65 u66 u67 u68 u69 u70 u71 u72 u73 u74 u75 u76 u77 u78 u79 u80 u81 u82 u83 u84 u85 u86 u87 u88 u89 u90 u91 u92 u93 u94 u95 u96 u97 u98 u99 u100 u101 u102 u103 u104 u105 u106 u107 u108 u109 u110 u111 u112 u113 u114 u115 u116 u117 u118 u119 u120 u121 u122 u123 u124 u125 u126 u127 u128 u129 u130 u131 u132 u133 u134 u135 u136 u137 u138 u139 u140 u141 u142 u143 u144 u145 u146 u147 u148 u149 u150 : Value) {w : World} {A : Option Addr} {n c k : Nat} {bb : Bool} (hk : k ≤ 9) (hn : n ≤ 140737488351232) (hbb : bb = (decide (k < n) && decide (k < 4))) {Q : Exit → Act → World → Prop}
    (hQ : ∀ (x32 x33 x34 x35 x36 x37 x38 : Value)  (wx : World), wx = w → Q .normal ⟨#[u0, u1, .slice A n c, u3, u4, u5, u6, u7, u8, u9, u10, u11, .int .i64 (k : Nat), u13, u14, u15, u16, u17, u18, u19, u20, u21, u22, u23, u24, u25, u26, u27, u28, u29, u30, u31, x32, x33, x34, x35, x36, x37, x38, .bool bb, u40, u41, u42, u43, u44, u45, u46, u47, u48, u49, u50, u51, u52, u53, u54, u55, u56, u57, u58, u59, u60, u61, u62, u63, u64, u65, u66, u67, u68, u69, u70, u71, u72, u73, u74, u75, u76, u77, u78, u79, u80, u81, u82, u83, u84, u85, u86, u87, u88, u89, u90, u91, u92, u93, u94, u95, u96, u97, u98, u99, u100, u101, u102, u103, u104, u105, u106, u107, u108, u109, u110, u111, u112, u113, u114, u115, u116, u117, u118, u119, u120, u121, u122, u123, u124, u125, u126, u127, u128, u129, u130, u131, u132, u133, u134, u135, u136, u137, u138, u139, u140, u141, u142, u143, u144, u145, u146, u147, u148, u149, u150], []⟩ wx) :
    Code.wp Try.prog ((Try.f7.body.bind (regionN 7)).getD .skip) Q ⟨#[u0, u1, .slice A n c, u3, u4, u5, u6, u7, u8, u9, u10, u11, .int .i64 (k : Nat), u13, u14, u15, u16, u17, u18, u19, u20, u21, u22, u23, u24, u25, u26, u27, u28, u29, u30, u31, u32, u33, u34, u35, u36, u37, u38, u39, u40, u41, u42, u43, u44, u45, u46, u47, u48, u49, u50, u51, u52, u53, u54, u55, u56, u57, u58, u59, u60, u61, u62, u63, u64, u65, u66, u67, u68, u69, u70, u71, u72, u73, u74, u75, u76, u77, u78, u79, u80, u81, u82, u83, u84, u85, u86, u87, u88, u89, u90, u91, u92, u93, u94, u95, u96, u97, u98, u99, u100, u101, u102, u103, u104, u105, u106, u107, u108, u109, u110, u111, u112, u113, u114, u115, u116, u117, u118, u119, u120, u121, u122, u123, u124, u125, u126, u127, u128, u129, u130, u131, u132, u133, u134, u135, u136, u137, u138, u139, u140, u141, u142, u143, u144, u145, u146, u147, u148, u149, u150], []⟩ w := by
  have HQ := Lib.hid hQ; clear hQ
  conv => arg 2; whnf
  by_cases h1 : k < n
  · by_cases h2 : k < 4
    · have h3 : (k : Int) < (n : Int) := by omega
      have h4 : (k : Int) < 4 := by omega
      obtain rfl : bb = true := by rw [hbb]; simp [h1, h2]
      clear hbb
      go_wp2_with fail
      exact HQ.out _ _ _ _ _ _ _ _ rfl
    · have h3 : (k : Int) < (n : Int) := by omega
      have h4 : ¬ (k : Int) < 4 := by omega
      obtain rfl : bb = false := by rw [hbb]; simp [h1, h2]
      clear hbb
      go_wp2_with fail
      exact HQ.out _ _ _ _ _ _ _ _ rfl
  · have h3 : ¬ (k : Int) < (n : Int) := by omega
    obtain rfl : bb = false := by rw [hbb]; simp [h1]
    clear hbb
    go_wp2_with fail
    exact HQ.out _ _ _ _ _ _ _ _ rfl
def xnm (p : Nat) : ByteArray := if p = 0 then ⟨#[115]⟩ else if p = 1 then ⟨#[116]⟩ else ⟨#[117]⟩
theorem xnm_size (q : Nat) : (xnm q).size ≤ maxLen := by
  unfold xnm maxLen
  split
  · decide
  · split <;> decide
theorem tot_left (N : List Nd) (x : Nd) : ∀ i, i ≤ N.length → tot (N ++ [x]) i = tot N i
  | 0, _ => rfl
  | i + 1, h => by
    simp only [tot]
    rw [tot_left N x i (by omega), (Gr.at_left (show i < N.length by omega)).2]
theorem ranksA_shape {N : List Nd} {B : Nat} {w : World} {r : Value} {k : Int} (h : RanksA N B w r k) : ∃ A n c, r = .slice A n c := by
  rcases h with ⟨_, h, _⟩ | ⟨_, _, h, _⟩ | ⟨_, _, R, h, _⟩
  · exact ⟨_, _, _, h⟩
  · exact ⟨_, _, _, h⟩
  · exact own_shape h
set_option maxRecDepth 20000 in
set_option maxHeartbeats 16000000 in
theorem walk_GraphAdds (v0 : Value) (Ls : List Lk) (t : Int) (v2 : Value) (fr : List UInt8) (p : Int) (w : World) (h0 : LksR w v0 Ls) (b0 : True) (l1 : 0 ≤ t) (u1 : t ≤ 255) (hfb : BytesAt w v2 fr) (bfr : fr.length ≤ 140737488351232) (l3 : 0 ≤ p) (u3 : p ≤ 255) :
    Calls Try.prog 7 #[v0, .int .u8 t, v2, .int .u8 p] w fun e w' => e = .returned (.bool true) ∧ Below w.heap.size w w' := by
  obtain ⟨j0, hj, hy0, hy1, hy2⟩ := info_parts (P := Try.prog) (e := 45) (z := .agg #[.string ⟨#[]⟩, .slice none 0 0]) (size := 2) (bytes := 40) (by kernel_rfl)
  obtain ⟨js, sj, sy0, sy1, sy2⟩ := info_parts (P := Try.prog) (e := 9) (z := .string ⟨#[]⟩) (size := 1) (bytes := 16) (by kernel_rfl)
  obtain ⟨tn, rfl⟩ := Int.eq_ofNat_of_zero_le l1
  obtain ⟨pn, rfl⟩ := Int.eq_ofNat_of_zero_le l3
  obtain ⟨A, c, rfl, a1, a2, _⟩ := h0.1.shape
  have hfa := bytes_at hfb
  obtain ⟨fA0, fc0, rfl, _, _, _⟩ := hfa.shape
  obtain ⟨nf, hnf⟩ : ∃ nf, nf = fr.length := ⟨_, rfl⟩
  rw [← hnf] at hfa bfr ⊢
  have H := Lib.hid (And.intro h0 (And.intro hfa hnf)); clear h0 a1 hfa hfb hnf
  obtain ⟨q, hq⟩ : ∃ q, q = pn % 3 := ⟨_, rfl⟩
  have hqm : (pn : Int) % 3 = (q : Int) := by omega
  have hqm2 : Int.tmod (pn : Int) 3 = (q : Int) := by rw [Int.tmod_eq_emod_of_nonneg (by omega)]; omega
  have hq3 : q < 3 := by omega
  have hqw : IntKind.u8.wrap (q : Int) = (q : Int) := IntWalk.u8_in _ (by omega)
  clear hq
  go_enter Try.func7, Try.ntmps7
  go_wp2_with fail
  try go_at_call 9
  refine (examples_any w).mono ?_
  rintro e w1 ⟨rfl, b1⟩
  have K1 := Lib.hid b1; clear b1
  go_wp2_with fail
  try go_at_call 11
  refine (down_any _ Ls tn w1 (H.out.1.later K1.out) (by omega)).mono ?_
  rintro e w2 ⟨r, ⟨rfl, hN⟩, b2⟩
  have hi6 : min Ls.length 6 ≤ 6 := by omega
  have hlen := downU_len Ls tn (min Ls.length 6)
  have hD := down_names (Ls := Ls) (turn := tn) _ hi6
  have hLo := down_loop (Ls := Ls) (turn := tn) hi6
  have htt := down_tot (Ls := Ls) (turn := tn) (i := min Ls.length 6) (min Ls.length 6)
  have hnx : ∀ q, q < 3 → xnm q ∉ (downU Ls tn (min Ls.length 6)).map (·.1) := fun q hq hm => by
    obtain ⟨d, hd, e⟩ := List.mem_map.1 hm
    obtain ⟨j, hj, rfl⟩ := down_mem _ hd
    have e' : nmO j = xnm q := e
    rcases (by omega : q = 0 ∨ q = 1 ∨ q = 2) with rfl | rfl | rfl
    · have := nmO_inj (a := j) (b := 6) (by omega) (by omega) e'
      omega
    · have := nmO_inj (a := j) (b := 7) (by omega) (by omega) e'
      omega
    · rcases (by omega : j = 0 ∨ j = 1 ∨ j = 2 ∨ j = 3 ∨ j = 4 ∨ j = 5) with rfl | rfl | rfl | rfl | rfl | rfl <;> exact absurd e' (by decide)
  generalize downU Ls tn (min Ls.length 6) = N at *
  obtain ⟨n, hn⟩ : ∃ n, n = min Ls.length 6 := ⟨_, rfl⟩
  rw [← hn] at hlen htt hi6
  clear hn
  have hat := hN.at_
  obtain ⟨l, h1, h2, h3⟩ := hat
  have hln : l.length = n := by rw [← hlen, ← h2, List.length_map]
  obtain ⟨A1, c1, rfl, _, _, _⟩ := h1.shape
  rw [hln] at hN h1 ⊢
  have K2 := Lib.hid (And.intro hN.at_ (And.intro (bt K1.out b2) (And.intro h1 (And.intro h2 (And.intro h3 (And.intro hlen (And.intro hD (And.intro hLo (And.intro htt (And.intro hnx hln)))))))))); clear hN b2 h1 h2 h3 hlen hD hLo htt hnx hln
  go_upto_region 5 with fail
  go_cut [11] (fun bv wx => bv = .pointer (some ⟨w2.heap.size + 1, 0, none⟩) ∧ Blk wx (w2.heap.size + 1) 45 #[.string (xnm q), .slice none 0 0] ∧ Below w2.heap.size w2 wx)
  case first =>
    have hl0 := Blk.new w2 9 #[.string ⟨#[115]⟩, .string ⟨#[116]⟩, .string ⟨#[117]⟩]
    have hl1 := hl0.cell q
    have hx : (#[Value.string ⟨#[115]⟩, .string ⟨#[116]⟩, .string ⟨#[117]⟩])[q]? = some (Value.string (xnm q)) := by
      rcases (by omega : q = 0 ∨ q = 1 ∨ q = 2) with rfl | rfl | rfl <;> rfl
    rw [hx] at hl1
    have hql : (q : Int) < 3 := by omega
    clear hl0 hx
    go_wp2_with fail
    go_meet
    refine ⟨by simp, ?_, bt (ba _ _) (ba _ _)⟩
    have := Blk.new (w2.alloc (.cells #[.string ⟨#[115]⟩, .string ⟨#[116]⟩, .string ⟨#[117]⟩] 9)) 45 #[.string (xnm q), .slice none 0 0]
    simpa using this
  case rest =>
    obtain ⟨rfl, hB3, hb3⟩ := hcut
    rename World => w3
    generalize hg : w2.heap.size + 1 = g at *
    have K3 := Lib.hid (And.intro hB3 (And.intro hb3 (show w2.heap.size ≤ g by omega))); clear hB3 hb3
    go_wp2_with fail
    go_loopw [12] (fun kv wr => ∃ (k : Nat) (fv : Value), k ≤ nf ∧ k ≤ 4 ∧ kv = .int .i64 (k : Int) ∧ Blk wr g 45 #[.string (xnm q), fv] ∧ Own wr (g + 1) 9 1 scV fv ((fr.take k).map adF) ∧ Below w2.heap.size w2 wr) (fun kv _ => nf - (intOf kv).toNat)
    case atStart => exact ⟨0, _, Nat.zero_le _, by omega, rfl, K3.out.1, Own.nil _ _ _ _ _, K3.out.2.1⟩
    case round =>
      rename World => wr1
      obtain ⟨k, fv, hk, hk4, rfl, hB, hF, hb0⟩ := hrel
      have hgl := hB.lt
      have hbw : Below w.heap.size w wr1 := bt K2.out.2.1 hb0
      by_cases hlt : k < nf ∧ k < 4
      · obtain ⟨hlt2, h4⟩ := hlt
        have hkl : k < fr.length := by have := H.out.2.2; omega
        obtain ⟨a2, rfl, hca2⟩ := (H.out.2.1.later K2.out.2.1).cells rfl (by omega)
        have z0 := hca2.row1 k hkl rfl
        rw [Nat.mul_one] at z0
        have htk : (fr.take (k + 1)).map adF = (fr.take k).map adF ++ [adF (fr[k]'hkl)] := by rw [Gr.take_more hkl, List.map_append]; rfl
        obtain ⟨s, hs⟩ : ∃ s, s = adF (fr[k]'hkl) := ⟨_, rfl⟩
        rw [← hs] at htk
        unfold adF at hs
        generalize (fr[k]'hkl).toNat = b at *
        have hfl : ((fr.take k).map adF).length ≤ 4 := by rw [List.length_map, List.length_take]; omega
        generalize (fr.take k).map adF = F at *
        obtain ⟨fA', fc', rfl, _, _, _⟩ := hF.shape
        have U := Lib.hid (And.intro hB (And.intro hF (And.intro hb0 (And.intro htk (And.intro hfl (And.intro hs z0)))))); clear hB hF hb0 htk hfl hs z0 hca2 hbw
        go_upto_region 7 with fail
        refine wp_of_eq (c' := ((Try.f7.body.bind (regionN 7)).getD .skip)) ?_ (by kernel_rfl)
        refine adds7 _ _ _ _ _ _ _ _ _ _ _ _ _ _ _ _ _ _ _ _ _ _ _ _ _ _ _ _ _ _ _ _ _ _ _ _ _ _ _ _ _ _ _ _ _ _ _ _ _ _ _ _ _ _ _ _ _ _ _ _ _ _ _ _ _ _ _ _ _ _ _ _ _ _ _ _ _ _ _ _ _ _ _ _ _ _ _ _ _ _ _ _ _ _ _ _ _ _ _ _ _ _ _ _ _ _ _ _ _ _ _ _ _ _ _ _ _ _ _ _ _ _ _ _ _ _ _ _ _ _ _ _ _ _ _ _ _ _ _ _ _ _ _ _ _ _ _ _ _ (by omega) bfr (bb := true) (by rw [decide_eq_true hlt2, decide_eq_true h4]; rfl) (fun x0 x1 x2 x3 x4 x5 x6 wx hx => ?_)
        subst hx
        go_upto_region 9 with fail
        refine wp_of_eq (c' := ((Try.f7.body.bind (regionN 9)).getD .skip)) ?_ (by kernel_rfl)
        refine adds9 _ _ _ _ _ _ _ _ _ _ _ _ _ _ _ _ _ _ _ _ _ _ _ _ _ _ _ _ _ _ _ _ _ _ _ _ _ _ _ _ _ _ _ _ _ _ _ _ _ _ _ _ _ _ _ _ _ _ _ _ _ _ _ _ _ _ _ _ _ _ _ _ _ _ _ _ _ _ _ _ _ _ _ _ _ _ _ _ _ _ _ _ _ _ _ _ _ _ _ _ _ _ _ _ _ _ _ _ _ _ _ _ _ _ _ _ _ _ _ _ _ _ _ _ _ _ _ _ _ _ _ _ _ _ _ _ _ _ _ _ _ _ _ _ _ _ _ _ U.out.1 U.out.2.1 U.out.2.2.1 K3.out.2.2 U.out.2.2.2.2.1 hlt2 rfl U.out.2.2.2.2.2.2 (fun x0 x1 x2 x3 x4 x5 x6 x7 x8 x9 x10 x11 x12 x13 x14 fv2 w9 hR => ?_)
        have Y := Lib.hid hR; clear hR
        go_wp2_with fail
        go_roundw
        case rel => exact ⟨k + 1, fv2, by omega, by omega, by go_num, Y.out.1, by rw [U.out.2.2.2.1, U.out.2.2.2.2.2.1]; exact Y.out.2.1, Y.out.2.2⟩
        case measure => simp [intOf]; omega
      · obtain ⟨FF, hFF⟩ : ∃ FF, FF = (fr.take k).map adF := ⟨_, rfl⟩
        have hF4 : FF.length ≤ 4 := by rw [hFF, List.length_map, List.length_take]; omega
        have hFs : ∀ f ∈ FF, f.size ≤ maxLen := fun f hf => by
          rw [hFF] at hf
          obtain ⟨b, _, rfl⟩ := List.mem_map.1 hf
          exact nm9_size _
        rw [← hFF] at hF
        clear hFF
        obtain ⟨fA, fc, rfl, _, _, _⟩ := hF.shape
        obtain ⟨fn, hfn⟩ : ∃ fn, fn = FF.length := ⟨_, rfl⟩
        rw [← hfn] at hB hF
        have hfn4 : fn ≤ 4 := by omega
        have U := Lib.hid (And.intro hB (And.intro hF (And.intro hb0 (And.intro hF4 (And.intro hFs hfn))))); clear hB hF hb0 hF4 hFs hfn hbw
        go_upto_region 7 with fail
        refine wp_of_eq (c' := ((Try.f7.body.bind (regionN 7)).getD .skip)) ?_ (by kernel_rfl)
        refine adds7 _ _ _ _ _ _ _ _ _ _ _ _ _ _ _ _ _ _ _ _ _ _ _ _ _ _ _ _ _ _ _ _ _ _ _ _ _ _ _ _ _ _ _ _ _ _ _ _ _ _ _ _ _ _ _ _ _ _ _ _ _ _ _ _ _ _ _ _ _ _ _ _ _ _ _ _ _ _ _ _ _ _ _ _ _ _ _ _ _ _ _ _ _ _ _ _ _ _ _ _ _ _ _ _ _ _ _ _ _ _ _ _ _ _ _ _ _ _ _ _ _ _ _ _ _ _ _ _ _ _ _ _ _ _ _ _ _ _ _ _ _ _ _ _ _ _ _ _ _ (by omega) bfr (bb := false) (by rcases Classical.not_and_iff_not_or_not.1 hlt with h | h <;> simp [h]) (fun x0 x1 x2 x3 x4 x5 x6 wx hx => ?_)
        subst hx
        go_upto_region 10 with fail
        refine wp_of_eq (c' := ((Try.f7.body.bind (regionN 10)).getD .skip)) ?_ (by kernel_rfl)
        refine adds10 _ _ _ _ _ _ _ _ _ _ _ _ _ _ _ _ _ _ _ _ _ _ _ _ _ _ _ _ _ _ _ _ _ _ _ _ _ _ _ _ _ _ _ _ _ _ _ _ _ _ _ _ _ _ _ _ _ _ _ _ _ _ _ _ _ _ _ _ _ _ _ _ _ _ _ _ _ _ _ _ _ _ _ _ _ _ _ _ _ _ _ _ _ _ _ _ _ _ _ _ _ _ _ _ _ _ _ _ _ _ _ _ _ _ _ _ _ _ _ _ _ _ _ _ _ _ _ _ _ _ _ _ _ _ _ _ _ _ _ _ _ _ _ _ _ _ _ _ _ U.out.1 (K2.out.2.2.1.later U.out.2.2.1) hi6 (F := FF) (fun x0 x1 x2 x3 x4 x5 x6 x7 x8 av w4 hR => ?_)
        obtain ⟨hO4, b4⟩ := hR
        obtain ⟨vA, vn, vc, rfl⟩ := own_shape hO4
        have hx2 := K2.out.2.2.2.2.2.2.2.2.2.1 q hq3
        have hNx : NdsAt w4 (.slice vA vn vc) (N ++ [(xnm q, FF)]) := ⟨_, hO4.at_ (f := rowN) (k := 2) (fun _ => rfl), by rw [List.map_append, K2.out.2.2.2.1]; rfl, fun y hy => by
          rcases List.mem_append.1 hy with hy | hy
          · obtain ⟨y1, y2⟩ := K2.out.2.2.2.2.1 y hy
            exact ⟨(y1.later U.out.2.2.1).later b4, y2⟩
          · obtain rfl := List.mem_singleton.1 hy
            refine ⟨?_, xnm_size q, U.out.2.2.2.2.1⟩
            have := (U.out.2.1.at_ (f := scV) (k := 1) (fun _ => rfl)).later b4
            rw [U.out.2.2.2.2.2] at this
            rw [U.out.2.2.2.2.2]; exact this⟩
        have hlx : (N ++ [(xnm q, FF)]).length = n + 1 := by rw [List.length_append, K2.out.2.2.2.2.2.1]; rfl
        have htx : tot (N ++ [(xnm q, FF)]) (N ++ [(xnm q, FF)]).length ≤ 26388279066700 := by
          rw [hlx]
          simp only [tot]
          have e1 := tot_left N (xnm q, FF) n (by rw [K2.out.2.2.2.2.2.1]; exact Nat.le_refl _)
          have e2 : frAt (N ++ [(xnm q, FF)]) n = FF := by have := (Gr.at_last (N := N) (x := (xnm q, FF))).2; rw [K2.out.2.2.2.2.2.1] at this; exact this
          rw [e1, e2]
          have := K2.out.2.2.2.2.2.2.2.2.1
          have := U.out.2.2.2.1
          omega
        have hDx : Dist (N ++ [(xnm q, FF)]) := dist_of (by
          rw [List.map_append, List.nodup_append]
          exact ⟨K2.out.2.2.2.2.2.2.1, by simp, fun a ha b hb e => hx2 (by simp at hb; rw [← hb, ← e]; exact ha)⟩)
        have hLx := Gr.adds_loop (x := (xnm q, FF)) K2.out.2.2.2.2.2.2.2.1
        have b04 : Below w2.heap.size w2 w4 := bt U.out.2.2.1 b4
        have hB4 := U.out.1.later b4
        have c0 := hB4.cell 0
        simp only [List.getElem?_toArray, List.getElem?_cons_succ, List.getElem?_cons_zero] at c0
        have hsz := xnm_size q
        obtain ⟨s, hs⟩ : ∃ s, s = xnm q := ⟨_, rfl⟩
        rw [← hs] at c0 hNx hlx htx hDx hLx hsz hB4
        have hFat := (U.out.2.1.later b4).at_ (f := scV) (k := 1) (fun _ => rfl)
        have V := Lib.hid (And.intro hNx (And.intro hlx (And.intro htx (And.intro hDx (And.intro hLx (And.intro b04 (And.intro hB4 (And.intro hFat U.out.2.2.2.2.2)))))))); clear hNx hlx htx hDx hLx b04 hB4 hO4 b4 hx2 hFat hs
        clear U hlt
        go_wp2_with fail
        try go_at_call 21
        refine (Above_any _ N s w4 (K2.out.1.later V.out.2.2.2.2.2.1) hsz (by rw [K2.out.2.2.2.2.2.1]; omega) (by rw [K2.out.2.2.2.2.2.1]; have := K2.out.2.2.2.2.2.2.2.2.1; omega)).mono ?_
        rintro e w5 ⟨r5, LA, ⟨rfl, oA, hA⟩, b5⟩
        clear c0
        obtain ⟨lA, lc, rfl, _, _, _⟩ := oA.shape
        obtain ⟨ln, hln⟩ : ∃ ln, ln = LA.length := ⟨_, rfl⟩
        have hln6 : ln ≤ 6 := by
          have := hA.len (n := N.length) (fun k hk => hk.lt)
          rw [K2.out.2.2.2.2.2.1] at this; omega
        rw [← hln] at oA ⊢
        have K4 := Lib.hid (And.intro (V.out.1.later b5) (And.intro b5 (And.intro oA (And.intro hA (And.intro hln (And.intro (bt V.out.2.2.2.2.2.1 b5) (And.intro (V.out.2.2.2.2.2.2.1.later b5) (V.out.2.2.2.2.2.2.2.1.later b5)))))))); clear b5 oA hA hln
        go_wp2_with fail
        go_loopw [15, 16] (fun bv kv wr => ∃ (k : Nat) (b : Bool), k ≤ fn ∧ kv = .int .i64 (k : Int) ∧ bv = .bool b ∧ (b = true ↔ Hit N LA s FF k) ∧ Below w5.heap.size w5 wr) (fun _ kv _ => fn - (intOf kv).toNat)
        case atStart =>
          refine ⟨0, false, Nat.zero_le _, rfl, rfl, ?_, Below.refl _ _⟩
          constructor
          · intro h
            cases h
          · rintro ⟨q, hq, h1, _⟩
            omega
        case round =>
          rename World => wr2
          obtain ⟨k, b, hk, rfl, rfl, hB, hb⟩ := hrel
          have E0 := fun X (hX : Below w5.heap.size w5 X) => (show X.cell? ⟨g, 0, none⟩ = some (.string s) from by have := (K4.out.2.2.2.2.2.2.1.later hX).cell 0; simpa using this)
          have E1 := fun X (hX : Below w5.heap.size w5 X) => (show X.cell? ⟨g, 1, none⟩ = some (.slice fA fn fc) from by have := (K4.out.2.2.2.2.2.2.1.later hX).cell 1; simpa using this)
          have e0 := E0 wr2 hb
          have e1 := E1 wr2 hb
          by_cases hlt2 : k < fn
          · have hkl : k < FF.length := by have := V.out.2.2.2.2.2.2.2.2; omega
            obtain ⟨a2, rfl, hca2⟩ := K4.out.2.2.2.2.2.2.2.cells rfl (by omega)
            have z0 := hca2.row1 k hkl rfl
            rw [Nat.mul_one] at z0
            have Z0 := fun X (hX : Below w5.heap.size w5 X) => (show X.cell? (a2.add k) = some (.string (FF[k]'hkl)) from by rw [hX.cell (World.block_lt_of_cell? w5 _ z0)]; exact z0)
            clear z0
            have z0 := Z0 wr2 hb
            have hM := hit_more (N := N) (LA := LA) (s := s) hkl
            obtain ⟨x, hx⟩ : ∃ x, x = FF[k]'hkl := ⟨_, rfl⟩
            rw [← hx] at z0 hM
            simp only [← hx] at Z0
            obtain ⟨b1, hb1⟩ : ∃ b1 : Bool, b1 = (b || decide (x = s)) := ⟨_, rfl⟩
            have hB1 : b1 = true ↔ (Hit N LA s FF k ∨ x = s) := by rw [hb1]; simp [hB]
            have hkI : (k : Int) < (fn : Int) := by omega
            have W := Lib.hid (And.intro hB1 (And.intro hM (And.intro hb (And.intro hx (And.intro E0 (And.intro E1 Z0)))))); clear hB1 hM hb hB hca2 hx E0 E1 Z0
            go_upto_region 16 with fail
            go_cut [15] (fun bv wx => bv = .bool b1 ∧ Below w5.heap.size w5 wx)
            case first =>
              cases b with
              | true =>
                go_wp2_with fail
                go_quiet (fail)
                go_wp2_with fail
                go_meet
                exact ⟨by rw [hb1]; rfl, below_drewN W.out.2.2.1 _⟩
              | false =>
                by_cases hxs : x = s
                · subst hxs
                  go_wp2_with fail
                  go_quiet (fail)
                  go_wp2_with fail
                  go_meet
                  exact ⟨by rw [hb1]; simp, below_drewN W.out.2.2.1 _⟩
                · have hxl : ¬ x.toList = s.toList := fun h => hxs (toList_inj h)
                  have hxb : (x.toList == s.toList) = false := by simpa using hxl
                  go_wp2_with fail
                  go_quiet (fail)
                  go_wp2_with fail
                  go_meet
                  exact ⟨by rw [hb1]; simp [hxs], below_drewN W.out.2.2.1 _⟩
            case rest =>
              clear hb1 e0 e1 z0
              obtain ⟨rfl, hbc⟩ := hcut
              rename World => wc
              have WC := Lib.hid hbc; clear hbc
              go_wp2_with fail
              go_loopw [15, 17] (fun bv jv wr => ∃ (j : Nat) (b2 : Bool), j ≤ ln ∧ jv = .int .i64 (j : Int) ∧ bv = .bool b2 ∧ (b2 = true ↔ (b1 = true ∨ ∃ q, ∃ hq : q < LA.length, q < j ∧ nmAt N (LA[q]'hq) = x)) ∧ Below w5.heap.size w5 wr) (fun _ jv _ => ln - (intOf jv).toNat)
              case atStart =>
                refine ⟨0, b1, Nat.zero_le _, rfl, rfl, ?_, WC.out⟩
                constructor
                · intro h
                  exact Or.inl h
                · rintro (h | ⟨q, hq, h1, _⟩)
                  · exact h
                  · omega
              case round =>
                rename World => wr3
                obtain ⟨j, b2, hj, rfl, rfl, hB2, hb⟩ := hrel
                by_cases hlt3 : j < ln
                · have hjl : j < LA.length := by have := K4.out.2.2.2.2.1; omega
                  obtain ⟨gA, rfl, _, _, _, oc⟩ := (K4.out.2.2.1.later hb).cells (f := rowP) (k := 1) (fun _ => rfl) rfl (by omega)
                  have y0 := oc j hjl 0 _ rfl
                  simp only [Nat.mul_one, Nat.add_zero] at y0
                  have hyn := ((K4.out.2.2.2.1.2 _).1 (List.getElem_mem hjl)).lt
                  rw [K2.out.2.2.2.2.2.1] at hyn
                  have hst : (∃ q, ∃ hq : q < LA.length, q < j + 1 ∧ nmAt N (LA[q]'hq) = x) ↔ ((∃ q, ∃ hq : q < LA.length, q < j ∧ nmAt N (LA[q]'hq) = x) ∨ nmAt N (LA[j]'hjl) = x) := by
                    constructor
                    · rintro ⟨q, hq, h1, h2⟩
                      rcases (by omega : q < j ∨ q = j) with h | rfl
                      · exact Or.inl ⟨q, hq, h, h2⟩
                      · exact Or.inr h2
                    · rintro (⟨q, hq, h1, h2⟩ | h)
                      · exact ⟨q, hq, by omega, h2⟩
                      · exact ⟨j, hjl, by omega, h⟩
                  generalize LA[j]'hjl = y at *
                  have hyl : y < l.length := by have := K2.out.2.2.2.2.2.2.2.2.2.2; omega
                  have hb3 : Below w2.heap.size w2 wr3 := bt K4.out.2.2.2.2.2.1 hb
                  obtain ⟨a', rfl, hca'⟩ := (K2.out.2.2.1.later hb3).cells rfl (by rw [K2.out.2.2.2.2.2.2.2.2.2.2]; omega)
                  obtain ⟨d0, _⟩ := hca'.row2 y hyl rfl
                  obtain ⟨f3, _⟩ := at_node K2.out.2.2.2.1 hyl
                  rw [← f3] at d0
                  have d1 := W.out.2.2.2.2.2.1 wr3 hb
                  have d2 := W.out.2.2.2.2.2.2 wr3 hb
                  have hyI : ¬ (y : Int) < 0 := by omega
                  have hyI0 : decide ((y : Int) < 0) = false := decide_eq_false hyI
                  have hyI2 : ¬ (n : Int) ≤ (y : Int) := by omega
                  have hyI3 : decide ((n : Int) ≤ (y : Int)) = false := decide_eq_false hyI2
                  have hyI4 : ¬ n ≤ y := by omega
                  have hyI5 : decide (n ≤ y) = false := decide_eq_false hyI4
                  obtain ⟨z, hz⟩ : ∃ z, z = nmAt N y := ⟨_, rfl⟩
                  rw [← hz] at d0
                  obtain ⟨b3, hb3d⟩ : ∃ b3 : Bool, b3 = (b2 || decide (z = x)) := ⟨_, rfl⟩
                  have hB3 : b3 = true ↔ (b1 = true ∨ ∃ q, ∃ hq : q < LA.length, q < j + 1 ∧ nmAt N (LA[q]'hq) = x) := by
                    rw [hb3d, Bool.or_eq_true, hB2, decide_eq_true_iff, hst, hz, or_assoc]
                  have Y := Lib.hid (And.intro hB3 hb); clear hB3 hB2 hst hb hz oc hca' f3 hb3
                  cases b2 with
                  | true =>
                    go_wp2_with fail
                    go_quiet (fail)
                    go_wp2
                    go_roundw
                    case rel => exact ⟨j + 1, b3, by omega, by go_num, by rw [hb3d]; rfl, Y.out.1, below_drewN Y.out.2 _⟩
                    case measure => simp [intOf]; omega
                  | false =>
                    by_cases hzx : z = x
                    · subst hzx
                      go_wp2_with fail
                      go_quiet (fail)
                      go_wp2
                      go_roundw
                      case rel => exact ⟨j + 1, b3, by omega, by go_num, by rw [hb3d]; simp, Y.out.1, below_drewN Y.out.2 _⟩
                      case measure => simp [intOf]; omega
                    · have hxl : ¬ z.toList = x.toList := fun h => hzx (toList_inj h)
                      have hxb : (z.toList == x.toList) = false := by simpa using hxl
                      go_wp2_with fail
                      go_quiet (fail)
                      go_wp2
                      go_roundw
                      case rel => exact ⟨j + 1, b3, by omega, by go_num, by rw [hb3d]; simp [hzx], Y.out.1, below_drewN Y.out.2 _⟩
                      case measure => simp [intOf]; omega
                · obtain rfl : j = ln := by omega
                  have hfin : b2 = true ↔ Hit N LA s FF (k + 1) := by
                    rw [W.out.2.1, hB2, W.out.1]
                    have := K4.out.2.2.2.2.1
                    constructor
                    · rintro (h | ⟨q, hq, _, e⟩)
                      · exact Or.inl h
                      · exact Or.inr ⟨q, hq, hq, e⟩
                    · rintro (h | ⟨q, hq, _, e⟩)
                      · exact Or.inl h
                      · exact Or.inr ⟨q, hq, by omega, e⟩
                  have Y := Lib.hid (And.intro hfin hb); clear hfin hb hB2
                  go_wp2_with fail
                  go_roundw
                  case rel => exact ⟨k + 1, b2, by omega, by go_num, rfl, Y.out.1, Y.out.2⟩
                  case measure => simp [intOf]; omega
          · obtain rfl : k = fn := by omega
            have hbl : b = true ↔ Loopy (N ++ [(s, FF)]) := by
              rw [V.out.2.2.2.2.1, hB]
              have hfn := V.out.2.2.2.2.2.2.2.2
              constructor
              · rintro ⟨q, hq, _, h | ⟨y, hy, e⟩⟩
                · exact Or.inl (h ▸ List.getElem_mem hq)
                · exact Or.inr ⟨y, (K4.out.2.2.2.1.2 y).1 hy, e ▸ List.getElem_mem hq⟩
              · rintro (h | ⟨y, hy, h⟩)
                · obtain ⟨q, hq, e⟩ := List.getElem_of_mem h
                  exact ⟨q, hq, (by rw [hfn]; exact hq), Or.inl e⟩
                · obtain ⟨q, hq, e⟩ := List.getElem_of_mem h
                  exact ⟨q, hq, (by rw [hfn]; exact hq), Or.inr ⟨y, (K4.out.2.2.2.1.2 y).2 hy, e.symm⟩⟩
            have Y := Lib.hid (And.intro hbl hb); clear hbl hb hB E0 E1 hlt2 hk
            go_wp2_with fail
            try go_at_call 14
            refine (Ranks_any _ (N ++ [(s, FF)]) wr2 (K4.out.1.later Y.out.2) (by rw [V.out.2.1]; omega) V.out.2.2.1).mono ?_
            rintro e w6 ⟨r6, k6, ⟨rfl, hR6⟩, b6⟩
            obtain ⟨r6A, r6n, r6c, rfl⟩ := ranksA_shape hR6
            have hk6 : (b = true ∧ k6 = 12) ∨ (b = false ∧ k6 = 0) := by
              rcases hR6 with ⟨h, _⟩ | ⟨_, h, _, h2⟩ | ⟨_, h2, R, _, _, h⟩
              · exact absurd V.out.2.2.2.1 h
              · exact Or.inl ⟨Y.out.1.2 h, h2⟩
              · refine Or.inr ⟨?_, h2⟩
                cases hbb : b with
                | false => rfl
                | true => exact absurd (Y.out.1.1 hbb) h.noLoop
            have Y6 := Lib.hid (And.intro (bt Y.out.2 b6) (And.intro (K4.out.1.later (bt Y.out.2 b6)) (K2.out.1.later (bt K4.out.2.2.2.2.2.1 (bt Y.out.2 b6))))); clear b6 hR6
            go_wp2_with fail
            try go_at_call 19
            refine (Loops_any _ (N ++ [(s, FF)]) w6 Y6.out.2.1 (by rw [V.out.2.1]; omega) V.out.2.2.1).mono ?_
            rintro e w7 ⟨r7, L7, ⟨rfl, o7, h7⟩, b7⟩
            obtain ⟨l7A, l7c, rfl, _, l7k, l7m⟩ := o7.shape
            have hl7 : 0 < L7.length ↔ b = true := by
              rw [Y.out.1]
              constructor
              · intro h
                obtain ⟨h1, h2⟩ := (h7.2 _).1 (List.getElem_mem h)
                exact ⟨_, h1, h2⟩
              · rintro ⟨x, h1, h2⟩
                exact List.length_pos_of_mem ((h7.2 x).2 ⟨h1, h2⟩)
            obtain ⟨l7n, hl7n⟩ : ∃ l7n, l7n = L7.length := ⟨_, rfl⟩
            rw [← hl7n] at hl7 l7k
            rw [← hl7n]
            clear hl7n
            have Y7 := Lib.hid (And.intro b7 (And.intro (bt Y6.out.1 b7) (K2.out.1.later (bt K4.out.2.2.2.2.2.1 (bt Y6.out.1 b7))))); clear b7 o7 h7
            have hm7 : l7n ≤ 9223372036854775807 := by unfold maxLen at l7m; omega
            clear l7m l7k
            rcases hk6 with ⟨rfl, rfl⟩ | ⟨rfl, rfl⟩
            · have h0 : 0 < l7n := hl7.2 rfl
              have hd0 : decide (0 < l7n) = true := decide_eq_true h0
              clear hl7
              go_wp2_with fail
              try go_at_call 19
              refine (Loops_any _ N w7 Y7.out.2.2 (by rw [K2.out.2.2.2.2.2.1]; omega) (by rw [K2.out.2.2.2.2.2.1]; have := K2.out.2.2.2.2.2.2.2.2.1; omega)).mono ?_
              rintro e w8 ⟨r8, L8, ⟨rfl, o8, h8⟩, b8⟩
              obtain ⟨l8A, l8c, rfl, _, _, _⟩ := o8.shape
              obtain rfl : L8 = [] := by
                cases L8 with
                | nil => rfl
                | cons a r =>
                  obtain ⟨h1, h2⟩ := (h8.2 a).1 (List.mem_cons_self ..)
                  exact absurd ⟨a, h1, h2⟩ K2.out.2.2.2.2.2.2.2.1
              have Y8 := Lib.hid (bt (bt K2.out.2.1 K4.out.2.2.2.2.2.1) (bt Y7.out.2.1 b8)); clear b8 o8 h8
              simp only [List.length_nil]
              go_wp2_with fail
              go_ret
              exact ⟨rfl, Y8.out⟩
            · obtain rfl : l7n = 0 := by
                have := hl7.1
                refine Nat.le_zero.1 (Nat.le_of_not_lt fun h => ?_)
                cases hl7.1 h
              clear hl7
              go_wp2_with fail
              try go_at_call 19
              refine (Loops_any _ N w7 Y7.out.2.2 (by rw [K2.out.2.2.2.2.2.1]; omega) (by rw [K2.out.2.2.2.2.2.1]; have := K2.out.2.2.2.2.2.2.2.2.1; omega)).mono ?_
              rintro e w8 ⟨r8, L8, ⟨rfl, o8, h8⟩, b8⟩
              obtain ⟨l8A, l8c, rfl, _, _, _⟩ := o8.shape
              obtain rfl : L8 = [] := by
                cases L8 with
                | nil => rfl
                | cons a r =>
                  obtain ⟨h1, h2⟩ := (h8.2 a).1 (List.mem_cons_self ..)
                  exact absurd ⟨a, h1, h2⟩ K2.out.2.2.2.2.2.2.2.1
              have Y8 := Lib.hid (bt (bt K2.out.2.1 K4.out.2.2.2.2.2.1) (bt Y7.out.2.1 b8)); clear b8 o8 h8
              simp only [List.length_nil]
              go_wp2_with fail
              go_ret
              exact ⟨rfl, Y8.out⟩
end Go.Proofs.Ytinonfgehbjneaa
