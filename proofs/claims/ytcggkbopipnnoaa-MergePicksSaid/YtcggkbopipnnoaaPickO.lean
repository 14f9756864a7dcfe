/- MergePicks: a round of the law's loop. -/
import Derived.Test.YtcggkbopipnnoaaPickT
namespace Go.Proofs.Ytcggkbopipnnoaa
open Go.ChangeShapes Go.WideShapes Go.ChangeAt Go.RowKit
open Mrg (PickIs)
set_option linter.unusedVariables false
set_option linter.unusedSimpArgs false
theorem Ps.rowApart {w : World} {gc gr gl gd n gi ci k ge ln cb : Nat} {lv : Value} {l : List Pr} {us : List SV} {ins : List (List Ev2)} {c r : Nat → Nat} {lo : Nat → Int} {dn : Nat → Bool} (h : Ps w gc gr gl gd n lv (.slice (some ⟨gi, 0, none⟩) n ci) l us ins c r lo dn) (hu : us.length = n) (hk : k < n) (hc : w.cell? ⟨gi, k, none⟩ = some (.slice (some ⟨ge, 0, none⟩) ln cb)) : gi ≠ gl ∧ ge ≠ gl := by
  refine ⟨fun e => h.rows.apart h.low (by decide) gl rfl (by rw [e]; rfl), fun e => ?_⟩
  have hki : k < ins.length := by have := h.each.1; omega
  have hE := h.each.2 k (by omega) hki
  have h1 := (own_cell (fun _ => rfl) h.rows k (by omega) rfl).1
  rw [h1] at hc
  have h2 : sl (us[k]'(by omega)) = .slice (some ⟨ge, 0, none⟩) ln cb := Option.some.inj hc
  have := hE.apart h.low (by decide) gl rfl
  rw [h2, e] at this
  exact this rfl
set_option maxRecDepth 20000 in
set_option maxHeartbeats 4000000 in
theorem pick_round (u0 u2 u3 u4 u5 u14 u15 u16 u17 u18 u19 u20 u21 u22 u23 u24 u25 u26 u27 u28 u29 u30 u31 u32 u33 u34 u35 u36 u37 u38 u39 u40 u41 u42 u43 u44 u45 u46 u47 u48 u49 u50 u51 u52 u53 u54 u55 u56 u57 u58 u59 u60 u61 u62 u63 u64 u65 u66 u67 u68 u69 u70 u71 u72 u73 u74 u75 u76 u77 u78 u79 u80 u81 u82 u83 u84 u85 u86 u87 u88 u89 u90 u91 u92 u93 u94 u95 u96 u97 u98 u99 u100 u101 u102 u103 u104 u105 u106 u107 u108 u109 u110 u111 u112 u113 u114 u115 u116 u117 u118 u119 u120 u121 u122 u123 u124 u125 u126 u127 u128 u129 u130 u131 u132 u133 u134 u135 u136 u137 u138 u139 u140 u141 u142 u143 u144 u145 u146 u147 u148 u149 u150 u151 u152 u153 u154 u155 u156 u157 u158 u159 u160 u161 u162 u163 u164 u165 u166 u167 u168 u169 u170 u171 u172 u173 u174 u175 u176 u177 u178 u179 u180 u181 u182 u183 u184 u185 u186 u187 u188 u189 u190 u191 u192 u193 u194 u195 u196 u197 u198 u199 u200 u201 u202 u203 u204 u205 u206 u207 u208 u209 u210 u211 u212 u213 u214 u215 u216 u217 u218 u219 u220 u221 u222 u223 u224 u225 u226 u227 u228 u229 u230 u231 u232 u233 u234 u235 u236 u237 u238 u239 u240 u241 u242 u243 u244 u245 u246 u247 u248 u249 u250 u251 u252 u253 u254 u255 u256 u257 u258 u259 u260 u261 u262 u263 u264 u265 u266 u267 u268 u269 u270 u271 u272 u273 u274 u275 u276 u277 u278 : Value) {w wo : World} {gc gr gl gd gi n ci i got mm tcap c2 : Nat} {T A2 : Option Addr} {tl : List UInt8} {l : List Pr} {us : List SV} {ins : List (List Ev2)} {c : Nat → Nat} {lo : Nat → Int} {dn : Nat → Bool} (hC : Core ins l c lo dn got) (hS : Ps w gc gr gl gd n (.slice A2 l.length c2) (.slice (some ⟨gi, 0, none⟩) n ci) l us ins c (rd l got) lo dn) (hP : Past n mm i dn) (hL : i ≤ got + mm + n ∨ got = l.length) (hb : Below wo.heap.size wo w) (hlt : i < tl.length + 100) (hun : 0 < n) (hn4 : n ≤ 4) (hu : us.length = n) (hui : n = ins.length) (hA : AllOf ins l) (h6 : ∀ L ∈ ins, L.length ≤ 6) (hl24 : l.length ≤ 24) (hm : mm = min tl.length 200) (htl : tl.length ≤ 140737488351232) (hT : 0 < tl.length → ∃ a, T = some a ∧ ∀ j (hj : j < tl.length), w.cell? (a.add j) = some (.int .u8 (tl[j].toNat : Int))) (hgc : wo.heap.size ≤ gc) (hgr : wo.heap.size ≤ gr) (hgl : wo.heap.size ≤ gl) (hgd : wo.heap.size ≤ gd) {Q : Exit → Act → World → Prop}
    (hQ : ∀ (x14 x15 x16 x17 x18 x19 x20 x40 x41 x42 x43 x44 x45 x46 x47 x48 x49 x50 x51 x52 x53 x54 x55 x56 x57 x58 x59 x60 x61 x62 x63 x64 x65 x66 x67 x68 x69 x70 x71 x72 x73 x74 x75 x76 x77 x78 x79 x80 x81 x82 x83 x84 x85 x86 x87 x88 x89 x90 x91 x92 x93 x94 x95 x96 x97 x98 x99 x100 x101 x102 x103 x104 x105 x106 x107 x108 x109 x110 x111 x112 x113 x114 x115 x116 x117 x118 x119 x120 x121 x122 x123 x124 x125 x126 x127 x128 x129 x130 x131 x132 x133 x134 x135 x136 x137 x138 x139 x140 x141 x142 x143 x144 x145 x146 x147 x148 x149 x150 x151 x152 x153 x154 x155 x156 x157 x158 x159 x160 x161 x162 x163 x164 x165 x166 x167 x168 x169 x170 x171 x172 x173 x174 x175 x176 x177 x178 x179 x180 x181 x182 x183 x184 x185 x186 x187 x188 x189 x190 x191 x192 x193 x194 x195 x196 x197 x198 x199 x200 x201 x202 x203 x204 x205 x206 x207 x208 x209 x210 x211 x212 x213 x214 x215 x216 x217 x218 x219 x220 x221 x222 x223 x224 x225 x226 x227 x228 x229 x230 x231 x232 x233 x234 x235 x236 x237 x238 x239 x240 x241 x242 x243 x244 x245 x246 x247 x248 x249 x250 x251 x252 x253 x254 x255 x256 x257 x258 x259 x260 x261 x262 x263 x264 x265 x266 x267 x268 x269 x270 x271 : Value) (gv iv : Int) (got' : Nat) (c' : Nat → Nat) (lo' : Nat → Int) (dn' : Nat → Bool) (wx : World), gv = (got' : Int) ∧ iv = (i : Int) + 1 ∧ Core ins l c' lo' dn' got' ∧ Ps wx gc gr gl gd n (.slice A2 l.length c2) (.slice (some ⟨gi, 0, none⟩) n ci) l us ins c' (rd l got') lo' dn' ∧ Past n mm (i + 1) dn' ∧ (i + 1 ≤ got' + mm + n ∨ got' = l.length) ∧ Below wo.heap.size wo wx → Q .normal ⟨#[u0, .slice T tl.length tcap, u2, u3, u4, u5, .slice (some ⟨gi, 0, none⟩) n ci, .slice A2 l.length c2, .slice (some ⟨gc, 0, none⟩) n n, .slice (some ⟨gr, 0, none⟩) n n, .slice (some ⟨gl, 0, none⟩) n n, .slice (some ⟨gd, 0, none⟩) n n, .int .i64 gv, .int .i64 iv, x14, x15, x16, x17, x18, x19, x20, u21, u22, u23, u24, u25, u26, u27, u28, u29, u30, u31, u32, u33, u34, u35, u36, u37, u38, u39, x40, x41, x42, x43, x44, x45, x46, x47, x48, x49, x50, x51, x52, x53, x54, x55, x56, x57, x58, x59, x60, x61, x62, x63, x64, x65, x66, x67, x68, x69, x70, x71, x72, x73, x74, x75, x76, x77, x78, x79, x80, x81, x82, x83, x84, x85, x86, x87, x88, x89, x90, x91, x92, x93, x94, x95, x96, x97, x98, x99, x100, x101, x102, x103, x104, x105, x106, x107, x108, x109, x110, x111, x112, x113, x114, x115, x116, x117, x118, x119, x120, x121, x122, x123, x124, x125, x126, x127, x128, x129, x130, x131, x132, x133, x134, x135, x136, x137, x138, x139, x140, x141, x142, x143, x144, x145, x146, x147, x148, x149, x150, x151, x152, x153, x154, x155, x156, x157, x158, x159, x160, x161, x162, x163, x164, x165, x166, x167, x168, x169, x170, x171, x172, x173, x174, x175, x176, x177, x178, x179, x180, x181, x182, x183, x184, x185, x186, x187, x188, x189, x190, x191, x192, x193, x194, x195, x196, x197, x198, x199, x200, x201, x202, x203, x204, x205, x206, x207, x208, x209, x210, x211, x212, x213, x214, x215, x216, x217, x218, x219, x220, x221, x222, x223, x224, x225, x226, x227, x228, x229, x230, x231, x232, x233, x234, x235, x236, x237, x238, x239, x240, x241, x242, x243, x244, x245, x246, x247, x248, x249, x250, x251, x252, x253, x254, x255, x256, x257, x258, x259, x260, x261, x262, x263, x264, x265, x266, x267, x268, x269, x270, x271, u272, u273, u274, u275, u276, u277, u278], []⟩ wx) :
    Code.wp Try.prog ((Try.f5.body.bind (loopN 12)).getD .skip) Q ⟨#[u0, .slice T tl.length tcap, u2, u3, u4, u5, .slice (some ⟨gi, 0, none⟩) n ci, .slice A2 l.length c2, .slice (some ⟨gc, 0, none⟩) n n, .slice (some ⟨gr, 0, none⟩) n n, .slice (some ⟨gl, 0, none⟩) n n, .slice (some ⟨gd, 0, none⟩) n n, .int .i64 (got : Nat), .int .i64 (i : Nat), u14, u15, u16, u17, u18, u19, u20, u21, u22, u23, u24, u25, u26, u27, u28, u29, u30, u31, u32, u33, u34, u35, u36, u37, u38, u39, u40, u41, u42, u43, u44, u45, u46, u47, u48, u49, u50, u51, u52, u53, u54, u55, u56, u57, u58, u59, u60, u61, u62, u63, u64, u65, u66, u67, u68, u69, u70, u71, u72, u73, u74, u75, u76, u77, u78, u79, u80, u81, u82, u83, u84, u85, u86, u87, u88, u89, u90, u91, u92, u93, u94, u95, u96, u97, u98, u99, u100, u101, u102, u103, u104, u105, u106, u107, u108, u109, u110, u111, u112, u113, u114, u115, u116, u117, u118, u119, u120, u121, u122, u123, u124, u125, u126, u127, u128, u129, u130, u131, u132, u133, u134, u135, u136, u137, u138, u139, u140, u141, u142, u143, u144, u145, u146, u147, u148, u149, u150, u151, u152, u153, u154, u155, u156, u157, u158, u159, u160, u161, u162, u163, u164, u165, u166, u167, u168, u169, u170, u171, u172, u173, u174, u175, u176, u177, u178, u179, u180, u181, u182, u183, u184, u185, u186, u187, u188, u189, u190, u191, u192, u193, u194, u195, u196, u197, u198, u199, u200, u201, u202, u203, u204, u205, u206, u207, u208, u209, u210, u211, u212, u213, u214, u215, u216, u217, u218, u219, u220, u221, u222, u223, u224, u225, u226, u227, u228, u229, u230, u231, u232, u233, u234, u235, u236, u237, u238, u239, u240, u241, u242, u243, u244, u245, u246, u247, u248, u249, u250, u251, u252, u253, u254, u255, u256, u257, u258, u259, u260, u261, u262, u263, u264, u265, u266, u267, u268, u269, u270, u271, u272, u273, u274, u275, u276, u277, u278], []⟩ w := by
  have HQ := Lib.hid hQ; clear hQ
  have KA := Lib.hid (And.intro hA (And.intro hui (And.intro h6 hu))); clear hA hui h6 hu
  have KR := Lib.hid (And.intro hC (And.intro hS (And.intro hP (And.intro hL hb)))); clear hC hS hP hL hb
  have HT := Lib.hid hT; clear hT
  have HM := Lib.hid hm; clear hm
  have t1 : (i : Int).tmod (n : Int) = ((i % n : Nat) : Int) := by rw [Int.tmod_eq_emod_of_nonneg (by omega)]; simp
  have t2 : (n : Int) ≠ 0 := by omega
  conv => arg 2; whnf
  go_upto_region 16 with fail
  refine wp_of_eq (c' := ((Try.f5.body.bind (regionN 16)).getD .skip)) ?_ (by kernel_rfl)
  refine pick16 _ _ _ _ _ _ _ _ _ _ _ _ _ _ _ _ _ _ _ _ _ _ _ _ _ _ _ _ _ _ _ _ _ _ _ _ _ _ _ _ _ _ _ _ _ _ _ _ _ _ _ _ _ _ _ _ _ _ _ _ _ _ _ _ _ _ _ _ _ _ _ _ _ _ _ _ _ _ _ _ _ _ _ _ _ _ _ _ _ _ _ _ _ _ _ _ _ _ _ _ _ _ _ _ _ _ _ _ _ _ _ _ _ _ _ _ _ _ _ _ _ _ _ _ _ _ _ _ _ _ _ _ _ _ _ _ _ _ _ _ _ _ _ _ _ _ _ _ _ _ _ _ _ _ _ _ _ _ _ _ _ _ _ _ _ _ _ _ _ _ _ _ _ _ _ _ _ _ _ _ _ _ _ _ _ _ _ _ _ _ _ _ _ _ _ _ _ _ _ _ _ _ _ _ _ _ _ _ _ _ _ _ _ _ _ _ _ _ _ _ _ _ _ _ _ _ _ _ _ _ _ _ _ _ _ _ _ _ _ _ _ _ _ _ _ _ _ _ _ _ _ _ _ _ _ _ _ _ _ _ _ _ _ _ _ _ _ _ _ _ _ _ _ _ _ _ _  (fun _ _ _ _ _ _ _ b wx hR => ?_)
  obtain ⟨rfl, hw⟩ := hR
  rw [hw]; clear hw t1 t2
  go_upto_if 63 with fail
  refine wp_of_eq (c' := ((Try.f5.body.bind (condN 63)).getD .skip)) ?_ (by kernel_rfl)
  refine pick_if63 _ _ _ _ _ _ _ _ _ _ _ _ _ _ _ _ _ _ _ _ _ _ _ _ _ _ _ _ _ _ _ _ _ _ _ _ _ _ _ _ _ _ _ _ _ _ _ _ _ _ _ _ _ _ _ _ _ _ _ _ _ _ _ _ _ _ _ _ _ _ _ _ _ _ _ _ _ _ _ _ _ _ _ _ _ _ _ _ _ _ _ _ _ _ _ _ _ _ _ _ _ _ _ _ _ _ _ _ _ _ _ _ _ _ _ _ _ _ _ _ _ _ _ _ _ _ _ _ _ _ _ _ _ _ _ _ _ _ _ _ _ _ _ _ _ _ _ _ _ _ _ _ _ _ _ _ _ _ _ _ _ _ _ _ _ _ _ _ _ _ _ _ _ _ _ _ _ _ _ _ _ _ _ _ _ _ _ _ _ _ _ _ _ _ _ _ _ _ _ _ _ _ _ _ _ _ _ _ _ _ _ _ _ _ _ _ _ _ _ _ _ _ _ _ _ _ _ _ _ _ _ _ _ _ _ _ _ _ _ _ _ _ _ _ _ _ _ _ _ _ _ _ _ _ _ _ _ _ _ _ _ _ _ _ _ _ _ _ _ _ _ _ _ (by simp) hun HM.out HT.out (fun _ _ _ _ _ _ _ _ _ _ _ _ _ _ _ k d kv dv wx hR => ?_)
  obtain ⟨rfl, rfl, hk, hd3, hmi, hw⟩ := hR
  rw [hw]; clear hw
  obtain ⟨z1, z2, z3, z4⟩ := KR.out.2.1.cells hk
  obtain ⟨B, cb, zr, zt⟩ := KR.out.2.1.row KA.out.2.2.2 hk
  have KZ := Lib.hid (And.intro z1 (And.intro zr (And.intro zt (And.intro hd3 hmi)))); clear z1 z2 z3 z4 zr zt hd3 hmi
  go_upto_region 20 with fail
  refine wp_of_eq (c' := ((Try.f5.body.bind (regionN 20)).getD .skip)) ?_ (by kernel_rfl)
  refine pick20 _ _ _ _ _ _ _ _ _ _ _ _ _ _ _ _ _ _ _ _ _ _ _ _ _ _ _ _ _ _ _ _ _ _ _ _ _ _ _ _ _ _ _ _ _ _ _ _ _ _ _ _ _ _ _ _ _ _ _ _ _ _ _ _ _ _ _ _ _ _ _ _ _ _ _ _ _ _ _ _ _ _ _ _ _ _ _ _ _ _ _ _ _ _ _ _ _ _ _ _ _ _ _ _ _ _ _ _ _ _ _ _ _ _ _ _ _ _ _ _ _ _ _ _ _ _ _ _ _ _ _ _ _ _ _ _ _ _ _ _ _ _ _ _ _ _ _ _ _ _ _ _ _ _ _ _ _ _ _ _ _ _ _ _ _ _ _ _ _ _ _ _ _ _ _ _ _ _ _ _ _ _ _ _ _ _ _ _ _ _ _ _ _ _ _ _ _ _ _ _ _ _ _ _ _ _ _ _ _ _ _ _ _ _ _ _ _ _ _ _ _ _ _ _ _ _ _ _ _ _ _ _ _ _ _ _ _ _ _ _ _ _ _ _ _ _ _ _ _ _ _ _ _ _ _ _ _ _ _ _ _ _ _ _ _ _ _ _ _ _ _ _ _ _ _ _ hk KZ.out.1 KZ.out.2.1 (fun _ _ _ _ _ _ _ _ _ w2 hb2 => ?_)
  have KB := Lib.hid hb2; clear hb2
  go_upto_if 88 with fail
  refine wp_of_eq (c' := ((Try.f5.body.bind (condN 88)).getD .skip)) ?_ (by kernel_rfl)
  refine pick_if88 _ _ _ _ _ _ _ _ _ _ _ _ _ _ _ _ _ _ _ _ _ _ _ _ _ _ _ _ _ _ _ _ _ _ _ _ _ _ _ _ _ _ _ _ _ _ _ _ _ _ _ _ _ _ _ _ _ _ _ _ _ _ _ _ _ _ _ _ _ _ _ _ _ _ _ _ _ _ _ _ _ _ _ _ _ _ _ _ _ _ _ _ _ _ _ _ _ _ _ _ _ _ _ _ _ _ _ _ _ _ _ _ _ _ _ _ _ _ _ _ _ _ _ _ _ _ _ _ _ _ _ _ _ _ _ _ _ _ _ _ _ _ _ _ _ _ _ _ _ _ _ _ _ _ _ _ _ _ _ _ _ _ _ _ _ _ _ _ _ _ _ _ _ _ _ _ _ _ _ _ _ _ _ _ _ _ _ _ _ _ _ _ _ _ _ _ _ _ _ _ _ _ _ _ _ _ _ _ _ _ _ _ _ _ _ _ _ _ _ _ _ _ _ _ _ _ _ _ _ _ _ _ _ _ _ _ _ _ _ _ _ _ _ _ _ _ _ _ _ _ _ _ _ _ _ _ _ _ _ _ _ _ _ _ _ _ _ _ _ _ _ _ _ _ (tm := tmf ins k) hk (cell_at KZ.out.1 KB.out) (cell_at KZ.out.2.1 KB.out) (fun j hj => by obtain ⟨ge, h1, h2⟩ := KZ.out.2.2.1 j hj; exact ⟨ge, h1, cell_at h2 KB.out⟩) (fun _ _ _ _ _ _ _ _ _ _ _ nx w3 hR => ?_)
  obtain ⟨hnx, hb3⟩ := hR
  have KB3 := Lib.hid (And.intro hnx (bt KB.out hb3)); clear hnx hb3
  go_upto_block 2 with fail
  refine wp_of_eq (c' := ((Try.f5.body.bind (blockN 2)).getD .skip)) ?_ (by kernel_rfl)
  refine pick_switch _ _ _ _ _ _ _ _ _ _ _ _ _ _ _ _ _ _ _ _ _ _ _ _ _ _ _ _ _ _ _ _ _ _ _ _ _ _ _ _ _ _ _ _ _ _ _ _ _ _ _ _ _ _ _ _ _ _ _ _ _ _ _ _ _ _ _ _ _ _ _ _ _ _ _ _ _ _ _ _ _ _ _ _ _ _ _ _ _ _ _ _ _ _ _ _ _ _ _ _ _ _ _ _ _ _ _ _ _ _ _ _ _ _ _ _ _ _ _ _ _ _ _ _ _ _ _ _ _ _ _ _ _ _ _ _ _ _ _ _ _ _ _ _ _ _ _ _ _ _ _ _ _ _ _ _ _ _ _ _ _ _ _ _ _ _ _ _ _ _ _ _ _ _ _ _ _ _ _ _ _ _ _ _ _ _ _ _ _ _ _ _ _ _ _ _ _ _ _ _ _ _ _ _ _ _ _ _ _ _ _ _ _ _ _ _ _ _ _ _ _ _ _ _ _ _ _ _ _ _ _ _ _ _ _ _ _ _ _ _ _ _ _ _ _ _ _ _ _ _ _ _ _ _ _ _ _ _ _ _ _ _ _ _ _ _ _ _ _ _ _ KR.out.1 (KR.out.2.1.later KB3.out.2) KR.out.2.2.1 (bt KR.out.2.2.2.2 KB3.out.2) hun KA.out.2.2.2 KA.out.2.1 KA.out.1 KA.out.2.2.1 hk KZ.out.2.2.2.1 KZ.out.2.2.2.2 KB3.out.1 hgc hgr hgl hgd (fun _ _ _ _ _ _ _ _ _ _ _ _ _ _ _ _ _ _ _ _ _ _ _ _ _ _ _ _ _ _ _ _ _ _ _ _ _ _ _ _ _ _ _ _ _ _ _ _ _ _ _ _ _ _ _ _ _ _ _ _ _ _ _ c' lo' dn' w9 hR => ?_)
  obtain ⟨hC, hS, hP, hb⟩ := hR
  have KN := Lib.hid (And.intro hC (And.intro hS (And.intro hP (And.intro KR.out.2.2.2.1 hb)))); clear hC hS hP hb KR KZ KB KB3
  go_wp2_with fail
  go_loopw [17, 18] (fun hv nv wr2 => ∃ kk : Nat, kk ≤ n ∧ nv = .int .i64 kk ∧ Own wr2 w9.heap.size 28 4 rowH hv (rm kk (hdOf ins (rd l got) c' lo' dn')) ∧ Below w9.heap.size w9 wr2) (fun _ n' _ => n - (intOf n').toNat)
  case atStart => exact ⟨0, Nat.zero_le _, rfl, Own.nil _ _ _ _ _, Below.refl _ _⟩
  case round =>
    obtain ⟨kk, hkk, rfl, hO, hb⟩ := hrel
    obtain ⟨wr2, hw2⟩ : ∃ x, x = wr := ⟨_, rfl⟩
    subst hw2
    obtain ⟨B, d9, rfl, b1, b2, b3⟩ := hO.shape
    rw [rm_len] at hO ⊢
    by_cases hlt2 : kk < n
    · have hrc := KN.out.1.rc kk (by have := KA.out.2.1; omega)
      have KI := Lib.hid (And.intro hO (And.intro hb (KN.out.2.1.later hb))); clear hO hb b1 b2 b3
      refine wp_of_eq (c' := ((Try.f5.body.bind (loopN 32)).getD .skip)) ?_ (by kernel_rfl)
      refine pick_inner _ _ _ _ _ _ _ _ _ _ _ _ _ _ _ _ _ _ _ _ _ _ _ _ _ _ _ _ _ _ _ _ _ _ _ _ _ _ _ _ _ _ _ _ _ _ _ _ _ _ _ _ _ _ _ _ _ _ _ _ _ _ _ _ _ _ _ _ _ _ _ _ _ _ _ _ _ _ _ _ _ _ _ _ _ _ _ _ _ _ _ _ _ _ _ _ _ _ _ _ _ _ _ _ _ _ _ _ _ _ _ _ _ _ _ _ _ _ _ _ _ _ _ _ _ _ _ _ _ _ _ _ _ _ _ _ _ _ _ _ _ _ _ _ _ _ _ _ _ _ _ _ _ _ _ _ _ _ _ _ _ _ _ _ _ _ _ _ _ _ _ _ _ _ _ _ _ _ _ _ _ _ _ _ _ _ _ _ _ _ _ _ _ _ _ _ _ _ _ _ _ _ _ _ _ _ _ _ _ _ _ _ _ _ _ _ _ _ _ _ _ _ _ _ _ _ _ _ _ _ _ _ _ _ _ _ _ _ _ _ _ _ _ _ _ _ _ _ _ _ _ _ _ _ _ _ _ _ _ _ _ _ _ _ _ _ _ _ _ _ _ _ KI.out.2.2 KI.out.1 KI.out.2.1 hlt2 KA.out.2.2.2 hn4 hrc (fun _ _ _ _ _ _ _ _ _ _ _ _ _ _ _ _ _ _ _ _ _ _ _ _ _ _ _ _ _ _ _ _ _ _ _ _ _ _ _ _ _ _ _ _ _ _ _ _ _ _ _ _ _ v wx hR => ?_)
      have KO := Lib.hid hR; clear hR
      go_wp2_with fail
      go_roundw
      case rel => exact ⟨kk + 1, by omega, by go_num, KO.out.1, KO.out.2⟩
      case measure => simp [intOf]; omega
    · have hke : n = kk := by omega
      subst hke
      have cP := Pick_any _ _ wr2 (heads_at hO)
      have KO := Lib.hid (And.intro (KN.out.2.1.later hb) (bt KN.out.2.2.2.2 hb)); clear hb hO b1 b2 b3 hkk hlt2
      have HP := Lib.hid cP; clear cP
      go_wp2_with fail
      go_at_call 12
      ((with_reducible refine (HP.out).mono ?_); rintro e w7 ⟨p, ⟨rfl, hPI⟩, b7⟩)
      dsimp only
      have hPI2 : PickIs (rm ins.length (hdOf ins (rd l got) c' lo' dn')) p := by rw [← KA.out.2.1]; exact hPI
      have hnx := KN.out.1.next KA.out.1 hPI2
      clear hPI hPI2
      have HN := Lib.hid (And.intro (KO.out.1.later b7) (bt KO.out.2 b7))
      clear b7
      rcases hnx with ⟨rfl, h⟩ | ⟨q, hq, rfl, hrc, hg, hlq⟩
      · have hlive : i + 1 ≤ got + mm + n ∨ got = l.length := by
          by_cases hg : got = l.length
          · exact Or.inr hg
          · rcases KN.out.2.2.2.1 with h2 | h2
            · by_cases h3 : i + 1 ≤ got + mm + n
              · exact Or.inl h3
              · exact absurd (h (fun k hk => KN.out.2.2.1.all hun (by omega) k (by have := KA.out.2.1; omega))) hg
            · exact Or.inr h2
        have HL := Lib.hid hlive; clear hlive h
        go_wp2_with fail
        exact HQ.out _ _ _ _ _ _ _ _ _ _ _ _ _ _ _ _ _ _ _ _ _ _ _ _ _ _ _ _ _ _ _ _ _ _ _ _ _ _ _ _ _ _ _ _ _ _ _ _ _ _ _ _ _ _ _ _ _ _ _ _ _ _ _ _ _ _ _ _ _ _ _ _ _ _ _ _ _ _ _ _ _ _ _ _ _ _ _ _ _ _ _ _ _ _ _ _ _ _ _ _ _ _ _ _ _ _ _ _ _ _ _ _ _ _ _ _ _ _ _ _ _ _ _ _ _ _ _ _ _ _ _ _ _ _ _ _ _ _ _ _ _ _ _ _ _ _ _ _ _ _ _ _ _ _ _ _ _ _ _ _ _ _ _ _ _ _ _ _ _ _ _ _ _ _ _ _ _ _ _ _ _ _ _ _ _ _ _ _ _ _ _ _ _ _ _ _ _ _ _ _ _ _ _ _ _ _ _ _ _ _ _ _ _ _ _ _ _ _ _ _ _ _ _ _ _ _ _ _ _ _ _ _ _ _ _ _ _ _ _ _ _ got c' lo' dn' _ ⟨by first | rfl | simp, by first | rfl | simp, KN.out.1, HN.out.1, KN.out.2.2.1, HL.out, HN.out.2⟩
      · have hqu : q < n := by have := KA.out.2.1; omega
        obtain ⟨y1, y2, y3, y4⟩ := HN.out.1.cells hqu
        obtain ⟨B2, cb2, y5, yt⟩ := HN.out.1.row KA.out.2.2.2 hqu
        obtain ⟨gp, rfl, zA⟩ := HN.out.1.who rfl got hg
        rw [hlq] at zA
        have hcl := (KN.out.1.rc q hq).2
        have htm := KA.out.1.lo q (rd l got q) hq (by omega)
        have hpk := KN.out.1.picks KA.out.1 hg q hlq hrc
        have hrn := rd_next hg hlq
        obtain ⟨ge, rfl, ztt⟩ := yt (rd l got q) (by omega)
        have hrl : rd l got q ≤ 24 := by
          have := KN.out.1.le
          have : rd l got q ≤ got := by unfold rd Mrg.one; simp; exact Nat.le_trans (List.length_filter_le _ _) (by simp; omega)
          omega
        have e1 : ¬ (q : Int) < 0 := by omega
        have KQ := Lib.hid (And.intro hpk (And.intro hrn hlq)); clear hpk hrn hlq yt
        have KY := Lib.hid (And.intro y1 (And.intro y2 (And.intro y3 (And.intro y5 (And.intro zA ztt))))); clear y1 y2 y3 y4 y5 zA ztt
        go_wp2_with fail
        refine wp_of_eq (c' := ((Try.f5.body.bind (regionN 41)).getD .skip)) ?_ (by kernel_rfl)
        refine pick41 _ _ _ _ _ _ _ _ _ _ _ _ _ _ _ _ _ _ _ _ _ _ _ _ _ _ _ _ _ _ _ _ _ _ _ _ _ _ _ _ _ _ _ _ _ _ _ _ _ _ _ _ _ _ _ _ _ _ _ _ _ _ _ _ _ _ _ _ _ _ _ _ _ _ _ _ _ _ _ _ _ _ _ _ _ _ _ _ _ _ _ _ _ _ _ _ _ _ _ _ _ _ _ _ _ _ _ _ _ _ _ _ _ _ _ _ _ _ _ _ _ _ _ _ _ _ _ _ _ _ _ _ _ _ _ _ _ _ _ _ _ _ _ _ _ _ _ _ _ _ _ _ _ _ _ _ _ _ _ _ _ _ _ _ _ _ _ _ _ _ _ _ _ _ _ _ _ _ _ _ _ _ _ _ _ _ _ _ _ _ _ _ _ _ _ _ _ _ _ _ _ _ _ _ _ _ _ _ _ _ _ _ _ _ _ _ _ _ _ _ _ _ _ _ _ _ _ _ _ _ _ _ _ _ _ _ _ _ _ _ _ _ _ _ _ _ _ _ _ _ _ _ _ _ _ _ _ _ _ _ _ _ _ _ _ _ _ _ _ _ _ _ _ hqu hg hrc KY.out.1 KY.out.2.1 KY.out.2.2.2.2.1 (fun _ _ _ _ _ _ _ _ _ _ _ _ _ _ _ _ _ _ _ _ _ _ _ _ _ _ _ _ _ bb w8 hR => ?_)
        obtain ⟨rfl, hb8⟩ := hR
        have hS8 := HN.out.1.later hb8
        have hap := hS8.apart
        have f3 := (hS8.thawed hun q).2.2.1
        have hgi := hS8.rowApart KA.out.2.2.2 hqu (cell_at KY.out.2.2.2.1 hb8)
        have KV := Lib.hid (And.intro hS8 (And.intro (bt HN.out.2 hb8) hb8)); clear hS8 hb8 e1
        go_upto_region 43 with fail
        refine wp_of_eq (c' := ((Try.f5.body.bind (regionN 43)).getD .skip)) ?_ (by kernel_rfl)
        refine pick43 _ _ _ _ _ _ _ _ _ _ _ _ _ _ _ _ _ _ _ _ _ _ _ _ _ _ _ _ _ _ _ _ _ _ _ _ _ _ _ _ _ _ _ _ _ _ _ _ _ _ _ _ _ _ _ _ _ _ _ _ _ _ _ _ _ _ _ _ _ _ _ _ _ _ _ _ _ _ _ _ _ _ _ _ _ _ _ _ _ _ _ _ _ _ _ _ _ _ _ _ _ _ _ _ _ _ _ _ _ _ _ _ _ _ _ _ _ _ _ _ _ _ _ _ _ _ _ _ _ _ _ _ _ _ _ _ _ _ _ _ _ _ _ _ _ _ _ _ _ _ _ _ _ _ _ _ _ _ _ _ _ _ _ _ _ _ _ _ _ _ _ _ _ _ _ _ _ _ _ _ _ _ _ _ _ _ _ _ _ _ _ _ _ _ _ _ _ _ _ _ _ _ _ _ _ _ _ _ _ _ _ _ _ _ _ _ _ _ _ _ _ _ _ _ _ _ _ _ _ _ _ _ _ _ _ _ _ _ _ _ _ _ _ _ _ _ _ _ _ _ _ _ _ _ _ _ _ _ _ _ _ _ _ _ _ _ _ _ _ _ _ _ _ _ _ hqu (show rd l got q < lenf ins q by omega) htm.1 (by omega) hgi.1 hap.2.2.1 hgi.2 f3 (cell_at KY.out.2.2.1 KV.out.2.2) (cell_at KY.out.2.2.2.1 KV.out.2.2) (cell_at KY.out.2.1 KV.out.2.2) (cell_at KY.out.2.2.2.2.2 KV.out.2.2) (fun _ _ _ _ _ _ _ _ _ _ _ _ _ _ _ wx hw => ?_)
        subst hw
        have hS9 := (KV.out.1.later (below_drew (Below.refl _ _))).putLow q (tmf ins q (rd l got q) + 1)
        have hb9 := (below_drew KV.out.2.1).setCell (p := ⟨gl, q, none⟩) hgl (.int .i64 (tmf ins q (rd l got q) + 1))
        generalize (w8.drew).setCell ⟨gl, q, none⟩ (.int .i64 (tmf ins q (rd l got q) + 1)) = w10 at *
        have x2 := (hS9.cells hqu).2.1
        have f2 := (hS9.thawed hun q).2.1
        have hS3 := hS9.putRead q (rd l got q + 1)
        rw [KQ.out.2.1] at hS3
        have hb3 := hb9.setCell (p := ⟨gr, q, none⟩) hgr (.int .i64 ((rd l got q + 1 : Nat) : Int))
        have z8 : IntKind.i64.wrap ((rd l got q : Int) + 1) = ((rd l got q + 1 : Nat) : Int) := by rw [IntWalk.i64_in _ (by omega)]; simp
        have hL2 : i + 1 ≤ got + 1 + mm + n ∨ got + 1 = l.length := by
          rcases KN.out.2.2.2.1 with h | h
          · exact Or.inl (by omega)
          · omega
        have KX := Lib.hid (And.intro hS3 (And.intro hb3 hL2)); clear hS9 hb9 hS3 hb3 hL2 f3 hap hgi
        generalize rd l got q = rq at *
        go_wp2_with fail
        exact HQ.out _ _ _ _ _ _ _ _ _ _ _ _ _ _ _ _ _ _ _ _ _ _ _ _ _ _ _ _ _ _ _ _ _ _ _ _ _ _ _ _ _ _ _ _ _ _ _ _ _ _ _ _ _ _ _ _ _ _ _ _ _ _ _ _ _ _ _ _ _ _ _ _ _ _ _ _ _ _ _ _ _ _ _ _ _ _ _ _ _ _ _ _ _ _ _ _ _ _ _ _ _ _ _ _ _ _ _ _ _ _ _ _ _ _ _ _ _ _ _ _ _ _ _ _ _ _ _ _ _ _ _ _ _ _ _ _ _ _ _ _ _ _ _ _ _ _ _ _ _ _ _ _ _ _ _ _ _ _ _ _ _ _ _ _ _ _ _ _ _ _ _ _ _ _ _ _ _ _ _ _ _ _ _ _ _ _ _ _ _ _ _ _ _ _ _ _ _ _ _ _ _ _ _ _ _ _ _ _ _ _ _ _ _ _ _ _ _ _ _ _ _ _ _ _ _ _ _ _ _ _ _ _ _ _ _ _ _ _ _ _ _ (got + 1) c' _ dn' _ ⟨by first | rfl | simp, by first | rfl | simp, KQ.out.1, KX.out.1, KN.out.2.2.1, KX.out.2.2, KX.out.2.1⟩
end Go.Proofs.Ytcggkbopipnnoaa
