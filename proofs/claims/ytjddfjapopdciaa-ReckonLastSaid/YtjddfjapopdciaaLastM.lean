/- ReckonLast: what its binds are, and what is told of them. -/
import Derived.Test.YtjddfjapopdciaaLast9
namespace Go.Proofs.Ytjddfjapopdciaa
open Go.ChangeShapes Go.WideShapes Go.ChangeAt Go.RowKit
open Rk (inR)
set_option linter.unusedVariables false
set_option linter.unusedSimpArgs false


theorem Own.blk {α : Type} {w : World} {g n : Nat} {e : TypeId} {cs : Array Value} {k : Nat} {f : α → List Value} {l : List α} (h : Blk w g e cs) (hn : n = l.length) (hs : cs.size = n * k) (hc : cs.toList = l.flatMap f) (hm : n ≤ maxLen) : Own w 0 e k f (.slice (some ⟨g, 0, none⟩) n n) l := by
  subst hn
  refine ⟨by rw [← hc]; simpa using hs, Or.inr ⟨g, l.length, cs, rfl, Nat.zero_le _, h, Nat.le_refl _, hm, hs, ?_⟩⟩
  rw [List.take_of_length_le (by simp [hs]), hc]
theorem EvsO.grownR {w w' : World} {base : Nat} {v : Value} {E : List Ev} {row : Option Nat} (h : EvsO w base v E) (hg : w.grownBy w' row) (h1 : ∀ b, row = some b → v.ownBlock ≠ some b)
    (h2 : ∀ b, row = some b → ∀ (s : SV) (vs : List V3), Own w 0 23 3 vc (sl s) vs → (sl s).ownBlock ≠ some b) : EvsO w' base v E := by
  obtain ⟨M, m1, m2, m3⟩ := h
  exact ⟨M, m1, m2.grown hg h1, fun i a b => ⟨(m3 i a b).1, (m3 i a b).2.grown hg (fun c hc => h2 c hc _ _ (m3 i a b).2)⟩⟩
theorem EvsO.grownT {w w' : World} {base g : Nat} {v : Value} {E : List Ev} {t : TypeId} {cs : Array Value} (h : EvsO w base v E) (hB : Blk w g t cs) (h1 : 62 ≠ t) (h2 : 23 ≠ t) (hg : w.grownBy w' (some g)) : EvsO w' base v E :=
  h.grownR hg (fun b hb => by obtain rfl := Option.some.inj hb; obtain ⟨M, m1, m2, m3⟩ := h; exact own_ne_blk m2 hB h1) (fun b hb s vs hO => by obtain rfl := Option.some.inj hb; exact own_ne_blk hO hB h2)
theorem own_base {α : Type} {w : World} {b : Nat} {e : TypeId} {k : Nat} {f : α → List Value} {v : Value} {l : List α} (h : Own w b e k f v l) : ∀ c, v.ownBlock = some c → b ≤ c := by
  intro c hc
  rcases h.2 with ⟨rfl, _⟩ | ⟨i, cap, cur, rfl, h1, h2, _⟩
  · simp [Value.ownBlock] at hc
  · simp [Value.ownBlock] at hc; omega
/-- Binds with their rows, the rows of events laid open. -/
def BindsR (w0 : World) (e : Ending) (w : World) : Prop := ∃ (g g1 g2 B1 B2 : Nat) (V1 : Option Addr) (V3 : Nat) (U1 : Option Addr) (U3 : Nat) (E E2 : List Ev) (M M2 : List (Int × SV)), e = .returned (.slice (some ⟨g, 0, none⟩) 2 2) ∧
  Blk w g 59 #[.string nA, .slice (some ⟨g1, 0, none⟩) 2 2, .slice V1 M.length V3, .string nB, .slice (some ⟨g2, 0, none⟩) 4 4, .slice U1 M2.length U3] ∧ Blk w g1 9 #[.string nK, .string nX] ∧ Blk w g2 9 #[.string nK, .string nY, .string nS, .string nT] ∧
  (M.length = E.length ∧ Own w B1 62 2 ec (.slice V1 M.length V3) M ∧ ∀ i (h : i < M.length) (h' : i < E.length), EvRow w (M[i]'h) (E[i]'h')) ∧ (M2.length = E2.length ∧ Own w B2 62 2 ec (.slice U1 M2.length U3) M2 ∧ ∀ i (h : i < M2.length) (h' : i < E2.length), EvRow w (M2[i]'h) (E2[i]'h')) ∧
  (∀ b, (Value.slice V1 M.length V3).ownBlock = some b → b < B2) ∧ (∀ e ∈ E, okEv e) ∧ (∀ e ∈ E2, okEv e) ∧ E.length ≤ 3 ∧ E2.length ≤ 3 ∧ B1 ≤ w.heap.size ∧ B2 ≤ w.heap.size ∧ w0.heap.size ≤ g ∧ w0.heap.size ≤ B1 ∧ w0.heap.size ≤ B2
theorem binds_rows (lv : Value) (L : List UInt8) (w : World) (hv : BytesAt w lv L) (hL : L.length ≤ 140737488351232) :
    Calls Try.prog 12 #[lv] w fun e w' => BindsR w e w' ∧ Below w.heap.size w w' := by
  refine (binds_own lv L w hv hL).mono ?_
  rintro e w' ⟨⟨g, g1, g2, B1, B2, V1, V3, U1, U3, E, E2, rfl, hB, hg1, hg2, ⟨M, m1, m2, m3⟩, ⟨M2, p1, p2, p3⟩, hlt, hE, hE2, hl, hl2, hb, s1, s2, s3⟩, hw⟩
  rw [← m1] at hB m2 hlt
  rw [← p1] at hB p2
  refine ⟨⟨g, g1, g2, min B1 B2, B2, V1, V3, U1, U3, E, E2, M, M2, rfl, hB, hg1, hg2, ⟨m1, ?_, m3⟩, ⟨p1, p2, p3⟩, hlt, hE, hE2, hl, hl2, by omega, hb, s1, by omega, s3⟩, hw⟩
  refine ⟨m2.1, ?_⟩
  rcases m2.2 with h | ⟨i, cap, cur, h1, h2, h3⟩
  · exact Or.inl h
  · exact Or.inr ⟨i, cap, cur, h1, by omega, h3⟩
theorem Try.infoBd : (Try.prog.info? 59).map (fun i => (i.zero, i.size, i.bytes)) = some (some (.agg #[.string ⟨#[]⟩, .slice none 0 0, .slice none 0 0]), 3, 64) := by kernel_rfl
abbrev nQ : ByteArray := ⟨#[113]⟩
abbrev nZ : ByteArray := ⟨#[122]⟩
/-- The event that comes. -/
abbrev mE (n : Int) : Ev := (0, [(1, n, mt), (1, n, mt), (3, 0, nZ), (2, 1, mt)])
theorem mE_ok {n : Int} (h : inR n) : okEv (mE n) := by
  intro v hv
  simp only [List.mem_cons, List.not_mem_nil, or_false] at hv
  rcases hv with rfl | rfl | rfl | rfl
  · exact ⟨h, Nat.zero_le _⟩
  · exact ⟨h, Nat.zero_le _⟩
  · exact ⟨by decide, by decide⟩
  · exact ⟨by decide, by decide⟩
theorem last_mE (F : List ByteArray) (E : List Ev) (n : Int) (f : ByteArray) (v : V3) (h1 : pos F f < F.length) (h2 : (mE n).2[pos F f]? = some v) (h3 : right3 v = true) : lastM F (E ++ [mE n]) f = some v := by
  unfold lastM
  rw [if_pos h1, List.getLast?_append, List.getLast?_singleton]
  simp only [Option.some_or]
  rw [h2]
  simp only []
  rw [if_pos h3]
theorem last_none (F : List ByteArray) (E : List Ev) (f : ByteArray) (h1 : ¬ pos F f < F.length) : lastM F E f = none := by
  unfold lastM; rw [if_neg h1]
abbrev bs3 (E E2 : List Ev) (name : ByteArray) : List Bd := [(nA, [nK, nX], E), (nB, [nK, nY, nS, nT], E2), (name, [nK, nQ], [])]
theorem find_A (E E2 : List Ev) (name : ByteArray) : findB (bs3 E E2 name) nA = some (nA, [nK, nX], E) := by kernel_rfl
theorem find_B (E E2 : List Ev) (name : ByteArray) : findB (bs3 E E2 name) nB = some (nB, [nK, nY, nS, nT], E2) := by kernel_rfl
theorem find_ZA (E E2 : List Ev) : findB (bs3 E E2 nA) nZ = none := by kernel_rfl
theorem find_ZB (E E2 : List Ev) : findB (bs3 E E2 nB) nZ = none := by kernel_rfl
theorem posA : pos [nK, nX] nK < [nK, nX].length := by decide +kernel
theorem posB : pos [nK, nY, nS, nT] nK < [nK, nY, nS, nT].length := by decide +kernel
theorem posAq : ¬ pos [nK, nX] nQ < [nK, nX].length := by decide +kernel
theorem posBq : ¬ pos [nK, nY, nS, nT] nQ < [nK, nY, nS, nT].length := by decide +kernel
theorem posA0 : pos [nK, nX] nK = 0 := by decide +kernel
theorem posB0 : pos [nK, nY, nS, nT] nK = 0 := by decide +kernel
theorem ev_refA (E E2 : List Ev) (n : Int) : evalT (bs3 (E ++ [mE n]) E2 nA) (.ref nA nK) = some (1, n, mt) := by
  rw [evalT, find_A]
  exact last_mE [nK, nX] E n nK _ posA (by rw [posA0]; rfl) rfl
theorem ev_refB (E E2 : List Ev) (n : Int) : evalT (bs3 E (E2 ++ [mE n]) nB) (.ref nB nK) = some (1, n, mt) := by
  rw [evalT, find_B]
  exact last_mE [nK, nY, nS, nT] E2 n nK _ posB (by rw [posB0]; rfl) rfl
theorem ev_cntA (E E2 : List Ev) (n : Int) : evalT (bs3 (E ++ [mE n]) E2 nA) (.cnt nA) = some (1, (E.length : Int) + 1, mt) := by
  rw [evalT, find_A]; simp
theorem ev_cntB (E E2 : List Ev) (n : Int) : evalT (bs3 E (E2 ++ [mE n]) nB) (.cnt nB) = some (1, (E2.length : Int) + 1, mt) := by
  rw [evalT, find_B]; simp
theorem ev_qA (E E2 : List Ev) : evalT (bs3 E E2 nA) (.ref nA nQ) = none := by
  rw [evalT, find_A]
  exact last_none _ _ _ posAq
theorem ev_qB (E E2 : List Ev) : evalT (bs3 E E2 nB) (.ref nB nQ) = none := by
  rw [evalT, find_B]
  exact last_none _ _ _ posBq
theorem ev_zA (E E2 : List Ev) : evalT (bs3 E E2 nA) (.ref nZ nK) = none := by rw [evalT, find_ZA]
theorem ev_zB (E E2 : List Ev) : evalT (bs3 E E2 nB) (.ref nZ nK) = none := by rw [evalT, find_ZB]
theorem ev_czA (E E2 : List Ev) : evalT (bs3 E E2 nA) (.cnt nZ) = none := by rw [evalT, find_ZA]
theorem ev_czB (E E2 : List Ev) : evalT (bs3 E E2 nB) (.cnt nZ) = none := by rw [evalT, find_ZB]
theorem bs3_ok {E E2 : List Ev} {name : ByteArray} (h1 : ∀ e ∈ E, okEv e) (h2 : ∀ e ∈ E2, okEv e) (l1 : E.length ≤ 4) (l2 : E2.length ≤ 4) : okBds (bs3 E E2 name) := by
  intro b hb
  simp only [bs3, List.mem_cons, List.not_mem_nil, or_false] at hb
  rcases hb with rfl | rfl | rfl
  · exact ⟨Nat.le_trans l1 (by decide), h1⟩
  · exact ⟨Nat.le_trans l2 (by decide), h2⟩
  · exact ⟨Nat.zero_le _, fun e he => by simp at he⟩
theorem ref_told {n m : Int} {nm : ByteArray} {L : Value} {X : World} {bs : List Bd} (h : BdsAt X L bs) (hok : okBds bs) (e1 : evalT bs (.ref nm nK) = some (1, n, mt)) (e2 : evalT bs (.cnt nm) = some (1, m, mt)) (e3 : evalT bs (.ref nm nQ) = none) (e4 : evalT bs (.ref nZ nK) = none) (e5 : evalT bs (.cnt nZ) = none) (hn : nameB nm = true) :
    (Calls Try.prog 14 #[ev 1 e0 0 0 e0 nm nK nilk, L] X fun e w' => e = .returned (.tuple #[vv 1 n mt, .bool true]) ∧ Below X.heap.size X w') ∧
    (Calls Try.prog 14 #[ev 2 e0 0 0 e0 nm e0 nilk, L] X fun e w' => e = .returned (.tuple #[vv 1 m mt, .bool true]) ∧ Below X.heap.size X w') ∧
    (Calls Try.prog 14 #[ev 1 e0 0 0 e0 nm nQ nilk, L] X fun e w' => e = .returned (.tuple #[vv 0 0 mt, .bool false]) ∧ Below X.heap.size X w') ∧
    (Calls Try.prog 14 #[ev 1 e0 0 0 e0 nZ nK nilk, L] X fun e w' => e = .returned (.tuple #[vv 0 0 mt, .bool false]) ∧ Below X.heap.size X w') ∧
    (Calls Try.prog 14 #[ev 2 e0 0 0 e0 nZ e0 nilk, L] X fun e w' => e = .returned (.tuple #[vv 0 0 mt, .bool false]) ∧ Below X.heap.size X w') := by
  have hK : nameB nK = true := by kernel_rfl
  have hQ : nameB nQ = true := by kernel_rfl
  have hZ : nameB nZ = true := by kernel_rfl
  have r1 := Reckon_tr (.ref nm nK) nilk L bs X rfl (by unfold Tr.ok; rw [hn, hK]; rfl) trivial h hok
  have r2 := Reckon_tr (.cnt nm) nilk L bs X rfl hn trivial h hok
  have r3 := Reckon_tr (.ref nm nQ) nilk L bs X rfl (by unfold Tr.ok; rw [hn, hQ]; rfl) trivial h hok
  have r4 := Reckon_tr (.ref nZ nK) nilk L bs X rfl (by unfold Tr.ok; rw [hZ, hK]; rfl) trivial h hok
  have r5 := Reckon_tr (.cnt nZ) nilk L bs X rfl hZ trivial h hok
  rw [e1] at r1; rw [e2] at r2; rw [e3] at r3; rw [e4] at r4; rw [e5] at r5
  exact ⟨r1, r2, r3, r4, r5⟩
/-- Binds that are told of as the three are. -/
theorem bds3_at {w : World} {v : Value} {E E2 : List Ev} {name : ByteArray} {g1 g2 g3 B1 B2 B : Nat} {V U : SV} (h : Own w B 59 3 bc v [(nA, (some ⟨g1, 0, none⟩, 2, 2), V), (nB, (some ⟨g2, 0, none⟩, 4, 4), U), (name, (some ⟨g3, 0, none⟩, 2, 2), (none, 0, 0))])
    (h1 : Blk w g1 9 #[.string nK, .string nX]) (h2 : Blk w g2 9 #[.string nK, .string nY, .string nS, .string nT]) (h3 : Blk w g3 9 #[.string nK, .string nQ]) (hE : EvsO w B1 (sl V) E) (hE2 : EvsO w B2 (sl U) E2) : BdsAt w v (bs3 E E2 name) := by
  refine ⟨_, rfl, Own.at_ (k := 3) (f := bc) (fun _ => rfl) h, ?_⟩
  intro i hi hi'
  have h3' : i < 3 := hi
  rcases (by omega : i = 0 ∨ i = 1 ∨ i = 2) with rfl | rfl | rfl
  · exact ⟨rfl, At.blk (k := 1) (f := sc) (fun _ => rfl) h1 rfl rfl (by show 2 ≤ maxLen; decide), hE.at_⟩
  · exact ⟨rfl, At.blk (k := 1) (f := sc) (fun _ => rfl) h2 rfl rfl (by show 4 ≤ maxLen; decide), hE2.at_⟩
  · exact ⟨rfl, At.blk (k := 1) (f := sc) (fun _ => rfl) h3 rfl rfl (by show 2 ≤ maxLen; decide), [], rfl, At.nil w 2 ec, fun j hj => absurd hj (by simp)⟩
end Go.Proofs.Ytjddfjapopdciaa
