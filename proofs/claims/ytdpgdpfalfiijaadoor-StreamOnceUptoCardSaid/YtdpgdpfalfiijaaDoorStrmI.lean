/- Contracts of package stream: Get. -/
import Derived.Test.YtdpgdpfalfiijaaDoorStrmH
namespace Go.Proofs.YtdpgdpfalfiijaaDoor
open Go.ChangeShapes Go.WideShapes Go.ChangeAt Go.RowKit
set_option linter.unusedVariables false
set_option linter.unusedSimpArgs false

/-- A stream, as the program has it. -/
abbrev st (n : ByteArray) (v : Value) : Value := .agg #[.string n, v]
def StreamGot (S : ByteArray) (w : World) (e : Ending) (w' : World) : Prop :=
  ((getN S = none ∧ e = .returned (.tuple #[st ⟨#[]⟩ (.slice none 0 0), .bool false])) ∨
   ∃ n l v, getN S = some (n, l) ∧ e = .returned (.tuple #[st n v, .bool true]) ∧ NewF w.heap.size w' v l) ∧ Below w.heap.size w w'
theorem parts_length (s : ByteArray) : (parts s).length = Lib.countB s ⟨#[44]⟩ + 1 := by
  exact Lib.splitB_all ⟨#[44]⟩ (by decide) 0 _ s rfl
theorem SGet_e1 (S : ByteArray) (m : Int) (w : World) (hs : S.size < 4294967281) (hm : w.cell? ⟨0, 0, none⟩ = some (.int .i64 m)) (h : (cutB S ⟨#[40]⟩).2.2 = false) :
    Calls Tryd.prog 13 #[.string S] w (StreamGot S w) := by
  have E := Lib.hid (show getN S = none by unfold getN; rw [if_pos h])
  have hc0 := (ba w (.cells #[.string ⟨#[]⟩, .slice none 0 0] 28)).cell (World.block_lt_of_cell? w _ hm) |>.trans hm
  have cC := Cut_any S ⟨#[40]⟩ m _ hs hc0
  have hz := (cutB_size S ⟨#[40]⟩)
  generalize cutB S ⟨#[40]⟩ = C at *
  obtain ⟨c1, c2, c3⟩ := C
  simp only at h hz cC
  subst h
  have cS := fun W => Suf_any c2 ⟨#[41]⟩ W (by omega)
  generalize sufB c2 ⟨#[41]⟩ = X at *
  obtain ⟨x1, x2⟩ := X
  have H := Lib.hid (And.intro cC cS); clear cC cS hc0 hz
  go_enter Tryd.func13, Tryd.ntmps13
  go_wp2_with (first
    | (go_at_call 30; ((with_reducible refine (H.out.1).mono ?_); rintro e w1 ⟨rfl, b1⟩; have B0 := (Blk.new w 28 #[.string ⟨#[]⟩, .slice none 0 0]).later b1; have z0 := B0.cell 0; have z1 := B0.cell 1; have z2 := B0.frozen; have z3 := B0.lt; have HB := Lib.hid (And.intro (bt (ba w _) b1) (B0.put2 (.string ⟨#[]⟩) (.slice none 0 0))); clear b1 B0))
    | (go_at_call 31; ((with_reducible refine (H.out.2 _).mono ?_); rintro e w2 ⟨rfl, rfl⟩)))
  exact bodyPost_ret (v := .tuple #[st ⟨#[]⟩ (.slice none 0 0), .bool false]) (by simp [results, Tryd.results13, go_sem, HB.out.2.cell 0, HB.out.2.cell 1]) rfl ⟨Or.inl ⟨E.out, rfl⟩, below_put2 HB.out.1 (Nat.le_refl _) _ _⟩
theorem SGet_e2 (S : ByteArray) (m : Int) (w : World) (hs : S.size < 4294967281) (hm : w.cell? ⟨0, 0, none⟩ = some (.int .i64 m)) (h : (cutB S ⟨#[40]⟩).2.2 = true) (h2 : (sufB (cutB S ⟨#[40]⟩).2.1 ⟨#[41]⟩).2 = false) :
    Calls Tryd.prog 13 #[.string S] w (StreamGot S w) := by
  have E := Lib.hid (show getN S = none by unfold getN; rw [if_neg (by rw [h]; simp), if_pos h2])
  have hc0 := (ba w (.cells #[.string ⟨#[]⟩, .slice none 0 0] 28)).cell (World.block_lt_of_cell? w _ hm) |>.trans hm
  have cC := Cut_any S ⟨#[40]⟩ m _ hs hc0
  have hz := (cutB_size S ⟨#[40]⟩)
  generalize cutB S ⟨#[40]⟩ = C at *
  obtain ⟨c1, c2, c3⟩ := C
  simp only at h hz cC h2
  subst h
  have cS := fun W => Suf_any c2 ⟨#[41]⟩ W (by omega)
  generalize sufB c2 ⟨#[41]⟩ = X at *
  obtain ⟨x1, x2⟩ := X
  simp only at h2
  subst h2
  have H := Lib.hid (And.intro cC cS); clear cC cS hc0 hz
  go_enter Tryd.func13, Tryd.ntmps13
  go_wp2_with (first
    | (go_at_call 30; ((with_reducible refine (H.out.1).mono ?_); rintro e w1 ⟨rfl, b1⟩; have B0 := (Blk.new w 28 #[.string ⟨#[]⟩, .slice none 0 0]).later b1; have z0 := B0.cell 0; have z1 := B0.cell 1; have z2 := B0.frozen; have z3 := B0.lt; have HB := Lib.hid (And.intro (bt (ba w _) b1) (B0.put2 (.string ⟨#[]⟩) (.slice none 0 0))); clear b1 B0))
    | (go_at_call 31; ((with_reducible refine (H.out.2 _).mono ?_); rintro e w2 ⟨rfl, rfl⟩)))
  exact bodyPost_ret (v := .tuple #[st ⟨#[]⟩ (.slice none 0 0), .bool false]) (by simp [results, Tryd.results13, go_sem, HB.out.2.cell 0, HB.out.2.cell 1]) rfl ⟨Or.inl ⟨E.out, rfl⟩, below_put2 HB.out.1 (Nat.le_refl _) _ _⟩
set_option maxRecDepth 20000 in
theorem SGet_e3 (S : ByteArray) (m : Int) (w : World) (hs : S.size < 4294967281) (hm : w.cell? ⟨0, 0, none⟩ = some (.int .i64 m)) (h : (cutB S ⟨#[40]⟩).2.2 = true) (h2 : (sufB (cutB S ⟨#[40]⟩).2.1 ⟨#[41]⟩).2 = true) (h3 : (sufB (cutB S ⟨#[40]⟩).2.1 ⟨#[41]⟩).1.size = 0) :
    Calls Tryd.prog 13 #[.string S] w (StreamGot S w) := by
  have E : getN S = if rightN (cutB S ⟨#[40]⟩).1 [] = 0 then some ((cutB S ⟨#[40]⟩).1, []) else none := by
    unfold getN; rw [if_neg (by rw [h]; simp), if_neg (by rw [h2]; simp)]
    unfold getF; rw [if_pos h3]
  have hc0 := (ba w (.cells #[.string ⟨#[]⟩, .slice none 0 0] 28)).cell (World.block_lt_of_cell? w _ hm) |>.trans hm
  have cC := Cut_any S ⟨#[40]⟩ m _ hs hc0
  have hz := (cutB_size S ⟨#[40]⟩)
  generalize cutB S ⟨#[40]⟩ = C at *
  obtain ⟨c1, c2, c3⟩ := C
  simp only at h hz cC h2 h3 E
  subst h
  have cS := fun W => Suf_any c2 ⟨#[41]⟩ W (by omega)
  generalize sufB c2 ⟨#[41]⟩ = X at *
  obtain ⟨x1, x2⟩ := X
  simp only at h2 h3
  subst h2
  have hx := (size_nil x1).1 h3
  have hxb : (x1.toList == []) = true := by simpa using hx
  have cR := fun W => Right_any c1 (.slice none 0 0) [] W (RowsAt.nil rowF W) (by unfold maxLen; omega) (by simp)
  generalize rightN c1 [] = r at *
  have H := Lib.hid (And.intro cC (And.intro cS cR)); clear cC cS hc0 hz cR h3
  by_cases hr : r = 0
  · rw [if_pos hr] at E
    subst hr
    have E := Lib.hid E
    go_enter Tryd.func13, Tryd.ntmps13
    go_wp2_with (first
      | (go_at_call 30; ((with_reducible refine (H.out.1).mono ?_); rintro e w1 ⟨rfl, b1⟩; have HB := Lib.hid (And.intro (bt (ba w _) b1) ((Blk.new w 28 #[.string ⟨#[]⟩, .slice none 0 0]).later b1)); clear b1))
      | (go_at_call 31; ((with_reducible refine (H.out.2.1 _).mono ?_); rintro e w2 ⟨rfl, rfl⟩))
      | (go_at_call 22; ((with_reducible refine (H.out.2.2 _).mono ?_); rintro e w3 ⟨rfl, b3⟩; have B1 := (Blk.new w1 28 #[.string c1, .slice none 0 0]).later b3; have B0 := HB.out.2.later (bt (ba w1 _) b3); have z0 := B0.cell 0; have z1 := B0.cell 1; have z2 := B0.frozen; have z3 := B0.lt; have y0 := B1.cell 0; have y1 := B1.cell 1; have HD := Lib.hid (And.intro (bt HB.out.1 (bt (ba w1 _) b3)) (B0.put2 (.string c1) (.slice none 0 0))); clear b3 B0 B1)))
    exact bodyPost_ret (v := .tuple #[st c1 (.slice none 0 0), .bool true]) (by simp [results, Tryd.results13, go_sem, HD.out.2.cell 0, HD.out.2.cell 1]) rfl ⟨Or.inr ⟨_, _, _, E.out, rfl, NewF.nil _ _⟩, below_put2 HD.out.1 (Nat.le_refl _) _ _⟩
  · rw [if_neg hr] at E
    have E := Lib.hid E
    have hrb : (r != 0) = true := by simpa using hr
    go_enter Tryd.func13, Tryd.ntmps13
    go_wp2_with (first
      | (go_at_call 30; ((with_reducible refine (H.out.1).mono ?_); rintro e w1 ⟨rfl, b1⟩; have HB := Lib.hid (And.intro (bt (ba w _) b1) ((Blk.new w 28 #[.string ⟨#[]⟩, .slice none 0 0]).later b1)); clear b1))
      | (go_at_call 31; ((with_reducible refine (H.out.2.1 _).mono ?_); rintro e w2 ⟨rfl, rfl⟩))
      | (go_at_call 22; ((with_reducible refine (H.out.2.2 _).mono ?_); rintro e w3 ⟨rfl, b3⟩; have B0 := HB.out.2.later (bt (ba w1 _) b3); have z0 := B0.cell 0; have z1 := B0.cell 1; have z2 := B0.frozen; have z3 := B0.lt; have HD := Lib.hid (And.intro (bt HB.out.1 (bt (ba w1 _) b3)) (B0.put2 (.string ⟨#[]⟩) (.slice none 0 0))); clear b3 B0)))
    exact bodyPost_ret (v := .tuple #[st ⟨#[]⟩ (.slice none 0 0), .bool false]) (by simp [results, Tryd.results13, go_sem, HD.out.2.cell 0, HD.out.2.cell 1]) rfl ⟨Or.inl ⟨E.out, rfl⟩, below_put2 HD.out.1 (Nat.le_refl _) _ _⟩
end Go.Proofs.YtdpgdpfalfiijaaDoor
