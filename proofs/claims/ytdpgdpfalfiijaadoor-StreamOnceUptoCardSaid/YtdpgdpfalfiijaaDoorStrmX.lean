/- The examples of chapter 3, reckoned. -/
import Derived.Test.YtdpgdpfalfiijaaDoorStrmJ
namespace Go.Proofs.YtdpgdpfalfiijaaDoor
open Go.ChangeShapes Go.WideShapes Go.ChangeAt Go.RowKit
set_option linter.unusedVariables false
set_option linter.unusedSimpArgs false

abbrev exA : ByteArray := ⟨#[97, 40, 120, 58, 105, 110, 116, 44, 121, 58, 116, 101, 120, 116, 41]⟩
abbrev exB : ByteArray := ⟨#[97, 40, 120, 58, 105, 110, 116, 44, 41]⟩
abbrev exL : List Fld := [(⟨#[120]⟩, 1), (⟨#[121]⟩, 3)]
theorem kindOfN_data (s : ByteArray) : kindOfN s = if (kindL 1).data.toList = s.data.toList then 1 else if (kindL 2).data.toList = s.data.toList then 2 else if (kindL 3).data.toList = s.data.toList then 3 else 0 := by
  unfold kindOfN; simp only [Lib.toList_data]
theorem keyB_data (s : ByteArray) : keyB s = (s.data.toList == [83, 84, 82, 73, 67, 84] || s.data.toList == [87, 73, 84, 72, 73, 78] || s.data.toList == [66, 89] || s.data.toList == [69, 77, 73, 84] || s.data.toList == [116, 114, 117, 101] || s.data.toList == [102, 97, 108, 115, 101]) := by
  unfold keyB; simp only [Lib.toList_data]
def nameD (s : ByteArray) : Bool := decide (1 ≤ s.size) && decide (s.size ≤ 20) && !digB (s.data.toList.getD 0 0).toNat && !(s.data.toList == [83, 84, 82, 73, 67, 84] || s.data.toList == [87, 73, 84, 72, 73, 78] || s.data.toList == [66, 89] || s.data.toList == [69, 77, 73, 84] || s.data.toList == [116, 114, 117, 101] || s.data.toList == [102, 97, 108, 115, 101]) && s.data.toList.all fun c => letB c.toNat || digB c.toNat
theorem nameB_data : nameB = nameD := by
  funext s; unfold nameB nameD; rw [keyB_data]
theorem isN_data : isN = fun x s => s.data.toList == x.data.toList := by
  funext x s; unfold isN; simp only [Lib.toList_data]
def kindOfD (s : ByteArray) : Int := if (kindL 1).data.toList = s.data.toList then 1 else if (kindL 2).data.toList = s.data.toList then 2 else if (kindL 3).data.toList = s.data.toList then 3 else 0
theorem kindOfN_eq : kindOfN = kindOfD := by funext s; exact kindOfN_data s
def hasD (l : List Fld) (s : ByteArray) : Bool := l.any fun y => y.1.data.toList == s.data.toList
theorem hasB_eq : hasB = hasD := by funext l s; unfold hasB hasD; rw [isN_data]
def errD : List Fld → List Fld → Int
  | _, [] => 0
  | met, (s, k) :: r => if nameD s = false then 5 else if ¬ (1 ≤ k ∧ k ≤ 3) then 6 else if hasD met s = true then 11 else errD ((s, k) :: met) r
theorem errF_eq : ∀ (l met : List Fld), errF met l = errD met l
  | [], _ => by simp [errF, errD]
  | (s, k) :: r, met => by simp only [errF, errD, nameB_data, hasB_eq, errF_eq r]
def rightD (n : ByteArray) (l : List Fld) : Int := if nameD n = false then 5 else if 6 < l.length then 4 else errD [] l
theorem rightN_eq : rightN = rightD := by funext n l; unfold rightN rightD; rw [nameB_data, errF_eq]
theorem xname1 : nameB ⟨#[95, 97, 49]⟩ = true := by rw [nameB_data]; decide +kernel
theorem xname2 : nameB ⟨#[66, 89]⟩ = false := by rw [nameB_data]; decide +kernel
theorem xname3 : nameB ⟨#[49, 97]⟩ = false := by rw [nameB_data]; decide +kernel
theorem xname4 : nameB ⟨#[]⟩ = false := by rw [nameB_data]; decide +kernel
theorem xr : rightN ⟨#[97]⟩ exL = 0 := by rw [rightN_eq]; decide +kernel
theorem xr2 : rightN ⟨#[97]⟩ [(⟨#[120]⟩, 1), (⟨#[120]⟩, 2)] = 11 := by rw [rightN_eq]; decide +kernel
theorem xat1 : idxB (fun y : Fld => isN ⟨#[121]⟩ y.1) exL = 1 := by rw [isN_data]; decide +kernel
theorem xat2 : idxB (fun y : Fld => isN ⟨#[122]⟩ y.1) exL = -1 := by rw [isN_data]; decide +kernel
theorem xfind : atS ⟨#[97]⟩ [(⟨#[97]⟩, exL)] = 0 := by unfold atS; rw [isN_data]; decide +kernel
theorem xall : allN [(⟨#[97]⟩, exL), (⟨#[97]⟩, exL)] = 11 := by
  unfold allN
  rw [if_neg (by decide)]
  simp [errS, xr, xfind, show atS ⟨#[97]⟩ [] = -1 from rfl]
theorem xput : putN ⟨#[97]⟩ exL = exA := by decide +kernel
theorem xcut1 : cutB exA ⟨#[40]⟩ = (⟨#[97]⟩, ⟨#[120, 58, 105, 110, 116, 44, 121, 58, 116, 101, 120, 116, 41]⟩, true) := by decide +kernel
theorem xsuf1 : sufB ⟨#[120, 58, 105, 110, 116, 44, 121, 58, 116, 101, 120, 116, 41]⟩ ⟨#[41]⟩ = (⟨#[120, 58, 105, 110, 116, 44, 121, 58, 116, 101, 120, 116]⟩, true) := by decide +kernel
theorem xparts1 : parts ⟨#[120, 58, 105, 110, 116, 44, 121, 58, 116, 101, 120, 116]⟩ = [⟨#[120, 58, 105, 110, 116]⟩, ⟨#[121, 58, 116, 101, 120, 116]⟩] := by decide +kernel
theorem fieldOf_eq : fieldOf = fun p => ((cutB p ⟨#[58]⟩).1, kindOfD (cutB p ⟨#[58]⟩).2.1) := by funext p; unfold fieldOf; rw [kindOfN_eq]
theorem xget1 : getF ⟨#[120, 58, 105, 110, 116, 44, 121, 58, 116, 101, 120, 116]⟩ = exL := by
  rw [getF_pos (by decide), xparts1, fieldOf_eq]; decide +kernel
theorem xg1 : getN exA = some (⟨#[97]⟩, exL) := by
  unfold getN; rw [xcut1]; simp only; rw [xsuf1]; simp only; rw [xget1, xr]; rfl
theorem xcut2 : cutB exB ⟨#[40]⟩ = (⟨#[97]⟩, ⟨#[120, 58, 105, 110, 116, 44, 41]⟩, true) := by decide +kernel
theorem xsuf2 : sufB ⟨#[120, 58, 105, 110, 116, 44, 41]⟩ ⟨#[41]⟩ = (⟨#[120, 58, 105, 110, 116, 44]⟩, true) := by decide +kernel
theorem xparts2 : parts ⟨#[120, 58, 105, 110, 116, 44]⟩ = [⟨#[120, 58, 105, 110, 116]⟩, ⟨#[]⟩] := by decide +kernel
theorem xget2 : getF ⟨#[120, 58, 105, 110, 116, 44]⟩ = [(⟨#[120]⟩, 1), (⟨#[]⟩, 0)] := by
  rw [getF_pos (by decide), xparts2, fieldOf_eq]; decide +kernel
theorem xr3 : rightN ⟨#[97]⟩ [(⟨#[120]⟩, 1), (⟨#[]⟩, 0)] = 5 := by rw [rightN_eq]; decide +kernel
theorem xg2 : getN exB = none := by
  unfold getN; rw [xcut2]; simp only; rw [xsuf2]; simp only; rw [xget2, xr3]; rfl
theorem xsame : sameN ⟨#[97]⟩ exL ⟨#[97]⟩ exL = true := by
  unfold sameN; rw [(sameF_iff _ _).2 rfl, Lib.toList_data]; rfl
end Go.Proofs.YtdpgdpfalfiijaaDoor
