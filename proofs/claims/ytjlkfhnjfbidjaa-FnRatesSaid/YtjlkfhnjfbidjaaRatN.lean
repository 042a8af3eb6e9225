/-
  The numbers of rates: bases of sixteenths, warm steps and halves. Conditions: none.
-/
import Derived.Test.YtjlkfhnjfbidjaaRat
namespace Go.Proofs.Ytjlkfhnjfbidjaa
open Go.RowKit

def oLt (x y : Nat) : Bool := FloatKind.f32.format.order x y == some .lt
def oGt (x y : Nat) : Bool := FloatKind.f32.format.order x y == some .gt
def oEq (x y : Nat) : Bool := FloatKind.f32.format.order x y == some .eq
def oLe (x y : Nat) : Bool := oLt x y || oEq x y
def oGe (x y : Nat) : Bool := oGt x y || oEq x y
/-- the base of v + 1 sixteenths -/
def cB (v : Nat) : Nat := cop .quo .f32 (floatOfInt .f32 ((v : Int) + 1)) 1098907648
/-- its bits -/
def tB (v : Nat) : Nat := [1031798784, 1040187392, 1044381696, 1048576000, 1050673152, 1052770304, 1054867456, 1056964608, 1058013184, 1059061760, 1060110336, 1061158912, 1062207488, 1063256064, 1064304640, 1065353216, 1065877504, 1066401792, 1066926080, 1067450368, 1067974656, 1068498944, 1069023232, 1069547520, 1070071808, 1070596096, 1071120384, 1071644672, 1072168960, 1072693248, 1073217536, 1073741824, 1074003968, 1074266112, 1074528256, 1074790400, 1075052544, 1075314688, 1075576832, 1075838976, 1076101120, 1076363264, 1076625408, 1076887552, 1077149696, 1077411840, 1077673984, 1077936128, 1078198272, 1078460416, 1078722560, 1078984704, 1079246848, 1079508992, 1079771136, 1080033280, 1080295424, 1080557568, 1080819712, 1081081856, 1081344000, 1081606144, 1081868288, 1082130432].getD v 0
def chkB : Bool := (List.range 64).all fun v => cB v == tB v && oEq (tB v) (tB v) && canon .f32 (tB v) == tB v
theorem chkB_true : chkB = true := by decide +kernel
/-- half of a number, k halves behind base v -/
def chkHalf : Bool := (List.range 64).all fun v => (List.range 61).all fun k => cop .quo .f32 (tB v - k * 8388608) 1073741824 == tB v - (k + 1) * 8388608 && oLe (tB v - (k + 1) * 8388608) (tB v - k * 8388608) && oGt (tB v - k * 8388608) 0 && oLe (tB v - k * 8388608) (tB v - k * 8388608) && oEq (tB v - k * 8388608) (tB v - k * 8388608)
theorem chkHalf_true : chkHalf = true := by decide +kernel
/-- the rate of warm step s of m -/
def cW (v s m : Nat) : Nat := cop .quo .f32 (cop .mul .f32 (tB v) (floatOfInt .f32 ((s : Int) + 1))) (floatOfInt .f32 (m : Int))
def chkW : Bool := (List.range 64).all fun v => (List.range 10).all fun m => (List.range m).all fun s => oGt (cW v s m) 0 && oLe (cW v s m) (tB v) && (s == 0 || oGe (cW v s m) (cW v (s - 1) m))
theorem chkW_true : chkW = true := by decide +kernel
end Go.Proofs.Ytjlkfhnjfbidjaa
