/- The steps of a walk at a deque, whatever the world (layer 13). -/
import Derived.Test.YtegbifphekhgkaaDqH
import Derived.Shelf.Abstract
namespace Go.Proofs.Ytegbifphekhgkaa
open Go.ChangeShapes Go.WideShapes Go.ChangeAt Go.RowKit
set_option linter.unusedVariables false
theorem s_popClaim (S g A P : Nat) (xs : List Int) (o : Wk) (v : Int) (hO : WOk o P xs.length) (b1 : -1000000 ≤ o.tl) (b2 : o.tl ≤ 1000000) (hv : Hid (o.tl - 1 = v)) (hx : o.nx = fnV A 52) : StepC S g A xs o (xs.set (P + 1) v) { o with nx := fnV A 78 } :=
  ⟨52, hx, enters_of Try.func52 (by kernel_rfl) rfl, fun w0 w h => d_popClaim w0 w S g A P xs o v h hO b1 b2 hv⟩
theorem s_popYield (S g A P : Nat) (xs : List Int) (o : Wk) (v : Int) (hO : WOk o P xs.length) (b1 : -1000000 ≤ o.tl) (b2 : o.tl ≤ 1000000) (hv : Hid (o.tl = v)) (hx : o.nx = fnV A 98) : StepC S g A xs o (xs.set (P + 1) v) { o with nx := fnV A 110 } :=
  ⟨98, hx, enters_of Try.func98 (by kernel_rfl) rfl, fun w0 w h => d_popYield w0 w S g A P xs o v h hO b1 b2 hv⟩
theorem s_popClaimAgain (S g A P : Nat) (xs : List Int) (o : Wk) (v : Int) (hO : WOk o P xs.length) (b1 : -1000000 ≤ o.tl) (b2 : o.tl ≤ 1000000) (hv : Hid (o.tl - 1 = v)) (hx : o.nx = fnV A 117) : StepC S g A xs o (xs.set (P + 1) v) { o with nx := fnV A 120 } :=
  ⟨117, hx, enters_of Try.func117 (by kernel_rfl) rfl, fun w0 w h => d_popClaimAgain w0 w S g A P xs o v h hO b1 b2 hv⟩
theorem s_popYieldAgain (S g A P : Nat) (xs : List Int) (o : Wk) (v : Int) (hO : WOk o P xs.length) (b1 : -1000000 ≤ o.tl) (b2 : o.tl ≤ 1000000) (hv : Hid (o.tl = v)) (hx : o.nx = fnV A 123) : StepC S g A xs o (xs.set (P + 1) v) { o with nx := fnV A 125 } :=
  ⟨123, hx, enters_of Try.func123 (by kernel_rfl) rfl, fun w0 w h => d_popYieldAgain w0 w S g A P xs o v h hO b1 b2 hv⟩
theorem s_stealClaim (S g A P : Nat) (xs : List Int) (o : Wk) (v : Int) (hO : WOk o P xs.length) (b1 : -1000000 ≤ o.hd) (b2 : o.hd ≤ 1000000) (hv : Hid (o.hd + 1 = v)) (hx : o.nx = fnV A 113) : StepC S g A xs o (xs.set (P + 0) v) { o with nx := fnV A 116 } :=
  ⟨113, hx, enters_of Try.func113 (by kernel_rfl) rfl, fun w0 w h => d_stealClaim w0 w S g A P xs o v h hO b1 b2 hv⟩
theorem s_stealYield (S g A P : Nat) (xs : List Int) (o : Wk) (v : Int) (hO : WOk o P xs.length) (b1 : -1000000 ≤ o.hd) (b2 : o.hd ≤ 1000000) (hv : Hid (o.hd = v)) (hx : o.nx = fnV A 118) : StepC S g A xs o (xs.set (P + 0) v) { o with nx := fnV A 121 } :=
  ⟨118, hx, enters_of Try.func118 (by kernel_rfl) rfl, fun w0 w h => d_stealYield w0 w S g A P xs o v h hO b1 b2 hv⟩
theorem s_popLook_yes (S g A P : Nat) (xs : List Int) (o : Wk) (v : Int) (hO : WOk o P xs.length) (b1 : -1000000 ≤ o.tl) (b2 : o.tl ≤ 1000000) (hv : Hid (xs.getD (P + 0) 0 = v)) (hc :  v ≤ o.tl - 1) (hx : o.nx = fnV A 78) : StepC S g A xs o xs { o with nx := fnV A 97 } :=
  ⟨78, hx, enters_of Try.func78 (by kernel_rfl) rfl, fun w0 w h => d_popLook_yes w0 w S g A P xs o v h hO b1 b2 hv hc⟩
theorem s_popLook_no (S g A P : Nat) (xs : List Int) (o : Wk) (v : Int) (hO : WOk o P xs.length) (b1 : -1000000 ≤ o.tl) (b2 : o.tl ≤ 1000000) (hv : Hid (xs.getD (P + 0) 0 = v)) (hc : ¬ v ≤ o.tl - 1) (hx : o.nx = fnV A 78) : StepC S g A xs o xs { o with nx := fnV A 98 } :=
  ⟨78, hx, enters_of Try.func78 (by kernel_rfl) rfl, fun w0 w h => d_popLook_no w0 w S g A P xs o v h hO b1 b2 hv hc⟩
theorem s_popLookAgain_yes (S g A P : Nat) (xs : List Int) (o : Wk) (v : Int) (hO : WOk o P xs.length) (b1 : -1000000 ≤ o.tl) (b2 : o.tl ≤ 1000000) (hv : Hid (xs.getD (P + 0) 0 = v)) (hc :  v ≤ o.tl - 1) (hx : o.nx = fnV A 120) : StepC S g A xs o xs { o with nx := fnV A 122 } :=
  ⟨120, hx, enters_of Try.func120 (by kernel_rfl) rfl, fun w0 w h => d_popLookAgain_yes w0 w S g A P xs o v h hO b1 b2 hv hc⟩
theorem s_popLookAgain_no (S g A P : Nat) (xs : List Int) (o : Wk) (v : Int) (hO : WOk o P xs.length) (b1 : -1000000 ≤ o.tl) (b2 : o.tl ≤ 1000000) (hv : Hid (xs.getD (P + 0) 0 = v)) (hc : ¬ v ≤ o.tl - 1) (hx : o.nx = fnV A 120) : StepC S g A xs o xs { o with nx := fnV A 123 } :=
  ⟨120, hx, enters_of Try.func120 (by kernel_rfl) rfl, fun w0 w h => d_popLookAgain_no w0 w S g A P xs o v h hO b1 b2 hv hc⟩
theorem s_stealCheck_yes (S g A P : Nat) (xs : List Int) (o : Wk) (v : Int) (hO : WOk o P xs.length) (b1 : -1000000 ≤ o.hd) (b2 : o.hd ≤ 1000000) (hv : Hid (xs.getD (P + 1) 0 = v)) (hc :  v ≤ o.hd) (hx : o.nx = fnV A 116) : StepC S g A xs o xs { o with nx := fnV A 118 } :=
  ⟨116, hx, enters_of Try.func116 (by kernel_rfl) rfl, fun w0 w h => d_stealCheck_yes w0 w S g A P xs o v h hO b1 b2 hv hc⟩
theorem s_stealCheck_no (S g A P : Nat) (xs : List Int) (o : Wk) (v : Int) (hO : WOk o P xs.length) (b1 : -1000000 ≤ o.hd) (b2 : o.hd ≤ 1000000) (hv : Hid (xs.getD (P + 1) 0 = v)) (hc : ¬ v ≤ o.hd) (hx : o.nx = fnV A 116) : StepC S g A xs o xs { o with nx := fnV A 119 } :=
  ⟨116, hx, enters_of Try.func116 (by kernel_rfl) rfl, fun w0 w h => d_stealCheck_no w0 w S g A P xs o v h hO b1 b2 hv hc⟩
theorem s_pushLook_yes (S g A P : Nat) (xs : List Int) (o : Wk) (v : Int) (hO : WOk o P xs.length) (b1 : -1000000 ≤ o.tl) (b2 : o.tl ≤ 1000000) (hv : Hid (xs.getD (P + 0) 0 = v)) (hc :  v ≤ o.tl - ((o.D : Int) - 1)) (hx : o.nx = fnV A 51) : StepC S g A xs o xs { o with fl := true, nx := .nilFunc } :=
  ⟨51, hx, enters_of Try.func51 (by kernel_rfl) rfl, fun w0 w h => d_pushLook_yes w0 w S g A P xs o v h hO b1 b2 hv hc⟩
theorem s_pushLook_no (S g A P : Nat) (xs : List Int) (o : Wk) (v : Int) (hO : WOk o P xs.length) (b1 : -1000000 ≤ o.tl) (b2 : o.tl ≤ 1000000) (hv : Hid (xs.getD (P + 0) 0 = v)) (hc : ¬ v ≤ o.tl - ((o.D : Int) - 1)) (hx : o.nx = fnV A 51) : StepC S g A xs o xs { o with nx := fnV A 76 } :=
  ⟨51, hx, enters_of Try.func51 (by kernel_rfl) rfl, fun w0 w h => d_pushLook_no w0 w S g A P xs o v h hO b1 b2 hv hc⟩
theorem s_pushPut (S g A P r : Nat) (xs : List Int) (o : Wk) (hO : WOk o P xs.length) (b1 : 0 ≤ o.tl) (b2 : o.tl ≤ 1000000) (hr : Hid (o.tl.tmod (o.D : Int) = (r : Int))) (hrd : r < o.D) (hx : o.nx = fnV A 76) : StepC S g A xs o (xs.set (P + 4 + r) o.x) { o with nx := fnV A 96 } :=
  ⟨76, hx, enters_of Try.func76 (by kernel_rfl) rfl, fun w0 w h => d_pushPut w0 w S g A P r xs o h hO b1 b2 hr hrd⟩
theorem s_pushShow (S g A P : Nat) (xs : List Int) (o : Wk) (v : Int) (hO : WOk o P xs.length) (b1 : 0 ≤ o.tl) (b2 : o.tl ≤ 1000000) (hv : Hid (o.tl + 1 = v)) (hx : o.nx = fnV A 96) : StepC S g A xs o (xs.set (P + 1) v) { o with tl := v, nx := .nilFunc } :=
  ⟨96, hx, enters_of Try.func96 (by kernel_rfl) rfl, fun w0 w h => d_pushShow w0 w S g A P xs o v h hO b1 b2 hv⟩
theorem s_popAsk (S g A P : Nat) (xs : List Int) (o : Wk) (v : Int) (hO : WOk o P xs.length) (hv : Hid (xs.getD (P + 2) 0 = v)) (hx : o.nx = fnV A 110) : StepC S g A xs o (xs.set (P + 2) (wrap64 (v + 1))) { ({ o with ta := ((P + 2 : Nat) : Int), tn := v } : Wk) with nx := fnV A 115 } :=
  ⟨110, hx, enters_of Try.func110 (by kernel_rfl) rfl, fun w0 w h => d_popAsk w0 w S g A P xs o v h hO hv⟩
theorem s_stealAsk (S g A P : Nat) (xs : List Int) (o : Wk) (v : Int) (hO : WOk o P xs.length) (hv : Hid (xs.getD (P + 2) 0 = v)) (hx : o.nx = fnV A 53) : StepC S g A xs o (xs.set (P + 2) (wrap64 (v + 1))) { ({ o with ta := ((P + 2 : Nat) : Int), tn := v } : Wk) with nx := fnV A 80 } :=
  ⟨53, hx, enters_of Try.func53 (by kernel_rfl) rfl, fun w0 w h => d_stealAsk w0 w S g A P xs o v h hO hv⟩
theorem s_popLeave (S g A P : Nat) (xs : List Int) (o : Wk) (m : Int) (hO : WOk o P xs.length) (ht : o.ta = ((P + 2 : Nat) : Int)) (hn : Hid (wrap64 (o.tn + 1) = m)) (hx : o.nx = fnV A 122) : StepC S g A xs o (xs.set (P + 3) m) { o with nx := fnV A 97 } :=
  ⟨122, hx, enters_of Try.func122 (by kernel_rfl) rfl, fun w0 w h => d_popLeave w0 w S g A P xs o m h hO ht hn⟩
theorem s_popGiveUp (S g A P : Nat) (xs : List Int) (o : Wk) (m : Int) (hO : WOk o P xs.length) (ht : o.ta = ((P + 2 : Nat) : Int)) (hn : Hid (wrap64 (o.tn + 1) = m)) (hx : o.nx = fnV A 125) : StepC S g A xs o (xs.set (P + 3) m) { o with nx := .nilFunc } :=
  ⟨125, hx, enters_of Try.func125 (by kernel_rfl) rfl, fun w0 w h => d_popGiveUp w0 w S g A P xs o m h hO ht hn⟩
theorem s_stealLeave (S g A P : Nat) (xs : List Int) (o : Wk) (m : Int) (hO : WOk o P xs.length) (ht : o.ta = ((P + 2 : Nat) : Int)) (hn : Hid (wrap64 (o.tn + 1) = m)) (hx : o.nx = fnV A 121) : StepC S g A xs o (xs.set (P + 3) m) { o with nx := .nilFunc } :=
  ⟨121, hx, enters_of Try.func121 (by kernel_rfl) rfl, fun w0 w h => d_stealLeave w0 w S g A P xs o m h hO ht hn⟩
theorem s_stealTake (S g A P : Nat) (xs : List Int) (o : Wk) (r : Nat) (v : Int) (hO : WOk o P xs.length) (b1 : 0 ≤ o.hd) (hr : Hid (o.hd.tmod (o.D : Int) = (r : Int))) (hrd : r < o.D) (hv : Hid (xs.getD (P + 4 + r) 0 = v)) (hx : o.nx = fnV A 119) : StepC S g A xs o xs { ({ o with gt := v, hs := true } : Wk) with nx := fnV A 121 } :=
  ⟨119, hx, enters_of Try.func119 (by kernel_rfl) rfl, fun w0 w h => d_stealTake w0 w S g A P xs o r v h hO b1 hr hrd hv⟩
theorem s_popWait (S g A P : Nat) (xs : List Int) (o : Wk) (hO : WOk o P xs.length) (ht : o.ta = ((P + 2 : Nat) : Int)) (hv : Hid (xs.getD (P + 3) 0 = o.tn)) (hx : o.nx = fnV A 115) : StepC S g A xs o xs { o with nx := fnV A 117 } :=
  ⟨115, hx, enters_of Try.func115 (by kernel_rfl) rfl, fun w0 w h => d_popWait w0 w S g A P xs o h hO ht hv⟩
theorem s_popWait_no (S g A P : Nat) (xs : List Int) (o : Wk) (y : Int) (hO : WOk o P xs.length) (ht : o.ta = ((P + 2 : Nat) : Int)) (hv : Hid (xs.getD (P + 3) 0 = y)) (hne : ¬ y = o.tn) (hx : o.nx = fnV A 115) : StepC S g A xs o xs o :=
  ⟨115, hx, enters_of Try.func115 (by kernel_rfl) rfl, fun w0 w h => d_popWait_no w0 w S g A P xs o y h hO ht hv hne⟩
theorem s_stealWait (S g A P : Nat) (xs : List Int) (o : Wk) (hO : WOk o P xs.length) (ht : o.ta = ((P + 2 : Nat) : Int)) (hv : Hid (xs.getD (P + 3) 0 = o.tn)) (hx : o.nx = fnV A 80) : StepC S g A xs o xs { o with nx := fnV A 101 } :=
  ⟨80, hx, enters_of Try.func80 (by kernel_rfl) rfl, fun w0 w h => d_stealWait w0 w S g A P xs o h hO ht hv⟩
theorem s_stealWait_no (S g A P : Nat) (xs : List Int) (o : Wk) (y : Int) (hO : WOk o P xs.length) (ht : o.ta = ((P + 2 : Nat) : Int)) (hv : Hid (xs.getD (P + 3) 0 = y)) (hne : ¬ y = o.tn) (hx : o.nx = fnV A 80) : StepC S g A xs o xs o :=
  ⟨80, hx, enters_of Try.func80 (by kernel_rfl) rfl, fun w0 w h => d_stealWait_no w0 w S g A P xs o y h hO ht hv hne⟩
theorem s_stealLook (S g A P : Nat) (xs : List Int) (o : Wk) (v : Int) (hO : WOk o P xs.length) (hv : Hid (xs.getD (P + 0) 0 = v)) (hx : o.nx = fnV A 101) : StepC S g A xs o xs { o with hd := v, nx := fnV A 113 } :=
  ⟨101, hx, enters_of Try.func101 (by kernel_rfl) rfl, fun w0 w h => d_stealLook w0 w S g A P xs o v h hO hv⟩
theorem s_popTake (S g A P : Nat) (xs : List Int) (o : Wk) (r : Nat) (n v : Int) (hO : WOk o P xs.length) (b1 : 1 ≤ o.tl) (b2 : o.tl ≤ 1000000) (hn : Hid (o.tl - 1 = n)) (hr : Hid (n.tmod (o.D : Int) = (r : Int))) (hrd : r < o.D) (hv : Hid (xs.getD (P + 4 + r) 0 = v)) (hx : o.nx = fnV A 97) : StepC S g A xs o xs { o with tl := n, gt := v, hs := true, nx := .nilFunc } :=
  ⟨97, hx, enters_of Try.func97 (by kernel_rfl) rfl, fun w0 w h => d_popTake w0 w S g A P xs o r n v h hO b1 b2 hn hr hrd hv⟩
end Go.Proofs.Ytegbifphekhgkaa
