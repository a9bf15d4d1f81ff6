/- The steps of a walk at a deque, whatever the world (layer 13). -/
import Derived.Test.YtajmmglfdinahaaD3H
import Derived.Shelf.Abstract
namespace Go.Proofs.Ytajmmglfdinahaa
open Go.ChangeShapes Go.WideShapes Go.ChangeAt Go.RowKit
set_option linter.unusedVariables false
theorem s_popClaim (S g A P : Nat) (xs : List Int) (o : Wk) (v : Int) (hO : WOk o P xs.length) (b1 : -1000000 ≤ o.tl) (b2 : o.tl ≤ 1000000) (hv : Hid (o.tl - 1 = v)) (hx : o.nx = fnV A 68) : StepC S g A xs o (xs.set (P + 1) v) { o with nx := fnV A 85 } :=
  ⟨68, hx, enters_of Try.func68 (by kernel_rfl) rfl, fun w0 w h => d_popClaim w0 w S g A P xs o v h hO b1 b2 hv⟩
theorem s_popYield (S g A P : Nat) (xs : List Int) (o : Wk) (v : Int) (hO : WOk o P xs.length) (b1 : -1000000 ≤ o.tl) (b2 : o.tl ≤ 1000000) (hv : Hid (o.tl = v)) (hx : o.nx = fnV A 94) : StepC S g A xs o (xs.set (P + 1) v) { o with nx := fnV A 102 } :=
  ⟨94, hx, enters_of Try.func94 (by kernel_rfl) rfl, fun w0 w h => d_popYield w0 w S g A P xs o v h hO b1 b2 hv⟩
theorem s_popClaimAgain (S g A P : Nat) (xs : List Int) (o : Wk) (v : Int) (hO : WOk o P xs.length) (b1 : -1000000 ≤ o.tl) (b2 : o.tl ≤ 1000000) (hv : Hid (o.tl - 1 = v)) (hx : o.nx = fnV A 108) : StepC S g A xs o (xs.set (P + 1) v) { o with nx := fnV A 111 } :=
  ⟨108, hx, enters_of Try.func108 (by kernel_rfl) rfl, fun w0 w h => d_popClaimAgain w0 w S g A P xs o v h hO b1 b2 hv⟩
theorem s_popYieldAgain (S g A P : Nat) (xs : List Int) (o : Wk) (v : Int) (hO : WOk o P xs.length) (b1 : -1000000 ≤ o.tl) (b2 : o.tl ≤ 1000000) (hv : Hid (o.tl = v)) (hx : o.nx = fnV A 114) : StepC S g A xs o (xs.set (P + 1) v) { o with nx := fnV A 116 } :=
  ⟨114, hx, enters_of Try.func114 (by kernel_rfl) rfl, fun w0 w h => d_popYieldAgain w0 w S g A P xs o v h hO b1 b2 hv⟩
theorem s_stealClaim (S g A P : Nat) (xs : List Int) (o : Wk) (v : Int) (hO : WOk o P xs.length) (b1 : -1000000 ≤ o.hd) (b2 : o.hd ≤ 1000000) (hv : Hid (o.hd + 1 = v)) (hx : o.nx = fnV A 105) : StepC S g A xs o (xs.set (P + 0) v) { o with nx := fnV A 107 } :=
  ⟨105, hx, enters_of Try.func105 (by kernel_rfl) rfl, fun w0 w h => d_stealClaim w0 w S g A P xs o v h hO b1 b2 hv⟩
theorem s_stealYield (S g A P : Nat) (xs : List Int) (o : Wk) (v : Int) (hO : WOk o P xs.length) (b1 : -1000000 ≤ o.hd) (b2 : o.hd ≤ 1000000) (hv : Hid (o.hd = v)) (hx : o.nx = fnV A 109) : StepC S g A xs o (xs.set (P + 0) v) { o with nx := fnV A 112 } :=
  ⟨109, hx, enters_of Try.func109 (by kernel_rfl) rfl, fun w0 w h => d_stealYield w0 w S g A P xs o v h hO b1 b2 hv⟩
theorem s_popLook_yes (S g A P : Nat) (xs : List Int) (o : Wk) (v : Int) (hO : WOk o P xs.length) (b1 : -1000000 ≤ o.tl) (b2 : o.tl ≤ 1000000) (hv : Hid (xs.getD (P + 0) 0 = v)) (hc :  v ≤ o.tl - 1) (hx : o.nx = fnV A 85) : StepC S g A xs o xs { o with nx := fnV A 93 } :=
  ⟨85, hx, enters_of Try.func85 (by kernel_rfl) rfl, fun w0 w h => d_popLook_yes w0 w S g A P xs o v h hO b1 b2 hv hc⟩
theorem s_popLook_no (S g A P : Nat) (xs : List Int) (o : Wk) (v : Int) (hO : WOk o P xs.length) (b1 : -1000000 ≤ o.tl) (b2 : o.tl ≤ 1000000) (hv : Hid (xs.getD (P + 0) 0 = v)) (hc : ¬ v ≤ o.tl - 1) (hx : o.nx = fnV A 85) : StepC S g A xs o xs { o with nx := fnV A 94 } :=
  ⟨85, hx, enters_of Try.func85 (by kernel_rfl) rfl, fun w0 w h => d_popLook_no w0 w S g A P xs o v h hO b1 b2 hv hc⟩
theorem s_popLookAgain_yes (S g A P : Nat) (xs : List Int) (o : Wk) (v : Int) (hO : WOk o P xs.length) (b1 : -1000000 ≤ o.tl) (b2 : o.tl ≤ 1000000) (hv : Hid (xs.getD (P + 0) 0 = v)) (hc :  v ≤ o.tl - 1) (hx : o.nx = fnV A 111) : StepC S g A xs o xs { o with nx := fnV A 113 } :=
  ⟨111, hx, enters_of Try.func111 (by kernel_rfl) rfl, fun w0 w h => d_popLookAgain_yes w0 w S g A P xs o v h hO b1 b2 hv hc⟩
theorem s_popLookAgain_no (S g A P : Nat) (xs : List Int) (o : Wk) (v : Int) (hO : WOk o P xs.length) (b1 : -1000000 ≤ o.tl) (b2 : o.tl ≤ 1000000) (hv : Hid (xs.getD (P + 0) 0 = v)) (hc : ¬ v ≤ o.tl - 1) (hx : o.nx = fnV A 111) : StepC S g A xs o xs { o with nx := fnV A 114 } :=
  ⟨111, hx, enters_of Try.func111 (by kernel_rfl) rfl, fun w0 w h => d_popLookAgain_no w0 w S g A P xs o v h hO b1 b2 hv hc⟩
theorem s_stealCheck_yes (S g A P : Nat) (xs : List Int) (o : Wk) (v : Int) (hO : WOk o P xs.length) (b1 : -1000000 ≤ o.hd) (b2 : o.hd ≤ 1000000) (hv : Hid (xs.getD (P + 1) 0 = v)) (hc :  v ≤ o.hd) (hx : o.nx = fnV A 107) : StepC S g A xs o xs { o with nx := fnV A 109 } :=
  ⟨107, hx, enters_of Try.func107 (by kernel_rfl) rfl, fun w0 w h => d_stealCheck_yes w0 w S g A P xs o v h hO b1 b2 hv hc⟩
theorem s_stealCheck_no (S g A P : Nat) (xs : List Int) (o : Wk) (v : Int) (hO : WOk o P xs.length) (b1 : -1000000 ≤ o.hd) (b2 : o.hd ≤ 1000000) (hv : Hid (xs.getD (P + 1) 0 = v)) (hc : ¬ v ≤ o.hd) (hx : o.nx = fnV A 107) : StepC S g A xs o xs { o with nx := fnV A 110 } :=
  ⟨107, hx, enters_of Try.func107 (by kernel_rfl) rfl, fun w0 w h => d_stealCheck_no w0 w S g A P xs o v h hO b1 b2 hv hc⟩
theorem s_pushLook_yes (S g A P : Nat) (xs : List Int) (o : Wk) (v : Int) (hO : WOk o P xs.length) (b1 : -1000000 ≤ o.tl) (b2 : o.tl ≤ 1000000) (hv : Hid (xs.getD (P + 0) 0 = v)) (hc :  v ≤ o.tl - ((o.D : Int) - 1)) (hx : o.nx = fnV A 72) : StepC S g A xs o xs { o with fl := true, nx := .nilFunc } :=
  ⟨72, hx, enters_of Try.func72 (by kernel_rfl) rfl, fun w0 w h => d_pushLook_yes w0 w S g A P xs o v h hO b1 b2 hv hc⟩
theorem s_pushLook_no (S g A P : Nat) (xs : List Int) (o : Wk) (v : Int) (hO : WOk o P xs.length) (b1 : -1000000 ≤ o.tl) (b2 : o.tl ≤ 1000000) (hv : Hid (xs.getD (P + 0) 0 = v)) (hc : ¬ v ≤ o.tl - ((o.D : Int) - 1)) (hx : o.nx = fnV A 72) : StepC S g A xs o xs { o with nx := fnV A 89 } :=
  ⟨72, hx, enters_of Try.func72 (by kernel_rfl) rfl, fun w0 w h => d_pushLook_no w0 w S g A P xs o v h hO b1 b2 hv hc⟩
theorem s_pushPut (S g A P r : Nat) (xs : List Int) (o : Wk) (hO : WOk o P xs.length) (b1 : 0 ≤ o.tl) (b2 : o.tl ≤ 1000000) (hr : Hid (o.tl.tmod (o.D : Int) = (r : Int))) (hrd : r < o.D) (hx : o.nx = fnV A 89) : StepC S g A xs o (xs.set (P + 4 + r) o.x) { o with nx := fnV A 99 } :=
  ⟨89, hx, enters_of Try.func89 (by kernel_rfl) rfl, fun w0 w h => d_pushPut w0 w S g A P r xs o h hO b1 b2 hr hrd⟩
theorem s_pushShow (S g A P : Nat) (xs : List Int) (o : Wk) (v : Int) (hO : WOk o P xs.length) (b1 : 0 ≤ o.tl) (b2 : o.tl ≤ 1000000) (hv : Hid (o.tl + 1 = v)) (hx : o.nx = fnV A 99) : StepC S g A xs o (xs.set (P + 1) v) { o with tl := v, nx := .nilFunc } :=
  ⟨99, hx, enters_of Try.func99 (by kernel_rfl) rfl, fun w0 w h => d_pushShow w0 w S g A P xs o v h hO b1 b2 hv⟩
theorem s_popAsk (S g A P : Nat) (xs : List Int) (o : Wk) (v : Int) (hO : WOk o P xs.length) (hv : Hid (xs.getD (P + 2) 0 = v)) (hx : o.nx = fnV A 102) : StepC S g A xs o (xs.set (P + 2) (wrap64 (v + 1))) { ({ o with ta := ((P + 2 : Nat) : Int), tn := v } : Wk) with nx := fnV A 106 } :=
  ⟨102, hx, enters_of Try.func102 (by kernel_rfl) rfl, fun w0 w h => d_popAsk w0 w S g A P xs o v h hO hv⟩
theorem s_stealAsk (S g A P : Nat) (xs : List Int) (o : Wk) (v : Int) (hO : WOk o P xs.length) (hv : Hid (xs.getD (P + 2) 0 = v)) (hx : o.nx = fnV A 71) : StepC S g A xs o (xs.set (P + 2) (wrap64 (v + 1))) { ({ o with ta := ((P + 2 : Nat) : Int), tn := v } : Wk) with nx := fnV A 87 } :=
  ⟨71, hx, enters_of Try.func71 (by kernel_rfl) rfl, fun w0 w h => d_stealAsk w0 w S g A P xs o v h hO hv⟩
theorem s_popLeave (S g A P : Nat) (xs : List Int) (o : Wk) (m : Int) (hO : WOk o P xs.length) (ht : o.ta = ((P + 2 : Nat) : Int)) (hn : Hid (wrap64 (o.tn + 1) = m)) (hx : o.nx = fnV A 113) : StepC S g A xs o (xs.set (P + 3) m) { o with nx := fnV A 93 } :=
  ⟨113, hx, enters_of Try.func113 (by kernel_rfl) rfl, fun w0 w h => d_popLeave w0 w S g A P xs o m h hO ht hn⟩
theorem s_popGiveUp (S g A P : Nat) (xs : List Int) (o : Wk) (m : Int) (hO : WOk o P xs.length) (ht : o.ta = ((P + 2 : Nat) : Int)) (hn : Hid (wrap64 (o.tn + 1) = m)) (hx : o.nx = fnV A 116) : StepC S g A xs o (xs.set (P + 3) m) { o with nx := .nilFunc } :=
  ⟨116, hx, enters_of Try.func116 (by kernel_rfl) rfl, fun w0 w h => d_popGiveUp w0 w S g A P xs o m h hO ht hn⟩
theorem s_stealLeave (S g A P : Nat) (xs : List Int) (o : Wk) (m : Int) (hO : WOk o P xs.length) (ht : o.ta = ((P + 2 : Nat) : Int)) (hn : Hid (wrap64 (o.tn + 1) = m)) (hx : o.nx = fnV A 112) : StepC S g A xs o (xs.set (P + 3) m) { o with nx := .nilFunc } :=
  ⟨112, hx, enters_of Try.func112 (by kernel_rfl) rfl, fun w0 w h => d_stealLeave w0 w S g A P xs o m h hO ht hn⟩
theorem s_stealTake (S g A P : Nat) (xs : List Int) (o : Wk) (r : Nat) (v : Int) (hO : WOk o P xs.length) (b1 : 0 ≤ o.hd) (hr : Hid (o.hd.tmod (o.D : Int) = (r : Int))) (hrd : r < o.D) (hv : Hid (xs.getD (P + 4 + r) 0 = v)) (hx : o.nx = fnV A 110) : StepC S g A xs o xs { ({ o with gt := v, hs := true } : Wk) with nx := fnV A 112 } :=
  ⟨110, hx, enters_of Try.func110 (by kernel_rfl) rfl, fun w0 w h => d_stealTake w0 w S g A P xs o r v h hO b1 hr hrd hv⟩
theorem s_popWait (S g A P : Nat) (xs : List Int) (o : Wk) (hO : WOk o P xs.length) (ht : o.ta = ((P + 2 : Nat) : Int)) (hv : Hid (xs.getD (P + 3) 0 = o.tn)) (hx : o.nx = fnV A 106) : StepC S g A xs o xs { o with nx := fnV A 108 } :=
  ⟨106, hx, enters_of Try.func106 (by kernel_rfl) rfl, fun w0 w h => d_popWait w0 w S g A P xs o h hO ht hv⟩
theorem s_popWait_no (S g A P : Nat) (xs : List Int) (o : Wk) (y : Int) (hO : WOk o P xs.length) (ht : o.ta = ((P + 2 : Nat) : Int)) (hv : Hid (xs.getD (P + 3) 0 = y)) (hne : ¬ y = o.tn) (hx : o.nx = fnV A 106) : StepC S g A xs o xs o :=
  ⟨106, hx, enters_of Try.func106 (by kernel_rfl) rfl, fun w0 w h => d_popWait_no w0 w S g A P xs o y h hO ht hv hne⟩
theorem s_stealWait (S g A P : Nat) (xs : List Int) (o : Wk) (hO : WOk o P xs.length) (ht : o.ta = ((P + 2 : Nat) : Int)) (hv : Hid (xs.getD (P + 3) 0 = o.tn)) (hx : o.nx = fnV A 87) : StepC S g A xs o xs { o with nx := fnV A 97 } :=
  ⟨87, hx, enters_of Try.func87 (by kernel_rfl) rfl, fun w0 w h => d_stealWait w0 w S g A P xs o h hO ht hv⟩
theorem s_stealWait_no (S g A P : Nat) (xs : List Int) (o : Wk) (y : Int) (hO : WOk o P xs.length) (ht : o.ta = ((P + 2 : Nat) : Int)) (hv : Hid (xs.getD (P + 3) 0 = y)) (hne : ¬ y = o.tn) (hx : o.nx = fnV A 87) : StepC S g A xs o xs o :=
  ⟨87, hx, enters_of Try.func87 (by kernel_rfl) rfl, fun w0 w h => d_stealWait_no w0 w S g A P xs o y h hO ht hv hne⟩
theorem s_stealLook (S g A P : Nat) (xs : List Int) (o : Wk) (v : Int) (hO : WOk o P xs.length) (hv : Hid (xs.getD (P + 0) 0 = v)) (hx : o.nx = fnV A 97) : StepC S g A xs o xs { o with hd := v, nx := fnV A 105 } :=
  ⟨97, hx, enters_of Try.func97 (by kernel_rfl) rfl, fun w0 w h => d_stealLook w0 w S g A P xs o v h hO hv⟩
theorem s_popTake (S g A P : Nat) (xs : List Int) (o : Wk) (r : Nat) (n v : Int) (hO : WOk o P xs.length) (b1 : 1 ≤ o.tl) (b2 : o.tl ≤ 1000000) (hn : Hid (o.tl - 1 = n)) (hr : Hid (n.tmod (o.D : Int) = (r : Int))) (hrd : r < o.D) (hv : Hid (xs.getD (P + 4 + r) 0 = v)) (hx : o.nx = fnV A 93) : StepC S g A xs o xs { o with tl := n, gt := v, hs := true, nx := .nilFunc } :=
  ⟨93, hx, enters_of Try.func93 (by kernel_rfl) rfl, fun w0 w h => d_popTake w0 w S g A P xs o r n v h hO b1 b2 hn hr hrd hv⟩
end Go.Proofs.Ytajmmglfdinahaa
