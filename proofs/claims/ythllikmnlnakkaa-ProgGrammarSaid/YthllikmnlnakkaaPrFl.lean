/- A frame of Get as a row of its slots (layer 4). -/
import Derived.Test.YthllikmnlnakkaaPrF
namespace Go.Proofs.Ythllikmnlnakkaa.pr
open Go.ChangeShapes Go.WideShapes Go.ChangeAt Go.RowKit
open Go.Proofs.Ythllikmnlnakkaa.bin Go.Proofs.Ythllikmnlnakkaa.bits Go.Proofs.Ythllikmnlnakkaa.ins
set_option linter.unusedVariables false
set_option linter.unusedSimpArgs false
set_option maxRecDepth 20000 in
theorem lit83 (t : Array Value) (h : t.size = 83) : t = (t.getD 0 undef :: t.getD 1 undef :: t.getD 2 undef :: t.getD 3 undef :: t.getD 4 undef :: t.getD 5 undef :: t.getD 6 undef :: t.getD 7 undef :: t.getD 8 undef :: t.getD 9 undef :: t.getD 10 undef :: t.getD 11 undef :: t.getD 12 undef :: t.getD 13 undef :: t.getD 14 undef :: t.getD 15 undef :: t.getD 16 undef :: t.getD 17 undef :: t.getD 18 undef :: t.getD 19 undef :: t.getD 20 undef :: t.getD 21 undef :: t.getD 22 undef :: t.getD 23 undef :: t.getD 24 undef :: t.getD 25 undef :: t.getD 26 undef :: t.getD 27 undef :: t.getD 28 undef :: t.getD 29 undef :: t.getD 30 undef :: t.getD 31 undef :: t.getD 32 undef :: t.getD 33 undef :: t.getD 34 undef :: t.getD 35 undef :: t.getD 36 undef :: t.getD 37 undef :: t.getD 38 undef :: t.getD 39 undef :: t.getD 40 undef :: t.getD 41 undef :: t.getD 42 undef :: t.getD 43 undef :: t.getD 44 undef :: t.getD 45 undef :: t.getD 46 undef :: t.getD 47 undef :: t.getD 48 undef :: t.getD 49 undef :: t.getD 50 undef :: t.getD 51 undef :: t.getD 52 undef :: t.getD 53 undef :: t.getD 54 undef :: t.getD 55 undef :: t.getD 56 undef :: t.getD 57 undef :: t.getD 58 undef :: t.getD 59 undef :: t.getD 60 undef :: t.getD 61 undef :: t.getD 62 undef :: t.getD 63 undef :: t.getD 64 undef :: t.getD 65 undef :: t.getD 66 undef :: t.getD 67 undef :: t.getD 68 undef :: t.getD 69 undef :: t.getD 70 undef :: t.getD 71 undef :: t.getD 72 undef :: t.getD 73 undef :: t.getD 74 undef :: t.getD 75 undef :: t.getD 76 undef :: t.getD 77 undef :: t.getD 78 undef :: t.getD 79 undef :: t.getD 80 undef :: t.getD 81 undef :: t.getD 82 undef :: []).toArray := by
  obtain ⟨l⟩ := t
  replace h : l.length = 83 := h
  obtain ⟨x0, l0, rfl, h0⟩ := list_one h
  obtain ⟨x1, l1, rfl, h1⟩ := list_one h0
  obtain ⟨x2, l2, rfl, h2⟩ := list_one h1
  obtain ⟨x3, l3, rfl, h3⟩ := list_one h2
  obtain ⟨x4, l4, rfl, h4⟩ := list_one h3
  obtain ⟨x5, l5, rfl, h5⟩ := list_one h4
  obtain ⟨x6, l6, rfl, h6⟩ := list_one h5
  obtain ⟨x7, l7, rfl, h7⟩ := list_one h6
  obtain ⟨x8, l8, rfl, h8⟩ := list_one h7
  obtain ⟨x9, l9, rfl, h9⟩ := list_one h8
  obtain ⟨x10, l10, rfl, h10⟩ := list_one h9
  obtain ⟨x11, l11, rfl, h11⟩ := list_one h10
  obtain ⟨x12, l12, rfl, h12⟩ := list_one h11
  obtain ⟨x13, l13, rfl, h13⟩ := list_one h12
  obtain ⟨x14, l14, rfl, h14⟩ := list_one h13
  obtain ⟨x15, l15, rfl, h15⟩ := list_one h14
  obtain ⟨x16, l16, rfl, h16⟩ := list_one h15
  obtain ⟨x17, l17, rfl, h17⟩ := list_one h16
  obtain ⟨x18, l18, rfl, h18⟩ := list_one h17
  obtain ⟨x19, l19, rfl, h19⟩ := list_one h18
  obtain ⟨x20, l20, rfl, h20⟩ := list_one h19
  obtain ⟨x21, l21, rfl, h21⟩ := list_one h20
  obtain ⟨x22, l22, rfl, h22⟩ := list_one h21
  obtain ⟨x23, l23, rfl, h23⟩ := list_one h22
  obtain ⟨x24, l24, rfl, h24⟩ := list_one h23
  obtain ⟨x25, l25, rfl, h25⟩ := list_one h24
  obtain ⟨x26, l26, rfl, h26⟩ := list_one h25
  obtain ⟨x27, l27, rfl, h27⟩ := list_one h26
  obtain ⟨x28, l28, rfl, h28⟩ := list_one h27
  obtain ⟨x29, l29, rfl, h29⟩ := list_one h28
  obtain ⟨x30, l30, rfl, h30⟩ := list_one h29
  obtain ⟨x31, l31, rfl, h31⟩ := list_one h30
  obtain ⟨x32, l32, rfl, h32⟩ := list_one h31
  obtain ⟨x33, l33, rfl, h33⟩ := list_one h32
  obtain ⟨x34, l34, rfl, h34⟩ := list_one h33
  obtain ⟨x35, l35, rfl, h35⟩ := list_one h34
  obtain ⟨x36, l36, rfl, h36⟩ := list_one h35
  obtain ⟨x37, l37, rfl, h37⟩ := list_one h36
  obtain ⟨x38, l38, rfl, h38⟩ := list_one h37
  obtain ⟨x39, l39, rfl, h39⟩ := list_one h38
  obtain ⟨x40, l40, rfl, h40⟩ := list_one h39
  obtain ⟨x41, l41, rfl, h41⟩ := list_one h40
  obtain ⟨x42, l42, rfl, h42⟩ := list_one h41
  obtain ⟨x43, l43, rfl, h43⟩ := list_one h42
  obtain ⟨x44, l44, rfl, h44⟩ := list_one h43
  obtain ⟨x45, l45, rfl, h45⟩ := list_one h44
  obtain ⟨x46, l46, rfl, h46⟩ := list_one h45
  obtain ⟨x47, l47, rfl, h47⟩ := list_one h46
  obtain ⟨x48, l48, rfl, h48⟩ := list_one h47
  obtain ⟨x49, l49, rfl, h49⟩ := list_one h48
  obtain ⟨x50, l50, rfl, h50⟩ := list_one h49
  obtain ⟨x51, l51, rfl, h51⟩ := list_one h50
  obtain ⟨x52, l52, rfl, h52⟩ := list_one h51
  obtain ⟨x53, l53, rfl, h53⟩ := list_one h52
  obtain ⟨x54, l54, rfl, h54⟩ := list_one h53
  obtain ⟨x55, l55, rfl, h55⟩ := list_one h54
  obtain ⟨x56, l56, rfl, h56⟩ := list_one h55
  obtain ⟨x57, l57, rfl, h57⟩ := list_one h56
  obtain ⟨x58, l58, rfl, h58⟩ := list_one h57
  obtain ⟨x59, l59, rfl, h59⟩ := list_one h58
  obtain ⟨x60, l60, rfl, h60⟩ := list_one h59
  obtain ⟨x61, l61, rfl, h61⟩ := list_one h60
  obtain ⟨x62, l62, rfl, h62⟩ := list_one h61
  obtain ⟨x63, l63, rfl, h63⟩ := list_one h62
  obtain ⟨x64, l64, rfl, h64⟩ := list_one h63
  obtain ⟨x65, l65, rfl, h65⟩ := list_one h64
  obtain ⟨x66, l66, rfl, h66⟩ := list_one h65
  obtain ⟨x67, l67, rfl, h67⟩ := list_one h66
  obtain ⟨x68, l68, rfl, h68⟩ := list_one h67
  obtain ⟨x69, l69, rfl, h69⟩ := list_one h68
  obtain ⟨x70, l70, rfl, h70⟩ := list_one h69
  obtain ⟨x71, l71, rfl, h71⟩ := list_one h70
  obtain ⟨x72, l72, rfl, h72⟩ := list_one h71
  obtain ⟨x73, l73, rfl, h73⟩ := list_one h72
  obtain ⟨x74, l74, rfl, h74⟩ := list_one h73
  obtain ⟨x75, l75, rfl, h75⟩ := list_one h74
  obtain ⟨x76, l76, rfl, h76⟩ := list_one h75
  obtain ⟨x77, l77, rfl, h77⟩ := list_one h76
  obtain ⟨x78, l78, rfl, h78⟩ := list_one h77
  obtain ⟨x79, l79, rfl, h79⟩ := list_one h78
  obtain ⟨x80, l80, rfl, h80⟩ := list_one h79
  obtain ⟨x81, l81, rfl, h81⟩ := list_one h80
  obtain ⟨x82, l82, rfl, h82⟩ := list_one h81
  obtain rfl : l82 = [] := List.eq_nil_of_length_eq_zero h82
  rfl
theorem FR.lit {w0 : World} {a : Act} (h : FR w0 a) : ∃ t : Nat → Value, a = { tmps := (t 0 :: t 1 :: .pointer (some ⟨w0.heap.size, 0, none⟩) :: t 3 :: .pointer (some ⟨w0.heap.size + 1, 0, none⟩) :: .pointer (some ⟨w0.heap.size + 2, 0, none⟩) :: t 6 :: t 7 :: t 8 :: t 9 :: t 10 :: t 11 :: t 12 :: t 13 :: t 14 :: t 15 :: t 16 :: t 17 :: t 18 :: t 19 :: t 20 :: t 21 :: t 22 :: t 23 :: t 24 :: t 25 :: t 26 :: t 27 :: t 28 :: t 29 :: t 30 :: t 31 :: t 32 :: t 33 :: t 34 :: t 35 :: t 36 :: t 37 :: t 38 :: t 39 :: t 40 :: t 41 :: t 42 :: t 43 :: t 44 :: t 45 :: t 46 :: t 47 :: t 48 :: t 49 :: t 50 :: t 51 :: t 52 :: t 53 :: t 54 :: t 55 :: t 56 :: t 57 :: t 58 :: t 59 :: t 60 :: t 61 :: t 62 :: t 63 :: t 64 :: t 65 :: t 66 :: t 67 :: t 68 :: t 69 :: t 70 :: t 71 :: t 72 :: t 73 :: t 74 :: t 75 :: t 76 :: t 77 :: t 78 :: t 79 :: t 80 :: t 81 :: t 82 :: []).toArray, defers := [] } := by
  obtain ⟨tmps, defers⟩ := a
  obtain ⟨hd, hs, h2, h4, h5⟩ := h
  simp only at hd h2 h4 h5 hs
  subst hd
  have hl := lit83 tmps hs
  rw [h2, h4, h5] at hl
  exact ⟨fun i => tmps.getD i undef, congrArg (fun t => ({ tmps := t, defers := [] } : Act)) hl⟩
end Go.Proofs.Ythllikmnlnakkaa.pr
