/- What has to work at all (layer 6). -/
import Derived.Test.YtgkfnplgldigbaaDoorAsE
import Derived.Test.YtgkfnplgldigbaaDoorAsA
namespace Go.Proofs.YtgkfnplgldigbaaDoor.asm
open Go.ChangeShapes Go.WideShapes Go.ChangeAt Go.RowKit
open Go.Proofs.YtgkfnplgldigbaaDoor.st Go.Proofs.YtgkfnplgldigbaaDoor.wd
open Go.Proofs.YtgkfnplgldigbaaDoor.ins (three three_cell)
open Go.Proofs.YtgkfnplgldigbaaDoor.pr (enI recI infoI infoC PM OP own_ltP NB)
set_option linter.unusedVariables false
set_option linter.unusedSimpArgs false
theorem it_d (v : Nat) (h : v < 10) : Lib.itoa (v : Int) = [UInt8.ofNat (48 + v)] := by
  rw [itoa_pos (by omega), Int.toNat_natCast, dec_one v h]
theorem it_m1 : Lib.itoa (-1) = [45, 49] := by
  rw [itoa_negv (by decide), show (-1 : Int).natAbs = 1 from rfl, dec_one 1 (by decide)]
  rfl
theorem w_line : lineV (1, 2, -1, 0) = [115, 101, 116, 32, 50, 32, 45, 49] := by
  unfold lineV
  rw [if_pos (by decide), show prt (1, 2, -1, 0) = [[115, 101, 116], Lib.itoa ((2 : Nat) : Int), Lib.itoa (-1)] from rfl, it_d 2 (by decide), it_m1]
  rfl
theorem w_parse : parV [115, 101, 116, 32, 50, 32, 45, 49] = ((1, 2, -1, 0), 0) := by
  rw [← w_line]
  exact (par_line (by decide)).1
def wP : PG := (3, [[(17, 1, 0, 0), (0, 0, 0, 0)]])
theorem w_pr : pr.prE wP.1 wP.2 = 0 := by decide
theorem w_emit : lineV (17, 1, 0, 0) = [101, 109, 105, 116, 32, 49] := by
  unfold lineV
  rw [if_pos (by decide), show prt (17, 1, 0, 0) = [[101, 109, 105, 116], Lib.itoa ((1 : Nat) : Int)] from rfl, it_d 1 (by decide)]
  rfl
theorem w_ret : lineV (0, 0, 0, 0) = [114, 101, 116] := by
  unfold lineV
  rw [if_pos (by decide), show prt (0, 0, 0, 0) = [[114, 101, 116]] from rfl]
  rfl
theorem w_text : textV wP = [109, 101, 109, 111, 114, 121, 32, 51, 10, 102, 117, 110, 99, 116, 105, 111, 110, 10, 101, 109, 105, 116, 32, 49, 10, 114, 101, 116, 10] := by
  unfold textV
  rw [if_pos w_pr]
  have h : wrt wP = [Lib.join [wMem, Lib.itoa ((3 : Nat) : Int)] [32], wFun, lineV (17, 1, 0, 0), lineV (0, 0, 0, 0)] := rfl
  rw [h, it_d 3 (by decide), w_emit, w_ret]
  rfl
theorem w_read : readV [109, 101, 109, 111, 114, 121, 32, 51, 10, 102, 117, 110, 99, 116, 105, 111, 110, 10, 101, 109, 105, 116, 32, 49, 10, 114, 101, 116, 10] = (wP, 0) := by
  rw [← w_text]
  exact read_text w_pr
set_option maxRecDepth 20000 in
theorem works06 (w : World) (hN : ins.NM w) (hM : wd.NM w) : Calls Tryd.prog 7 #[] w fun e w' => e = .returned (.bool true) ∧ Below w.heap.size w w' := by
  have C1 := parse_v [115, 101, 116, 32, 50, 32, 45, 49] w (by simp) hN hM
  rw [w_parse] at C1
  unfold PV IV at C1
  dsimp only at C1
  replace C1 := Lib.hid C1
  have C2 := fun w hN hM => read_v w [109, 101, 109, 111, 114, 121, 32, 51, 10, 102, 117, 110, 99, 116, 105, 111, 110, 10, 101, 109, 105, 116, 32, 49, 10, 114, 101, 116, 10] hN hM (by simp)
  rw [w_read] at C2
  replace C2 := Lib.hid C2
  have C3 := fun w hN hM => line_v 1 2 (-1) 0 w (by unfold I64; omega) (by unfold I64; omega) (by unfold I64; omega) hN hM
  rw [w_line] at C3
  replace C3 := Lib.hid C3
  have HEQ : ∀ w : World, (binOp .eql 23 (.agg #[.int .i64 1, .int .i64 2, .int .i64 (-1), .int .i64 0]) (.agg #[.int .i64 1, .int .i64 2, .int .i64 (-1), .int .i64 0])).run Tryd.prog w = .ok (.bool true) w := fun w => ins.ins_eq 1 2 (-1) 0 1 2 (-1) 0 true w rfl
  have HN := Lib.hid hN
  have HM := Lib.hid hM
  clear hN hM
  go_enter Tryd.func7, Tryd.ntmps7
  go_wp2_with fail
  refine C1.out.mono ?_
  rintro e w1 ⟨rfl, hb1⟩
  obtain ⟨W1, hW1⟩ : ∃ W1, w1.alloc (.cells #[.int .i64 1, .int .i64 2, .int .i64 (-1), .int .i64 0] 23) = W1 := ⟨_, rfl⟩
  have k1 : W1.heap[w1.heap.size]? = some (.cells #[.int .i64 1, .int .i64 2, .int .i64 (-1), .int .i64 0] 23 (0, 0)) := by rw [← hW1]; exact heap_new w1 _ _
  have b1 : Below w1.heap.size w1 W1 := by rw [← hW1]; exact (Below.refl _ _).alloc (Nat.le_refl _) _
  have HB1 := Lib.hid (tr3 hb1 b1)
  have K1 := Lib.hid k1
  have HW1 := Lib.hid hW1
  have hlt1 : w1.heap.size < W1.heap.size := (Array.getElem?_eq_some_iff.1 k1).1
  clear hb1 k1 b1 hW1 C1
  go_wp2_with fail
  rw [HW1.out]
  refine (C2.out _ (HN.out.below HB1.out) (HM.out.below HB1.out)).mono ?_
  rintro e w2 ⟨x, rfl, ⟨v, rfl, hpm⟩, hb2⟩
  obtain ⟨va, vc, rfl, _⟩ := hpm.form
  obtain ⟨b, o, ai, ci, rfl, hbl, hc0, _⟩ := hpm.row 0 (by decide)
  rw [Nat.add_zero, show (wP.2.getD 0 []).length = 2 from rfl] at hc0
  rw [show (wP.2).length = 1 from rfl, show wP.1 = 3 from rfl]
  obtain ⟨W2, hW2⟩ : ∃ W2, w2.alloc (.cells #[.int .i64 3, .slice (some ⟨b, o, none⟩) 1 vc] 32) = W2 := ⟨_, rfl⟩
  have k2 : W2.heap[w2.heap.size]? = some (.cells #[.int .i64 3, .slice (some ⟨b, o, none⟩) 1 vc] 32 (0, 0)) := by rw [← hW2]; exact heap_new w2 _ _
  have b2 : Below w2.heap.size w2 W2 := by rw [← hW2]; exact (Below.refl _ _).alloc (Nat.le_refl _) _
  have hlt2 : w2.heap.size < W2.heap.size := (Array.getElem?_eq_some_iff.1 k2).1
  have hk1 := kb K1.out (tr3 hb2 b2)
  have HB2 := Lib.hid (tr3 HB1.out (tr3 hb2 b2))
  have hc2 := kc hc0 b2
  have y0 : W2.cell? ⟨w2.heap.size, 0, none⟩ = some (.int .i64 3) := cel k2 0
  have y1 : W2.cell? ⟨w2.heap.size, 1, none⟩ = some (.slice (some ⟨b, o, none⟩) 1 vc) := cel k2 1
  have C4 := C3.out W2 (HN.out.below HB2.out) (HM.out.below HB2.out)
  have x0 : W2.cell? ⟨w1.heap.size, 0, none⟩ = some (.int .i64 1) := cel hk1 0
  have x1 : W2.cell? ⟨w1.heap.size, 1, none⟩ = some (.int .i64 2) := cel hk1 1
  have x2 : W2.cell? ⟨w1.heap.size, 2, none⟩ = some (.int .i64 (-1)) := cel hk1 2
  have x3 : W2.cell? ⟨w1.heap.size, 3, none⟩ = some (.int .i64 0) := cel hk1 3
  have hlt3 : w1.heap.size < W2.heap.size := (Array.getElem?_eq_some_iff.1 hk1).1
  have HWS := Lib.hid (fun (w' : World) (hb : Below W2.heap.size W2 w') => And.intro (kc y0 hb) (And.intro (kc y1 hb) (And.intro (kc hc2 hb) (tr3 HB2.out hb))))
  rw [← hW2] at C4 x0 x1 x2 x3 HWS
  replace C4 := Lib.hid C4
  clear hpm hb2 hc0 k2 b2 hW2 hk1 C2 C3 K1 HW1 HB1 hlt1 hc2 y0 y1 hlt2 hlt3 HB2
  go_wp2_with (go_at_call 10; (refine C4.out.mono ?_); rintro e w5 ⟨rfl, hb5⟩; have hq := HWS.out _ hb5; (obtain ⟨z0, z1, z2, z3⟩ := hq))
  go_ret
  exact ⟨rfl, z3⟩
end Go.Proofs.YtgkfnplgldigbaaDoor.asm
