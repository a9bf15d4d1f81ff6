/- A round of picks: the contract of Round (layer 36). -/
import Derived.Test.YtfigabjcmpakeabPickC
namespace Go.Proofs.Ytfigabjcmpakeab
open Go.ChangeShapes Go.WideShapes Go.ChangeAt Go.RowKit
set_option linter.unusedVariables false
set_option linter.unusedSimpArgs false
theorem btr2 {w w1 w2 : World} (h1 : Below w.heap.size w w1) (h2 : Below w1.heap.size w1 w2) : Below w.heap.size w w2 := h1.trans (h2.mono h1.size)
theorem round_of (wk0 m0 wk v st m1 : Int) (n : Nat) (w : World) (a1 : (if wk0 < 1 then (1 : Int) else wk0) = m0) (a2 : (if 64 < m0 then (64 : Int) else m0) = wk) (h1 : (if st < 0 then (0 : Int) else st) = m1) (h2 : (if 1048576 < m1 then (1048576 : Int) else m1) = n) (hn : n ≤ 1048576) :
    Calls Try.prog 52 #[.int .i64 wk0, .int .i64 v, .int .i64 st] w fun e w' => ∃ B, e = .returned (.slice (some ⟨B, 0, none⟩) n n) ∧ w'.rowIs B 90 (n * 2) (rp wk v n) ∧ Below w.heap.size w w' ∧ w.heap.size ≤ B := by
  have hmf : ∀ (fn : Fn) (first cap : Array Value) (w : World), (Instr.makeFunc fn first cap).run Try.prog w = .ok (.func fn first cap) w := fun _ _ _ _ => rfl
  have hw : 1 ≤ wk := by split at a1 <;> split at a2 <;> omega
  have C1 := fun w => held_of wk0 m0 wk w a1 a2
  clear a1 a2
  have H1 := Lib.hid h1
  have H2 := Lib.hid h2
  clear h1 h2
  go_enter Try.func52, Try.ntmps52
  go_wp2_with (first | (go_at_call 82; refine (C1 _).mono ?_; rintro e w' ⟨rfl, rfl⟩))
  refine (picks_round st m1 n wk v w.heap.size (w.heap.size + 1) _ H1.out H2.out hn (by go_simp) (by go_simp) hw).mono ?_
  rintro e w1 ⟨rfl, hr, hb1⟩
  have hb2 : Below w.heap.size w w1 := btr2 (by go_grown) hb1
  go_wp2_with fail
  go_ret
  exact ⟨_, rfl, by simpa using hr, hb2, by omega⟩
end Go.Proofs.Ytfigabjcmpakeab
