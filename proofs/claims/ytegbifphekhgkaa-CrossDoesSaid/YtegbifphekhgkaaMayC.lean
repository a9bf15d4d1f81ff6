/- Whether who waits may go on (layer 17). -/
import Derived.Test.YtegbifphekhgkaaRingC
namespace Go.Proofs.Ytegbifphekhgkaa
open Go.ChangeShapes Go.WideShapes Go.ChangeAt Go.RowKit
set_option linter.unusedVariables false
set_option linter.unusedSimpArgs false
theorem rmay_no (id sr t iter c : Int) (w : World) (hB : (tNextB t c && (t == tOf sr iter (tPart t 1))) = false) :
    Calls Try.prog 64 #[.agg #[.int .i64 1, .int .i64 3, .int .i64 3, .int .i64 3, .int .i64 id, .int .i64 sr], .int .i64 t, .int .i64 iter, .int .i64 c] w fun e w' => e = .returned (.tuple #[.int .i64 0, .bool false]) ∧ Below w.heap.size w w' := by
  have hA := tAll_bd t
  cases hn : tNextB t c with
  | false =>
    have HN := Lib.hid hn
    clear hn hB
    go_enter Try.func64, Try.ntmps64
    go_wp2_with (first | (go_at_call 88; refine (stage_any _ _).mono ?_; rintro e w1 ⟨rfl, rfl⟩) | (go_at_call 89; refine (next_any _ _ _).mono ?_; rw [HN.out]; rintro e w2 ⟨rfl, rfl⟩))
    go_ret2
    exact ⟨rfl, by go_grown⟩
  | true =>
    rw [hn] at hB
    have hne : (t == tOf sr iter (tPart t 1)) = false := by simpa using hB
    have hne' : ¬ t = tOf sr iter (tPart t 1) := by simpa using hne
    have HN := Lib.hid hn
    clear hn hB
    generalize hp : tPart t 1 = p at *
    have HP := Lib.hid hp
    clear hp
    go_enter Try.func64, Try.ntmps64
    go_wp2_with (first | (go_at_call 88; refine (stage_any _ _).mono ?_; rw [HP.out]; rintro e w1 ⟨rfl, rfl⟩) | (go_at_call 89; refine (next_any _ _ _).mono ?_; rw [HN.out]; rintro e w2 ⟨rfl, rfl⟩) | (go_at_call 90; refine (rtoken_of id sr iter p _).mono ?_; rintro e w3 ⟨rfl, hb⟩))
    go_ret2
    exact ⟨rfl, btr (by go_grown) hb⟩
theorem rmay_yes (id sr t iter c p : Int) (w : World) (hn : tNextB t c = true) (he : t = tOf sr iter p) (hp : tPart t 1 = p) :
    Calls Try.prog 64 #[.agg #[.int .i64 1, .int .i64 3, .int .i64 3, .int .i64 3, .int .i64 id, .int .i64 sr], .int .i64 t, .int .i64 iter, .int .i64 c] w fun e w' => e = .returned (.tuple #[.int .i64 p, .bool true]) ∧ Below w.heap.size w w' := by
  have HN := Lib.hid hn
  have HP := Lib.hid hp
  have HE := Lib.hid he
  clear hn hp he
  go_enter Try.func64, Try.ntmps64
  go_wp2_with (first | (go_at_call 88; refine (stage_any _ _).mono ?_; rw [HP.out]; rintro e w1 ⟨rfl, rfl⟩) | (go_at_call 89; refine (next_any _ _ _).mono ?_; rw [HN.out]; rintro e w2 ⟨rfl, rfl⟩) | (go_at_call 90; refine (rtoken_of id sr iter p _).mono ?_; rw [← HE.out]; rintro e w3 ⟨rfl, hb⟩))
  go_ret2
  exact ⟨rfl, btr (by go_grown) hb⟩
end Go.Proofs.Ytegbifphekhgkaa
