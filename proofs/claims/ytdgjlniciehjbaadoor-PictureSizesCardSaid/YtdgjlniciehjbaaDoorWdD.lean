/- Lists in writing, words as a line (layer 5): the program's. -/
import Derived.Test.YtdgjlniciehjbaaDoorWdS
import Derived.Test.YtdgjlniciehjbaaDoorApp1
import Derived.Handy
namespace Go.Proofs.YtdgjlniciehjbaaDoor.wd
open Go.ChangeShapes Go.WideShapes Go.ChangeAt Go.RowKit
open Go.Proofs.YtdgjlniciehjbaaDoor.st
set_option linter.unusedVariables false
set_option linter.unusedSimpArgs false
theorem wjoin_v (v : Value) (L : List (List UInt8)) (w : World) (h : SV w v L) (hn : L.length ≤ 1000000) (hb : (Lib.join L [32]).length ≤ 1000000000) : Calls Tryd.prog 22 #[v] w fun e w' => e = .returned (.string ⟨(Lib.join L [32]).toArray⟩) ∧ Below w.heap.size w w' := by
  have CJ := Lib.hid (join_v 32 v L w h hn hb)
  obtain ⟨a, cap, rfl, _⟩ := h.form
  clear h
  go_enter Tryd.func22, Tryd.ntmps22
  go_wp2_with fail
  refine CJ.out.mono ?_
  rintro e w' ⟨rfl, hb⟩
  go_wp2_with fail
  go_ret
  exact ⟨rfl, hb⟩
theorem infoS : (Tryd.prog.info? 9).map (fun i => (i.zero, i.size, i.bytes)) = some (some (.string ByteArray.empty), 1, 16) := by kernel_rfl
theorem mk_strs (n : Nat) (hn : n ≤ 1000000) (w : World) : (Instr.makeSlice 34 (.int .i64 (n : Int)) (.int .i64 (n : Int))).run Tryd.prog w = .ok (.slice (some ⟨w.heap.size, 0, none⟩) n n) (w.alloc (.cells (Lib.cellsOf [] n) 9)) := by
  obtain ⟨i0, hi, hz0, hz1, hz2⟩ := info_parts infoS
  have := run_make (P := Tryd.prog) w 34 9 i0 (.string ByteArray.empty) Tryd.underlying34 hi hz0 .i64 .i64 (n : Int) (n : Int) (by omega) (by omega) (by rw [hz2]; omega) (by omega)
  rw [hz1, Nat.mul_one, show (Value.string ByteArray.empty).cells = #[.string ByteArray.empty] from rfl] at this
  rw [Lib.cellsOf_nil]
  simpa using this
def lsV (xs : List Int) : List UInt8 := if xs = [] then [45] else Lib.join (xs.map Lib.itoa) [44]
theorem lens_itoa (xs : List Int) (h : ∀ x ∈ xs, I64 x) : Lib.lens (xs.map Lib.itoa) ≤ 20 * xs.length := by
  induction xs with
  | nil => simp [Lib.lens]
  | cons x xs ih =>
    have h1 := itoa_len (h x (by simp))
    have h2 := ih (fun y hy => h y (List.mem_cons_of_mem _ hy))
    simp only [Lib.lens, List.map_cons, List.length_cons] at h2 ⊢
    simp at h2 ⊢
    omega
theorem join_itoa_len (xs : List Int) (h : ∀ x ∈ xs, I64 x) : (Lib.join (xs.map Lib.itoa) [44]).length ≤ 21 * xs.length := by
  cases xs with
  | nil => simp [Lib.join_nil]
  | cons x xs =>
    have := lens_itoa (x :: xs) h
    rw [List.map_cons, Lib.join_length]
    rw [List.map_cons] at this
    simp at this ⊢
    omega

end Go.Proofs.YtdgjlniciehjbaaDoor.wd
