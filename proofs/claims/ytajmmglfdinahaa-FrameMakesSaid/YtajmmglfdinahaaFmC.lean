/- Frames by value: a frame is itself (layer 16). -/
import Derived.Test.YtajmmglfdinahaaFmB
namespace Go.Proofs.Ytajmmglfdinahaa.fm
open Go.ChangeShapes Go.WideShapes Go.ChangeAt Go.RowKit
open Go.Proofs.Ytajmmglfdinahaa.fr
open Go.Proofs.Ytajmmglfdinahaa.ft (range_blk there_blk put_blk below_put)
attribute [local go_sem ↓] Go.wp_at_zero Go.wp_at_succ
set_option linter.unusedVariables false
set_option linter.unusedSimpArgs false
theorem wp_load19 {op : Oper} {a : Act} {w : World} {K : Act → World → Prop} {Q : Exit → Act → World → Prop} (x : Operand) (ho : op.op = .load 67 x) (q : Nat) (hx : a.eval x = .pointer (some ⟨q, 0, none⟩)) (c : Array Value) (hc : c.size = 19) (h : w.heap[q]? = some (.cells c 67 (0, 0))) (hk : K (a.put op.dst (.agg c)) w) : op.wp Try.prog a w K Q :=
  wp_load_mid _ x ho q 0 hx c.toList _ (range_blk h) Try.underlying67 rfl (by rw [infoF]; simp [hc]) (by simpa using hk)
theorem info3v : Try.prog.info? 3 = some ((Try.prog.info? 3).getD default) := by kernel_rfl
theorem items_same (w : World) (d : Nat) (xs : Array Value) : ∀ (is : List Nat), (∀ i ∈ is, ∃ n, xs[i]? = some (.int .i64 n)) → (Op.eqItems (d + 1) 3 1 xs xs is).run Try.prog w = .ok true w
  | [], _ => by simp [Op.eqItems, Sem.run_pure]
  | i :: is, h => by
    obtain ⟨n, hn⟩ := h i (by simp)
    have hp : (part 3 xs (i * 1)).run Try.prog w = .ok (.int .i64 n) w := run_part_plain w (by kernel_rfl) (by rw [Nat.mul_one]; exact hn)
    have he : (Op.equalIn (d + 1) 3 (.int .i64 n) (.int .i64 n)).run Try.prog w = .ok true w := by
      simp [Op.equalIn, go_sem, Try.underlying3]
    simp only [Op.eqItems, Sem.run_bind, hp, Result.andThen_ok, he]
    simpa using items_same w d xs is (fun j hj => h j (by simp [hj]))
set_option maxRecDepth 20000 in
theorem eq_frame (y : Fm) (w : World) : (binOp .eql 67 (.agg y.cs) (.agg y.cs)).run Try.prog w = .ok (.bool true) w := by
  have h : (Op.equalIn 10000 67 (.agg y.cs) (.agg y.cs)).run Try.prog w = .ok true w := by
    unfold Fm.cs
    rw [show (10000 : Nat) = 9999 + 1 from rfl, run_equalIn_struct w 9999 67 _ _ (by kernel_rfl) (by kernel_rfl)]
    simp [go_sem, Try.underlying67]
    rw [show (9999 : Nat) = 9998 + 1 from rfl, run_equalIn_array w 9998 _ _ Try.underlying65 info3v]
    have hce : Try.prog.cellsOf 3 = 1 := by kernel_rfl
    rw [hce, items_same w 9997 _ (List.range 8) (fun i hi => ?_)]
    · simp
    · have h8 : i < 8 := List.mem_range.1 hi
      match i, h8 with
      | 0, _ => exact ⟨_, rfl⟩
      | 1, _ => exact ⟨_, rfl⟩
      | 2, _ => exact ⟨_, rfl⟩
      | 3, _ => exact ⟨_, rfl⟩
      | 4, _ => exact ⟨_, rfl⟩
      | 5, _ => exact ⟨_, rfl⟩
      | 6, _ => exact ⟨_, rfl⟩
      | 7, _ => exact ⟨_, rfl⟩
      | i + 8, h => exact absurd h (by omega)
  simp only [binOp]
  simp [Op.equal, Op.maxDepth, h]
end Go.Proofs.Ytajmmglfdinahaa.fm
