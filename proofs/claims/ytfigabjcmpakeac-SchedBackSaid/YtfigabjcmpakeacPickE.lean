/- A script's bytes as picks: the contract of Read (layer 36). -/
import Derived.Test.YtfigabjcmpakeacPickD
namespace Go.Proofs.Ytfigabjcmpakeac
open Go.ChangeShapes Go.WideShapes Go.ChangeAt Go.RowKit
set_option linter.unusedVariables false
set_option linter.unusedSimpArgs false
def rd (s : ByteArray) (k j : Nat) : Value := if j < k then .int .i64 ((s.data.getD j 0).toNat : Int) else .int .i64 0
theorem rd_step (s : ByteArray) (k j : Nat) (x : Int) (hx : ((s.data.getD k 0).toNat : Int) = x) : (if j = k then Value.int .i64 x else rd s k j) = rd s (k + 1) j := by
  unfold rd
  by_cases h1 : j = k
  · subst h1; rw [if_pos rfl, if_pos (by omega), hx]
  · rw [if_neg h1]
    by_cases h3 : j < k
    · rw [if_pos h3, if_pos (show j < k + 1 by omega)]
    · rw [if_neg h3, if_neg (show ¬ j < k + 1 by omega)]
theorem read_of (s : ByteArray) (m : Nat) (w : World) (hm : (s.size + 1) / 2 = m) (hs : s.size ≤ 100000) :
    Calls Try.prog 15 #[.string s] w fun e w' => e = .returned (.slice (some ⟨w.heap.size, 0, none⟩) m m) ∧ w'.rowIs w.heap.size 35 (m * 2) (rd s s.size) ∧ Below w.heap.size w w' := by
  have hmk := run_make_cells Try.prog 22 35 (.agg #[.int .i64 0, .int .i64 0]) 2 16 Try.underlying22 (by kernel_rfl) .i64 .i64 m (by omega) (by omega)
  obtain ⟨sz, hsz⟩ : ∃ sz, s.size = sz := ⟨_, rfl⟩
  rw [hsz] at hm hs ⊢
  have hdv : ((sz : Int) + 1).tdiv 2 = (m : Int) := by
    rw [Int.tdiv_eq_ediv_of_nonneg (by omega)]; omega
  have hw1 : IntKind.i64.wrap ((sz : Int) + 1) = (sz : Int) + 1 := by rw [IntKind.wrap_i64]; omega
  have hw2 : IntKind.i64.wrap (m : Int) = (m : Int) := by rw [IntKind.wrap_i64]; omega
  go_enter Try.func15, Try.ntmps15
  go_wp2_with fail
  obtain ⟨W, hW⟩ : ∃ W, W = w.alloc (Obj.cells (madeCells #[Value.int .i64 0, Value.int .i64 0] (m * 2)) 35) := ⟨_, rfl⟩
  have hb : Below w.heap.size w W := by rw [hW]; go_grown
  have hr : W.rowIs w.heap.size 35 (m * 2) (rd s 0) := by
    rw [hW]
    exact (made2 w (.int .i64 0) (m * 2) 35).congr fun i hi => by simp [rd]
  rw [← hW]
  clear hW hmk hdv hw1 hw2
  go_loopw [12] (fun i wr => ∃ k : Nat, k ≤ sz ∧ i = .int .i64 k ∧ Below w.heap.size w wr ∧ wr.rowIs w.heap.size 35 (m * 2) (rd s k)) (fun i _ => sz - (intOf i).toNat)
  case atStart => exact ⟨0, Nat.zero_le _, rfl, hb, hr⟩
  case round =>
    clear hb hr
    obtain ⟨k, hk, rfl, hbw, hr⟩ := hrel
    by_cases hlt : k < sz
    · have hqm : k / 2 < m := by omega
      have hks : k < s.size := by omega
      have R := Lib.hid hr
      have HX : Hid (((s.data.getD k 0).toNat : Int) = wrap64 (s[k].toNat : Int)) := Lib.hid (by
        have h1 : s.data.getD k 0 = s[k] := by
          have h2 : k < s.data.size := hks
          simp only [Array.getD, dif_pos h2]
          rfl
        rw [h1]
        have := s[k].toNat_lt
        unfold wrap64; omega)
      clear hr
      by_cases e : k % 2 = 0
      · have hm2 : (k : Int).tmod 2 = 0 := by rw [Int.tmod_eq_emod_of_nonneg (by omega)]; omega
        have HK : Hid (k / 2 * 2 = k) := Lib.hid (by omega)
        have c0 : wr.cell? ⟨w.heap.size, k / 2 * 2, none⟩ = some (rd s k k) := by rw [HK.out]; exact rowIs_cell R.out (by omega)
        have z0 : wr.frozen? ⟨w.heap.size, k / 2 * 2, none⟩ = false := rowIs_free R.out _
        clear e
        go_wp2_with fail
        go_roundw
        case rel =>
          refine ⟨k + 1, by omega, by go_num, hbw.setCell (Nat.le_refl _) _, (R.out.set (k / 2 * 2) _).congr fun j hj => ?_⟩
          rw [HK.out]
          exact rd_step s k j _ HX.out
        case measure => simp [intOf]; omega
      · have hm2 : (k : Int).tmod 2 = 1 := by rw [Int.tmod_eq_emod_of_nonneg (by omega)]; omega
        have HK : Hid (k / 2 * 2 + 1 = k) := Lib.hid (by omega)
        have c0 : wr.cell? ⟨w.heap.size, k / 2 * 2 + 1, none⟩ = some (rd s k k) := by rw [HK.out]; exact rowIs_cell R.out (by omega)
        have z0 : wr.frozen? ⟨w.heap.size, k / 2 * 2 + 1, none⟩ = false := rowIs_free R.out _
        clear e
        go_wp2_with fail
        go_roundw
        case rel =>
          refine ⟨k + 1, by omega, by go_num, hbw.setCell (Nat.le_refl _) _, (R.out.set (k / 2 * 2 + 1) _).congr fun j hj => ?_⟩
          rw [HK.out]
          exact rd_step s k j _ HX.out
        case measure => simp [intOf]; omega
    · obtain rfl : k = sz := by omega
      go_wp2_with fail
      go_ret
      exact ⟨rfl, hr, hbw⟩
end Go.Proofs.Ytfigabjcmpakeac
