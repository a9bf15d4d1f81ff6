/- Rows of picks (a worker and a victim), whosever they are: what they read as, and whether two are the same (layer 36). -/
import Derived.Test.YtfigabjcmpakeabKit
import Derived.Deep.RegionHeld3
import Derived.Laws.StructEq
import Derived.Handy
namespace Go.Proofs.Ytfigabjcmpakeab
open Go.ChangeShapes Go.WideShapes Go.ChangeAt Go.RowKit
set_option linter.unusedVariables false
set_option linter.unusedSimpArgs false
abbrev PK := Int × Int
/-- In world w the slice reads as the picks. -/
def PV (w : World) (a : Option Addr) (n cap : Nat) (xs : List PK) : Prop :=
  xs.length = n ∧ n ≤ cap ∧ ∀ i p, xs[i]? = some p → ∃ b o, a = some ⟨b, o, none⟩ ∧ b < w.heap.size ∧ w.cell? ⟨b, o + i * 2, none⟩ = some (.int .i64 p.1) ∧ w.cell? ⟨b, o + i * 2 + 1, none⟩ = some (.int .i64 p.2)
theorem PV.below {w w' : World} {a : Option Addr} {n cap : Nat} {xs : List PK} (h : PV w a n cap xs) (hb : Below w.heap.size w w') : PV w' a n cap xs :=
  ⟨h.1, h.2.1, fun i p hp => by
    obtain ⟨b, o, e, hlt, c0, c1⟩ := h.2.2 i p hp
    exact ⟨b, o, e, Nat.lt_of_lt_of_le hlt hb.size, (hb.cell (p := ⟨b, o + i * 2, none⟩) hlt).trans c0, (hb.cell (p := ⟨b, o + i * 2 + 1, none⟩) hlt).trans c1⟩⟩
theorem pick_neq (x y : PK) (w : World) : (binOp .neq 90 (.agg #[.int .i64 x.1, .int .i64 x.2]) (.agg #[.int .i64 y.1, .int .i64 y.2])).run Try.prog w = .ok (.bool (decide (x ≠ y))) w := by
  have h : (Op.equalIn 10000 90 (.agg #[.int .i64 x.1, .int .i64 x.2]) (.agg #[.int .i64 y.1, .int .i64 y.2])).run Try.prog w = .ok (decide (x = y)) w := by
    rw [show (10000 : Nat) = 9999 + 1 from rfl, run_equalIn_struct w 9999 90 _ _ (by kernel_rfl) (by kernel_rfl)]
    obtain ⟨x1, x2⟩ := x
    obtain ⟨y1, y2⟩ := y
    by_cases e1 : x1 = y1
    · by_cases e2 : x2 = y2
      · simp [go_sem, Try.underlying90, e1, e2]
      · simp [go_sem, Try.underlying90, e1, e2]
    · simp [go_sem, Try.underlying90, e1]
  simp only [binOp]
  simp [Op.equal, Op.maxDepth, h]
theorem same_len (a b : Option Addr) (n m c1 c2 : Nat) (w : World) (h : ¬ n = m) : Calls Try.prog 53 #[.slice a n c1, .slice b m c2] w fun e w' => e = .returned (.bool false) ∧ Below w.heap.size w w' := by
  have h2 : ¬ (n : Int) = m := by omega
  go_enter Try.func53, Try.ntmps53
  go_wp2
  go_ret
  exact ⟨rfl, Below.refl _ _⟩
theorem same_any (a b : Option Addr) (n c1 c2 : Nat) (xs ys : List PK) (w : World) (hx : PV w a n c1 xs) (hy : PV w b n c2 ys) (hm : n ≤ 100000) : Calls Try.prog 53 #[.slice a n c1, .slice b n c2] w fun e w' => e = .returned (.bool (decide (xs = ys))) ∧ Below w.heap.size w w' := by
  have HX := Lib.hid hx
  have HY := Lib.hid hy
  have l1 := hx.2.1
  have l2 := hy.2.1
  clear hx hy
  go_enter Try.func53, Try.ntmps53
  go_wp2
  go_loopw [5] (fun i wr => ∃ k : Nat, k ≤ n ∧ i = .int .i64 k ∧ Below w.heap.size w wr ∧ Hid (∀ i, i < k → xs[i]? = ys[i]?)) (fun i _ => n - (intOf i).toNat)
  case atStart => exact ⟨0, Nat.zero_le _, rfl, Below.refl _ _, Lib.hid fun i hi => by omega⟩
  case round =>
    obtain ⟨k, hk, rfl, hbw, hall⟩ := hrel
    by_cases hlt : k < n
    · have hx1 : k < xs.length := by rw [HX.out.1]; exact hlt
      have hy1 : k < ys.length := by rw [HY.out.1]; exact hlt
      obtain ⟨⟨x1, x2⟩, ex⟩ : ∃ p, xs[k]? = some p := ⟨xs[k], by simp⟩
      obtain ⟨⟨y1, y2⟩, ey⟩ : ∃ p, ys[k]? = some p := ⟨ys[k], by simp⟩
      obtain ⟨ba, oa, rfl, hba, g0, g1⟩ := HX.out.2.2 k _ ex
      obtain ⟨bb, ob, rfl, hbb, e0, e1⟩ := HY.out.2.2 k _ ey
      replace g0 := (hbw.cell (p := ⟨ba, oa + k * 2, none⟩) hba).trans g0
      replace g1 := (hbw.cell (p := ⟨ba, oa + k * 2 + 1, none⟩) hba).trans g1
      replace e0 := (hbw.cell (p := ⟨bb, ob + k * 2, none⟩) hbb).trans e0
      replace e1 := (hbw.cell (p := ⟨bb, ob + k * 2 + 1, none⟩) hbb).trans e1
      dsimp only at g0 g1 e0 e1
      have hq := fun w => pick_neq (x1, x2) (y1, y2) w
      dsimp only at hq
      by_cases e : ((x1, x2) : PK) = (y1, y2)
      · rw [show decide (((x1, x2) : PK) ≠ (y1, y2)) = false from by simp [e]] at hq
        have HE := Lib.hid e
        clear e
        go_wp2_with fail
        go_region_held3 (fun w' => Below w.heap.size w w' ∧ w'.cell? ⟨ba, oa + k * 2, none⟩ = some (.int .i64 x1) ∧ w'.cell? ⟨ba, oa + k * 2 + 1, none⟩ = some (.int .i64 x2) ∧ w'.cell? ⟨bb, ob + k * 2, none⟩ = some (.int .i64 y1) ∧ w'.cell? ⟨bb, ob + k * 2 + 1, none⟩ = some (.int .i64 y2)) (first | (with_reducible assumption) | exact ⟨hbw, g0, g1, e0, e1⟩ | (refine ⟨?_, ?_, ?_, ?_, ?_⟩ <;> first | (go_grown; done) | (go_simp; done))) (fail)
        go_wp2_with fail
        refine ⟨⟨k + 1, by omega, by go_num, hbw.trans ⟨rfl, rfl, rfl, Nat.le_refl _, fun _ _ => rfl⟩, Lib.hid fun i hi => ?_⟩, by simp [intOf]; omega⟩
        by_cases hik : i = k
        · rw [hik, ex, ey, HE.out]
        · exact hall.out i (by omega)
      · rw [show decide (((x1, x2) : PK) ≠ (y1, y2)) = true from decide_eq_true e] at hq
        have HE := Lib.hid e
        clear e
        go_wp2_with fail
        go_region_held3 (fun w' => Below w.heap.size w w' ∧ w'.cell? ⟨ba, oa + k * 2, none⟩ = some (.int .i64 x1) ∧ w'.cell? ⟨ba, oa + k * 2 + 1, none⟩ = some (.int .i64 x2) ∧ w'.cell? ⟨bb, ob + k * 2, none⟩ = some (.int .i64 y1) ∧ w'.cell? ⟨bb, ob + k * 2 + 1, none⟩ = some (.int .i64 y2)) (first | (with_reducible assumption) | exact ⟨hbw, g0, g1, e0, e1⟩ | (refine ⟨?_, ?_, ?_, ?_, ?_⟩ <;> first | (go_grown; done) | (go_simp; done))) (fail)
        go_wp2_with fail
        go_ret
        have hne : ¬ xs = ys := fun h => HE.out (by rw [h, ey] at ex; exact (Option.some.inj ex).symm)
        exact ⟨by rw [decide_eq_false hne]; rfl, hbw.trans ⟨rfl, rfl, rfl, Nat.le_refl _, fun _ _ => rfl⟩⟩
    · obtain rfl : k = n := by omega
      go_wp2
      go_ret
      have he : xs = ys := by
        apply List.ext_getElem?
        intro i
        by_cases hi : i < k
        · exact hall.out i hi
        · rw [List.getElem?_eq_none (by rw [HX.out.1]; omega), List.getElem?_eq_none (by rw [HY.out.1]; omega)]
      exact ⟨by rw [decide_eq_true he]; rfl, hbw⟩
end Go.Proofs.Ytfigabjcmpakeab
