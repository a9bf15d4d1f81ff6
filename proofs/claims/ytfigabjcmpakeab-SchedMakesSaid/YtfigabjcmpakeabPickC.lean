/- Rows of picks that are made and then laid one by one: each worker in turn (layer 36). -/
import Derived.Test.YtfigabjcmpakeabPickB
import Derived.Deep.OwnRows
namespace Go.Proofs.Ytfigabjcmpakeab
open Go.ChangeShapes Go.WideShapes Go.ChangeAt Go.RowKit
set_option linter.unusedVariables false
set_option linter.unusedSimpArgs false
theorem run_make_cells (P : Program) (t e : TypeId) (z : Value) (size bytes : Nat) (ht : P.underlying t = some (.slice e)) (hinfo : (P.info? e).map (fun i => (i.zero, i.size, i.bytes)) = some (some z, size, bytes))
    (kl kc : IntKind) (n : Nat) (hbytes : bytes * n ≤ 281474976710656) (h63 : n ≤ 9223372036854775807) (w : World) :
    (Instr.makeSlice t (.int kl (n : Int)) (.int kc (n : Int))).run P w = .ok (.slice (some ⟨w.heap.size, 0, none⟩) n n) (w.alloc (.cells (madeCells z.cells (n * size)) e)) := by
  obtain ⟨i, hi, hzz⟩ := Option.map_eq_some_iff.1 hinfo
  simp only [Prod.mk.injEq] at hzz
  obtain ⟨hz, hs, hb⟩ := hzz
  have hb' : (i.bytes : Int) * (n : Int) ≤ 281474976710656 := by
    have h : ((i.bytes * n : Nat) : Int) ≤ 281474976710656 := by rw [hb]; omega
    rwa [Int.natCast_mul] at h
  have hr := run_make (P := P) w t e i z ht hi hz kl kc n n (by omega) (Int.le_refl _) hb' (by omega)
  simp only [Int.toNat_natCast, hs] at hr
  exact hr
theorem made2 (w : World) (a : Value) (n t : Nat) : (w.alloc (.cells (madeCells #[a, a] n) t)).rowIs w.heap.size t n (fun _ => a) :=
  ⟨madeCells #[a, a] n, by show (w.heap.push _)[w.heap.size]? = _; rw [Array.getElem?_push_size], size_madeCells _ _, fun i hi => by
    have h : i % 2 = 0 ∨ i % 2 = 1 := by omega
    rcases h with h | h <;> simp [madeCells, hi, h]⟩

def rp (wk v : Int) (k j : Nat) : Value := if j < k * 2 then (if j % 2 = 0 then .int .i64 (((j / 2 : Nat) : Int).tmod wk) else .int .i64 v) else .int .i64 0
theorem rp_step (wk v : Int) (k j : Nat) : (if j = k * 2 + 1 then Value.int .i64 v else if j = k * 2 then .int .i64 ((k : Int).tmod wk) else rp wk v k j) = rp wk v (k + 1) j := by
  unfold rp
  by_cases h1 : j = k * 2 + 1
  · subst h1; rw [if_pos rfl, if_pos (by omega), if_neg (by omega)]
  · rw [if_neg h1]
    by_cases h2 : j = k * 2
    · subst h2; rw [if_pos rfl, if_pos (by omega), if_pos (by omega), show k * 2 / 2 = k from by omega]
    · rw [if_neg h2]
      by_cases h3 : j < k * 2
      · rw [if_pos h3, if_pos (show j < (k + 1) * 2 by omega)]
      · rw [if_neg h3, if_neg (show ¬ j < (k + 1) * 2 by omega)]
theorem rowIs_cell {w : World} {B t n i : Nat} {f : Nat → Value} (h : w.rowIs B t n f) (hi : i < n) : w.cell? ⟨B, i, none⟩ = some (f i) := by
  obtain ⟨c, hb, hs, hc⟩ := h
  simp [World.cell?, hb, hc i hi]
theorem rowIs_free {w : World} {B t n : Nat} {f : Nat → Value} (h : w.rowIs B t n f) (i : Nat) : w.frozen? ⟨B, i, none⟩ = false := by
  obtain ⟨c, hb, hs, hc⟩ := h
  simp [World.frozen?, hb]
theorem picks_round (st m1 : Int) (n : Nat) (wk v : Int) (A C : Nat) (w : World) (h1 : (if st < 0 then (0 : Int) else st) = m1) (h2 : (if 1048576 < m1 then (1048576 : Int) else m1) = n) (hn : n ≤ 1048576) (hA : w.cell? ⟨A, 0, none⟩ = some (.int .i64 wk)) (hC : w.cell? ⟨C, 0, none⟩ = some (.int .i64 v)) (hw : 1 ≤ wk) :
    Calls Try.prog 83 #[.int .i64 st, .func (.func 84) #[] #[.pointer (some ⟨A, 0, none⟩), .pointer (some ⟨C, 0, none⟩)]] w fun e w' => e = .returned (.slice (some ⟨w.heap.size, 0, none⟩) n n) ∧ w'.rowIs w.heap.size 90 (n * 2) (rp wk v n) ∧ Below w.heap.size w w' := by
  have hmk := run_make_cells Try.prog 87 90 (.agg #[.int .i64 0, .int .i64 0]) 2 16 Try.underlying87 (by kernel_rfl) .i64 .i64 n (by omega) (by omega)
  have la := World.block_lt_of_cell? w _ hA
  have lc := World.block_lt_of_cell? w _ hC
  have HA := Lib.hid hA
  have HC := Lib.hid hC
  clear hA hC
  go_enter Try.func83, Try.ntmps83
  go_wp2_with fail
  obtain ⟨W, hW⟩ : ∃ W, W = w.alloc (Obj.cells (madeCells #[Value.int .i64 0, Value.int .i64 0] (n * 2)) 90) := ⟨_, rfl⟩
  have hb : Below w.heap.size w W := by rw [hW]; go_grown
  have hr : W.rowIs w.heap.size 90 (n * 2) (rp wk v 0) := by
    rw [hW]
    exact (made2 w (.int .i64 0) (n * 2) 90).congr fun i hi => by simp [rp]
  rw [← hW]
  clear hW hmk h1 h2
  go_loopw [13] (fun i wr => ∃ k : Nat, k ≤ n ∧ i = .int .i64 k ∧ Below w.heap.size w wr ∧ wr.rowIs w.heap.size 90 (n * 2) (rp wk v k)) (fun i _ => n - (intOf i).toNat)
  case atStart => exact ⟨0, Nat.zero_le _, rfl, hb, hr⟩
  case round =>
    clear hb hr
    obtain ⟨k, hk, rfl, hbw, hr⟩ := hrel
    by_cases hlt : k < n
    · have cA := (hbw.cell (p := ⟨A, 0, none⟩) la).trans HA.out
      have cC := (hbw.cell (p := ⟨C, 0, none⟩) lc).trans HC.out
      obtain ⟨r, hrr⟩ : ∃ r, (k : Int).tmod wk = r := ⟨_, rfl⟩
      have R := Lib.hid hr
      have hlw := hr.lt
      clear hr
      go_wp2_with fail
      refine (round_one k wk v r A C _ cA cC hw hrr).mono ?_
      rintro e w1 ⟨rfl, hb1⟩
      have hr1 := R.out.of_block (hb1.block _ hlw)
      have R1 := Lib.hid hr1
      have l0 : k * 2 < n * 2 := by omega
      have l1 : k * 2 + 1 < n * 2 := by omega
      have c0 := rowIs_cell hr1 l0
      have c1 := rowIs_cell hr1 l1
      have z0 := rowIs_free hr1 (k * 2)
      have z1 := rowIs_free hr1 (k * 2 + 1)
      have hbz : Below w.heap.size w w1 := hbw.trans (hb1.mono hbw.size)
      clear cA cC hb1 hlw
      go_wp2_with fail
      go_roundw
      case rel =>
        refine ⟨k + 1, by omega, by go_num, (hbz.setCell (Nat.le_refl _) _).setCell (Nat.le_refl _) _, ((hr1.set (k * 2) (.int .i64 r)).set (k * 2 + 1) (.int .i64 v)).congr fun j hj => ?_⟩
        rw [← hrr]
        exact rp_step wk v k j
      case measure => simp [intOf]; omega
    · obtain rfl : k = n := by omega
      go_wp2_with fail
      go_ret
      exact ⟨rfl, hr, hbw⟩
end Go.Proofs.Ytfigabjcmpakeab
