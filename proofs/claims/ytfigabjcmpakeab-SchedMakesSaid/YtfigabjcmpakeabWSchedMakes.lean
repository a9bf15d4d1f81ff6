/- Each worker in turn, and in blocks by any order, is as the chapter says: the law SchedMakes answers true. No condition. -/
import Derived.Test.YtfigabjcmpakeabPickU
import Derived.Deep.RegionHeld3
import Derived.Deep.DrawnRows
namespace Go.Proofs.Ytfigabjcmpakeab.schedMakes
open Go.ChangeShapes Go.WideShapes Go.ChangeAt Go.RowKit
open Go.Proofs.Ytfigabjcmpakeab.sch
attribute [local go_sem ↓] Go.wp_at_zero Go.wp_at_succ
set_option linter.unusedVariables false
set_option linter.unusedSimpArgs false
theorem tps_eq (s : ByteArray) (n L : Nat) : ((List.range L).map fun i => (((tn (ob s) n i : Nat) : Int), ((ob s (i / n) % n : Nat) : Int))) = tps s n L := rfl
set_option maxRecDepth 20000 in
set_option maxHeartbeats 1000000 in
theorem core (wk0 m0 v : Int) (wk x n : Nat) (s : ByteArray) (w : World) (a1 : (if wk0 < 1 then (1 : Int) else wk0) = m0) (a2 : (if 64 < m0 then (64 : Int) else m0) = (wk : Int)) (hx : x ≤ 65535) (hn : x % 2000 = n) (hs : s.size ≤ 1000) :
    Calls Try.prog 14 #[.int .i64 wk0, .int .i64 v, .int .u16 (x : Int), .string s] w fun e w' => e = .returned (.bool true) ∧ Below w.heap.size w w' := by
  have hw1 : 1 ≤ wk := by split at a1 <;> split at a2 <;> omega
  have hn2 : n < 2000 := by omega
  have hd : decide (1000 < s.size) = false := by simp; omega
  have hd0 : ¬ (1000 : Int) < (s.size : Int) := by omega
  have c1 : IntKind.i64.wrap (x : Int) = (x : Int) := by rw [IntKind.wrap_i64]; omega
  have c2 : (x : Int).tmod 2000 = (n : Int) := by rw [Int.tmod_eq_emod_of_nonneg (by omega)]; omega
  have c3 : (x : Int) % 2000 = (n : Int) := by omega
  have A1 := Lib.hid a1
  have A2 := Lib.hid a2
  clear a1 a2 hn
  go_enter Try.func14, Try.ntmps14
  go_wp2_with fail
  refine (works36 _).mono ?_
  rintro e w1 ⟨rfl, hb1⟩
  go_wp2_with fail
  refine (round_of wk0 m0 (wk : Int) v (n : Int) (n : Int) n _ A1.out A2.out (by rw [if_neg (by omega)]) (by rw [if_neg (by omega)]) (by omega)).mono ?_
  rintro e w2 ⟨B, rfl, hr, hb2, hB⟩
  have HR := Lib.hid hr
  have HB2 := Lib.hid (hb1.trans (hb2.mono hb1.size))
  clear hr hb2 hB hb1 c1 c2 c3
  go_wp2_with fail
  go_loopw [11] (fun i wr => ∃ j : Nat, j ≤ n ∧ i = .int .i64 (j : Int) ∧ Hid (Below w2.heap.size w2 wr)) (fun i _ => n - (intOf i).toNat)
  case atStart => exact ⟨0, by omega, rfl, Lib.hid (Below.refl _ _)⟩
  case round =>
    obtain ⟨j, hj, rfl, HW⟩ := hrel
    have hrr := HR.out.of_block (HW.out.block _ HR.out.lt)
    by_cases hlt : j < n
    · obtain ⟨r, hrv⟩ : ∃ r, (j : Int).tmod (wk : Int) = r := ⟨_, rfl⟩
      have k0 := rowIs_cell hrr (i := j * 2) (by omega)
      have k1 := rowIs_cell hrr (i := j * 2 + 1) (by omega)
      have e0 : rp (wk : Int) v n (j * 2) = .int .i64 r := by unfold rp; rw [if_pos (by omega), if_pos (by omega), show j * 2 / 2 = j by omega, hrv]
      have e1 : rp (wk : Int) v n (j * 2 + 1) = .int .i64 v := by unfold rp; rw [if_pos (by omega), if_neg (by omega)]
      rw [e0] at k0
      rw [e1] at k1
      have hq : ∀ w, (binOp .neq 90 (.agg #[.int .i64 r, .int .i64 v]) (.agg #[.int .i64 r, .int .i64 v])).run Try.prog w = .ok (.bool false) w := fun w => by
        have := pick_neq (r, v) (r, v) w
        simpa using this
      have b1 := A1.out
      have b2 := A2.out
      have hd1 : ((wk : Int) == 0) = false := by simp; omega
      have hd2 : ¬ (wk : Int) = 0 := by omega
      have hd3 : ¬ wk = 0 := by omega
      have hwl : w2.heap.size ≤ wr.heap.size := HW.out.size
      clear e0 e1 hrr
      go_wp2_with fail
      go_region_held3 (fun w' => Below wr.heap.size wr w' ∧ w'.cell? ⟨B, j * 2, none⟩ = some (.int .i64 r) ∧ w'.cell? ⟨B, j * 2 + 1, none⟩ = some (.int .i64 v)) (first | (with_reducible assumption) | exact ⟨Below.refl _ _, k0, k1⟩ | (refine ⟨?_, ?_, ?_⟩ <;> first | (go_grown; done) | (go_simp; done))) (fail)
      clear b1 b2 hrv hq k0 k1
      go_wp2_with fail
      exact ⟨⟨j + 1, by omega, by go_num, Lib.hid (HW.out.trans ((show Below wr.heap.size wr wr.drew from ⟨rfl, rfl, rfl, Nat.le_refl _, fun _ _ => rfl⟩).mono hwl))⟩, by simp [intOf]; omega⟩
    · obtain rfl : j = n := by omega
      have HB3 := Lib.hid (HB2.out.trans (HW.out.mono HB2.out.size))
      clear hrr HW
      go_wp2_with fail
      refine (turns_of wk0 m0 (j : Int) (j : Int) j wk s _ A1.out A2.out (by rw [if_neg (by omega)]) (by rw [if_neg (by omega)]) (by omega)).mono ?_
      rintro e w3 ⟨B3, rfl, hr3, hb3, _⟩
      have hp3 := turns_pv hr3
      rw [tps_eq] at hp3
      have HP3 := Lib.hid hp3
      have HB4 := Lib.hid (HB3.out.trans (hb3.mono HB3.out.size))
      clear hr3 hb3 hp3
      go_wp2_with fail
      refine (rturns_of wk0 m0 (j : Int) (j : Int) j wk s _ A1.out A2.out (by rw [if_neg (by omega)]) (by rw [if_neg (by omega)]) (by omega)).mono ?_
      rintro e w4 ⟨a4, cap4, rfl, hp4, hb4⟩
      have HP4 := Lib.hid hp4
      have HP3' := Lib.hid (HP3.out.below hb4)
      have HB5 := Lib.hid (HB4.out.trans (hb4.mono HB4.out.size))
      clear hp4 hb4 HP3
      go_wp2_with fail
      refine (same_any _ _ j _ _ (tps s wk j) (tps s wk j) _ HP3'.out HP4.out (by omega)).mono ?_
      rintro e w5 ⟨rfl, hb5⟩
      have HB6 := Lib.hid (HB5.out.trans (hb5.mono HB5.out.size))
      have hdt : decide (tps s wk j = tps s wk j) = true := by simp
      rw [hdt]
      clear hb5 hdt
      go_wp2_with fail
      refine (round_of wk0 m0 (wk : Int) v (-1) 0 0 _ A1.out A2.out (by decide) (by decide) (by omega)).mono ?_
      rintro e w6 ⟨B6, rfl, _, hb6, _⟩
      have HB7 := Lib.hid (HB6.out.trans (hb6.mono HB6.out.size))
      clear hb6
      go_wp2_with fail
      go_ret
      exact ⟨by simp, HB7.out⟩
theorem big (a0 a1 a2 : Int) (s : ByteArray) (w : World) (hs : 1000 < s.size) :
    Calls Try.prog 14 #[.int .i64 a0, .int .i64 a1, .int .u16 a2, .string s] w fun e w' => e = .returned (.bool true) ∧ Below w.heap.size w w' := by
  have hd : decide (1000 < s.size) = true := by simp; omega
  have hd0 : (1000 : Int) < (s.size : Int) := by omega
  go_enter Try.func14, Try.ntmps14
  go_wp2_with fail
  refine (works36 _).mono ?_
  rintro e w1 ⟨rfl, hb1⟩
  go_wp2_with fail
  go_ret
  exact ⟨rfl, hb1⟩
theorem walk (a0 : Int) (a1 : Int) (a2 : Int) (a3 : ByteArray) (w : World) (w0 : (Lit.int .i64 a0).wf = true) (w1 : (Lit.int .i64 a1).wf = true) (w2 : (Lit.int .u16 a2).wf = true) (w3 : a3.size ≤ maxLen) :
    Calls Try.prog 14 #[.int .i64 a0, .int .i64 a1, .int .u16 a2, .string a3] w fun e w' => e = .returned (.bool true) ∧ Below w.heap.size w w' := by
  by_cases hs : 1000 < a3.size
  · exact big a0 a1 a2 a3 w hs
  · have h2 := bounds_u16 w2
    obtain ⟨x, rfl⟩ : ∃ x : Nat, a2 = (x : Int) := ⟨a2.toNat, by omega⟩
    obtain ⟨n, hn⟩ : ∃ n : Nat, (if 64 < (if a0 < 1 then (1 : Int) else a0) then (64 : Int) else (if a0 < 1 then (1 : Int) else a0)) = (n : Int) := ⟨(if 64 < (if a0 < 1 then (1 : Int) else a0) then (64 : Int) else (if a0 < 1 then (1 : Int) else a0)).toNat, by split <;> split <;> omega⟩
    exact core a0 _ a1 n x _ a3 w rfl hn (by omega) rfl (by omega)
end Go.Proofs.Ytfigabjcmpakeab.schedMakes
