/- Turns are fair: of any workers and order, in any twice as many steps, less one, as there are workers, each one steps: the law SchedTurns answers true. No condition. -/
import Derived.Test.YtfigabjcmpakeacPickT
namespace Go.Proofs.Ytfigabjcmpakeac.schedTurns
open Go.ChangeShapes Go.WideShapes Go.ChangeAt Go.RowKit
open Go.Proofs.Ytfigabjcmpakeac.sch
set_option linter.unusedVariables false
set_option linter.unusedSimpArgs false
def ts (s : ByteArray) (n L : Nat) : List PK := (List.range L).map fun i => (((tn (ob s) n i : Nat) : Int), ((ob s (i / n) % n : Nat) : Int))
theorem ow_ts (s : ByteArray) (n L : Nat) (hn : 1 ≤ n) : ∀ i, i < L → ow (ts s n L) n i = tn (ob s) n i := by
  intro i hi
  unfold ow ts
  rw [List.getD_eq_getElem?_getD, List.getElem?_map, List.getElem?_range hi]
  simp
  exact Nat.mod_eq_of_lt (tn_lt (ob s) n i hn)
theorem wf_congr (o o' : Nat → Nat) (L : Nat) (h : ∀ i, i < L → o i = o' i) (m : Nat) : wf o L m = wf o' L m := by
  obtain ⟨h1, _, h3, _⟩ := congr_o o o' L h
  induction m with
  | zero => exact h3
  | succ m ih => rw [wf, wf, ih, h1]
theorem cn_ts (s : ByteArray) (n k j : Nat) (hn : 1 ≤ n) (hj : j < n) : cn (ow (ts s n (n * k)) n) (n * k) j = k := by
  rw [(congr_o _ _ _ (ow_ts s n (n * k) hn)).2.2.2 j]
  exact block_all (tn (ob s) n) n (ps (ob s) n) (fun q j hj => ps_lt (ob s) n q j hj) (tn_ps (ob s) n) k j hj
theorem an_ts (s : ByteArray) (n k : Nat) (hn : 1 ≤ n) (hk : 1 ≤ k) : an (ow (ts s n (n * k)) n) (n * k) n = true :=
  an_true n fun j hj => by rw [sn_cn, cn_ts s n k j hn hj]; simp; omega
theorem wf_ts (s : ByteArray) (n k : Nat) (hn : 1 ≤ n) (hk : 1 ≤ k) : wf (ow (ts s n (n * k)) n) (n * k) n ≤ 2 * n - 1 := by
  rw [wf_congr _ _ _ (ow_ts s n (n * k) hn)]
  exact block_wf (tn (ob s) n) n (ps (ob s) n) (fun q j hj => ps_lt (ob s) n q j hj) (tn_ps (ob s) n) hn (fun i => tn_lt (ob s) n i hn) k hk n (Nat.le_refl n)
set_option maxRecDepth 20000 in
set_option maxHeartbeats 4000000 in
theorem core (x y n k : Nat) (s : ByteArray) (w : World) (hx : x ≤ 255) (hy : y ≤ 255) (hn : x % 64 + 1 = n) (hk : y % 20 + 1 = k) (hs : s.size ≤ 1000) :
    Calls Try.prog 4 #[.int .u8 (x : Int), .int .u8 (y : Int), .string s] w fun e w' => e = .returned (.bool true) ∧ Below w.heap.size w w' := by
  have hn1 : 1 ≤ n := by omega
  have hn2 : n ≤ 64 := by omega
  have hk1 : 1 ≤ k := by omega
  have hk2 : k ≤ 20 := by omega
  obtain ⟨L, hL⟩ : ∃ L, n * k = L := ⟨_, rfl⟩
  have hL2 : L ≤ 1280 := by rw [← hL]; exact Nat.le_trans (Nat.mul_le_mul hn2 hk2) (by omega)
  have hc := fun j hj => cn_ts s n k j hn1 hj
  have ha := an_ts s n k hn1 hk1
  have hw := wf_ts s n k hn1 hk1
  rw [hL] at hc ha hw
  have HC := Lib.hid hc
  have HA := Lib.hid ha
  have HW := Lib.hid hw
  have hd : decide (1000 < s.size) = false := by simp; omega
  have hd0 : ¬ (1000 : Int) < (s.size : Int) := by omega
  have c1 : IntKind.i64.wrap (x : Int) = (x : Int) := by rw [IntKind.wrap_i64]; omega
  have c2 : (x : Int).tmod 64 = (n : Int) - 1 := by rw [Int.tmod_eq_emod_of_nonneg (by omega)]; omega
  have c3 : IntKind.i64.wrap (y : Int) = (y : Int) := by rw [IntKind.wrap_i64]; omega
  have c4 : (y : Int).tmod 20 = (k : Int) - 1 := by rw [Int.tmod_eq_emod_of_nonneg (by omega)]; omega
  have c5 : (n : Int) - 1 + 1 = (n : Int) := by omega
  have c6 : (k : Int) - 1 + 1 = (k : Int) := by omega
  have c7 : (n : Int) * (k : Int) = (L : Int) := by rw [← hL]; push_cast; rfl
  have c8 : (x : Int) % 64 = (n : Int) - 1 := by omega
  have c9 : (y : Int) % 20 = (k : Int) - 1 := by omega
  clear hc ha hw hn hk hL hx hy
  go_enter Try.func4, Try.ntmps4
  go_wp2_with fail
  refine (works36 _).mono ?_
  rintro e w1 ⟨rfl, hb1⟩
  go_wp2_with fail
  refine (turns_of (n : Int) (n : Int) (L : Int) (L : Int) L n s _ (by rw [if_neg (by omega)]) (by rw [if_neg (by omega)]) (by rw [if_neg (by omega)]) (by rw [if_neg (by omega)]) (by omega)).mono ?_
  rintro e w2 ⟨B, rfl, hr, hb2, hB⟩
  have HP : Hid (PV w2 (some ⟨B, 0, none⟩) L L (ts s n L)) := Lib.hid (turns_pv hr)
  have hb2' := hb1.trans (hb2.mono hb1.size)
  clear hr hb2 hB hb1
  go_wp2_with fail
  refine (count_of (some ⟨B, 0, none⟩) L L n (ts s n L) (n : Int) (n : Int) _ (by rw [if_neg (by omega)]) (by rw [if_neg (by omega)]) HP.out (by omega)).mono ?_
  rintro e w3 ⟨rfl, hr, hb3⟩
  have HP3 := Lib.hid (HP.out.below hb3)
  have hb3' := hb2'.trans (hb3.mono hb2'.size)
  have HR : Hid (w3.rowIs w2.heap.size 3 n (fun j => .int .i64 (k : Int))) := Lib.hid (hr.congr fun j hj => by rw [HC.out j hj])
  clear hr hb3 hb2' HP
  go_wp2_with fail
  go_loopw [11] (fun i wr => ∃ j : Nat, j ≤ n ∧ i = .int .i64 (j : Int) ∧ wr = w3) (fun i _ => n - (intOf i).toNat)
  case atStart => exact ⟨0, by omega, rfl, rfl⟩
  case round =>
    obtain ⟨j, hj, rfl, rfl⟩ := hrel
    by_cases hlt : j < n
    · have cj := rowIs_cell HR.out hlt
      go_wp2_with fail
      go_roundw
      case rel => exact ⟨j + 1, by omega, by go_num, by first | rfl | trivial⟩
      case measure => simp [intOf]; omega
    · obtain rfl : j = n := by omega
      have hwi : (2 : Int) * (j : Int) - 1 = ((2 * j - 1 : Nat) : Int) := by omega
      have CF := Lib.hid (fair_of (some ⟨B, 0, none⟩) L L j (ts s j L) (j : Int) (j : Int) ((wf (ow (ts s j L) j) L j : Nat) : Int) (2 * (j : Int) - 1) true true wr (by rw [if_neg (by omega)]) (by rw [if_neg (by omega)]) HP3.out (by omega) HA (Lib.hid (by simp)) (Lib.hid (by have := HW.out; simp; omega)))
      clear hwi
      go_wp2_with fail
      refine CF.out.mono ?_
      rintro e w4 ⟨rfl, hb4⟩
      have hb4' := hb3'.trans (hb4.mono hb3'.size)
      clear CF hb4
      go_wp2_with fail
      go_ret
      exact ⟨rfl, hb4'⟩
theorem big (x y : Int) (s : ByteArray) (w : World) (hs : 1000 < s.size) :
    Calls Try.prog 4 #[.int .u8 x, .int .u8 y, .string s] w fun e w' => e = .returned (.bool true) ∧ Below w.heap.size w w' := by
  have hd : decide (1000 < s.size) = true := by simp; omega
  have hd0 : (1000 : Int) < (s.size : Int) := by omega
  go_enter Try.func4, Try.ntmps4
  go_wp2_with fail
  refine (works36 _).mono ?_
  rintro e w1 ⟨rfl, hb1⟩
  go_wp2_with fail
  go_ret
  exact ⟨rfl, hb1⟩
theorem walk (a0 : Int) (a1 : Int) (a2 : ByteArray) (w : World) (w0 : (Lit.int .u8 a0).wf = true) (w1 : (Lit.int .u8 a1).wf = true) (w2 : a2.size ≤ maxLen) :
    Calls Try.prog 4 #[.int .u8 a0, .int .u8 a1, .string a2] w fun e w' => e = .returned (.bool true) ∧ Below w.heap.size w w' := by
  have h0 := bounds_u8 w0
  have h1 := bounds_u8 w1
  by_cases hs : 1000 < a2.size
  · exact big a0 a1 a2 w hs
  · obtain ⟨x, rfl⟩ : ∃ x : Nat, a0 = (x : Int) := ⟨a0.toNat, by omega⟩
    obtain ⟨y, rfl⟩ : ∃ y : Nat, a1 = (y : Int) := ⟨a1.toNat, by omega⟩
    exact core x y _ _ a2 w (by omega) (by omega) rfl rfl (by omega)
end Go.Proofs.Ytfigabjcmpakeac.schedTurns
