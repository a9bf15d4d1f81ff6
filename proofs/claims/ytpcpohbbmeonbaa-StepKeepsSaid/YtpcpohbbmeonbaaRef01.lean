/- The contracts of the reference of layer 1: bits, sums, products and quotients by hand. -/
import Derived.Test.YtpcpohbbmeonbaaKit
import Derived.Test.YtpcpohbbmeonbaaBin
import Derived.Laws.BitsAllLaws
import Derived.Outline
namespace Go.Proofs.Ytpcpohbbmeonbaa.ref01
open Go.ChangeShapes Go.WideShapes Go.ChangeAt Go.RowKit
open Go.Proofs.Ytpcpohbbmeonbaa.bin
set_option linter.unusedVariables false

theorem ret_int {k : IntKind} {a b : Int} (h : a = b) : Ending.returned (.int k a) = .returned (.int k b) := by rw [h]
theorem val_int {k : IntKind} {a b : Int} (h : a = b) : Value.int k a = .int k b := by rw [h]
theorem bit_v (n k p : Nat) (w : World) (hn : n < 18446744073709551616) (hk : k < 64) (hp : Hid (n / 2 ^ k % 2 = p)) : Calls Try.prog 65 #[.int .u64 n, .int .i64 k] w fun e w' => e = .returned (.int .u64 p) ∧ w = w' := by
  have key : Go.bits .and .u64 ((n : Int) / 2 ^ k) 1 = (p : Int) := by
    rw [div_two_pow_int, and1 _ (Nat.lt_of_le_of_lt (Nat.div_le_self _ _) hn), hp.out]
  go_enter Try.func65, Try.ntmps65
  go_wp2
  go_ret
  exact ⟨rfl, rfl⟩
set_option maxHeartbeats 1000000 in
theorem add_v (a b c : Nat) (w : World) (ha : a < 18446744073709551616) (hb : b < 18446744073709551616) (hc : Hid ((a + b) % 18446744073709551616 = c)) : Calls Try.prog 60 #[.int .u64 a, .int .u64 b] w fun e w' => e = .returned (.int .u64 c) ∧ w = w' := by
  go_enter Try.func60, Try.ntmps60
  go_wp2
  go_loop [5, 6, 7] (fun n c i => ∃ k m d : Nat, k ≤ 64 ∧ d ≤ 1 ∧ i = .int .i64 k ∧ n = .int .u64 m ∧ c = .int .u64 d ∧ Hid (addS a b k % 2 ^ k = m) ∧ Hid (addS a b k / 2 ^ k = d)) (fun _ _ i => 64 - (intOf i).toNat)
  case atStart => exact ⟨0, 0, 0, by omega, by omega, rfl, rfl, rfl, Lib.hid (by rw [addS_zero]), Lib.hid (by rw [addS_zero])⟩
  case round =>
    obtain ⟨k, m, d, hk, hd, rfl, rfl, rfl, hm, hcd⟩ := hrel
    by_cases hlt : k < 64
    · obtain ⟨p, hp⟩ : ∃ p, Hid (a / 2 ^ k % 2 = p) := ⟨_, Lib.hid rfl⟩
      obtain ⟨q, hq⟩ : ∃ q, Hid (b / 2 ^ k % 2 = q) := ⟨_, Lib.hid rfl⟩
      have hp1 : p ≤ 1 := by have := hp.out; omega
      have hq1 : q ≤ 1 := by have := hq.out; omega
      go_wp2_with (first | (go_at_call_of 65 (Value.int .u64 (a : Int)); refine (bit_v a k p _ ha hlt hp).mono ?_; rintro e w' ⟨rfl, rfl⟩) | (go_at_call 65; refine (bit_v b k q _ hb hlt hq).mono ?_; rintro e w' ⟨rfl, rfl⟩))
      go_round
      case rel =>
        obtain ⟨e1, e2⟩ := addS_succ a b k (p + q + d) (by rw [hp.out, hq.out, hcd.out])
        have hml : m < 2 ^ k := by rw [← hm.out]; exact Nat.mod_lt _ (Nat.two_pow_pos k)
        have hs := bit_step m (p + q + d) k hml (by omega) hlt
        rw [hm.out] at e1
        refine ⟨k + 1, m + (p + q + d) % 2 * 2 ^ k, (p + q + d) / 2, by omega, by omega, by go_num, val_int ?_, val_int (by omega), Lib.hid e1, Lib.hid e2⟩
        rw [← hs]; rfl
      case measure => simp [intOf]; omega
    · go_wp2
      go_ret
      have : k = 64 := by omega
      subst this
      have e1 := addS_all a b (by exact ha) (by exact hb)
      exact ⟨ret_int (by rw [← hm.out, ← hc.out, e1]), rfl⟩
set_option maxHeartbeats 1000000 in
theorem times_v (a b c : Nat) (w : World) (ha : a < 18446744073709551616) (hb : b < 18446744073709551616) (hc : Hid (a * b % 18446744073709551616 = c)) : Calls Try.prog 61 #[.int .u64 a, .int .u64 b] w fun e w' => e = .returned (.int .u64 c) ∧ w = w' := by
  go_enter Try.func61, Try.ntmps61
  go_wp2
  go_loop [5, 6] (fun n i => ∃ k m : Nat, k ≤ 64 ∧ m < 18446744073709551616 ∧ i = .int .i64 k ∧ n = .int .u64 m ∧ Hid (timesS a b k = m)) (fun _ i => 64 - (intOf i).toNat)
  case atStart => exact ⟨0, 0, by omega, by omega, rfl, rfl, Lib.hid (by rw [timesS_zero])⟩
  case round =>
    obtain ⟨k, m, hk, hml, rfl, rfl, hm⟩ := hrel
    by_cases hlt : k < 64
    · obtain ⟨x, hx⟩ : ∃ x, a * 2 ^ k % 18446744073709551616 = x := ⟨_, rfl⟩
      have hxl : x < 18446744073709551616 := by rw [← hx]; exact Nat.mod_lt _ (by decide)
      have hsh := shl_any a k
      rw [hx] at hsh
      have hxH := Lib.hid hx
      clear hx
      by_cases h1 : b / 2 ^ k % 2 = 1
      · have h1H := Lib.hid h1
        clear h1
        obtain ⟨y, hy⟩ : ∃ y, Hid ((m + x) % 18446744073709551616 = y) := ⟨_, Lib.hid rfl⟩
        have hyl : y < 18446744073709551616 := by rw [← hy.out]; exact Nat.mod_lt _ (by decide)
        go_wp2_with (first | (go_at_call 65; refine (bit_v b k 1 _ hb hlt h1H).mono ?_; rintro e w' ⟨rfl, rfl⟩) | (go_at_call 60; refine (add_v m x y _ hml hxl hy).mono ?_; rintro e w' ⟨rfl, rfl⟩))
        go_round
        case rel => exact ⟨k + 1, y, by omega, hyl, by go_num, rfl, Lib.hid (by rw [timesS_one a b k h1H.out, hm.out, hxH.out, hy.out])⟩
        case measure => simp [intOf]; omega
      · have h1H : Hid (b / 2 ^ k % 2 = 0) := Lib.hid (by omega)
        clear h1
        go_wp2_with (first | (go_at_call 65; refine (bit_v b k 0 _ hb hlt h1H).mono ?_; rintro e w' ⟨rfl, rfl⟩))
        go_round
        case rel => exact ⟨k + 1, m, by omega, hml, by go_num, rfl, Lib.hid (by rw [timesS_none a b k h1H.out, hm.out])⟩
        case measure => simp [intOf]; omega
    · go_wp2
      go_ret
      have : k = 64 := by omega
      subst this
      have e1 := timesS_all a b (by exact hb)
      exact ⟨ret_int (by rw [← hm.out, ← hc.out, e1]), rfl⟩
set_option maxHeartbeats 1000000 in
theorem long_v (a b q r : Nat) (w : World) (ha : a ≤ 9223372036854775808) (hb0 : 0 < b) (hb : b ≤ 9223372036854775808) (hq : Hid (a / b = q)) (hr : Hid (a % b = r)) : Calls Try.prog 62 #[.int .u64 a, .int .u64 b] w fun e w' => e = .returned (.tuple #[.int .u64 q, .int .u64 r]) ∧ w = w' := by
  go_enter Try.func62, Try.ntmps62
  go_wp2
  go_loop [6, 7, 8] (fun q r i => ∃ k x y : Nat, k ≤ 64 ∧ y < 9223372036854775808 ∧ i = .int .i64 ((k : Int) - 1) ∧ q = .int .u64 x ∧ r = .int .u64 y ∧ Hid (longQ a b k = x) ∧ Hid (longR a b k = y)) (fun _ _ i => (intOf i + 1).toNat)
  case atStart =>
    obtain ⟨e1, e2⟩ := long_end a b (by omega)
    exact ⟨64, 0, 0, by omega, by omega, rfl, rfl, rfl, Lib.hid e2, Lib.hid e1⟩
  case round =>
    obtain ⟨k0, x, y, hk, hyl, rfl, rfl, rfl, hx, hy⟩ := hrel
    by_cases hlt : 0 < k0
    · obtain ⟨k, rfl⟩ : ∃ k, k0 = k + 1 := ⟨k0 - 1, by omega⟩
      have hk1 : ((k + 1 : Nat) : Int) - 1 = (k : Int) := by omega
      rw [hk1]
      obtain ⟨p, hp⟩ : ∃ p, Hid (a / 2 ^ k % 2 = p) := ⟨_, Lib.hid rfl⟩
      have hp1 : p ≤ 1 := by have := hp.out; omega
      clear hk1
      have hor : Go.bits .or .u64 ((y : Int) * 2) (p : Int) = (y : Int) * 2 + p := by
        have h := bits_u64_or (p * 2 ^ 0) (y * 2 ^ 1) (by omega) (by omega)
        have h2 := bits_u64_or (y * 2 ^ 1) p (by omega) (by omega)
        rw [Nat.or_comm, or_add p 1 y (by omega)] at h2
        have e : ((y * 2 ^ 1 : Nat) : Int) = (y : Int) * 2 := by omega
        rw [e] at h2
        rw [h2]
        omega
      have hyb : y < b := by rw [← hy.out]; exact longR_lt _ _ _ hb0
      have hd : ((y : Int) / 9223372036854775808 == 1) = false := by simp; omega
      have hdn : ¬ (y : Int) / 9223372036854775808 = 1 := by omega
      have hxa : x ≤ a := by rw [← hx.out]; exact longQ_le _ _ _
      have hqo : Go.bits .or .u64 (x : Int) (IntKind.u64.wrap (2 ^ k)) = ((x + 2 ^ k : Nat) : Int) := by
        have hp := pow_lt k (by omega)
        have hp0 := Nat.two_pow_pos k
        have e : (2 : Int) ^ k = ((1 : Nat) : Int) * 2 ^ k := by simp
        rw [e, shl_lt 1 k (by omega), Nat.one_mul, bits_u64_or _ _ (by omega) (by omega), ← hx.out, longQ_or]
      obtain ⟨z, hz⟩ : ∃ z, x + 2 ^ k = z := ⟨_, rfl⟩
      rw [hz] at hqo
      have hzH := Lib.hid hz
      clear hz
      by_cases hc : b ≤ 2 * y + p
      · obtain ⟨e1, e2⟩ := long_hi a b k hb0 (by rw [hy.out, hp.out]; exact hc)
        rw [hy.out, hp.out] at e1
        rw [hx.out, hzH.out] at e2
        have E1 := Lib.hid e1
        have E2 := Lib.hid e2
        have hcI : (b : Int) ≤ (y : Int) * 2 + p := by omega
        clear e1 e2
        go_wp2_with (first | (go_at_call 65; refine (bit_v a k p _ (by omega) (by omega) hp).mono ?_; rintro e w' ⟨rfl, rfl⟩))
        go_round
        case rel => exact ⟨k, z, 2 * y + p - b, by omega, by omega, rfl, rfl, val_int (by omega), E2, E1⟩
        case measure => simp [intOf] <;> omega
      · obtain ⟨e1, e2⟩ := long_lo a b k hb0 (by rw [hy.out, hp.out]; omega)
        rw [hy.out, hp.out] at e1
        rw [hx.out] at e2
        have E1 := Lib.hid e1
        have E2 := Lib.hid e2
        have hcI : (y : Int) * 2 + p < (b : Int) := by omega
        clear e1 e2 hqo
        go_wp2_with (first | (go_at_call 65; refine (bit_v a k p _ (by omega) (by omega) hp).mono ?_; rintro e w' ⟨rfl, rfl⟩))
        go_round
        case rel => exact ⟨k, x, 2 * y + p, by omega, by omega, rfl, rfl, val_int (by omega), E2, E1⟩
        case measure => simp [intOf] <;> omega
    · obtain rfl : k0 = 0 := by omega
      go_wp2
      go_ret2
      obtain ⟨e1, e2⟩ := long_all a b
      have h1 : (x : Int) = q := by rw [← hx.out, ← hq.out, e2]
      have h2 : (y : Int) = r := by rw [← hy.out, ← hr.out, e1]
      exact ⟨by rw [h1, h2]; rfl, rfl⟩
theorem size_v (a : Int) (w : World) (h1 : -9223372036854775808 ≤ a) (h2 : a ≤ 9223372036854775807) : Calls Try.prog 63 #[.int .i64 a] w fun e w' => e = .returned (.int .u64 a.natAbs) ∧ w = w' := by
  by_cases h0 : a < 0
  · obtain ⟨x, hx⟩ : ∃ x : Nat, IntKind.u64.wrap a = (x : Int) := ⟨(a % 18446744073709551616).toNat, by simp [IntKind.wrap, IntKind.bits, IntKind.signed]; omega⟩
    have hx2 : (x : Int) = a % 18446744073709551616 := by rw [← hx]; simp [IntKind.wrap, IntKind.bits, IntKind.signed]
    have hn := not_u64 x (by omega)
    obtain ⟨z, hz⟩ : ∃ z, 18446744073709551616 - 1 - x = z := ⟨_, rfl⟩
    rw [hz] at hn
    have hzl : z < 18446744073709551616 := by omega
    have hzc : Hid ((z + 1) % 18446744073709551616 = a.natAbs) := Lib.hid (by omega)
    have hsg : IntKind.u64.signed = false := rfl
    clear hz hx2
    go_enter Try.func63, Try.ntmps63
    go_wp2_with ((go_at_call 60; refine (add_v z 1 a.natAbs _ hzl (by omega) hzc).mono ?_; rintro e w' ⟨rfl, rfl⟩))
    go_ret
    exact ⟨rfl, rfl⟩
  · go_enter Try.func63, Try.ntmps63
    go_wp2_with fail
    go_ret
    exact ⟨ret_int (by omega), rfl⟩
theorem signed_yes (n : Nat) (v : Int) (w : World) (hn : n ≤ 9223372036854775808) (hv : Hid (wrap64 (-(n : Int)) = v)) : Calls Try.prog 64 #[.int .u64 n, .bool true] w fun e w' => e = .returned (.int .i64 v) ∧ w = w' := by
  have hx := not_u64 n (by omega)
  obtain ⟨z, hz⟩ : ∃ z, 18446744073709551616 - 1 - n = z := ⟨_, rfl⟩
  rw [hz] at hx
  have hzl : z < 18446744073709551616 := by omega
  obtain ⟨c, hc⟩ : ∃ c, Hid ((z + 1) % 18446744073709551616 = c) := ⟨_, Lib.hid rfl⟩
  have hvc : Hid (wrap64 (c : Int) = v) := Lib.hid (by rw [← hv.out]; apply wrap64_congr; have := hc.out; omega)
  have hsg : IntKind.u64.signed = false := rfl
  clear hz
  go_enter Try.func64, Try.ntmps64
  go_wp2_with ((go_at_call 60; refine (add_v z 1 c _ hzl (by omega) hc).mono ?_; rintro e w' ⟨rfl, rfl⟩))
  go_ret
  exact ⟨ret_int hvc.out, rfl⟩
theorem signed_no (n : Nat) (v : Int) (w : World) (hn : n ≤ 9223372036854775808) (hv : Hid (wrap64 (n : Int) = v)) : Calls Try.prog 64 #[.int .u64 n, .bool false] w fun e w' => e = .returned (.int .i64 v) ∧ w = w' := by
  go_enter Try.func64, Try.ntmps64
  go_wp2_with fail
  go_ret
  exact ⟨ret_int hv.out, rfl⟩
theorem signed_v (n : Nat) (b : Bool) (v : Int) (w : World) (hn : n ≤ 9223372036854775808) (hv : Hid (wrap64 (if b then -(n : Int) else n) = v)) : Calls Try.prog 64 #[.int .u64 n, .bool b] w fun e w' => e = .returned (.int .i64 v) ∧ w = w' := by
  cases b
  · exact signed_no n v w hn hv
  · exact signed_yes n v w hn hv
theorem u64_of (a : Int) : ∃ x : Nat, IntKind.u64.wrap a = (x : Int) ∧ (x : Int) = a % 18446744073709551616 ∧ x < 18446744073709551616 :=
  ⟨(a % 18446744073709551616).toNat, by simp [IntKind.wrap, IntKind.bits, IntKind.signed]; omega, by omega, by omega⟩
theorem rdo_add (a b v : Int) (w : World) (hv : Hid (wrap64 (a + b) = v)) : Calls Try.prog 53 #[.int .i64 3, .int .i64 a, .int .i64 b] w fun e w' => e = .returned (.tuple #[.int .i64 v, .int .i64 0]) ∧ w = w' := by
  obtain ⟨x, hx, hxa, hxl⟩ := u64_of a
  obtain ⟨y, hy, hyb, hyl⟩ := u64_of b
  obtain ⟨c, hc⟩ : ∃ c, Hid ((x + y) % 18446744073709551616 = c) := ⟨_, Lib.hid rfl⟩
  have hvc : Hid (wrap64 (c : Int) = v) := Lib.hid (by rw [← hv.out]; apply wrap64_congr; have := hc.out; omega)
  clear hxa hyb
  go_enter Try.func53, Try.ntmps53
  go_wp2_with ((go_at_call 60; refine (add_v x y c _ hxl hyl hc).mono ?_; rintro e w' ⟨rfl, rfl⟩))
  go_ret2
  exact ⟨by rw [hvc.out]; rfl, rfl⟩
theorem rdo_sub (a b v : Int) (w : World) (hv : Hid (wrap64 (a - b) = v)) : Calls Try.prog 53 #[.int .i64 4, .int .i64 a, .int .i64 b] w fun e w' => e = .returned (.tuple #[.int .i64 v, .int .i64 0]) ∧ w = w' := by
  obtain ⟨x, hx, hxa, hxl⟩ := u64_of a
  obtain ⟨y, hy, hyb, hyl⟩ := u64_of b
  have hny := not_u64 y (by omega)
  obtain ⟨z, hz⟩ : ∃ z, 18446744073709551616 - 1 - y = z := ⟨_, rfl⟩
  rw [hz] at hny
  have hzl : z < 18446744073709551616 := by omega
  obtain ⟨c, hc⟩ : ∃ c, Hid ((x + z) % 18446744073709551616 = c) := ⟨_, Lib.hid rfl⟩
  have hcl : c < 18446744073709551616 := by have := hc.out; omega
  obtain ⟨d, hd⟩ : ∃ d, Hid ((c + 1) % 18446744073709551616 = d) := ⟨_, Lib.hid rfl⟩
  have hvc : Hid (wrap64 (d : Int) = v) := Lib.hid (by rw [← hv.out]; apply wrap64_congr; have := hc.out; have := hd.out; omega)
  have hsg : IntKind.u64.signed = false := rfl
  clear hxa hyb hz
  go_enter Try.func53, Try.ntmps53
  go_wp2_with fail
  refine (add_v x z c _ hxl hzl hc).mono ?_
  rintro e w' ⟨rfl, rfl⟩
  go_wp2_with fail
  refine (add_v c 1 d _ hcl (by omega) hd).mono ?_
  rintro e w' ⟨rfl, rfl⟩
  go_wp2_with fail
  go_ret2
  exact ⟨by rw [hvc.out]; rfl, rfl⟩
theorem rdo_mul (a b v : Int) (w : World) (hv : Hid (wrap64 (a * b) = v)) : Calls Try.prog 53 #[.int .i64 5, .int .i64 a, .int .i64 b] w fun e w' => e = .returned (.tuple #[.int .i64 v, .int .i64 0]) ∧ w = w' := by
  obtain ⟨x, hx, hxa, hxl⟩ := u64_of a
  obtain ⟨y, hy, hyb, hyl⟩ := u64_of b
  obtain ⟨c, hc⟩ : ∃ c, Hid (x * y % 18446744073709551616 = c) := ⟨_, Lib.hid rfl⟩
  have hvc : Hid (wrap64 (c : Int) = v) := Lib.hid (by rw [← hv.out, ← hc.out, mul_back x y a b hxa hyb])
  clear hxa hyb
  go_enter Try.func53, Try.ntmps53
  go_wp2_with ((go_at_call 61; refine (times_v x y c _ hxl hyl hc).mono ?_; rintro e w' ⟨rfl, rfl⟩))
  go_ret2
  exact ⟨by rw [hvc.out]; rfl, rfl⟩
theorem rdo_none (op a : Int) (w : World) (h : op = 6 ∨ op = 7) : Calls Try.prog 53 #[.int .i64 op, .int .i64 a, .int .i64 0] w fun e w' => e = .returned (.tuple #[.int .i64 0, .int .i64 1]) ∧ w = w' := by
  rcases h with rfl | rfl
  · go_enter Try.func53, Try.ntmps53
    go_wp2_with fail
    go_ret2
    exact ⟨rfl, rfl⟩
  · go_enter Try.func53, Try.ntmps53
    go_wp2_with fail
    go_ret2
    exact ⟨rfl, rfl⟩
theorem rdo_div (a b v : Int) (w : World) (ha1 : -9223372036854775808 ≤ a) (ha2 : a ≤ 9223372036854775807) (hb1 : -9223372036854775808 ≤ b) (hb2 : b ≤ 9223372036854775807) (h0 : ¬ b = 0) (hv : Hid (wrap64 (a.tdiv b) = v)) : Calls Try.prog 53 #[.int .i64 6, .int .i64 a, .int .i64 b] w fun e w' => e = .returned (.tuple #[.int .i64 v, .int .i64 0]) ∧ w = w' := by
  obtain ⟨q, hq⟩ : ∃ q, Hid (a.natAbs / b.natAbs = q) := ⟨_, Lib.hid rfl⟩
  obtain ⟨r, hr⟩ : ∃ r, Hid (a.natAbs % b.natAbs = r) := ⟨_, Lib.hid rfl⟩
  have hql : q ≤ 9223372036854775808 := by rw [← hq.out]; exact Nat.le_trans (Nat.div_le_self _ _) (by omega)
  have hvs : Hid (wrap64 (if (!(decide (a < 0) == decide (b < 0))) then -(q : Int) else q) = v) := Lib.hid (by
    rw [← hv.out, ← hq.out]
    by_cases hs : (decide (a < 0) != decide (b < 0)) = true
    · rw [← quo_other a b hs, if_pos (show (!(decide (a < 0) == decide (b < 0))) = true from hs)]
    · rw [← quo_same a b (by simpa using hs), if_neg (show ¬ (!(decide (a < 0) == decide (b < 0))) = true from hs)])
  have hz : (b == 0) = false := by simpa using h0
  have hb0 : 0 < b.natAbs := by omega
  go_enter Try.func53, Try.ntmps53
  go_wp2_with fail
  refine (size_v a _ ha1 ha2).mono ?_
  rintro e w' ⟨rfl, rfl⟩
  go_wp2_with fail
  refine (size_v b _ hb1 hb2).mono ?_
  rintro e w' ⟨rfl, rfl⟩
  go_wp2_with fail
  refine (long_v a.natAbs b.natAbs q r _ (by omega) hb0 (by omega) hq hr).mono ?_
  rintro e w' ⟨rfl, rfl⟩
  go_wp2_with fail
  refine (signed_v q _ v _ hql hvs).mono ?_
  rintro e w' ⟨rfl, rfl⟩
  go_wp2_with fail
  go_ret2
  exact ⟨rfl, rfl⟩
theorem rdo_mod (a b v : Int) (w : World) (ha1 : -9223372036854775808 ≤ a) (ha2 : a ≤ 9223372036854775807) (hb1 : -9223372036854775808 ≤ b) (hb2 : b ≤ 9223372036854775807) (h0 : ¬ b = 0) (hv : Hid (a.tmod b = v)) : Calls Try.prog 53 #[.int .i64 7, .int .i64 a, .int .i64 b] w fun e w' => e = .returned (.tuple #[.int .i64 v, .int .i64 0]) ∧ w = w' := by
  obtain ⟨q, hq⟩ : ∃ q, Hid (a.natAbs / b.natAbs = q) := ⟨_, Lib.hid rfl⟩
  obtain ⟨r, hr⟩ : ∃ r, Hid (a.natAbs % b.natAbs = r) := ⟨_, Lib.hid rfl⟩
  have hrl : r ≤ 9223372036854775808 := by rw [← hr.out]; exact Nat.le_trans (Nat.mod_le _ _) (by omega)
  have hrb : r < b.natAbs := by rw [← hr.out]; exact Nat.mod_lt _ (by omega)
  have hvs : Hid (wrap64 (if decide (a < 0) then -(r : Int) else r) = v) := Lib.hid (by
    rw [← hv.out]
    by_cases hs : a < 0
    · rw [if_pos (by simpa using hs)]
      rw [← hr.out] at hrb
      rw [← rest_other a b hs, hr.out]; rw [hr.out] at hrb; unfold wrap64; omega
    · rw [if_neg (by simpa using hs)]
      rw [← rest_same a b hs, hr.out]; unfold wrap64; omega)
  have hz : (b == 0) = false := by simpa using h0
  have hb0 : 0 < b.natAbs := by omega
  go_enter Try.func53, Try.ntmps53
  go_wp2_with fail
  refine (size_v a _ ha1 ha2).mono ?_
  rintro e w' ⟨rfl, rfl⟩
  go_wp2_with fail
  refine (size_v b _ hb1 hb2).mono ?_
  rintro e w' ⟨rfl, rfl⟩
  go_wp2_with fail
  refine (long_v a.natAbs b.natAbs q r _ (by omega) hb0 (by omega) hq hr).mono ?_
  rintro e w' ⟨rfl, rfl⟩
  go_wp2_with fail
  refine (signed_v r _ v _ hrl hvs).mono ?_
  rintro e w' ⟨rfl, rfl⟩
  go_wp2_with fail
  go_ret2
  exact ⟨rfl, rfl⟩
theorem rdo_less (a b : Int) (w : World) : Calls Try.prog 53 #[.int .i64 8, .int .i64 a, .int .i64 b] w fun e w' => e = .returned (.tuple #[.int .i64 (if a < b then 1 else 0), .int .i64 0]) ∧ w = w' := by
  by_cases h : a < b
  · rw [if_pos h]
    go_enter Try.func53, Try.ntmps53
    go_wp2_with fail
    go_ret2
    exact ⟨rfl, rfl⟩
  · rw [if_neg h]
    go_enter Try.func53, Try.ntmps53
    go_wp2_with fail
    go_ret2
    exact ⟨rfl, rfl⟩
theorem rdo_same (a b : Int) (w : World) : Calls Try.prog 53 #[.int .i64 9, .int .i64 a, .int .i64 b] w fun e w' => e = .returned (.tuple #[.int .i64 (if a = b then 1 else 0), .int .i64 0]) ∧ w = w' := by
  by_cases h : a = b
  · rw [if_pos h]
    subst h
    go_enter Try.func53, Try.ntmps53
    go_wp2_with fail
    go_ret2
    exact ⟨rfl, rfl⟩
  · rw [if_neg h]
    have h2 : (a == b) = false := by simpa using h
    go_enter Try.func53, Try.ntmps53
    go_wp2_with fail
    go_ret2
    exact ⟨rfl, rfl⟩
set_option maxHeartbeats 4000000 in
theorem rdo_and (a b v : Int) (w : World) (hv : Hid (Go.bits .and .i64 a b = v)) : Calls Try.prog 53 #[.int .i64 10, .int .i64 a, .int .i64 b] w fun e w' => e = .returned (.tuple #[.int .i64 v, .int .i64 0]) ∧ w = w' := by
  obtain ⟨x, hx, hxa, hxl⟩ := u64_of a
  obtain ⟨y, hy, hyb, hyl⟩ := u64_of b
  obtain ⟨t, ht⟩ : ∃ t : Nat, Hid (x &&& y = t) := ⟨_, Lib.hid rfl⟩
  have htl : Hid (t < 18446744073709551616) := Lib.hid (by rw [← ht.out]; rw [p64_eq] at *; exact Nat.and_lt_two_pow x hyl)
  have hvt : Hid (wrap64 (t : Int) = v) := Lib.hid (by rw [← hv.out, ← ht.out, (bits_i64 x y a b hxa hyb).1])
  have HT : Hid (∀ k, t.testBit k = ((x.testBit k && y.testBit k))) := Lib.hid (fun k => by rw [← ht.out, Nat.testBit_and])
  clear hxa hyb
  go_enter Try.func53, Try.ntmps53
  go_wp2_with fail
  go_loop [10, 13] (fun n i => ∃ k m : Nat, k ≤ 64 ∧ i = .int .i64 k ∧ n = .int .u64 m ∧ Hid (t % 2 ^ k = m)) (fun _ i => 64 - (intOf i).toNat)
  case atStart => exact ⟨0, 0, by omega, rfl, rfl, Lib.hid (by simp [Nat.mod_one])⟩
  case round =>
    obtain ⟨k, m, hk, rfl, rfl, hm⟩ := hrel
    by_cases hlt : k < 64
    · have hml : m < 2 ^ k := by rw [← hm.out]; exact Nat.mod_lt _ (Nat.two_pow_pos k)
      have hor := or_bit m k hml hlt
      obtain ⟨z, hz⟩ : ∃ z, m + 2 ^ k = z := ⟨_, rfl⟩
      rw [hz] at hor
      have hzH := Lib.hid hz
      have hmH := Lib.hid hml
      clear hz hml
      obtain ⟨B1, hB1⟩ : ∃ B1, x.testBit k = B1 := ⟨_, rfl⟩
      obtain ⟨B2, hB2⟩ : ∃ B2, y.testBit k = B2 := ⟨_, rfl⟩
      have hp : Hid (x / 2 ^ k % 2 = if B1 then 1 else 0) := Lib.hid (bit_of x k B1 hB1)
      have hq : Hid (y / 2 ^ k % 2 = if B2 then 1 else 0) := Lib.hid (bit_of y k B2 hB2)
      have hs : Hid (t % 2 ^ (k + 1) = m + (if (B1 && B2) then 1 else 0) * 2 ^ k) := Lib.hid (by
        rw [low_succ t k _ (bit_of t k _ rfl), hm.out, HT.out k, hB1, hB2])
      clear hB1 hB2
      cases B1 <;> cases B2
      all_goals
        go_wp2_with fail
        refine (bit_v x k _ _ hxl hlt hp).mono ?_
        rintro e w' ⟨rfl, rfl⟩
        go_wp2_with fail
        refine (bit_v y k _ _ hyl hlt hq).mono ?_
        rintro e w' ⟨rfl, rfl⟩
        go_wp2_with fail
        go_round
        case rel => first | exact ⟨k + 1, m, by omega, by go_num, rfl, Lib.hid (by rw [hs.out]; simp)⟩ | exact ⟨k + 1, z, by omega, by go_num, rfl, Lib.hid (by rw [hs.out, ← hzH.out]; simp)⟩
        case measure => simp [intOf] <;> omega
    · go_wp2_with fail
      go_ret2
      have : k = 64 := by omega
      subst this
      have e1 : t % 2 ^ 64 = t := Nat.mod_eq_of_lt (by have := htl.out; omega)
      rw [hm.out] at e1
      subst e1
      exact ⟨by rw [← hvt.out]; rfl, rfl⟩
set_option maxHeartbeats 4000000 in
theorem rdo_or (a b v : Int) (w : World) (hv : Hid (Go.bits .or .i64 a b = v)) : Calls Try.prog 53 #[.int .i64 11, .int .i64 a, .int .i64 b] w fun e w' => e = .returned (.tuple #[.int .i64 v, .int .i64 0]) ∧ w = w' := by
  obtain ⟨x, hx, hxa, hxl⟩ := u64_of a
  obtain ⟨y, hy, hyb, hyl⟩ := u64_of b
  obtain ⟨t, ht⟩ : ∃ t : Nat, Hid (x ||| y = t) := ⟨_, Lib.hid rfl⟩
  have htl : Hid (t < 18446744073709551616) := Lib.hid (by rw [← ht.out]; rw [p64_eq] at *; exact Nat.or_lt_two_pow hxl hyl)
  have hvt : Hid (wrap64 (t : Int) = v) := Lib.hid (by rw [← hv.out, ← ht.out, (bits_i64 x y a b hxa hyb).2.1])
  have HT : Hid (∀ k, t.testBit k = ((x.testBit k || y.testBit k))) := Lib.hid (fun k => by rw [← ht.out, Nat.testBit_or])
  clear hxa hyb
  go_enter Try.func53, Try.ntmps53
  go_wp2_with fail
  go_loop [10, 13] (fun n i => ∃ k m : Nat, k ≤ 64 ∧ i = .int .i64 k ∧ n = .int .u64 m ∧ Hid (t % 2 ^ k = m)) (fun _ i => 64 - (intOf i).toNat)
  case atStart => exact ⟨0, 0, by omega, rfl, rfl, Lib.hid (by simp [Nat.mod_one])⟩
  case round =>
    obtain ⟨k, m, hk, rfl, rfl, hm⟩ := hrel
    by_cases hlt : k < 64
    · have hml : m < 2 ^ k := by rw [← hm.out]; exact Nat.mod_lt _ (Nat.two_pow_pos k)
      have hor := or_bit m k hml hlt
      obtain ⟨z, hz⟩ : ∃ z, m + 2 ^ k = z := ⟨_, rfl⟩
      rw [hz] at hor
      have hzH := Lib.hid hz
      have hmH := Lib.hid hml
      clear hz hml
      obtain ⟨B1, hB1⟩ : ∃ B1, x.testBit k = B1 := ⟨_, rfl⟩
      obtain ⟨B2, hB2⟩ : ∃ B2, y.testBit k = B2 := ⟨_, rfl⟩
      have hp : Hid (x / 2 ^ k % 2 = if B1 then 1 else 0) := Lib.hid (bit_of x k B1 hB1)
      have hq : Hid (y / 2 ^ k % 2 = if B2 then 1 else 0) := Lib.hid (bit_of y k B2 hB2)
      have hs : Hid (t % 2 ^ (k + 1) = m + (if (B1 || B2) then 1 else 0) * 2 ^ k) := Lib.hid (by
        rw [low_succ t k _ (bit_of t k _ rfl), hm.out, HT.out k, hB1, hB2])
      clear hB1 hB2
      cases B1 <;> cases B2
      all_goals
        go_wp2_with fail
        refine (bit_v x k _ _ hxl hlt hp).mono ?_
        rintro e w' ⟨rfl, rfl⟩
        go_wp2_with fail
        refine (bit_v y k _ _ hyl hlt hq).mono ?_
        rintro e w' ⟨rfl, rfl⟩
        go_wp2_with fail
        go_round
        case rel => first | exact ⟨k + 1, m, by omega, by go_num, rfl, Lib.hid (by rw [hs.out]; simp)⟩ | exact ⟨k + 1, z, by omega, by go_num, rfl, Lib.hid (by rw [hs.out, ← hzH.out]; simp)⟩
        case measure => simp [intOf] <;> omega
    · go_wp2_with fail
      go_ret2
      have : k = 64 := by omega
      subst this
      have e1 : t % 2 ^ 64 = t := Nat.mod_eq_of_lt (by have := htl.out; omega)
      rw [hm.out] at e1
      subst e1
      exact ⟨by rw [← hvt.out]; rfl, rfl⟩
set_option maxHeartbeats 4000000 in
theorem rdo_xor (a b v : Int) (w : World) (hv : Hid (Go.bits .xor .i64 a b = v)) : Calls Try.prog 53 #[.int .i64 12, .int .i64 a, .int .i64 b] w fun e w' => e = .returned (.tuple #[.int .i64 v, .int .i64 0]) ∧ w = w' := by
  obtain ⟨x, hx, hxa, hxl⟩ := u64_of a
  obtain ⟨y, hy, hyb, hyl⟩ := u64_of b
  obtain ⟨t, ht⟩ : ∃ t : Nat, Hid (x ^^^ y = t) := ⟨_, Lib.hid rfl⟩
  have htl : Hid (t < 18446744073709551616) := Lib.hid (by rw [← ht.out]; rw [p64_eq] at *; exact Nat.xor_lt_two_pow hxl hyl)
  have hvt : Hid (wrap64 (t : Int) = v) := Lib.hid (by rw [← hv.out, ← ht.out, (bits_i64 x y a b hxa hyb).2.2])
  have HT : Hid (∀ k, t.testBit k = ((x.testBit k ^^ y.testBit k))) := Lib.hid (fun k => by rw [← ht.out, Nat.testBit_xor])
  clear hxa hyb
  go_enter Try.func53, Try.ntmps53
  go_wp2_with fail
  go_loop [10, 13] (fun n i => ∃ k m : Nat, k ≤ 64 ∧ i = .int .i64 k ∧ n = .int .u64 m ∧ Hid (t % 2 ^ k = m)) (fun _ i => 64 - (intOf i).toNat)
  case atStart => exact ⟨0, 0, by omega, rfl, rfl, Lib.hid (by simp [Nat.mod_one])⟩
  case round =>
    obtain ⟨k, m, hk, rfl, rfl, hm⟩ := hrel
    by_cases hlt : k < 64
    · have hml : m < 2 ^ k := by rw [← hm.out]; exact Nat.mod_lt _ (Nat.two_pow_pos k)
      have hor := or_bit m k hml hlt
      obtain ⟨z, hz⟩ : ∃ z, m + 2 ^ k = z := ⟨_, rfl⟩
      rw [hz] at hor
      have hzH := Lib.hid hz
      have hmH := Lib.hid hml
      clear hz hml
      obtain ⟨B1, hB1⟩ : ∃ B1, x.testBit k = B1 := ⟨_, rfl⟩
      obtain ⟨B2, hB2⟩ : ∃ B2, y.testBit k = B2 := ⟨_, rfl⟩
      have hp : Hid (x / 2 ^ k % 2 = if B1 then 1 else 0) := Lib.hid (bit_of x k B1 hB1)
      have hq : Hid (y / 2 ^ k % 2 = if B2 then 1 else 0) := Lib.hid (bit_of y k B2 hB2)
      have hs : Hid (t % 2 ^ (k + 1) = m + (if (B1 ^^ B2) then 1 else 0) * 2 ^ k) := Lib.hid (by
        rw [low_succ t k _ (bit_of t k _ rfl), hm.out, HT.out k, hB1, hB2])
      clear hB1 hB2
      cases B1 <;> cases B2
      all_goals
        go_wp2_with fail
        refine (bit_v x k _ _ hxl hlt hp).mono ?_
        rintro e w' ⟨rfl, rfl⟩
        go_wp2_with fail
        refine (bit_v y k _ _ hyl hlt hq).mono ?_
        rintro e w' ⟨rfl, rfl⟩
        go_wp2_with fail
        go_round
        case rel => first | exact ⟨k + 1, m, by omega, by go_num, rfl, Lib.hid (by rw [hs.out]; simp)⟩ | exact ⟨k + 1, z, by omega, by go_num, rfl, Lib.hid (by rw [hs.out, ← hzH.out]; simp)⟩
        case measure => simp [intOf] <;> omega
    · go_wp2_with fail
      go_ret2
      have : k = 64 := by omega
      subst this
      have e1 : t % 2 ^ 64 = t := Nat.mod_eq_of_lt (by have := htl.out; omega)
      rw [hm.out] at e1
      subst e1
      exact ⟨by rw [← hvt.out]; rfl, rfl⟩
end Go.Proofs.Ytpcpohbbmeonbaa.ref01
