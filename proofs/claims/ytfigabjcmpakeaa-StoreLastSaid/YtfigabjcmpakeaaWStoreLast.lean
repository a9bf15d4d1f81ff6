/- A word is what was stored there last: the law StoreLast answers true. No condition. -/
import Derived.Test.YtfigabjcmpakeaaStoreJ
import Derived.Test.YtfigabjcmpakeaaGrids
import Derived.Deep.RegionHeld3
namespace Go.Proofs.Ytfigabjcmpakeaa.storeLast
open Go.ChangeShapes Go.WideShapes Go.ChangeAt Go.RowKit
set_option linter.unusedVariables false
def stores (n : Nat) (Z : Nat → Nat → Int) : Nat → List Int
  | 0 => List.replicate n 0
  | k + 1 => if 0 ≤ Z k 0 ∧ Z k 0 < n then (stores n Z k).set (Z k 0).toNat (Z k 1) else stores n Z k
def want (Z : Nat → Nat → Int) (q : Nat) : Nat → Int
  | 0 => 0
  | k + 1 => if Z k 0 = q then Z k 1 else want Z q k
theorem stores_len (n : Nat) (Z : Nat → Nat → Int) : ∀ k, (stores n Z k).length = n
  | 0 => by unfold stores; rw [List.length_replicate]
  | k + 1 => by unfold stores; split; rw [List.length_set]; exact stores_len n Z k; exact stores_len n Z k
theorem stores_get (n : Nat) (Z : Nat → Nat → Int) (q : Nat) (hq : q < n) : ∀ k, (stores n Z k).getD q 0 = want Z q k
  | 0 => by unfold stores want; simp [hq]
  | k + 1 => by
    have ih := stores_get n Z q hq k
    have hl := stores_len n Z k
    unfold stores want
    by_cases h : 0 ≤ Z k 0 ∧ Z k 0 < n
    · rw [if_pos h]
      by_cases h2 : Z k 0 = q
      · rw [if_pos h2, h2, Int.toNat_natCast, List.getD_eq_getElem?_getD, List.getElem?_set_self (by omega)]
        rfl
      · rw [if_neg h2, List.getD_eq_getElem?_getD, List.getElem?_set_ne (by omega), ← List.getD_eq_getElem?_getD]
        exact ih
    · rw [if_neg h, if_neg (by omega)]
      exact ih
theorem big (y : Option Addr) (len2 cap2 : Nat) (a0 : Int) (w : World) (h : 500 < len2) :
    Calls Try.prog 5 #[.int .u8 a0, .slice y len2 cap2] w fun e w' => e = .returned (.bool true) ∧ Below w.heap.size w w' := by
  go_enter Try.func5, Try.ntmps5
  go_wp2_with (first | (go_at_call 15; refine (works09 _).mono ?_; rintro e w' ⟨rfl, hb1⟩))
  go_ret
  exact ⟨rfl, hb1⟩
def OpFact (x : Option Addr) (len : Nat) (w : World) (Z : Nat → Nat → Int) : Prop := ∀ i, i < len → ∃ b off, x = some ⟨b, off, none⟩ ∧ b < w.heap.size ∧ w.cell? ⟨b, off + i * 2, none⟩ = some (.int .i64 (Z i 0)) ∧ w.cell? ⟨b, off + i * 2 + 1, none⟩ = some (.int .i64 (Z i 1))
theorem L.step_in {w0 w : World} {S g n j : Nat} {a : Option Addr} {z0 : List Int} {Z : Nat → Nat → Int} {A V : Int} {q : Nat} (h : L w0 w S g a ((stores n Z j).set q V) z0) (hA : Hid (Z j 0 = q)) (hV : Hid (Z j 1 = V)) (hq : q < n) : L w0 w S g a (stores n Z (j + 1)) z0 := by
  have e : stores n Z (j + 1) = (stores n Z j).set q V := by
    show (if 0 ≤ Z j 0 ∧ Z j 0 < n then (stores n Z j).set (Z j 0).toNat (Z j 1) else stores n Z j) = _
    rw [hA.out, hV.out, if_pos ⟨by omega, by omega⟩, Int.toNat_natCast]
  rw [e]
  exact h
theorem L.step_out {w0 w : World} {S g n j : Nat} {a : Option Addr} {z0 : List Int} {Z : Nat → Nat → Int} {A : Int} (h : L w0 w S g a (stores n Z j) z0) (hA : Hid (Z j 0 = A)) (hq : Hid (A < 0 ∨ (n : Int) ≤ A)) : L w0 w S g a (stores n Z (j + 1)) z0 := by
  have e : stores n Z (j + 1) = stores n Z j := by
    show (if 0 ≤ Z j 0 ∧ Z j 0 < n then (stores n Z j).set (Z j 0).toNat (Z j 1) else stores n Z j) = _
    have h1 := hA.out
    have h2 := hq.out
    rw [if_neg (by omega)]
  rw [e]
  exact h
set_option maxHeartbeats 4000000 in
set_option maxRecDepth 20000 in
theorem small (y : Option Addr) (len2 cap2 n : Nat) (Z : Nat → Nat → Int) (w : World) (hn : n ≤ 255) (h2 : len2 ≤ 500) (hy : Hid (OpFact y len2 w Z)) :
    Calls Try.prog 5 #[.int .u8 n, .slice y len2 cap2] w fun e w' => e = .returned (.bool true) ∧ Below w.heap.size w w' := by
  have hwn : IntKind.i64.wrap (n : Int) = n := by rw [IntKind.wrap_i64]; omega
  have h500 : ¬ (500 : Int) < (len2 : Int) := by omega
  go_enter Try.func5, Try.ntmps5
  go_wp2_with (first | (go_at_call 15; refine (works09 _).mono ?_; rintro e w1 ⟨rfl, hb1⟩))
  refine (new_j n w _ hb1 (by omega)).mono ?_
  rintro e w2 ⟨S, g, rfl, hj0⟩
  clear hb1
  go_wp2_with fail
  refine (all_l S g n _ w _ hj0 (Lib.hid (by rw [List.length_replicate])) (by omega)).mono ?_
  rintro e w3 ⟨a, cap, rfl, hl0⟩
  replace hl0 : L w w3 S g a (stores n Z 0) (List.replicate n 0) := hl0
  have hwas : Hid (∀ i, i < n → (List.replicate n (0 : Int)).getD i 0 = 0) := Lib.hid (fun i hi => by simp [hi])
  have hwl : Hid ((List.replicate n (0 : Int)).length = n) := Lib.hid (by rw [List.length_replicate])
  generalize List.replicate n (0 : Int) = z0 at hl0 hwas hwl
  clear hj0
  go_wp2_with fail
  go_loopw [7] (fun i wr => ∃ (j : Nat), j ≤ len2 ∧ i = .int .i64 j ∧ L w wr S g a (stores n Z j) z0) (fun i _ => len2 - (intOf i).toNat)
  case atStart => exact ⟨0, Nat.zero_le _, rfl, hl0⟩
  case round =>
    clear hl0
    obtain ⟨j, hj, rfl, hl0⟩ := hrel
    by_cases hlt : j < len2
    · obtain ⟨b, off, rfl, hb, hz0, hz1⟩ := hy.out j hlt
      have hl : Hid ((stores n Z j).length = n) := Lib.hid (stores_len n Z j)
      generalize hA : Z j 0 = A at hz0
      generalize hV : Z j 1 = V at hz1
      have HA := Lib.hid hA
      have HV := Lib.hid hV
      clear hA hV
      have hz0' : wr.cell? ⟨b, off + j * 2, none⟩ = some (.int .i64 A) := (hl0.1.2.1.cell (p := ⟨b, off + j * 2, none⟩) hb).trans hz0
      have hz1' : wr.cell? ⟨b, off + j * 2 + 1, none⟩ = some (.int .i64 V) := (hl0.1.2.1.cell (p := ⟨b, off + j * 2 + 1, none⟩) hb).trans hz1
      have hdr : L w wr.drew S g a (stores n Z j) z0 := ⟨hl0.1.below (by go_grown), fun i hi => hl0.2 i hi⟩
      by_cases hin : 0 ≤ A ∧ A < n
      · obtain ⟨q, rfl⟩ := Int.eq_ofNat_of_zero_le hin.1
        have hq : q < n := by omega
        have hq' : (q : Int) < (n : Int) := by omega
        clear hin
        go_wp2_with fail
        go_region_held3 (fun w' => w'.cell? ⟨b, off + j * 2, none⟩ = some (.int .i64 (q : Int)) ∧ w'.cell? ⟨b, off + j * 2 + 1, none⟩ = some (.int .i64 V)) (first | (with_reducible assumption) | exact ⟨hz0', hz1'⟩ | exact ⟨(h3.1.2.1.cell (p := ⟨b, off + j * 2, none⟩) hb).trans hz0, (h3.1.2.1.cell (p := ⟨b, off + j * 2 + 1, none⟩) hb).trans hz1⟩) (first | (go_at_call 25; refine (store_l S g n q V a _ z0 w _ hdr hl hq (by omega)).mono ?_; rintro e wx ⟨rfl, h3⟩))
        all_goals
          go_wp2_with fail
          go_roundw
          case rel => exact ⟨j + 1, by omega, by go_num, L.step_in (A := 0) h3 HA HV hq⟩
          case measure => simp [intOf]; omega
      · have hout : Hid (A < 0 ∨ (n : Int) ≤ A) := Lib.hid (by omega)
        by_cases hA0 : A < 0
        · have hA3 : ¬ (0 : Int) ≤ A := by omega
          have hA4 : decide ((0 : Int) ≤ A) = false := by simpa using hA3
          have hA5 : decide (A ≥ 0) = false := by simpa using hA3
          clear hin hA0
          go_wp2_with fail
          go_quiet ((first | (go_at_call 25; exact quiet_eq (store_out S g _ A V _ (hl0.1.1.below (below_drewN (Below.refl _ _) _)) (by rw [hl.out]; exact hout.out)))))
          all_goals
            go_wp2_with fail
            go_roundw
            case rel => exact ⟨j + 1, by omega, by go_num, L.step_out ⟨hl0.1.below (below_drewN (Below.refl _ _) _), fun i hi => hl0.2 i hi⟩ HA hout⟩
            case measure => simp [intOf]; omega
        · have hA1 : (n : Int) ≤ A := by omega
          have hA2 : 0 ≤ A := by omega
          clear hin
          go_wp2_with fail
          go_quiet ((first | (go_at_call 25; exact quiet_eq (store_out S g _ A V _ (hl0.1.1.below (below_drewN (Below.refl _ _) _)) (by rw [hl.out]; exact hout.out)))))
          all_goals
            go_wp2_with fail
            go_roundw
            case rel => exact ⟨j + 1, by omega, by go_num, L.step_out ⟨hl0.1.below (below_drewN (Below.refl _ _) _), fun i hi => hl0.2 i hi⟩ HA hout⟩
            case measure => simp [intOf]; omega
    · obtain rfl : j = len2 := by omega
      go_wp2_with fail
      go_loopw [8] (fun i wr => ∃ (q : Nat), q ≤ n ∧ i = .int .i64 q ∧ L w wr S g a (stores n Z j) z0) (fun i _ => n - (intOf i).toNat)
      case atStart => exact ⟨0, Nat.zero_le _, rfl, hl0⟩
      case round =>
        clear hl0
        obtain ⟨q, hq, rfl, hl0⟩ := hrel
        by_cases hlq : q < n
        · go_wp2_with fail
          go_loopw [9, 10] (fun wn i wr => ∃ m : Nat, m ≤ j ∧ wn = .int .i64 (want Z q m) ∧ i = .int .i64 m ∧ L w wr S g a (stores n Z j) z0) (fun _ i _ => j - (intOf i).toNat)
          case atStart => exact ⟨0, Nat.zero_le _, rfl, rfl, hl0⟩
          case round =>
            clear hl0
            obtain ⟨m, hmj, rfl, rfl, hl0⟩ := hrel
            by_cases hlm : m < j
            · obtain ⟨b, off, rfl, hb, hz0, hz1⟩ := hy.out m hlm
              have hz0' : wr.cell? ⟨b, off + m * 2, none⟩ = some (.int .i64 (Z m 0)) := (hl0.1.2.1.cell (p := ⟨b, off + m * 2, none⟩) hb).trans hz0
              have hz1' : wr.cell? ⟨b, off + m * 2 + 1, none⟩ = some (.int .i64 (Z m 1)) := (hl0.1.2.1.cell (p := ⟨b, off + m * 2 + 1, none⟩) hb).trans hz1
              generalize hA : Z m 0 = A at hz0 hz0'
              generalize hV : Z m 1 = V at hz1 hz1'
              generalize hw0 : want Z q m = u at *
              have HW := Lib.hid (And.intro hw0 (And.intro hA hV))
              clear hw0 hA hV
              by_cases hAq : A = q
              · subst hAq
                go_wp2_with fail
                go_roundw
                case rel => exact ⟨m + 1, by omega, by congr 1; show V = if Z m 0 = q then Z m 1 else want Z q m; rw [HW.out.2.1, HW.out.2.2, if_pos rfl], by go_num, hl0⟩
                case measure => simp [intOf]; omega
              · go_wp2_with fail
                go_roundw
                case rel => exact ⟨m + 1, by omega, by congr 1; show u = if Z m 0 = q then Z m 1 else want Z q m; rw [HW.out.2.1, if_neg hAq, HW.out.1], by go_num, hl0⟩
                case measure => simp [intOf]; omega
            · obtain rfl : m = j := by omega
              obtain ⟨b2, o2, rfl, hb2, hc2⟩ := hl0.2 q (by rw [hwl.out]; exact hlq)
              rw [hwas.out q hlq] at hc2
              have HG : Hid ((stores n Z m).getD q 0 = want Z q m) := Lib.hid (stores_get n Z q hlq m)
              generalize want Z q m = u at *
              go_wp2_with (first | (go_at_call 26; refine (load_l S g n q u _ _ z0 w _ hl0 (Lib.hid (stores_len n Z m)) HG hlq (by omega)).mono ?_; rintro e wx ⟨rfl, rfl⟩))
              go_roundw
              case rel => exact ⟨q + 1, by omega, by go_num, hl0⟩
              case measure => simp [intOf]; omega
        · obtain rfl : q = n := by omega
          go_wp2_with fail
          go_ret
          exact ⟨rfl, hl0.1.2.1⟩
theorem walk (a0 : Int) (a1 : Option Addr) (len1 cap1 : Nat) (z1 : Nat → Nat → Int) (w : World) (w0 : (Lit.int .u8 a0).wf = true) (w1 : IsGrid [.i64, .i64] w a1 len1 cap1 z1) :
    Calls Try.prog 5 #[.int .u8 a0, .slice a1 len1 cap1] w fun e w' => e = .returned (.bool true) ∧ Below w.heap.size w w' := by
  have h0 := bounds_u8 w0
  obtain ⟨n, rfl⟩ := Int.eq_ofNat_of_zero_le h0.1
  by_cases h : 500 < len1
  · exact big a1 len1 cap1 n w h
  · refine small a1 len1 cap1 n z1 w (by omega) (by omega) (Lib.hid (fun i hi => ?_))
    rcases w1.split (by decide) with h1 | ⟨b, off, rfl, hlt, hle, hm, hc⟩
    · omega
    · exact ⟨b, off, rfl, hlt, (hc i (by omega) 0 _ rfl).1, (hc i (by omega) 1 _ rfl).1⟩
end Go.Proofs.Ytfigabjcmpakeaa.storeLast
