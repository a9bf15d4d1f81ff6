/- Never more than throttle: the law ThrottleMay answers true. No condition. -/
import Derived.Test.YtemboonjikccnabThrW
import Derived.Test.YtemboonjikccnabGrids
import Derived.Deep.OwnRows
namespace Go.Proofs.Ytemboonjikccnab.throttleMay
open Go.ChangeShapes Go.WideShapes Go.ChangeAt Go.RowKit
set_option linter.unusedVariables false
set_option linter.unusedSimpArgs false
def Inv (s b k : Nat) (E : Nat → Bool) : Prop := b ≤ s ∧ s - b ≤ k ∧ (∀ n, n < b → E n = true) ∧ (∀ n, s ≤ n → E n = false) ∧ (b = s ∨ E b = false)
def Mid (s b k : Nat) (E : Nat → Bool) : Prop := b < s ∧ s - b ≤ k ∧ (∀ n, n < b → E n = true) ∧ (∀ n, s ≤ n → E n = false) ∧ E b = false
theorem Inv.yes {s b k : Nat} {E : Nat → Bool} (h : Inv s b k E) (hm : (decide ((s : Int) < k) || decide ((s : Int) - k < b)) = true) : Mid (s + 1) b k E := by
  obtain ⟨h1, h2, h3, h4, h5⟩ := h
  simp at hm
  refine ⟨by omega, by omega, h3, fun n hn => h4 n (by omega), ?_⟩
  rcases h5 with h5 | h5
  · rw [h5]; exact h4 s (Nat.le_refl _)
  · exact h5
theorem Inv.no {s b k : Nat} {E : Nat → Bool} (h : Inv s b k E) (hk : 1 ≤ k) (hm : (decide ((s : Int) < k) || decide ((s : Int) - k < b)) = false) : Mid s b k E := by
  obtain ⟨h1, h2, h3, h4, h5⟩ := h
  simp at hm
  have hbs : b ≠ s := by omega
  exact ⟨by omega, h2, h3, h4, h5.resolve_left hbs⟩
def Rw (w wr : World) (H n : Nat) (E : Nat → Bool) : Prop := wr.rowIs H 4 n (fun j => .bool (E j)) ∧ Below w.heap.size w wr ∧ w.heap.size ≤ H
theorem may0 (w : World) : Calls Try.prog 27 #[.int .i64 0, .int .i64 (-5), .int .i64 0] w fun e w' => e = .returned (.bool true) ∧ w = w' := by
  go_enter Try.func27, Try.ntmps27
  go_wp2_with fail
  go_ret
  exact ⟨rfl, rfl⟩
theorem may1 (w : World) : Calls Try.prog 27 #[.int .i64 1, .int .i64 (-5), .int .i64 0] w fun e w' => e = .returned (.bool false) ∧ w = w' := by
  go_enter Try.func27, Try.ntmps27
  go_wp2_with fail
  go_ret
  exact ⟨rfl, rfl⟩
theorem big (a0 : Int) (y : Option Addr) (len cap : Nat) (w : World) (h : 300 < len) : Calls Try.prog 5 #[.int .u8 a0, .slice y len cap] w fun e w' => e = .returned (.bool true) ∧ Below w.heap.size w w' := by
  go_enter Try.func5, Try.ntmps5
  go_wp2_with (first | (go_at_call 18; refine (works20 _).mono ?_; rintro e w1 ⟨rfl, hb1⟩))
  go_ret
  exact ⟨rfl, hb1⟩
def Bytes (y : Option Addr) (len : Nat) (w : World) (z : Nat → Nat) : Prop := ∀ i, i < len → ∃ b off, y = some ⟨b, off, none⟩ ∧ b < w.heap.size ∧ w.cell? ⟨b, off + i, none⟩ = some (.int .u8 (z i)) ∧ z i ≤ 255
set_option maxHeartbeats 4000000 in
set_option maxRecDepth 20000 in
theorem core (a0 : Int) (y : Option Addr) (len cap k : Nat) (z : Nat → Nat) (w : World) (w0 : (Lit.int .u8 a0).wf = true) (hk : a0 % 64 + 1 = k) (hlen : len ≤ 300) (hy : Hid (Bytes y len w z)) :
    Calls Try.prog 5 #[.int .u8 a0, .slice y len cap] w fun e w' => e = .returned (.bool true) ∧ Below w.heap.size w w' := by
  have h0 := bounds_u8 w0
  have e0 : a0.tmod 64 = a0 % 64 := Int.tmod_eq_emod_of_nonneg h0.1
  have hk1 : 1 ≤ k ∧ k ≤ 64 := by omega
  have h300 : ¬ (300 : Int) < (len : Int) := by omega
  have hd300 : decide ((300 : Int) < (len : Int)) = false := by simp; omega
  have hmk := run_make_row' (P := Try.prog) 23 4 (.bool false) 1 Try.underlying23 (by kernel_rfl) rfl .i64 .i64 (len + 1) (by omega) (by omega)
  simp only [Int.natCast_add, Int.cast_ofNat_Int] at hmk
  go_enter Try.func5, Try.ntmps5
  go_wp2_with (first | (go_at_call 18; refine (works20 _).mono ?_; rintro e w1 ⟨rfl, hb1⟩))
  have hR : Rw w (w1.alloc (Obj.cells (madeCells #[Value.bool false] (len + 1)) 4)) w1.heap.size (len + 1) (fun _ => false) := ⟨World.rowIs_made w1 (.bool false) (len + 1) 4, btr hb1 (by go_grown), hb1.size⟩
  generalize w1.heap.size = H at *
  clear hmk hb1
  go_loopw [7, 8, 9] (fun st be i wr => ∃ (s b q : Nat) (E : Nat → Bool), st = .int .i64 s ∧ be = .int .i64 b ∧ i = .int .i64 q ∧ q ≤ len ∧ s ≤ q ∧ Inv s b k E ∧ Rw w wr H (len + 1) E) (fun _ _ i _ => len - (intOf i).toNat)
  case atStart => exact ⟨0, 0, 0, fun _ => false, rfl, rfl, rfl, Nat.zero_le _, Nat.le_refl _, ⟨Nat.le_refl _, by omega, fun n hn => by omega, fun _ _ => rfl, .inl rfl⟩, hR⟩
  case round =>
    clear hR
    obtain ⟨s, b, q, E, rfl, rfl, rfl, hq, hs, hI, hR⟩ := hrel
    by_cases hlt : q < len
    · cases hm : (decide ((s : Int) < k) || decide ((s : Int) - k < b)) with
      | true =>
        obtain ⟨s1, hs1, hs1q, hM⟩ : ∃ s1 : Nat, ((s1 : Nat) : Int) = (s : Int) + 1 ∧ s1 ≤ q + 1 ∧ Mid s1 b k E := ⟨s + 1, by push_cast; rfl, by omega, hI.yes hm⟩
        have HM := Lib.hid hm
        have hI2 := Lib.hid hI
        clear hm hI
        go_wp2_with (first | (go_at_call 27; refine (may_of s k b _ true (by omega) (by omega) (by omega) (by omega) HM).mono ?_; rintro e wx ⟨rfl, rfl⟩))
        rw [← hs1]
        have HS1 := Lib.hid hs1
        clear hs1
        go_loopw [10, 11] (fun mn n wr => ∃ (m j : Nat), mn = .int .i64 m ∧ n = .int .i64 j ∧ j ≤ s1 ∧ m + min j b ≤ j ∧ (b < j → 1 ≤ m) ∧ Rw w wr H (len + 1) E) (fun _ n _ => s1 - (intOf n).toNat)
        case atStart => exact ⟨0, 0, rfl, rfl, Nat.zero_le _, by omega, fun h => by omega, hR⟩
        case round =>
          clear hR
          obtain ⟨m, j, rfl, rfl, hj, hm1, hm2, hR⟩ := hrel
          by_cases hlj : j < s1
          · have hj301 : j < len + 1 := by omega
            cases hE : E j with
            | true =>
              have qc : wr.cell? ⟨H, j, none⟩ = some (.bool true) := (hR.1.cell hj301).trans (by simp [hE])
              have hjb : j ≠ b := by intro e; subst e; rw [hM.2.2.2.2] at hE; cases hE
              go_wp2_with fail
              go_roundw
              case rel => exact ⟨m, j + 1, rfl, by go_num, by omega, by omega, fun h => hm2 (by omega), hR⟩
              case measure => simp [intOf]; omega
            | false =>
              have qc : wr.cell? ⟨H, j, none⟩ = some (.bool false) := (hR.1.cell hj301).trans (by simp [hE])
              have hjb : b ≤ j := by
                rcases Nat.lt_or_ge j b with h | h
                · rw [hM.2.2.1 j h] at hE; cases hE
                · exact h
              go_wp2_with fail
              go_roundw
              case rel => exact ⟨m + 1, j + 1, by go_num, by go_num, by omega, by omega, fun h => by omega, hR⟩
              case measure => simp [intOf]; omega
          · obtain rfl : j = s1 := by omega
            have hmp : 1 ≤ m := hm2 hM.1
            have hmk : m ≤ k := by have := hM.2.1; have := hM.1; omega
            have hmk' : ¬ (k : Int) < (m : Int) := by omega
            have hm0 : ¬ (m : Int) = 0 := by omega
            obtain ⟨yb, off, rfl, hyb, hz, hz255⟩ := hy.out q hlt
            have hz' : wr.cell? ⟨yb, off + q, none⟩ = some (.int .u8 (z q)) := (hR.2.1.cell (p := ⟨yb, off + q, none⟩) hyb).trans hz
            have et : ((z q : Nat) : Int).tmod k = ((z q % k : Nat) : Int) := by rw [Int.tmod_eq_emod_of_nonneg (by omega)]; push_cast; rfl
            have hmod : z q % k < k := Nat.mod_lt _ (by omega)
            generalize z q % k = r at *
            generalize z q = zq at *
            have hk0 : ¬ (k : Int) = 0 := by omega
            have HZ := Lib.hid hz
            clear hz
            have hMh := Lib.hid hM
            by_cases hn0 : r < j
            · have ed : ((j : Nat) : Int) - 1 - (r : Int) = ((j - 1 - r : Nat) : Int) := by omega
              have hjr : j - 1 - r < j := by omega
              generalize hjre : j - 1 - r = d at *
              have qc := hR.1.cell (i := d) (by omega)
              have fc := hR.1.frozen d
              go_wp2_with fail
              obtain ⟨E2, hE2b, hE2a, hR2⟩ : ∃ E2 : Nat → Bool, (∀ n, n < b → E2 n = true) ∧ (∀ n, j ≤ n → E2 n = false) ∧ Rw w (wr.setCell ⟨H, d, none⟩ (.bool true)) H (len + 1) E2 := ⟨fun n => if n = d then true else E n, fun n hn => by show (if n = d then true else E n) = true; split; rfl; exact hMh.out.2.2.1 n hn, fun n hn => by show (if n = d then true else E n) = false; rw [if_neg (by omega)]; exact hMh.out.2.2.2.1 n hn, (hR.1.set d (.bool true)).congr (fun i hi => by show (if i = d then Value.bool true else Value.bool (E i)) = Value.bool (if i = d then true else E i); split <;> rfl), hR.2.1.setCell hR.2.2 _, hR.2.2⟩
              clear hR qc fc 
              go_loopw [8] (fun be wr => ∃ b2 : Nat, be = .int .i64 b2 ∧ b2 ≤ j ∧ b ≤ b2 ∧ (∀ n, n < b2 → E2 n = true) ∧ Rw w wr H (len + 1) E2) (fun be _ => j - (intOf be).toNat)
              case atStart => exact ⟨b, rfl, by have := hMh.out.1; omega, Nat.le_refl _, hE2b, hR2⟩
              case round =>
                clear hR2
                obtain ⟨b2, rfl, hb1, hb2, hb3, hR2⟩ := hrel
                by_cases hb4 : b2 < j
                · have hb5 : (b2 : Int) < (j : Int) := by omega
                  have hb6 : b2 < len + 1 := by omega
                  cases hE2 : E2 b2 with
                  | true =>
                    have qc2 : wr.cell? ⟨H, b2, none⟩ = some (.bool true) := (hR2.1.cell hb6).trans (by simp [hE2])
                    go_wp2_with fail
                    go_roundw
                    case rel =>
                      refine ⟨b2 + 1, by go_num, by omega, by omega, fun n hn => ?_, hR2⟩
                      by_cases e : n = b2
                      · subst e; exact hE2
                      · exact hb3 n (by omega)
                    case measure => simp [intOf]; omega
                  | false =>
                    have qc2 : wr.cell? ⟨H, b2, none⟩ = some (.bool false) := (hR2.1.cell hb6).trans (by simp [hE2])
                    go_wp2_with fail
                    go_roundw
                    case rel => exact ⟨j, b2, q + 1, E2, rfl, rfl, by go_num, by omega, hs1q, ⟨hb1, by have := hMh.out.2.1; omega, hb3, hE2a, .inr hE2⟩, hR2⟩
                    case measure => simp [intOf]; omega
                · have hb5 : ¬ (b2 : Int) < (j : Int) := by omega
                  go_wp2_with fail
                  go_roundw
                  case rel => exact ⟨j, b2, q + 1, E2, rfl, rfl, by go_num, by omega, hs1q, ⟨hb1, by have := hMh.out.2.1; omega, hb3, hE2a, .inl (by omega)⟩, hR2⟩
                  case measure => simp [intOf]; omega
            · have ed : ((j : Nat) : Int) - 1 - (r : Int) < 0 := by omega
              go_wp2_with fail
              obtain ⟨E2, hE2b, hE2a, hR2⟩ : ∃ E2 : Nat → Bool, (∀ n, n < b → E2 n = true) ∧ (∀ n, j ≤ n → E2 n = false) ∧ Rw w (wr) H (len + 1) E2 := ⟨E, hMh.out.2.2.1, hMh.out.2.2.2.1, hR⟩
              clear hR 
              go_loopw [8] (fun be wr => ∃ b2 : Nat, be = .int .i64 b2 ∧ b2 ≤ j ∧ b ≤ b2 ∧ (∀ n, n < b2 → E2 n = true) ∧ Rw w wr H (len + 1) E2) (fun be _ => j - (intOf be).toNat)
              case atStart => exact ⟨b, rfl, by have := hMh.out.1; omega, Nat.le_refl _, hE2b, hR2⟩
              case round =>
                clear hR2
                obtain ⟨b2, rfl, hb1, hb2, hb3, hR2⟩ := hrel
                by_cases hb4 : b2 < j
                · have hb5 : (b2 : Int) < (j : Int) := by omega
                  have hb6 : b2 < len + 1 := by omega
                  cases hE2 : E2 b2 with
                  | true =>
                    have qc2 : wr.cell? ⟨H, b2, none⟩ = some (.bool true) := (hR2.1.cell hb6).trans (by simp [hE2])
                    go_wp2_with fail
                    go_roundw
                    case rel =>
                      refine ⟨b2 + 1, by go_num, by omega, by omega, fun n hn => ?_, hR2⟩
                      by_cases e : n = b2
                      · subst e; exact hE2
                      · exact hb3 n (by omega)
                    case measure => simp [intOf]; omega
                  | false =>
                    have qc2 : wr.cell? ⟨H, b2, none⟩ = some (.bool false) := (hR2.1.cell hb6).trans (by simp [hE2])
                    go_wp2_with fail
                    go_roundw
                    case rel => exact ⟨j, b2, q + 1, E2, rfl, rfl, by go_num, by omega, hs1q, ⟨hb1, by have := hMh.out.2.1; omega, hb3, hE2a, .inr hE2⟩, hR2⟩
                    case measure => simp [intOf]; omega
                · have hb5 : ¬ (b2 : Int) < (j : Int) := by omega
                  go_wp2_with fail
                  go_roundw
                  case rel => exact ⟨j, b2, q + 1, E2, rfl, rfl, by go_num, by omega, hs1q, ⟨hb1, by have := hMh.out.2.1; omega, hb3, hE2a, .inl (by omega)⟩, hR2⟩
                  case measure => simp [intOf]; omega
      | false =>
        obtain ⟨s1, hs1, hs1q, hM⟩ : ∃ s1 : Nat, ((s1 : Nat) : Int) = (s : Int)  ∧ s1 ≤ q + 1 ∧ Mid s1 b k E := ⟨s, by rfl, by omega, hI.no hk1.1 hm⟩
        have HM := Lib.hid hm
        have hI2 := Lib.hid hI
        clear hm hI
        go_wp2_with (first | (go_at_call 27; refine (may_of s k b _ false (by omega) (by omega) (by omega) (by omega) HM).mono ?_; rintro e wx ⟨rfl, rfl⟩))
        obtain rfl : s1 = s := by omega
        have HS1 := Lib.hid hs1
        clear hs1
        go_loopw [10, 11] (fun mn n wr => ∃ (m j : Nat), mn = .int .i64 m ∧ n = .int .i64 j ∧ j ≤ s1 ∧ m + min j b ≤ j ∧ (b < j → 1 ≤ m) ∧ Rw w wr H (len + 1) E) (fun _ n _ => s1 - (intOf n).toNat)
        case atStart => exact ⟨0, 0, rfl, rfl, Nat.zero_le _, by omega, fun h => by omega, hR⟩
        case round =>
          clear hR
          obtain ⟨m, j, rfl, rfl, hj, hm1, hm2, hR⟩ := hrel
          by_cases hlj : j < s1
          · have hj301 : j < len + 1 := by omega
            cases hE : E j with
            | true =>
              have qc : wr.cell? ⟨H, j, none⟩ = some (.bool true) := (hR.1.cell hj301).trans (by simp [hE])
              have hjb : j ≠ b := by intro e; subst e; rw [hM.2.2.2.2] at hE; cases hE
              go_wp2_with fail
              go_roundw
              case rel => exact ⟨m, j + 1, rfl, by go_num, by omega, by omega, fun h => hm2 (by omega), hR⟩
              case measure => simp [intOf]; omega
            | false =>
              have qc : wr.cell? ⟨H, j, none⟩ = some (.bool false) := (hR.1.cell hj301).trans (by simp [hE])
              have hjb : b ≤ j := by
                rcases Nat.lt_or_ge j b with h | h
                · rw [hM.2.2.1 j h] at hE; cases hE
                · exact h
              go_wp2_with fail
              go_roundw
              case rel => exact ⟨m + 1, j + 1, by go_num, by go_num, by omega, by omega, fun h => by omega, hR⟩
              case measure => simp [intOf]; omega
          · obtain rfl : j = s1 := by omega
            have hmp : 1 ≤ m := hm2 hM.1
            have hmk : m ≤ k := by have := hM.2.1; have := hM.1; omega
            have hmk' : ¬ (k : Int) < (m : Int) := by omega
            have hm0 : ¬ (m : Int) = 0 := by omega
            obtain ⟨yb, off, rfl, hyb, hz, hz255⟩ := hy.out q hlt
            have hz' : wr.cell? ⟨yb, off + q, none⟩ = some (.int .u8 (z q)) := (hR.2.1.cell (p := ⟨yb, off + q, none⟩) hyb).trans hz
            have et : ((z q : Nat) : Int).tmod k = ((z q % k : Nat) : Int) := by rw [Int.tmod_eq_emod_of_nonneg (by omega)]; push_cast; rfl
            have hmod : z q % k < k := Nat.mod_lt _ (by omega)
            generalize z q % k = r at *
            generalize z q = zq at *
            have hk0 : ¬ (k : Int) = 0 := by omega
            have HZ := Lib.hid hz
            clear hz
            have hMh := Lib.hid hM
            by_cases hn0 : r < j
            · have ed : ((j : Nat) : Int) - 1 - (r : Int) = ((j - 1 - r : Nat) : Int) := by omega
              have hjr : j - 1 - r < j := by omega
              generalize hjre : j - 1 - r = d at *
              have qc := hR.1.cell (i := d) (by omega)
              have fc := hR.1.frozen d
              go_wp2_with fail
              obtain ⟨E2, hE2b, hE2a, hR2⟩ : ∃ E2 : Nat → Bool, (∀ n, n < b → E2 n = true) ∧ (∀ n, j ≤ n → E2 n = false) ∧ Rw w (wr.setCell ⟨H, d, none⟩ (.bool true)) H (len + 1) E2 := ⟨fun n => if n = d then true else E n, fun n hn => by show (if n = d then true else E n) = true; split; rfl; exact hMh.out.2.2.1 n hn, fun n hn => by show (if n = d then true else E n) = false; rw [if_neg (by omega)]; exact hMh.out.2.2.2.1 n hn, (hR.1.set d (.bool true)).congr (fun i hi => by show (if i = d then Value.bool true else Value.bool (E i)) = Value.bool (if i = d then true else E i); split <;> rfl), hR.2.1.setCell hR.2.2 _, hR.2.2⟩
              clear hR qc fc 
              go_loopw [8] (fun be wr => ∃ b2 : Nat, be = .int .i64 b2 ∧ b2 ≤ j ∧ b ≤ b2 ∧ (∀ n, n < b2 → E2 n = true) ∧ Rw w wr H (len + 1) E2) (fun be _ => j - (intOf be).toNat)
              case atStart => exact ⟨b, rfl, by have := hMh.out.1; omega, Nat.le_refl _, hE2b, hR2⟩
              case round =>
                clear hR2
                obtain ⟨b2, rfl, hb1, hb2, hb3, hR2⟩ := hrel
                by_cases hb4 : b2 < j
                · have hb5 : (b2 : Int) < (j : Int) := by omega
                  have hb6 : b2 < len + 1 := by omega
                  cases hE2 : E2 b2 with
                  | true =>
                    have qc2 : wr.cell? ⟨H, b2, none⟩ = some (.bool true) := (hR2.1.cell hb6).trans (by simp [hE2])
                    go_wp2_with fail
                    go_roundw
                    case rel =>
                      refine ⟨b2 + 1, by go_num, by omega, by omega, fun n hn => ?_, hR2⟩
                      by_cases e : n = b2
                      · subst e; exact hE2
                      · exact hb3 n (by omega)
                    case measure => simp [intOf]; omega
                  | false =>
                    have qc2 : wr.cell? ⟨H, b2, none⟩ = some (.bool false) := (hR2.1.cell hb6).trans (by simp [hE2])
                    go_wp2_with fail
                    go_roundw
                    case rel => exact ⟨j, b2, q + 1, E2, rfl, rfl, by go_num, by omega, hs1q, ⟨hb1, by have := hMh.out.2.1; omega, hb3, hE2a, .inr hE2⟩, hR2⟩
                    case measure => simp [intOf]; omega
                · have hb5 : ¬ (b2 : Int) < (j : Int) := by omega
                  go_wp2_with fail
                  go_roundw
                  case rel => exact ⟨j, b2, q + 1, E2, rfl, rfl, by go_num, by omega, hs1q, ⟨hb1, by have := hMh.out.2.1; omega, hb3, hE2a, .inl (by omega)⟩, hR2⟩
                  case measure => simp [intOf]; omega
            · have ed : ((j : Nat) : Int) - 1 - (r : Int) < 0 := by omega
              go_wp2_with fail
              obtain ⟨E2, hE2b, hE2a, hR2⟩ : ∃ E2 : Nat → Bool, (∀ n, n < b → E2 n = true) ∧ (∀ n, j ≤ n → E2 n = false) ∧ Rw w (wr) H (len + 1) E2 := ⟨E, hMh.out.2.2.1, hMh.out.2.2.2.1, hR⟩
              clear hR 
              go_loopw [8] (fun be wr => ∃ b2 : Nat, be = .int .i64 b2 ∧ b2 ≤ j ∧ b ≤ b2 ∧ (∀ n, n < b2 → E2 n = true) ∧ Rw w wr H (len + 1) E2) (fun be _ => j - (intOf be).toNat)
              case atStart => exact ⟨b, rfl, by have := hMh.out.1; omega, Nat.le_refl _, hE2b, hR2⟩
              case round =>
                clear hR2
                obtain ⟨b2, rfl, hb1, hb2, hb3, hR2⟩ := hrel
                by_cases hb4 : b2 < j
                · have hb5 : (b2 : Int) < (j : Int) := by omega
                  have hb6 : b2 < len + 1 := by omega
                  cases hE2 : E2 b2 with
                  | true =>
                    have qc2 : wr.cell? ⟨H, b2, none⟩ = some (.bool true) := (hR2.1.cell hb6).trans (by simp [hE2])
                    go_wp2_with fail
                    go_roundw
                    case rel =>
                      refine ⟨b2 + 1, by go_num, by omega, by omega, fun n hn => ?_, hR2⟩
                      by_cases e : n = b2
                      · subst e; exact hE2
                      · exact hb3 n (by omega)
                    case measure => simp [intOf]; omega
                  | false =>
                    have qc2 : wr.cell? ⟨H, b2, none⟩ = some (.bool false) := (hR2.1.cell hb6).trans (by simp [hE2])
                    go_wp2_with fail
                    go_roundw
                    case rel => exact ⟨j, b2, q + 1, E2, rfl, rfl, by go_num, by omega, hs1q, ⟨hb1, by have := hMh.out.2.1; omega, hb3, hE2a, .inr hE2⟩, hR2⟩
                    case measure => simp [intOf]; omega
                · have hb5 : ¬ (b2 : Int) < (j : Int) := by omega
                  go_wp2_with fail
                  go_roundw
                  case rel => exact ⟨j, b2, q + 1, E2, rfl, rfl, by go_num, by omega, hs1q, ⟨hb1, by have := hMh.out.2.1; omega, hb3, hE2a, .inl (by omega)⟩, hR2⟩
                  case measure => simp [intOf]; omega
    · obtain rfl : q = len := by omega
      cases hm : (decide ((s : Int) < k) || decide ((s : Int) - k < s)) with
      | true =>
        have HM := Lib.hid hm
        clear hm
        go_wp2_with fail
        refine (may_of s k s _ true (by omega) (by omega) (by omega) (by omega) HM).mono ?_
        rintro e wx ⟨rfl, rfl⟩
        go_wp2_with fail
        refine (may0 _).mono ?_
        rintro e wx ⟨rfl, rfl⟩
        go_wp2_with fail
        refine (may1 _).mono ?_
        rintro e wx ⟨rfl, rfl⟩
        go_wp2_with fail
        go_ret
        exact ⟨rfl, hR.2.1⟩
      | false => simp at hm; omega
theorem walk (a0 : Int) (a1 : Option Addr) (len1 cap1 : Nat) (z1 : List Int) (w : World) (w0 : (Lit.int .u8 a0).wf = true) (w1 : IsRow .u8 w a1 len1 cap1 z1) :
    Calls Try.prog 5 #[.int .u8 a0, .slice a1 len1 cap1] w fun e w' => e = .returned (.bool true) ∧ Below w.heap.size w w' := by
  have h0 := bounds_u8 w0
  by_cases h : 300 < len1
  · exact big a0 a1 len1 cap1 w h
  · obtain ⟨k, hk⟩ := Int.eq_ofNat_of_zero_le (show 0 ≤ a0 % 64 + 1 by omega)
    refine core a0 a1 len1 cap1 k (fun i => (z1.getD i 0).toNat) w w0 hk (by omega) (Lib.hid (fun i hi => ?_))
    rcases w1.split with h1 | ⟨b, off, rfl, hlt, hle, hm, hz, hc, hwz⟩
    · omega
    · have hzm : z1.getD i 0 ∈ z1 := by
        rw [List.getD_eq_getElem?_getD, List.getElem?_eq_getElem (by omega)]
        exact List.getElem_mem _
      have hb := bounds_u8 (hwz _ hzm)
      refine ⟨b, off, rfl, hlt, ?_, by show (z1.getD i 0).toNat ≤ 255; omega⟩
      show _ = some (Value.int .u8 (((z1.getD i 0).toNat : Nat) : Int))
      rw [Int.toNat_of_nonneg hb.1]
      exact hc i (by omega)
end Go.Proofs.Ytemboonjikccnab.throttleMay
