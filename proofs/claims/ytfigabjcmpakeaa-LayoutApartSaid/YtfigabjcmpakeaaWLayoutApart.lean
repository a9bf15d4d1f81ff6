/- All words of all deques and frames of a plan are each one word: the law LayoutApart answers true. No condition. -/
import Derived.Test.YtfigabjcmpakeaaLayA
import Derived.Deep.Cut
import Derived.Deep.RegionHeld3
import Derived.Deep.DrawnRows
import Derived.Deep.DeepCutAuto
import Derived.Outline
namespace Go.Proofs.Ytfigabjcmpakeaa.layoutApart
open Go.ChangeShapes Go.WideShapes Go.ChangeAt Go.RowKit
attribute [local go_sem ↓] Go.wp_at_zero Go.wp_at_succ
set_option linter.unusedVariables false
set_option linter.unusedSimpArgs false
theorem row_below2 {w w' : World} {base : Nat} {v : Value} {n : Nat} {xs : List Value} (h : w.ownsRow base 3 1 v n xs) (hb : Below w.heap.size w w') : w'.ownsRow base 3 1 v n xs :=
  row_kept h (fun k hk => hb.block k (h.lt k hk).2)
theorem grownB {w w' : World} {base : Nat} {v : Value} {n : Nat} {xs : List Value} (h : w.ownsRow base 3 1 v n xs) (hg : w.grownBy w' v.ownBlock) (hB : base ≤ w.heap.size) : Below base w w' :=
  (Below.refl _ _).grown hg hB (fun k e => (h.lt k e).1)
theorem b_drew (w : World) : Below w.heap.size w w.drew := (Below.refl _ _).trans ⟨rfl, rfl, rfl, Nat.le_refl _, fun _ _ => rfl⟩
def KS (W w' : World) (P B : Nat) (a b c d : Int) : Prop := Below B W w' ∧ w'.cell? ⟨P, 0, none⟩ = some (.int .i64 a) ∧ w'.cell? ⟨P, 1, none⟩ = some (.int .i64 b) ∧ w'.cell? ⟨P, 2, none⟩ = some (.int .i64 c) ∧ w'.cell? ⟨P, 3, none⟩ = some (.int .i64 d)
theorem KS.mk' {w0 W w' : World} {P M B : Nat} {a b c d : Int} {Z : Nat} {va : Value} {n : Nat} {ms : Nat → Int} (h : LA w0 W P M B a b c d Z va n ms) (hb : Below B W w') : KS W w' P B a b c d :=
  ⟨hb, cellB h.c0 hb h.lt.1, cellB h.c1 hb h.lt.1, cellB h.c2 hb h.lt.1, cellB h.c3 hb h.lt.1⟩
theorem KS.go {w0 W w' w'' : World} {P M B : Nat} {a b c d : Int} {Z : Nat} {va : Value} {n : Nat} {ms : Nat → Int} (h : LA w0 W P M B a b c d Z va n ms) (hk : KS W w' P B a b c d) (hb : Below B w' w'') : KS W w'' P B a b c d :=
  .mk' h (hk.1.trans hb)
theorem KS.sz {w0 W w' : World} {P M B : Nat} {a b c d : Int} {Z : Nat} {va : Value} {n : Nat} {ms : Nat → Int} (h : LA w0 W P M B a b c d Z va n ms) (hk : KS W w' P B a b c d) : B ≤ w'.heap.size := Nat.le_trans h.lt.2.2.2.2.2 hk.1.size
set_option maxRecDepth 20000 in
set_option maxHeartbeats 4000000 in
theorem core (a0 a1 a2 a3 : Int) (a b c d Z : Nat) (w : World) (w0 : 0 ≤ a0) (w1 : 0 ≤ a1) (w2 : 0 ≤ a2) (w3 : 0 ≤ a3) (ha : a0 % 6 + 1 = a) (hb : a1 % 6 + 1 = b) (hc : a2 % 6 + 1 = c) (hd : a3 % 6 + 2 = d) (v0 : a0 ≤ 255) (v1 : a1 ≤ 255) (v2 : a2 ≤ 255) (v3 : a3 ≤ 255)
    (hZ : Hid (a * (4 + d) + b * (2 + (c + 1) * 4) = Z)) (hZ2 : Z ≤ 2000) :
    Calls Try.prog 12 #[.int .u8 a0, .int .u8 a1, .int .u8 a2, .int .u8 a3] w fun e w' => e = .returned (.bool true) ∧ Below w.heap.size w w' := by
  have hO : Hid (Okay a b c d) := Lib.hid (by unfold Okay; omega)
  have C1 : Hid (∀ w : World, Calls Try.prog 46 #[.agg #[.int .i64 a, .int .i64 b, .int .i64 c, .int .i64 d]] w fun e w' => e = .returned (.int .i64 Z) ∧ Below w.heap.size w w') := Lib.hid (fun w => by
    have h := size_of a b c d ((a * (4 + d) : Nat) : Int) ((b * (2 + (c + 1) * 4) : Nat) : Int) w hO (Lib.hid (by push_cast; rfl)) (Lib.hid (by push_cast; rfl))
    rw [show ((a * (4 + d) : Nat) : Int) + ((b * (2 + (c + 1) * 4) : Nat) : Int) = (Z : Int) from by rw [← hZ.out]; push_cast; rfl] at h
    exact h)
  have hmk := run_make_row' (P := Try.prog) 26 3 (.int .i64 0) 8 Try.underlying26 (by kernel_rfl) rfl .i64 .i64 Z (by omega) (by omega)
  have e0 : a0.tmod 6 = a0 % 6 := Int.tmod_eq_emod_of_nonneg w0
  have e1 : a1.tmod 6 = a1 % 6 := Int.tmod_eq_emod_of_nonneg w1
  have e2 : a2.tmod 6 = a2 % 6 := Int.tmod_eq_emod_of_nonneg w2
  have e3 : a3.tmod 6 = a3 % 6 := Int.tmod_eq_emod_of_nonneg w3
  go_enter Try.func12, Try.ntmps12
  go_wp2_with (first | (go_at_call 43; refine (works11 _).mono ?_; rintro e wx ⟨rfl, hb1⟩))
  obtain ⟨W, hW⟩ : ∃ W, W = wx.alloc (Obj.cells #[Value.int .i64 a, .int .i64 b, .int .i64 c, .int .i64 d] 73) := ⟨_, rfl⟩
  have p0 : W.cell? ⟨wx.heap.size, 0, none⟩ = some (.int .i64 a) := by rw [hW]; go_simp
  have p1 : W.cell? ⟨wx.heap.size, 1, none⟩ = some (.int .i64 b) := by rw [hW]; go_simp
  have p2 : W.cell? ⟨wx.heap.size, 2, none⟩ = some (.int .i64 c) := by rw [hW]; go_simp
  have p3 : W.cell? ⟨wx.heap.size, 3, none⟩ = some (.int .i64 d) := by rw [hW]; go_simp
  have hbW : Below w.heap.size w W := by rw [hW]; exact hb1.alloc hb1.size _
  have hPlt : wx.heap.size < W.heap.size := by rw [hW]; simp
  have hP0 : w.heap.size ≤ wx.heap.size := hb1.size
  rw [← hW]
  clear hW hb1
  generalize wx.heap.size = P at *
  refine (C1.out _).mono ?_
  rintro e wy ⟨rfl, hbn⟩
  replace p0 := keepc p0 hbn
  replace p1 := keepc p1 hbn
  replace p2 := keepc p2 hbn
  replace p3 := keepc p3 hbn
  replace hbW := btr hbW hbn
  replace hPlt := Nat.lt_of_lt_of_le hPlt hbn.size
  clear hbn
  go_wp2_with fail
  refine (C1.out _).mono ?_
  rintro e wy ⟨rfl, hbn⟩
  replace p0 := keepc p0 hbn
  replace p1 := keepc p1 hbn
  replace p2 := keepc p2 hbn
  replace p3 := keepc p3 hbn
  replace hbW := btr hbW hbn
  replace hPlt := Nat.lt_of_lt_of_le hPlt hbn.size
  clear hbn
  go_wp2_with fail
  refine (C1.out _).mono ?_
  rintro e wy ⟨rfl, hbn⟩
  replace p0 := keepc p0 hbn
  replace p1 := keepc p1 hbn
  replace p2 := keepc p2 hbn
  replace p3 := keepc p3 hbn
  replace hbW := btr hbW hbn
  replace hPlt := Nat.lt_of_lt_of_le hPlt hbn.size
  clear hbn
  go_wp2_with fail
  have hA : LA w (wy.alloc (.cells (madeCells #[.int .i64 0] Z) 3)) P wy.heap.size (wy.heap.size + 1) a b c d Z (.slice none 0 0) 0 (fun _ => 0) := by
    have hx : Below wy.heap.size wy (wy.alloc (.cells (madeCells #[.int .i64 0] Z) 3)) := (Below.refl _ _).alloc (Nat.le_refl _) _
    exact ⟨btr hbW hx, keepc p0 hx, keepc p1 hx, keepc p2 hx, keepc p3 hx, World.rowIs_made wy (.int .i64 0) Z 3, World.ownsRow_nil _ _ _ _, by omega, by omega, by omega, hbW.size, by have := hbW.size; omega, by simp⟩
  clear p0 p1 p2 p3 hbW hPlt hP0 hmk e0 e1 e2 e3 C1
  generalize wy.alloc (.cells (madeCells #[.int .i64 0] Z) 3) = W0 at *
  generalize wy.heap.size + 1 = B at *
  generalize wy.heap.size = M at *
  have A0 := Lib.hid hA
  clear hA
  go_loopw [11, 12] (fun va i wr => ∃ (k : Nat) (va' : Value), va' = va ∧ k ≤ a ∧ i = .int .i64 k ∧ LA w wr P M B a b c d Z va' (k * (4 + d)) (fun _ => 0)) (fun _ i _ => a - (intOf i).toNat)
  case atStart => exact ⟨0, _, rfl, Nat.zero_le _, rfl, by rw [Nat.zero_mul]; exact A0.out⟩
  case round =>
    clear A0
    obtain ⟨k, va, rfl, hk, rfl, hA⟩ := hrel
    have p0 := hA.c0
    by_cases hlt : k < a
    · have HA := Lib.hid hA
      obtain ⟨Q, hQ⟩ : ∃ Q, Q = k * (4 + d) := ⟨_, rfl⟩
      have hkd : k * (4 + d) ≤ 5 * 11 := Nat.mul_le_mul (by omega) (by omega)
      have hQl : Q ≤ 55 := by omega
      have C2 : Hid (∀ w : World, Calls Try.prog 48 #[.agg #[.int .i64 a, .int .i64 b, .int .i64 c, .int .i64 d], .int .i64 k] w fun e w' => e = .returned (.int .i64 Q) ∧ Below w.heap.size w w') := Lib.hid (fun w => base_of a b c d k Q w hO (by omega) (by omega) (Lib.hid (by rw [hQ]; push_cast; rfl)))
      have HQ := Lib.hid hQ
      have hv := hA.v
      rw [← hQ] at hv
      have q1 : IntKind.i64.wrap ((Q : Int) + 1) = (Q : Int) + 1 := by rw [IntKind.wrap_i64]; omega
      have q2 : IntKind.i64.wrap ((Q : Int) + 2) = (Q : Int) + 2 := by rw [IntKind.wrap_i64]; omega
      have q3 : IntKind.i64.wrap ((Q : Int) + 3) = (Q : Int) + 3 := by rw [IntKind.wrap_i64]; omega
      clear hA hQ hkd
      go_upto_region 11 with fail
      go_cut [11] (fun s11 wx => ∃ va2 : Value, va2 = s11 ∧ wx.ownsRow B 3 1 va2 (rng (Q + 4)).length ((rng (Q + 4)).map (Value.int .i64)) ∧ Below B wr wx)
      case first =>
        go_region_held3 (fun w' => Below B wr w' ∧ w'.cell? ⟨P, 0, none⟩ = some (.int .i64 a) ∧ w'.cell? ⟨P, 1, none⟩ = some (.int .i64 b) ∧ w'.cell? ⟨P, 2, none⟩ = some (.int .i64 c) ∧ w'.cell? ⟨P, 3, none⟩ = some (.int .i64 d))
          (first | with_reducible assumption | exact KS.mk' HA.out ((b_drew wr).mono HA.out.lt.2.2.2.2.2) | exact KS.go HA.out (by assumption) (Below.mono (by assumption) (KS.sz HA.out (by assumption))) | exact KS.go HA.out (by assumption) (Below.alloc (Below.refl _ _) (KS.sz HA.out (by assumption)) _) | exact KS.go HA.out (by assumption) (by assumption))
          (first | ((go_at_call 48; refine (C2.out _).mono ?_; rintro e w1 ⟨rfl, hb⟩; have hv := row_below2 hv (by first | exact hb | exact Below.trans (b_drew _) hb)))
                 | ((refine step_appN rfl _ _ (by rfl) B va (rng Q) [(Q : Int), (Q : Int) + 1, (Q : Int) + 2, (Q : Int) + 3] ?hs w1.heap.size 4 4 3 #[.int .i64 (Q : Int), .int .i64 ((Q : Int) + 1), .int .i64 ((Q : Int) + 2), .int .i64 ((Q : Int) + 3)] (0, 0) ?hx ?hown ?hb rfl rfl ?hsm ?hB ?_; (case hs => rfl); (case hx => rfl); (case hown => exact row_below2 hv (by go_grown)); (case hb => exact heap_made w1 _); (case hsm => rw [rng_len]; omega); (case hB => exact KS.sz HA.out (by assumption)); intro va2 w2 hr2 hg2 ho2; have hb2 := grownB (row_below2 hv (by go_grown)) hg2 (KS.sz HA.out (by assumption)))))
        go_wp2_with fail
        go_meet
        rw [rng_four] at hr2
        exact ⟨_, rfl, hr2, And.left (by assumption)⟩
      case rest =>
        obtain ⟨va2, rfl, hr2, hb2⟩ := hcut
        have hA2 := HA.out.grow hb2 hr2
        have A2 := Lib.hid hA2
        have C3 : Hid (∀ (j : Nat) (w : World), j < d → Calls Try.prog 49 #[.agg #[.int .i64 a, .int .i64 b, .int .i64 c, .int .i64 d], .int .i64 k, .int .i64 j] w fun e w' => e = .returned (.int .i64 ((Q + 4 + j : Nat) : Int)) ∧ Below w.heap.size w w') := Lib.hid (fun j w hj => by
          have h := slot_of a b c d k j Q j w hO (by omega) (by omega) (Lib.hid (by rw [HQ.out]; push_cast; rfl)) (by omega) (Lib.hid (by rw [Int.tmod_eq_emod_of_nonneg (by omega)]; exact Int.emod_eq_of_lt (by omega) (by omega)))
          rw [show ((Q : Int) + 4 + j) = ((Q + 4 + j : Nat) : Int) from by omega] at h
          exact h)
        clear hr2 hb2 hA2 hv C2 p0
        go_wp2_with fail
        go_loopw [11, 13] (fun va i wr => ∃ (j : Nat) (va' : Value), va' = va ∧ j ≤ d ∧ i = .int .i64 j ∧ LA w wr P M B a b c d Z va' (Q + 4 + j) (fun _ => 0)) (fun _ i _ => d - (intOf i).toNat)
        case atStart => exact ⟨0, _, rfl, Nat.zero_le _, rfl, A2.out⟩
        case round =>
          clear A2
          obtain ⟨j, va, rfl, hj, rfl, hA⟩ := hrel
          have p0 := hA.c0
          have p1 := hA.c1
          have p2 := hA.c2
          have p3 := hA.c3
          have A1 := Lib.hid hA
          by_cases hlj : j < d
          · clear hA
            go_wp2_with fail
            refine (C3.out j _ hlj).mono ?_
            rintro e w2 ⟨rfl, hb⟩
            have hA2 := A1.out.below hb
            have A2 := Lib.hid hA2
            clear hb hA2 p0 p1 p2 p3
            go_wp2_with (at_builtin; refine wpList_app1 rfl _ _ rfl B va (rng (Q + 4 + j)) rfl ⟨w2.heap.size, 0, none⟩ 1 rfl ((Q + 4 + j : Nat) : Int) ?o1 ?o2 rfl ?o3 ?o4 ?_)
            case o1 => exact (A2.out.below ((Below.refl _ _).alloc (Nat.le_refl _) _)).v
            case o2 => go_simp
            case o3 => rw [rng_len]; omega
            case o4 => exact (A2.out.below (w' := w2.alloc (.cells #[.int .i64 ((Q + 4 + j : Nat) : Int)] 3)) ((Below.refl _ _).alloc (Nat.le_refl _) _)).lt.2.2.2.2.2
            intro va2 w6 hr6 hg6 ho6
            have hA6 := (A2.out.below (w' := w2.alloc (.cells #[.int .i64 ((Q + 4 + j : Nat) : Int)] 3)) ((Below.refl _ _).alloc (Nat.le_refl _) _)).app (n' := Q + 4 + j + 1) (by rw [← rng_one]; simpa using hr6) hg6
            have A6 := Lib.hid hA6
            clear hr6 hg6 ho6 hA6
            go_wp2_with fail
            go_roundw
            case rel => exact ⟨j + 1, _, rfl, by omega, by go_num, A6.out⟩
            case measure => simp [intOf]; omega
          · obtain rfl : j = d := by omega
            go_wp2_with fail
            go_roundw
            case rel => exact ⟨k + 1, _, rfl, by omega, by go_num, by rw [show (k + 1) * (4 + j) = Q + 4 + j from by rw [HQ.out, Nat.add_mul]; omega]; exact A1.out⟩
            case measure => simp [intOf]; omega
    · obtain rfl : a = k := by omega
      have A1 := Lib.hid hA
      obtain ⟨D, hD⟩ : ∃ D, D = a * (4 + d) := ⟨_, rfl⟩
      have HD := Lib.hid hD
      rw [← hD] at hA
      clear hD
      have hDl : D ≤ 66 := by rw [HD.out]; have : a * (4 + d) ≤ 6 * 11 := Nat.mul_le_mul (by omega) (by omega); omega
      obtain ⟨R, hR⟩ : ∃ R, R = 2 + (c + 1) * 4 := ⟨_, rfl⟩
      have hRl : R ≤ 30 := by omega
      have HR := Lib.hid hR
      have A0 := Lib.hid hA
      clear hA hR A1
      go_wp2_with fail
      go_loopw [11, 14] (fun va i wr => ∃ (f : Nat) (va' : Value), va' = va ∧ 1 ≤ f ∧ f ≤ b + 1 ∧ i = .int .i64 f ∧ LA w wr P M B a b c d Z va' (D + (f - 1) * R) (fun _ => 0)) (fun _ i _ => b + 1 - (intOf i).toNat)
      case atStart => exact ⟨1, _, rfl, by omega, by omega, rfl, by rw [Nat.sub_self, Nat.zero_mul]; exact A0.out⟩
      case round =>
        clear A0
        obtain ⟨f, va, rfl, hf1, hf, rfl, hA⟩ := hrel
        have p1 := hA.c1
        by_cases hlf : f ≤ b
        · obtain ⟨F, hF⟩ : ∃ F, F = D + (f - 1) * R := ⟨_, rfl⟩
          have hFl : F ≤ 216 := by rw [hF]; have : (f - 1) * R ≤ 5 * 30 := Nat.mul_le_mul (by omega) hRl; omega
          have HF := Lib.hid hF
          have hFe : Hid ((a : Int) * (4 + d) + ((f : Int) - 1) * (2 + (c + 1) * 4) = F) := Lib.hid (by
            have e : (F : Int) = (D : Int) + ((f - 1 : Nat) : Int) * (R : Int) := by rw [hF]; push_cast; rfl
            rw [e, HD.out, HR.out, Int.ofNat_sub hf1]; push_cast; rfl)
          rw [← hF] at hA
          have HA := Lib.hid hA
          have hv := hA.v
          have C4 : Hid (∀ w : World, Calls Try.prog 50 #[.agg #[.int .i64 a, .int .i64 b, .int .i64 c, .int .i64 d], .int .i64 f] w fun e w' => e = .returned (.int .i64 F) ∧ Below w.heap.size w w') := Lib.hid (fun w => frame_of a b c d f F w hO (by omega) (by omega) hFe)
          have C5 : Hid (∀ w : World, Calls Try.prog 51 #[.agg #[.int .i64 a, .int .i64 b, .int .i64 c, .int .i64 d], .int .i64 f] w fun e w' => e = .returned (.int .i64 ((F : Int) + 1)) ∧ Below w.heap.size w w') := Lib.hid (fun w => nap_of a b c d f F w hO (by omega) (by omega) hFe)
          clear hA hF
          go_upto_region 19 with fail
          go_cut [11] (fun s11 wx => ∃ va2 : Value, va2 = s11 ∧ wx.ownsRow B 3 1 va2 (rng (F + 2)).length ((rng (F + 2)).map (Value.int .i64)) ∧ Below B wr wx)
          case first =>
            go_region_held3 (fun w' => Below B wr w' ∧ w'.cell? ⟨P, 0, none⟩ = some (.int .i64 a) ∧ w'.cell? ⟨P, 1, none⟩ = some (.int .i64 b) ∧ w'.cell? ⟨P, 2, none⟩ = some (.int .i64 c) ∧ w'.cell? ⟨P, 3, none⟩ = some (.int .i64 d))
            (first | with_reducible assumption | exact KS.mk' HA.out ((b_drew wr).mono HA.out.lt.2.2.2.2.2) | exact KS.go HA.out (by assumption) (Below.mono (by assumption) (KS.sz HA.out (by assumption))) | exact KS.go HA.out (by assumption) (Below.alloc (Below.refl _ _) (KS.sz HA.out (by assumption)) _) | exact KS.go HA.out (by assumption) (by assumption))
            (first | ((go_at_call 50; refine (C4.out _).mono ?_; rintro e w1 ⟨rfl, hb⟩; have hv := row_below2 hv (by first | exact hb | exact Below.trans (b_drew _) hb))) | ((go_at_call 51; refine (C5.out _).mono ?_; rintro e w1 ⟨rfl, hb⟩; have hv := row_below2 hv (by first | exact hb | exact Below.trans (b_drew _) hb)))
                   | ((refine step_appN rfl _ _ (by rfl) B va (rng F) [(F : Int), (F : Int) + 1] ?hs w1.heap.size 2 2 3 #[.int .i64 ((F : Int)), .int .i64 ((F : Int) + 1)] (0, 0) ?hx ?hown ?hb rfl rfl ?hsm ?hB ?_; (case hs => rfl); (case hx => rfl); (case hown => exact row_below2 hv (by go_grown)); (case hb => exact heap_made w1 _); (case hsm => rw [rng_len]; omega); (case hB => exact KS.sz HA.out (by assumption)); intro va2 w2 hr2 hg2 ho2; have hb2 := grownB (row_below2 hv (by go_grown)) hg2 (KS.sz HA.out (by assumption)))))
            go_wp2_with fail
            go_meet
            rw [rng_two] at hr2
            exact ⟨_, rfl, hr2, And.left (by assumption)⟩
          case rest =>
            obtain ⟨va2, rfl, hr2, hb2⟩ := hcut
            have hA2 := HA.out.grow hb2 hr2
            have A2 := Lib.hid hA2
            clear hr2 hb2 hA2 hv C4 C5 p1 HA
            go_wp2_with fail
            go_loopw [11, 15] (fun va i wr => ∃ (j : Nat) (va' : Value), va' = va ∧ j ≤ c + 1 ∧ i = .int .i64 j ∧ LA w wr P M B a b c d Z va' (F + 2 + j * 4) (fun _ => 0)) (fun _ i _ => c + 1 - (intOf i).toNat)
            case atStart => exact ⟨0, _, rfl, Nat.zero_le _, rfl, A2.out⟩
            case round =>
              clear A2
              obtain ⟨j, va, rfl, hj, rfl, hA⟩ := hrel
              have p2 := hA.c2
              by_cases hlj : j ≤ c
              · obtain ⟨X, hX⟩ : ∃ X, X = F + 2 + j * 4 := ⟨_, rfl⟩
                have HX := Lib.hid hX
                have hXl : X ≤ 300 := by omega
                rw [← hX] at hA
                have HA := Lib.hid hA
                have hv := hA.v
                have hmod : (j : Int).tmod ((c : Int) + 1) = j := by rw [Int.tmod_eq_emod_of_nonneg (by omega)]; exact Int.emod_eq_of_lt (by omega) (by omega)
                have C6 : Hid (∀ w : World, Calls Try.prog 52 #[.agg #[.int .i64 a, .int .i64 b, .int .i64 c, .int .i64 d], .int .i64 f, .int .i64 j] w fun e w' => e = .returned (.int .i64 X) ∧ Below w.heap.size w w') := Lib.hid (fun w => by
                  have h := counter_of a b c d f j F j w hO (by omega) (by omega) hFe (by omega) (Lib.hid hmod)
                  rw [show (F : Int) + 2 + (j : Int) * 4 + 0 = (X : Int) from by omega] at h; exact h)
                have C7 : Hid (∀ w : World, Calls Try.prog 53 #[.agg #[.int .i64 a, .int .i64 b, .int .i64 c, .int .i64 d], .int .i64 f, .int .i64 j] w fun e w' => e = .returned (.int .i64 ((X : Int) + 1)) ∧ Below w.heap.size w w') := Lib.hid (fun w => by
                  have h := status_of a b c d f j F j w hO (by omega) (by omega) hFe (by omega) (Lib.hid hmod)
                  rw [show (F : Int) + 2 + (j : Int) * 4 + 1 = (X : Int) + 1 from by omega] at h; exact h)
                have C8 : Hid (∀ w : World, Calls Try.prog 54 #[.agg #[.int .i64 a, .int .i64 b, .int .i64 c, .int .i64 d], .int .i64 f, .int .i64 j] w fun e w' => e = .returned (.int .i64 ((X : Int) + 2)) ∧ Below w.heap.size w w') := Lib.hid (fun w => by
                  have h := link_of a b c d f j F j w hO (by omega) (by omega) hFe (by omega) (Lib.hid hmod)
                  rw [show (F : Int) + 2 + (j : Int) * 4 + 2 = (X : Int) + 2 from by omega] at h; exact h)
                have C9 : Hid (∀ w : World, Calls Try.prog 55 #[.agg #[.int .i64 a, .int .i64 b, .int .i64 c, .int .i64 d], .int .i64 f, .int .i64 j] w fun e w' => e = .returned (.int .i64 ((X : Int) + 3)) ∧ Below w.heap.size w w') := Lib.hid (fun w => by
                  have h := done_of a b c d f j F j w hO (by omega) (by omega) hFe (by omega) (Lib.hid hmod)
                  rw [show (F : Int) + 2 + (j : Int) * 4 + 3 = (X : Int) + 3 from by omega] at h; exact h)
                clear hA hX hmod
                go_wp2_with fail
                go_region_held3 (fun w' => Below B wr w' ∧ w'.cell? ⟨P, 0, none⟩ = some (.int .i64 a) ∧ w'.cell? ⟨P, 1, none⟩ = some (.int .i64 b) ∧ w'.cell? ⟨P, 2, none⟩ = some (.int .i64 c) ∧ w'.cell? ⟨P, 3, none⟩ = some (.int .i64 d))
                (first | with_reducible assumption | exact KS.mk' HA.out ((b_drew wr).mono HA.out.lt.2.2.2.2.2) | exact KS.go HA.out (by assumption) (Below.mono (by assumption) (KS.sz HA.out (by assumption))) | exact KS.go HA.out (by assumption) (Below.alloc (Below.refl _ _) (KS.sz HA.out (by assumption)) _) | exact KS.go HA.out (by assumption) (by assumption))
                (first | ((go_at_call 52; refine (C6.out _).mono ?_; rintro e w1 ⟨rfl, hb⟩; have hv := row_below2 hv (by first | exact hb | exact Below.trans (b_drew _) hb))) | ((go_at_call 53; refine (C7.out _).mono ?_; rintro e w1 ⟨rfl, hb⟩; have hv := row_below2 hv (by first | exact hb | exact Below.trans (b_drew _) hb))) | ((go_at_call 54; refine (C8.out _).mono ?_; rintro e w1 ⟨rfl, hb⟩; have hv := row_below2 hv (by first | exact hb | exact Below.trans (b_drew _) hb))) | ((go_at_call 55; refine (C9.out _).mono ?_; rintro e w1 ⟨rfl, hb⟩; have hv := row_below2 hv (by first | exact hb | exact Below.trans (b_drew _) hb)))
                       | ((refine step_appN rfl _ _ (by rfl) B va (rng X) [(X : Int), (X : Int) + 1, (X : Int) + 2, (X : Int) + 3] ?hs w1.heap.size 4 4 3 #[.int .i64 ((X : Int)), .int .i64 ((X : Int) + 1), .int .i64 ((X : Int) + 2), .int .i64 ((X : Int) + 3)] (0, 0) ?hx ?hown ?hb rfl rfl ?hsm ?hB ?_; (case hs => rfl); (case hx => rfl); (case hown => exact row_below2 hv (by go_grown)); (case hb => exact heap_made w1 _); (case hsm => rw [rng_len]; omega); (case hB => exact KS.sz HA.out (by assumption)); intro va2 w2 hr2 hg2 ho2; have hb2 := grownB (row_below2 hv (by go_grown)) hg2 (KS.sz HA.out (by assumption)))))
                have hA2 := HA.out.grow (va' := va2) (n' := X + 4) (And.left (by assumption)) (by rw [← rng_four]; exact hr2)
                have A2 := Lib.hid hA2
                clear hA2 hv C6 C7 C8 C9 p2
                go_wp2_with fail
                go_roundw
                case rel => exact ⟨j + 1, _, rfl, by omega, by go_num, by rw [show F + 2 + (j + 1) * 4 = X + 4 from by have := HX.out; omega]; exact A2.out⟩
                case measure => simp [intOf]; omega
              · obtain rfl : j = c + 1 := by omega
                have A1 := Lib.hid hA
                clear hA
                have hgt : ¬ (((c + 1 : Nat) : Int) ≤ (c : Int)) := by omega
                go_wp2_with fail
                go_roundw
                case rel => exact ⟨f + 1, _, rfl, by omega, by omega, by go_num, by rw [show D + (f + 1 - 1) * R = F + 2 + (c + 1) * 4 from by rw [HF.out, Nat.add_assoc (D + (f - 1) * R), ← HR.out, Nat.add_assoc, ← Nat.succ_mul]; congr 2; omega]; exact A1.out⟩
                case measure => simp [intOf]; omega
        · obtain rfl : f = b + 1 := by omega
          have e2 : D + (b + 1 - 1) * R = Z := by rw [← hZ.out, HD.out, HR.out]; rfl
          rw [e2] at hA
          have A1 := Lib.hid hA
          clear hA e2
          have hgt : ¬ (((b + 1 : Nat) : Int) ≤ (b : Int)) := by omega
          go_wp2_with fail
          have hZ16 : 0 < Z := by
            have := hZ.out
            have h2 : 1 * 6 ≤ a * (4 + d) := Nat.mul_le_mul (by omega) (by omega)
            omega
          have hrow := A1.out.v
          obtain ⟨g, cap, rfl, hcap, hcells⟩ : ∃ g cap, va = .slice (some ⟨g, 0, none⟩) Z cap ∧ Z ≤ cap ∧ B ≤ g := by
            rcases hrow with ⟨_, ⟨_, h⟩ | ⟨g, cap, cur, h, hg, _, hle, _⟩⟩
            · rw [rng_len] at h; omega
            · rw [rng_len] at h hle; exact ⟨g, cap, h, hle, hg⟩
          clear hrow p1
          go_loopw [16] (fun i wr => ∃ j : Nat, j ≤ Z ∧ i = .int .i64 j ∧ LA w wr P M B a b c d Z (.slice (some ⟨g, 0, none⟩) Z cap) Z (fun x => if x < j then 1 else 0)) (fun i _ => Z - (intOf i).toNat)
          case atStart => exact ⟨0, Nat.zero_le _, rfl, A1.out.congr (fun j hj => by rw [if_neg (by omega)])⟩
          case round =>
            clear A1
            obtain ⟨j, hj, rfl, hA⟩ := hrel
            have A1 := Lib.hid hA
            by_cases hlt : j < Z
            · have l0 : wr.cell? ⟨g, j, none⟩ = some (.int .i64 j) := by
                have h := hA.v.cells rfl j (.int .i64 j) (by rw [List.getElem?_map]; simp [rng, hlt])
                rw [Go.WideShapes.add_plain, Nat.zero_add] at h
                exact h
              have m0 : wr.cell? ⟨M, j, none⟩ = some (.int .i64 0) := (hA.m.cell hlt).trans (by simp [mc])
              have f0 : wr.frozen? ⟨M, j, none⟩ = false := hA.m.frozen j
              clear hA
              go_wp2_with fail
              go_roundw
              case rel =>
                refine ⟨j + 1, by omega, by go_num, (A1.out.set j 1).congr (fun x hx => ?_)⟩
                by_cases e : x = j
                · subst e; simp
                · by_cases e2 : x < j
                  · simp [e, e2, show x < j + 1 by omega]
                  · simp [e, e2, show ¬ x < j + 1 by omega]
              case measure => simp [intOf]; omega
            · obtain rfl : Z = j := by omega
              have hm := hA.m
              obtain ⟨wo, rfl⟩ : ∃ wo : World, wo = wr := ⟨_, rfl⟩
              clear hA
              go_wp2_with fail
              go_loopw [17] (fun i wr => ∃ q : Nat, q ≤ Z ∧ i = .int .i64 q ∧ wr = wo) (fun i _ => Z - (intOf i).toNat)
              case atStart => exact ⟨0, Nat.zero_le _, rfl, by first | trivial | rfl⟩
              case round =>
                obtain ⟨q, hq, rfl, rfl⟩ := hrel
                by_cases hlq : q < Z
                · have m0 : wr.cell? ⟨M, q, none⟩ = some (.int .i64 1) := (hm.cell hlq).trans (by simp [mc, hlq])
                  go_wp2_with fail
                  go_roundw
                  case rel => exact ⟨q + 1, by omega, by go_num, by first | trivial | rfl⟩
                  case measure => simp [intOf]; omega
                · obtain rfl : Z = q := by omega
                  go_wp2_with fail
                  go_ret
                  exact ⟨rfl, A1.out.bl⟩
theorem walk (a0 : Int) (a1 : Int) (a2 : Int) (a3 : Int) (w : World) (w0 : (Lit.int .u8 a0).wf = true) (w1 : (Lit.int .u8 a1).wf = true) (w2 : (Lit.int .u8 a2).wf = true) (w3 : (Lit.int .u8 a3).wf = true) :
    Calls Try.prog 12 #[.int .u8 a0, .int .u8 a1, .int .u8 a2, .int .u8 a3] w fun e w' => e = .returned (.bool true) ∧ Below w.heap.size w w' := by
  have b0 := bounds_u8 w0
  have b1 := bounds_u8 w1
  have b2 := bounds_u8 w2
  have b3 := bounds_u8 w3
  obtain ⟨a, ha⟩ := Int.eq_ofNat_of_zero_le (show 0 ≤ a0 % 6 + 1 by omega)
  obtain ⟨b, hb⟩ := Int.eq_ofNat_of_zero_le (show 0 ≤ a1 % 6 + 1 by omega)
  obtain ⟨c, hc⟩ := Int.eq_ofNat_of_zero_le (show 0 ≤ a2 % 6 + 1 by omega)
  obtain ⟨d, hd⟩ := Int.eq_ofNat_of_zero_le (show 0 ≤ a3 % 6 + 2 by omega)
  have h1 : a * (4 + d) ≤ 6 * 11 := Nat.mul_le_mul (by omega) (by omega)
  have h2 : b * (2 + (c + 1) * 4) ≤ 6 * 30 := Nat.mul_le_mul (by omega) (by omega)
  exact core a0 a1 a2 a3 a b c d _ w b0.1 b1.1 b2.1 b3.1 ha hb hc hd b0.2 b1.2 b2.2 b3.2 (Lib.hid rfl) (by omega)
end Go.Proofs.Ytfigabjcmpakeaa.layoutApart
