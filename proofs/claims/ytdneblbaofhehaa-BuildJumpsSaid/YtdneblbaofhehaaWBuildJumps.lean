/- BuildJumps: a jump leads to its label, whichever came first (layer 7). -/
import Derived.Test.YtdneblbaofhehaaBdM
namespace Go.Proofs.Ytdneblbaofhehaa.buildJumps
open Go.ChangeShapes Go.WideShapes Go.ChangeAt Go.RowKit Go.Maps
open Go.Proofs.Ytdneblbaofhehaa.ro
open Go.Proofs.Ytdneblbaofhehaa.pr
open Go.Proofs.Ytdneblbaofhehaa.bd
open Go.Proofs.Ytdneblbaofhehaa.ins (kb tr3)
attribute [local go_sem ↓] Go.wp_at_zero Go.wp_at_succ
set_option linter.unusedVariables false
set_option linter.unusedSimpArgs false
abbrev sx : ByteArray := ⟨#[120]⟩
set_option maxRecDepth 20000 in
set_option maxHeartbeats 4000000 in
theorem core_back (x y m n : Nat) (w : World) (hx : x ≤ 255) (hy : y ≤ 255) (hm : x % 60 = m) (hn : y % 60 = n) :
    Calls Try.prog 4 #[.int .u8 (x : Int), .int .u8 (y : Int), .bool true] w fun e w' => e = .returned (.bool true) ∧ Below w.heap.size w w' := by
  have HW := Lib.hid (works_v w)
  have HN := Lib.hid (new_v 0)
  have hm60 : m < 60 := by omega
  have hn60 : n < 60 := by omega
  have hd1 : IntKind.i64.wrap (x : Int) = (x : Int) := by rw [IntKind.wrap_i64]; omega
  have hd2 : (x : Int).tmod 60 = (m : Int) := by rw [Int.tmod_eq_emod_of_nonneg (by omega)]; omega
  have hd3 : IntKind.i64.wrap (y : Int) = (y : Int) := by rw [IntKind.wrap_i64]; omega
  have hd4 : (y : Int).tmod 60 = (n : Int) := by rw [Int.tmod_eq_emod_of_nonneg (by omega)]; omega
  clear hm hn hx hy
  go_enter Try.func4, Try.ntmps4
  go_wp2_with fail
  refine HW.out.mono ?_
  rintro e wa ⟨rfl, hba⟩
  have HBA := Lib.hid hba
  clear HW hba
  go_wp2_with fail
  refine (HN.out _).mono ?_
  rintro e w1 ⟨Bb, ρ1, rfl, hB⟩
  have H1 := Lib.hid (func_v hB (by simp))
  clear hB HN
  go_wp2_with fail
  refine H1.out.mono ?_
  rintro e w2 ⟨ρ2, fv, F, M, rfl, hB⟩
  obtain ⟨W, hW⟩ : ∃ W, w2.alloc (.cells #[.int .i64 21, .int .i64 0, .int .i64 0, .int .i64 0] 33) = W := ⟨_, rfl⟩
  obtain ⟨O, hO⟩ : ∃ O, w2.heap.size = O := ⟨_, rfl⟩
  have hJ0 : JP wa Bb O [] [] (fun _ => none) 0 W := by rw [← hW, ← hO]; exact JP.start hB
  have hJ : JP wa Bb O ([] ++ List.replicate 0 sy) [] (fun _ => none) 0 W := hJ0
  have HJ := Lib.hid hJ
  have HW := Lib.hid hW
  have HO := Lib.hid hO
  clear hB H1 hJ hJ0 hW hO
  go_wp2_with fail
  rw [HW.out, HO.out]
  clear HW HO
  clear hd1 hd2 hd3 hd4
  go_loopw [11] (fun i wr => ∃ k : Nat, k ≤ m ∧ i = .int .i64 (k : Int) ∧ Hid (JP wa Bb O ([] ++ List.replicate k sy) [] (fun _ => none) 0 wr)) (fun i _ => m - (intOf i).toNat)
  case atStart => exact ⟨0, Nat.zero_le _, rfl, HJ⟩
  case round =>
    obtain ⟨k, hk, rfl, HR⟩ := hrel
    clear HJ
    by_cases hlt : k < m
    · have hltI : (k : Int) < (m : Int) := by omega
      obtain ⟨c0, c1, c2, c3, hOl⟩ := HR.out.one
      obtain ⟨W5, hW5⟩ : ∃ W5, wr.alloc (.cells #[.int .i64 21, .int .i64 0, .int .i64 0, .int .i64 0] 33) = W5 := ⟨_, rfl⟩
      have HC := Lib.hid (j_add (HR.out.below (w' := W5) (by rw [← hW5]; go_grown)) (by simp; omega) wr.heap.size 1 sy (by rw [← hW5]; exact rec_new rfl rfl))
      have HW5 := Lib.hid hW5
      clear hW5
      go_wp2_with fail
      rw [HW5.out]
      refine HC.out.mono ?_
      rintro e w6 ⟨rfl, hJ6⟩
      rw [rep_succ] at hJ6
      have HJ6 := Lib.hid hJ6
      clear hJ6 HC HW5 c0 c1 c2 c3 hOl
      go_wp2_with fail
      go_roundw
      case rel => exact ⟨k + 1, by omega, by go_num, HJ6⟩
      case measure => simp [intOf]; omega
    · obtain rfl : m = k := by omega
      have HC := Lib.hid (j_label HR.out (by simp; omega) sx (by decide) rfl (by omega))
      go_wp2_with fail
      refine HC.out.mono ?_
      rintro e w7 ⟨rfl, hJ7⟩
      have hJ7b : JP wa Bb O (([] ++ List.replicate m sy) ++ List.replicate 0 sy) [] (fun q => if q = sx then some ((([] ++ List.replicate m sy : List I4).length : Nat) : Int) else none) (0 + 1) w7 := by rw [List.replicate_zero, List.append_nil]; exact hJ7
      have HJ7 := Lib.hid hJ7b
      clear hJ7 hJ7b HC HR hlt hk
      go_wp2_with fail
      go_loopw [13] (fun i wr => ∃ k : Nat, k ≤ n ∧ i = .int .i64 (k : Int) ∧ Hid (JP wa Bb O (([] ++ List.replicate m sy) ++ List.replicate k sy) [] (fun q => if q = sx then some ((([] ++ List.replicate m sy : List I4).length : Nat) : Int) else none) (0 + 1) wr)) (fun i _ => n - (intOf i).toNat)
      case atStart => exact ⟨0, Nat.zero_le _, rfl, HJ7⟩
      case round =>
        obtain ⟨k, hk, rfl, HR⟩ := hrel
        clear HJ7
        by_cases hlt : k < n
        · have hltI : (k : Int) < (n : Int) := by omega
          obtain ⟨c0, c1, c2, c3, hOl⟩ := HR.out.one
          obtain ⟨W5, hW5⟩ : ∃ W5, wr.alloc (.cells #[.int .i64 21, .int .i64 0, .int .i64 0, .int .i64 0] 33) = W5 := ⟨_, rfl⟩
          have HC := Lib.hid (j_add (HR.out.below (w' := W5) (by rw [← hW5]; go_grown)) (by simp; omega) wr.heap.size 1 sy (by rw [← hW5]; exact rec_new rfl rfl))
          have HW5 := Lib.hid hW5
          clear hW5
          go_wp2_with fail
          rw [HW5.out]
          refine HC.out.mono ?_
          rintro e w6 ⟨rfl, hJ6⟩
          rw [rep_succ] at hJ6
          have HJ6 := Lib.hid hJ6
          clear hJ6 HC HW5 c0 c1 c2 c3 hOl
          go_wp2_with fail
          go_roundw
          case rel => exact ⟨k + 1, by omega, by go_num, HJ6⟩
          case measure => simp [intOf]; omega
        · obtain rfl : n = k := by omega
          have HC := Lib.hid (j_if HR.out (by simp; omega) (by simp) sx 3)
          clear hlt hk
          go_wp2_with fail
          refine HC.out.mono ?_
          rintro e w8 ⟨rfl, hJ8⟩
          clear HC
          have HJ8 := Lib.hid hJ8
          clear hJ8
          obtain ⟨W8, hW8⟩ : ∃ W8, w8.alloc (.cells #[.int .i64 0, .int .i64 0, .int .i64 0, .int .i64 0] 33) = W8 := ⟨_, rfl⟩
          have HC := Lib.hid (j_add (HJ8.out.below (w' := W8) (by rw [← hW8]; go_grown)) (by simp; omega) w8.heap.size 1 (0, 0, 0, 0) (by rw [← hW8]; exact rec_new rfl rfl))
          have HW8 := Lib.hid hW8
          clear hW8 HJ8
          skip
          go_wp2_with fail
          rw [HW8.out]
          refine HC.out.mono ?_
          rintro e w9 ⟨rfl, hJ9⟩
          have hcs : ([] ++ List.replicate m sy) ++ List.replicate n sy ++ [((19, 3, 0, 0) : I4)] ++ [(0, 0, 0, 0)] = cJ (m + n) 0 0 := by simp [cJ, List.append_assoc, List.replicate_append_replicate]
          have hls : [] ++ [((([] ++ List.replicate m sy ++ List.replicate n sy : List I4).length : Int), sx)] = [((((m + n) : Nat) : Int), sx)] := by simp
          rw [hcs, hls] at hJ9
          have HE := Lib.hid (j_end (p := (m + n)) (q := 0) (a := (m : Int)) (s := sx) hJ9 (by decide) (by simp) (by omega) (by skip; omega) (by omega))
          have HB9 := Lib.hid hJ9.bel
          clear hJ9 HC HW8 hcs hls
          go_wp2_with fail
          refine HE.out.mono ?_
          rintro e w10 ⟨pb, po, pc, b, o, c, rfl, hb10, hpb, hb, hc, HV⟩
          obtain ⟨N, hN⟩ : ∃ N : Nat, (m + n) + 0 + 2 = N := ⟨_, rfl⟩
          obtain ⟨P, hP⟩ : ∃ P : Nat, (m + n) = P := ⟨_, rfl⟩
          obtain ⟨A, hA⟩ : ∃ A : Int, (m : Int) = A := ⟨_, rfl⟩
          have HV2 : Hid (∀ k, k < N → w10.cell? ⟨b, o + k * 4, none⟩ = some (.int .i64 (if k = P then 19 else if k = N - 1 then 0 else 21)) ∧ w10.cell? ⟨b, o + k * 4 + 1, none⟩ = some (.int .i64 (if k = P then 3 else 0)) ∧ w10.cell? ⟨b, o + k * 4 + 2, none⟩ = some (.int .i64 (if k = P then A else 0)) ∧ w10.cell? ⟨b, o + k * 4 + 3, none⟩ = some (.int .i64 0)) := Lib.hid (fun k hk => by
            obtain ⟨b', o', e', _, f0, f1, f2, f3⟩ := RV.four HV.out k (by omega)
            rw [Option.some.injEq, Addr.mk.injEq] at e'
            obtain ⟨rfl, rfl, _⟩ := e'
            rw [cJ_getD _ _ _ _ (by omega)] at f0 f1 f2 f3
            by_cases h1 : k = P
            · subst h1
              rw [if_pos hP.symm] at f0 f1 f2 f3
              rw [if_pos rfl, if_pos rfl, if_pos rfl, ← hA]
              exact ⟨f0, f1, f2, f3⟩
            · rw [if_neg (by omega)] at f0 f1 f2 f3
              rw [if_neg h1, if_neg h1, if_neg h1]
              by_cases h2 : k = N - 1
              · rw [if_pos (by omega)] at f0 f1 f2 f3
                rw [if_pos h2]
                exact ⟨f0, f1, f2, f3⟩
              · rw [if_neg (by omega)] at f0 f1 f2 f3
                rw [if_neg h2]
                exact ⟨f0, f1, f2, f3⟩)
          have hPN : P + 2 ≤ N := by omega
          have hN2 : N ≤ 200 := by omega
          have hx1 : (m : Int) + (n : Int) + 2 = (N : Int) := by omega
          have hNw : IntKind.i64.wrap (N : Int) = (N : Int) := by rw [IntKind.wrap_i64]; omega
          have hxw : IntKind.i64.wrap ((m : Int) + (n : Int) + 2) = (N : Int) := by rw [hx1, hNw]
          skip
          rw [hN] at hc
          have HPB := Lib.hid hpb
          have HBL := Lib.hid hb
          have HCE := Lib.hid hc
          have HB10 := Lib.hid ((tr3 HBA.out HB9.out).trans (hb10.mono (tr3 HBA.out HB9.out).size))
          obtain ⟨W11, hW11⟩ : ∃ W11, w10.alloc (.cells #[.int .i64 0, .slice (some ⟨pb, po, none⟩) 1 pc] 38) = W11 := ⟨_, rfl⟩
          have H11 : Hid (W11.cell? ⟨w10.heap.size, 1, none⟩ = some (.slice (some ⟨pb, po, none⟩) 1 pc) ∧ w10.heap.size < W11.heap.size ∧ Below w10.heap.size w10 W11) := Lib.hid (by
            rw [← hW11]
            exact ⟨ro.cel (heap_alloc_new _ _) 1, by simp, by go_grown⟩)
          have HW11 := Lib.hid hW11
          have HA := Lib.hid hA
          clear hW11
          have HP := Lib.hid hP
          clear hN hP hA HE HV hb10 HB9 HR HBA
          go_wp2_with fail
          rw [HW11.out]
          go_loopw [16, 17] (fun mv i wr => ∃ (k : Nat) (cc : Int), k ≤ N ∧ mv = .int .i64 cc ∧ i = .int .i64 (k : Int) ∧ Hid (cc = if P < k then 1 else 0) ∧ Hid (Below W11.heap.size W11 wr)) (fun mv i _ => N - (intOf i).toNat)
          case atStart => exact ⟨0, 0, Nat.zero_le _, rfl, rfl, Lib.hid (by rw [if_neg (by omega)]), Lib.hid (Below.refl _ _)⟩
          case round =>
            obtain ⟨k, cc, hk, rfl, rfl, HCC, HB0⟩ := hrel
            have HB := Lib.hid (tr3 H11.out.2.2 HB0.out)
            have kp : wr.cell? ⟨w10.heap.size, 1, none⟩ = some (.slice (some ⟨pb, po, none⟩) 1 pc) := (HB0.out.cell H11.out.2.1).trans H11.out.1
            clear hpb hb
            have k9 : wr.cell? ⟨pb, po, none⟩ = some (.slice (some ⟨b, o, none⟩) N c) := (HB.out.cell HPB.out).trans HCE.out
            clear hc
            by_cases hlt : k < N
            · have hltI : (k : Int) < (N : Int) := by omega
              obtain ⟨g0, g1, g2, g3⟩ := HV2.out k hlt
              have k0 := (HB.out.cell HBL.out).trans g0
              have k1 := (HB.out.cell HBL.out).trans g1
              have k2 := (HB.out.cell HBL.out).trans g2
              have k3 := (HB.out.cell HBL.out).trans g3
              clear g0 g1 g2 g3
              by_cases e : k = P
              · subst e
                have hcc : cc = 0 := by have := HCC.out; rwa [if_neg (by omega)] at this
                subst hcc
                rw [if_pos rfl] at k0 k1 k2
                rw [← HA.out] at k2
                clear HCC
                go_wp2_with fail
                go_roundw
                case rel => exact ⟨k + 1, 1, by omega, rfl, by go_num, Lib.hid (by rw [if_pos (by omega)]), Lib.hid (tr3 HB0.out (by go_grown))⟩
                case measure => simp [intOf]; omega
              · rw [if_neg e] at k0 k1 k2
                have HN1 : Hid (cc = if P < k + 1 then 1 else 0) := Lib.hid (by
                  have := HCC.out
                  by_cases h : P < k
                  · rw [if_pos h] at this; rw [if_pos (by omega), this]
                  · rw [if_neg h] at this; rw [if_neg (by omega), this])
                clear HCC
                obtain ⟨op, hop⟩ : ∃ op : Int, (if k = N - 1 then 0 else 21) = op := ⟨_, rfl⟩
                rw [hop] at k0
                have hop1 : ¬ op = 19 := by rw [← hop]; by_cases h : k = N - 1 <;> simp [h]
                have hop2 : (op == 19) = false := by simpa using hop1
                clear hop
                go_wp2_with fail
                go_roundw
                case rel => exact ⟨k + 1, cc, by omega, rfl, by go_num, HN1, Lib.hid (tr3 HB0.out (by go_grown))⟩
                case measure => simp [intOf]; omega
            · obtain rfl : N = k := by omega
              have hcc : cc = 1 := by have := HCC.out; rwa [if_pos (by omega)] at this
              subst hcc
              go_wp2_with fail
              go_ret
              exact ⟨rfl, HB10.out.trans (HB.out.mono HB10.out.size)⟩
set_option maxRecDepth 20000 in
set_option maxHeartbeats 4000000 in
theorem core_ahead (x y m n : Nat) (w : World) (hx : x ≤ 255) (hy : y ≤ 255) (hm : x % 60 = m) (hn : y % 60 = n) :
    Calls Try.prog 4 #[.int .u8 (x : Int), .int .u8 (y : Int), .bool false] w fun e w' => e = .returned (.bool true) ∧ Below w.heap.size w w' := by
  have HW := Lib.hid (works_v w)
  have HN := Lib.hid (new_v 0)
  have hm60 : m < 60 := by omega
  have hn60 : n < 60 := by omega
  have hd1 : IntKind.i64.wrap (x : Int) = (x : Int) := by rw [IntKind.wrap_i64]; omega
  have hd2 : (x : Int).tmod 60 = (m : Int) := by rw [Int.tmod_eq_emod_of_nonneg (by omega)]; omega
  have hd3 : IntKind.i64.wrap (y : Int) = (y : Int) := by rw [IntKind.wrap_i64]; omega
  have hd4 : (y : Int).tmod 60 = (n : Int) := by rw [Int.tmod_eq_emod_of_nonneg (by omega)]; omega
  clear hm hn hx hy
  go_enter Try.func4, Try.ntmps4
  go_wp2_with fail
  refine HW.out.mono ?_
  rintro e wa ⟨rfl, hba⟩
  have HBA := Lib.hid hba
  clear HW hba
  go_wp2_with fail
  refine (HN.out _).mono ?_
  rintro e w1 ⟨Bb, ρ1, rfl, hB⟩
  have H1 := Lib.hid (func_v hB (by simp))
  clear hB HN
  go_wp2_with fail
  refine H1.out.mono ?_
  rintro e w2 ⟨ρ2, fv, F, M, rfl, hB⟩
  obtain ⟨W, hW⟩ : ∃ W, w2.alloc (.cells #[.int .i64 21, .int .i64 0, .int .i64 0, .int .i64 0] 33) = W := ⟨_, rfl⟩
  obtain ⟨O, hO⟩ : ∃ O, w2.heap.size = O := ⟨_, rfl⟩
  have hJ0 : JP wa Bb O [] [] (fun _ => none) 0 W := by rw [← hW, ← hO]; exact JP.start hB
  have hJ : JP wa Bb O ([] ++ List.replicate 0 sy) [] (fun _ => none) 0 W := hJ0
  have HJ := Lib.hid hJ
  have HW := Lib.hid hW
  have HO := Lib.hid hO
  clear hB H1 hJ hJ0 hW hO
  go_wp2_with fail
  rw [HW.out, HO.out]
  clear HW HO
  clear hd1 hd2 hd3 hd4
  go_loopw [11] (fun i wr => ∃ k : Nat, k ≤ m ∧ i = .int .i64 (k : Int) ∧ Hid (JP wa Bb O ([] ++ List.replicate k sy) [] (fun _ => none) 0 wr)) (fun i _ => m - (intOf i).toNat)
  case atStart => exact ⟨0, Nat.zero_le _, rfl, HJ⟩
  case round =>
    obtain ⟨k, hk, rfl, HR⟩ := hrel
    clear HJ
    by_cases hlt : k < m
    · have hltI : (k : Int) < (m : Int) := by omega
      obtain ⟨c0, c1, c2, c3, hOl⟩ := HR.out.one
      obtain ⟨W5, hW5⟩ : ∃ W5, wr.alloc (.cells #[.int .i64 21, .int .i64 0, .int .i64 0, .int .i64 0] 33) = W5 := ⟨_, rfl⟩
      have HC := Lib.hid (j_add (HR.out.below (w' := W5) (by rw [← hW5]; go_grown)) (by simp; omega) wr.heap.size 1 sy (by rw [← hW5]; exact rec_new rfl rfl))
      have HW5 := Lib.hid hW5
      clear hW5
      go_wp2_with fail
      rw [HW5.out]
      refine HC.out.mono ?_
      rintro e w6 ⟨rfl, hJ6⟩
      rw [rep_succ] at hJ6
      have HJ6 := Lib.hid hJ6
      clear hJ6 HC HW5 c0 c1 c2 c3 hOl
      go_wp2_with fail
      go_roundw
      case rel => exact ⟨k + 1, by omega, by go_num, HJ6⟩
      case measure => simp [intOf]; omega
    · obtain rfl : m = k := by omega
      have HC := Lib.hid (j_if HR.out (by simp; omega) (by simp) sx 3)
      go_wp2_with fail
      refine HC.out.mono ?_
      rintro e w7 ⟨rfl, hJ7⟩
      have hJ7b : JP wa Bb O (([] ++ List.replicate m sy ++ [(19, 3, 0, 0)]) ++ List.replicate 0 sy) ([] ++ [((([] ++ List.replicate m sy : List I4).length : Int), sx)]) (fun _ => none) 0 w7 := by rw [List.replicate_zero, List.append_nil]; exact hJ7
      have HJ7 := Lib.hid hJ7b
      clear hJ7 hJ7b HC HR hlt hk
      go_wp2_with fail
      go_loopw [13] (fun i wr => ∃ k : Nat, k ≤ n ∧ i = .int .i64 (k : Int) ∧ Hid (JP wa Bb O (([] ++ List.replicate m sy ++ [(19, 3, 0, 0)]) ++ List.replicate k sy) ([] ++ [((([] ++ List.replicate m sy : List I4).length : Int), sx)]) (fun _ => none) 0 wr)) (fun i _ => n - (intOf i).toNat)
      case atStart => exact ⟨0, Nat.zero_le _, rfl, HJ7⟩
      case round =>
        obtain ⟨k, hk, rfl, HR⟩ := hrel
        clear HJ7
        by_cases hlt : k < n
        · have hltI : (k : Int) < (n : Int) := by omega
          obtain ⟨c0, c1, c2, c3, hOl⟩ := HR.out.one
          obtain ⟨W5, hW5⟩ : ∃ W5, wr.alloc (.cells #[.int .i64 21, .int .i64 0, .int .i64 0, .int .i64 0] 33) = W5 := ⟨_, rfl⟩
          have HC := Lib.hid (j_add (HR.out.below (w' := W5) (by rw [← hW5]; go_grown)) (by simp; omega) wr.heap.size 1 sy (by rw [← hW5]; exact rec_new rfl rfl))
          have HW5 := Lib.hid hW5
          clear hW5
          go_wp2_with fail
          rw [HW5.out]
          refine HC.out.mono ?_
          rintro e w6 ⟨rfl, hJ6⟩
          rw [rep_succ] at hJ6
          have HJ6 := Lib.hid hJ6
          clear hJ6 HC HW5 c0 c1 c2 c3 hOl
          go_wp2_with fail
          go_roundw
          case rel => exact ⟨k + 1, by omega, by go_num, HJ6⟩
          case measure => simp [intOf]; omega
        · obtain rfl : n = k := by omega
          have HC := Lib.hid (j_label HR.out (by simp; omega) sx (by decide) rfl (by omega))
          clear hlt hk
          go_wp2_with fail
          refine HC.out.mono ?_
          rintro e w8 ⟨rfl, hJ8⟩
          clear HC
          obtain ⟨t, ht⟩ : ∃ t : Nat, m + 1 + n = t := ⟨_, rfl⟩
          have hat : IntKind.i64.wrap ((m : Int) + 1 + (n : Int)) = (t : Int) := by rw [IntKind.wrap_i64]; omega
          have hat2 : (m : Int) + 1 + (n : Int) = (t : Int) := by omega
          have HT := Lib.hid ht
          clear ht
          have HJ8 := Lib.hid hJ8
          clear hJ8
          obtain ⟨W8, hW8⟩ : ∃ W8, w8.alloc (.cells #[.int .i64 0, .int .i64 0, .int .i64 0, .int .i64 0] 33) = W8 := ⟨_, rfl⟩
          have HC := Lib.hid (j_add (HJ8.out.below (w' := W8) (by rw [← hW8]; go_grown)) (by simp; omega) w8.heap.size 1 (0, 0, 0, 0) (by rw [← hW8]; exact rec_new rfl rfl))
          have HW8 := Lib.hid hW8
          clear hW8 HJ8
          skip
          go_wp2_with fail
          rw [HW8.out]
          refine HC.out.mono ?_
          rintro e w9 ⟨rfl, hJ9⟩
          have hcs : ([] ++ List.replicate m sy ++ [((19, 3, 0, 0) : I4)]) ++ List.replicate n sy ++ [(0, 0, 0, 0)] = cJ m n 0 := by simp [cJ, List.append_assoc]
          have hls : [] ++ [((([] ++ List.replicate m sy : List I4).length : Int), sx)] = [(((m : Nat) : Int), sx)] := by simp
          rw [hcs, hls] at hJ9
          have HE := Lib.hid (j_end (p := m) (q := n) (a := (t : Int)) (s := sx) hJ9 (by decide) (by have := HT.out; simp; omega) (by omega) (by have := HT.out; omega) (by omega))
          have HB9 := Lib.hid hJ9.bel
          clear hJ9 HC HW8 hcs hls
          go_wp2_with fail
          refine HE.out.mono ?_
          rintro e w10 ⟨pb, po, pc, b, o, c, rfl, hb10, hpb, hb, hc, HV⟩
          obtain ⟨N, hN⟩ : ∃ N : Nat, m + n + 2 = N := ⟨_, rfl⟩
          obtain ⟨P, hP⟩ : ∃ P : Nat, m = P := ⟨_, rfl⟩
          obtain ⟨A, hA⟩ : ∃ A : Int, (t : Int) = A := ⟨_, rfl⟩
          have HV2 : Hid (∀ k, k < N → w10.cell? ⟨b, o + k * 4, none⟩ = some (.int .i64 (if k = P then 19 else if k = N - 1 then 0 else 21)) ∧ w10.cell? ⟨b, o + k * 4 + 1, none⟩ = some (.int .i64 (if k = P then 3 else 0)) ∧ w10.cell? ⟨b, o + k * 4 + 2, none⟩ = some (.int .i64 (if k = P then A else 0)) ∧ w10.cell? ⟨b, o + k * 4 + 3, none⟩ = some (.int .i64 0)) := Lib.hid (fun k hk => by
            obtain ⟨b', o', e', _, f0, f1, f2, f3⟩ := RV.four HV.out k (by omega)
            rw [Option.some.injEq, Addr.mk.injEq] at e'
            obtain ⟨rfl, rfl, _⟩ := e'
            rw [cJ_getD _ _ _ _ (by omega)] at f0 f1 f2 f3
            by_cases h1 : k = P
            · subst h1
              rw [if_pos hP.symm] at f0 f1 f2 f3
              rw [if_pos rfl, if_pos rfl, if_pos rfl, ← hA]
              exact ⟨f0, f1, f2, f3⟩
            · rw [if_neg (by omega)] at f0 f1 f2 f3
              rw [if_neg h1, if_neg h1, if_neg h1]
              by_cases h2 : k = N - 1
              · rw [if_pos (by omega)] at f0 f1 f2 f3
                rw [if_pos h2]
                exact ⟨f0, f1, f2, f3⟩
              · rw [if_neg (by omega)] at f0 f1 f2 f3
                rw [if_neg h2]
                exact ⟨f0, f1, f2, f3⟩)
          have hPN : P + 2 ≤ N := by omega
          have hN2 : N ≤ 200 := by omega
          have hx1 : (m : Int) + (n : Int) + 2 = (N : Int) := by omega
          have hNw : IntKind.i64.wrap (N : Int) = (N : Int) := by rw [IntKind.wrap_i64]; omega
          have hxw : IntKind.i64.wrap ((m : Int) + (n : Int) + 2) = (N : Int) := by rw [hx1, hNw]
          skip
          rw [hN] at hc
          have HPB := Lib.hid hpb
          have HBL := Lib.hid hb
          have HCE := Lib.hid hc
          have HB10 := Lib.hid ((tr3 HBA.out HB9.out).trans (hb10.mono (tr3 HBA.out HB9.out).size))
          obtain ⟨W11, hW11⟩ : ∃ W11, w10.alloc (.cells #[.int .i64 0, .slice (some ⟨pb, po, none⟩) 1 pc] 38) = W11 := ⟨_, rfl⟩
          have H11 : Hid (W11.cell? ⟨w10.heap.size, 1, none⟩ = some (.slice (some ⟨pb, po, none⟩) 1 pc) ∧ w10.heap.size < W11.heap.size ∧ Below w10.heap.size w10 W11) := Lib.hid (by
            rw [← hW11]
            exact ⟨ro.cel (heap_alloc_new _ _) 1, by simp, by go_grown⟩)
          have HW11 := Lib.hid hW11
          have HA := Lib.hid hA
          clear hW11
          have HP := Lib.hid hP
          clear hN hP hA HE HV hb10 HB9 HR HBA
          go_wp2_with fail
          rw [HW11.out]
          go_loopw [16, 17] (fun mv i wr => ∃ (k : Nat) (cc : Int), k ≤ N ∧ mv = .int .i64 cc ∧ i = .int .i64 (k : Int) ∧ Hid (cc = if P < k then 1 else 0) ∧ Hid (Below W11.heap.size W11 wr)) (fun mv i _ => N - (intOf i).toNat)
          case atStart => exact ⟨0, 0, Nat.zero_le _, rfl, rfl, Lib.hid (by rw [if_neg (by omega)]), Lib.hid (Below.refl _ _)⟩
          case round =>
            obtain ⟨k, cc, hk, rfl, rfl, HCC, HB0⟩ := hrel
            have HB := Lib.hid (tr3 H11.out.2.2 HB0.out)
            have kp : wr.cell? ⟨w10.heap.size, 1, none⟩ = some (.slice (some ⟨pb, po, none⟩) 1 pc) := (HB0.out.cell H11.out.2.1).trans H11.out.1
            clear hpb hb
            have k9 : wr.cell? ⟨pb, po, none⟩ = some (.slice (some ⟨b, o, none⟩) N c) := (HB.out.cell HPB.out).trans HCE.out
            clear hc
            by_cases hlt : k < N
            · have hltI : (k : Int) < (N : Int) := by omega
              obtain ⟨g0, g1, g2, g3⟩ := HV2.out k hlt
              have k0 := (HB.out.cell HBL.out).trans g0
              have k1 := (HB.out.cell HBL.out).trans g1
              have k2 := (HB.out.cell HBL.out).trans g2
              have k3 := (HB.out.cell HBL.out).trans g3
              clear g0 g1 g2 g3
              by_cases e : k = P
              · subst e
                have hcc : cc = 0 := by have := HCC.out; rwa [if_neg (by omega)] at this
                subst hcc
                rw [if_pos rfl] at k0 k1 k2
                rw [← HA.out] at k2
                clear HCC
                go_wp2_with fail
                go_roundw
                case rel => exact ⟨k + 1, 1, by omega, rfl, by go_num, Lib.hid (by rw [if_pos (by omega)]), Lib.hid (tr3 HB0.out (by go_grown))⟩
                case measure => simp [intOf]; omega
              · rw [if_neg e] at k0 k1 k2
                have HN1 : Hid (cc = if P < k + 1 then 1 else 0) := Lib.hid (by
                  have := HCC.out
                  by_cases h : P < k
                  · rw [if_pos h] at this; rw [if_pos (by omega), this]
                  · rw [if_neg h] at this; rw [if_neg (by omega), this])
                clear HCC
                obtain ⟨op, hop⟩ : ∃ op : Int, (if k = N - 1 then 0 else 21) = op := ⟨_, rfl⟩
                rw [hop] at k0
                have hop1 : ¬ op = 19 := by rw [← hop]; by_cases h : k = N - 1 <;> simp [h]
                have hop2 : (op == 19) = false := by simpa using hop1
                clear hop
                go_wp2_with fail
                go_roundw
                case rel => exact ⟨k + 1, cc, by omega, rfl, by go_num, HN1, Lib.hid (tr3 HB0.out (by go_grown))⟩
                case measure => simp [intOf]; omega
            · obtain rfl : N = k := by omega
              have hcc : cc = 1 := by have := HCC.out; rwa [if_pos (by omega)] at this
              subst hcc
              go_wp2_with fail
              go_ret
              exact ⟨rfl, HB10.out.trans (HB.out.mono HB10.out.size)⟩
theorem walk (a0 : Int) (a1 : Int) (a2 : Bool) (w : World) (w0 : (Lit.int .u8 a0).wf = true) (w1 : (Lit.int .u8 a1).wf = true) :
    Calls Try.prog 4 #[.int .u8 a0, .int .u8 a1, .bool a2] w fun e w' => e = .returned (.bool true) ∧ Below w.heap.size w w' := by
  have h0 : 0 ≤ a0 ∧ a0 ≤ 255 := bounds_u8 w0
  have h1 : 0 ≤ a1 ∧ a1 ≤ 255 := bounds_u8 w1
  obtain ⟨x, rfl⟩ : ∃ x : Nat, a0 = (x : Int) := ⟨a0.toNat, by omega⟩
  obtain ⟨t, rfl⟩ : ∃ t : Nat, a1 = (t : Int) := ⟨a1.toNat, by omega⟩
  cases a2
  · exact core_ahead x t _ _ w (by omega) (by omega) rfl rfl
  · exact core_back x t _ _ w (by omega) (by omega) rfl rfl
end Go.Proofs.Ytdneblbaofhehaa.buildJumps
