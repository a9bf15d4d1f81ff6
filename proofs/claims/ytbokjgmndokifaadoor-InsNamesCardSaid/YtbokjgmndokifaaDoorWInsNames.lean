/- InsNames, the walk (layer 3). -/
import Derived.Test.YtbokjgmndokifaaDoorInW
namespace Go.Proofs.YtbokjgmndokifaaDoor.insNames
open Go.ChangeShapes Go.WideShapes Go.ChangeAt Go.RowKit
open Go.Proofs.YtbokjgmndokifaaDoor.bin Go.Proofs.YtbokjgmndokifaaDoor.bits Go.Proofs.YtbokjgmndokifaaDoor.ins
set_option linter.unusedVariables false
set_option linter.unusedSimpArgs false
theorem which (s : List UInt8) : ∃ (k : Nat) (b : Bool), (∀ j, j < 26 → (nmL.getD j [] == s) = decide (b = true ∧ j = k)) ∧ (b = true → k < 26) ∧ (b = false → k = 0) := by
  by_cases h : ∃ j, j < 26 ∧ nmL.getD j [] = s
  · obtain ⟨k, hk, rfl⟩ := h
    refine ⟨k, true, fun j hj => ?_, fun _ => hk, (fun h => by cases h)⟩
    by_cases e : j = k
    · subst e; simp
    · rw [decide_eq_false (fun h => e h.2)]
      have : nmL.getD j [] ≠ nmL.getD k [] := fun h => e (nm_inj j hj k hk h)
      simpa using this
  · refine ⟨0, false, fun j hj => ?_, (fun h => by cases h), fun _ => rfl⟩
    rw [decide_eq_false (fun h => by cases h.1)]
    have : nmL.getD j [] ≠ s := fun e => h ⟨j, hj, e⟩
    simpa using this
set_option maxRecDepth 20000 in
set_option maxHeartbeats 4000000 in
theorem walk (a0 : Int) (a1 : ByteArray) (w : World) (w0 : (Lit.int .i64 a0).wf = true) (w1 : a1.size ≤ maxLen) (hN : NM w) :
    Calls Tryd.prog 3 #[.int .i64 a0, .string a1] w fun e w' => e = .returned (.bool true) ∧ Below w.heap.size w w' := by
  obtain ⟨s, rfl⟩ : ∃ s : List UInt8, a1 = ⟨s.toArray⟩ := ⟨a1.data.toList, by cases a1; simp⟩
  obtain ⟨kk, bb, hk, hb1, hb2⟩ := which s
  have CW := Lib.hid (works03 w hN)
  have HN := Lib.hid hN
  have HK := Lib.hid hk
  have HBB := Lib.hid (And.intro hb1 hb2)
  clear hN hk hb1 hb2 w0 w1
  go_enter Tryd.func3, Tryd.ntmps3
  go_wp2_with fail
  refine CW.out.mono ?_
  rintro e w1 ⟨rfl, hb1⟩
  have C1 := Lib.hid (names_v w1)
  have HB1 := Lib.hid hb1
  clear CW hb1
  go_wp2_with fail
  refine C1.out.mono ?_
  rintro e w2 ⟨rfl, hc2, hb2⟩
  obtain ⟨LB, hLB⟩ : ∃ LB, w1.heap.size = LB := ⟨_, rfl⟩
  rw [hLB] at hc2 ⊢
  have hlb2 : LB < w2.heap.size := World.block_lt_of_cell? _ _ (hc2 0 (by omega))
  have HC2 := Lib.hid hc2
  have HN2 := Lib.hid ((HN.out.below HB1.out).below hb2)
  have HB2 := Lib.hid (tr3 HB1.out hb2)
  have h0 : Hid (Below w2.heap.size w2 w2) := Lib.hid (Below.refl _ _)
  clear C1 hc2 hb2 hLB HB1 HN
  go_wp2_with fail
  go_loopw [5, 6, 8] (fun want is i wr => ∃ (k m : Nat) (b : Bool), i = .int .i64 (k : Int) ∧ want = .int .i64 (m : Int) ∧ is = .bool b ∧ k ≤ 26 ∧ Hid (b = decide (bb = true ∧ kk < k)) ∧ Hid (m = if bb = true ∧ kk < k then kk else 0) ∧ Hid (Below w2.heap.size w2 wr)) (fun _ _ i _ => 26 - (intOf i).toNat)
  case atStart => exact ⟨0, 0, false, rfl, rfl, rfl, by omega, Lib.hid (by simp), Lib.hid (by simp), h0⟩
  case round =>
    clear h0
    obtain ⟨k, m, b, rfl, rfl, rfl, hk, Hb, Hm, HB⟩ := hrel
    by_cases hlt : k < 26
    · have hc := (HB.out.cell (p := ⟨LB, k, none⟩) hlb2).trans (HC2.out k hlt)
      have hlbr : LB < wr.heap.size := Nat.lt_of_lt_of_le hlb2 HB.out.size
      have hkb := HK.out k hlt
      have hnr := HN2.out.below HB.out
      have CN := Lib.hid (fun w' (hb : Below wr.heap.size wr w') => name_v k hlt w' (hnr.below hb))
      have CF := Lib.hid (fun w => pf_of (k : Int) w)
      have CR := Lib.hid (fun w => rf_of (k : Int) w)
      unfold nm at hc CN
      obtain ⟨n, hn⟩ : ∃ n, nmL.getD k [] = n := ⟨_, rfl⟩
      obtain ⟨f, hf⟩ : ∃ f, frmI (k : Int) = f := ⟨_, rfl⟩
      rw [hn] at hc hkb CN
      rw [hf] at CF CR
      have hkI : (k : Int) < 26 := by omega
      have HKc : Hid (∀ w', Below wr.heap.size wr w' → Below wr.heap.size wr w' ∧ w'.cell? ⟨LB, k, none⟩ = some (.string ⟨n.toArray⟩)) := Lib.hid fun w' hb => ⟨hb, (hb.cell (p := ⟨LB, k, none⟩) hlbr).trans hc⟩
      clear hn hf hnr
      have key : ∀ (m2 : Nat) (b2 : Bool), Hid (b2 = decide (bb = true ∧ kk < k + 1)) → Hid (m2 = if bb = true ∧ kk < k + 1 then kk else 0) → True := fun _ _ _ _ => trivial
      by_cases hkk : bb = true ∧ k = kk
      · rw [decide_eq_true hkk] at hkb
        obtain ⟨hbt, hke⟩ := hkk
        have Hb1 : Hid (true = decide (bb = true ∧ kk < k + 1)) := Lib.hid (by rw [hbt, ← hke]; simp)
        have Hm1 : Hid (k = if bb = true ∧ kk < k + 1 then kk else 0) := Lib.hid (by rw [hbt, ← hke]; simp)
        clear hbt hke key Hb Hm
        go_wp2_with fail
        go_region_held3 (fun w' => Below wr.heap.size wr w' ∧ w'.cell? ⟨LB, k, none⟩ = some (.string ⟨n.toArray⟩)) (first | (with_reducible assumption) | exact HKc.out _ (Below.refl _ _) | exact HKc.out _ hb7 | (refine HKc.out _ ?_; go_grown; done))
          (first | (go_at_call 9; (with_reducible refine (CN.out _ ?_).mono ?_); (focus go_grown); rintro e w5 ⟨rfl, rfl⟩) | (go_at_call 10; (with_reducible refine (CF.out _).mono ?_); rintro e w5 ⟨rfl, rfl⟩) | (go_at_call 11; (with_reducible refine (CR.out _).mono ?_); rintro e w6 ⟨rfl, hb6⟩; have hb7 : Below wr.heap.size wr w6 := Below.trans (by go_grown) (hb6.mono (by go_grown))))
        have HB7 := Lib.hid (tr3 HB.out hb7)
        clear hb6 hb7 HB HKc
        go_wp2_with fail
        go_roundw
        case rel => exact ⟨k + 1, k, true, by go_num, rfl, rfl, by omega, Hb1, Hm1, HB7⟩
        case measure => simp [intOf]; omega
      · rw [decide_eq_false hkk] at hkb
        have hiff : (bb = true ∧ kk < k + 1) ↔ (bb = true ∧ kk < k) := by
          constructor
          · rintro ⟨h1, h2⟩
            exact ⟨h1, by have : k ≠ kk := fun e => hkk ⟨h1, e⟩; omega⟩
          · rintro ⟨h1, h2⟩
            exact ⟨h1, by omega⟩
        have Hb1 : Hid (b = decide (bb = true ∧ kk < k + 1)) := Lib.hid (by rw [Hb.out, decide_eq_decide]; exact hiff.symm)
        have Hm1 : Hid (m = if bb = true ∧ kk < k + 1 then kk else 0) := Lib.hid (by rw [Hm.out]; simp only [hiff])
        clear key hiff hkk
        go_wp2_with fail
        go_region_held3 (fun w' => Below wr.heap.size wr w' ∧ w'.cell? ⟨LB, k, none⟩ = some (.string ⟨n.toArray⟩)) (first | (with_reducible assumption) | exact HKc.out _ (Below.refl _ _) | exact HKc.out _ hb7 | (refine HKc.out _ ?_; go_grown; done))
          (first | (go_at_call 9; (with_reducible refine (CN.out _ ?_).mono ?_); (focus go_grown); rintro e w5 ⟨rfl, rfl⟩) | (go_at_call 10; (with_reducible refine (CF.out _).mono ?_); rintro e w5 ⟨rfl, rfl⟩) | (go_at_call 11; (with_reducible refine (CR.out _).mono ?_); rintro e w6 ⟨rfl, hb6⟩; have hb7 : Below wr.heap.size wr w6 := Below.trans (by go_grown) (hb6.mono (by go_grown))))
        have HB7 := Lib.hid (tr3 HB.out hb7)
        clear hb6 hb7 HB HKc
        go_wp2_with fail
        go_roundw
        case rel => exact ⟨k + 1, m, b, by go_num, rfl, rfl, by omega, Hb1, Hm1, HB7⟩
        case measure => simp [intOf]; omega
    · obtain rfl : k = 26 := by omega
      have hbv : b = bb := by
        rw [Hb.out]
        cases bb with
        | false => simp
        | true => have := HBB.out.1 rfl; simp; omega
      have hmv : m = kk := by
        rw [Hm.out]
        cases bb with
        | false => rw [HBB.out.2 rfl]; simp
        | true => have := HBB.out.1 rfl; rw [if_pos ⟨rfl, this⟩]
      subst hbv
      subst hmv
      have hnr := HN2.out.below HB.out
      have CO := Lib.hid (of_name s m b wr hnr HK HBB.out.1 HBB.out.2)
      have HBr := Lib.hid (tr3 HB2.out HB.out)
      have CF := Lib.hid (fun w => pf_of a0 w)
      have CR := Lib.hid (fun w => rf_of a0 w)
      have HNR := Lib.hid hnr
      obtain ⟨f, hf⟩ : ∃ f, frmI a0 = f := ⟨_, rfl⟩
      rw [hf] at CF CR
      clear Hb Hm HB HN2 HC2 hnr hf HB2
      have hbb : (b != b) = false := by simp
      by_cases hr : 0 ≤ a0 ∧ a0 ≤ 25
      · obtain ⟨p, rfl⟩ : ∃ p : Nat, a0 = (p : Int) := ⟨a0.toNat, by omega⟩
        have hp : p < 26 := by omega
        have hpI : (p : Int) ≤ 25 := by omega
        have CN := Lib.hid (fun w' (hb : Below wr.heap.size wr w') => name_v p hp w' (HNR.out.below hb))
        have hne := nm_ne p hp
        unfold nm at CN
        obtain ⟨n, hn⟩ : ∃ n, nmL.getD p [] = n := ⟨_, rfl⟩
        rw [hn] at CN hne
        have hnb : (n == ([] : List UInt8)) = false := by simpa using hne
        clear hn hr HBB HK
        go_wp2_with (first | (go_at_call 12; (with_reducible refine CO.out.mono ?_); rintro e w5 ⟨rfl, rfl⟩) | (go_at_call 10; (with_reducible refine (CF.out _).mono ?_); rintro e w5 ⟨rfl, rfl⟩) | (go_at_call 11; (with_reducible refine (CR.out _).mono ?_); rintro e w6 ⟨rfl, hb6⟩))
        have C9 := Lib.hid (CN.out w6 hb6)
        have HB6 := Lib.hid (tr3 HBr.out hb6)
        clear hb6 CN
        go_wp2_with (go_at_call 9; (with_reducible refine C9.out.mono ?_); rintro e w7 ⟨rfl, rfl⟩)
        go_ret
        exact ⟨by simp [hnb], HB6.out⟩
      · have hno : a0 < 0 ∨ 25 < a0 := by omega
        have CN := Lib.hid (fun w => name_no a0 hno w)
        by_cases hr0 : 0 ≤ a0
        · have hr1 : ¬ a0 ≤ 25 := by omega
          have hr2 : decide (a0 ≤ 25) = false := by simp; omega
          clear hr hno HBB HK
          go_wp2_with (first | (go_at_call 12; (with_reducible refine CO.out.mono ?_); rintro e w5 ⟨rfl, rfl⟩) | (go_at_call 10; (with_reducible refine (CF.out _).mono ?_); rintro e w5 ⟨rfl, rfl⟩) | (go_at_call 11; (with_reducible refine (CR.out _).mono ?_); rintro e w6 ⟨rfl, hb6⟩) | (go_at_call 9; (with_reducible refine (CN.out _).mono ?_); rintro e w7 ⟨rfl, rfl⟩))
          go_ret
          exact ⟨by first | rfl | simp, tr3 HBr.out hb6⟩
        · have hr1 : a0 < 0 := by omega
          clear hr hno HBB HK
          go_wp2_with (first | (go_at_call 12; (with_reducible refine CO.out.mono ?_); rintro e w5 ⟨rfl, rfl⟩) | (go_at_call 10; (with_reducible refine (CF.out _).mono ?_); rintro e w5 ⟨rfl, rfl⟩) | (go_at_call 11; (with_reducible refine (CR.out _).mono ?_); rintro e w6 ⟨rfl, hb6⟩) | (go_at_call 9; (with_reducible refine (CN.out _).mono ?_); rintro e w7 ⟨rfl, rfl⟩))
          go_ret
          exact ⟨by first | rfl | simp, tr3 HBr.out hb6⟩
end Go.Proofs.YtbokjgmndokifaaDoor.insNames
