/- Of any counters that were seen a stage is known to be past just if one of them was past it: the law StageKnows answers true. No condition. -/
import Derived.Test.YtpcpohbbmeonbabStage
import Derived.StillTailTactics
namespace Go.Proofs.Ytpcpohbbmeonbab.stageKnows
open Go.ChangeShapes Go.WideShapes Go.ChangeAt Go.RowKit
set_option linter.unusedVariables false

theorem big (x : Option Addr) (len cap : Nat) (a1 : Int) (w : World) (h : 300 < len) :
    Calls Try.prog 4 #[.slice x len cap, .int .i64 a1] w fun e w' => e = .returned (.bool true) ∧ Below w.heap.size w w' := by
  go_enter Try.func4, Try.ntmps4
  go_wp2_with (first | (go_at_call 11; refine (works21 _).mono ?_; rintro e w' ⟨rfl, hb1⟩))
  go_ret
  exact ⟨rfl, hb1⟩
set_option maxHeartbeats 4000000 in
theorem small (b off : Nat) (len cap : Nat) (zs : List Int) (a1 : Int) (w : World) (h : len ≤ 300) (hb : b < w.heap.size) (hc : Hid (∀ i, i < len → w.cell? ⟨b, off + i, none⟩ = some (.int .i64 (zs.getD i 0)))) :
    Calls Try.prog 4 #[.slice (some ⟨b, off, none⟩) len cap, .int .i64 a1] w fun e w' => e = .returned (.bool true) ∧ Below w.heap.size w w' := by
  go_enter Try.func4, Try.ntmps4
  go_wp2_with (first | (go_at_call 11; refine (works21 _).mono ?_; rintro e w1 ⟨rfl, hb1⟩) | (go_at_call 14; refine (knows_any _ _ _).mono ?_; rintro e w' ⟨rfl, rfl⟩) | (go_at_call 15; refine (known_any _ _).mono ?_; rintro e w' ⟨rfl, rfl⟩))
  obtain ⟨B, hB⟩ : ∃ B, B = w1.heap.size := ⟨_, rfl⟩
  rw [← hB]
  have hbB : b < B := by have := hb1.size; omega
  have HB := Lib.hid hB
  have hle : w.heap.size ≤ B := by have := hb1.size; omega
  clear hB
  go_loopw [6, 7, 8] (fun most knows i wr => ∃ (k : Nat) (m : Int), k ≤ len ∧ i = .int .i64 k ∧ most = .int .i64 m ∧ knows = .bool (decide (a1 < m)) ∧ wr.cell? ⟨B, 0, none⟩ = some (.int .i64 m) ∧ wr.frozen? ⟨B, 0, none⟩ = false ∧ B < wr.heap.size ∧ Below w.heap.size w wr) (fun _ _ i _ => len - (intOf i).toNat)
  case atStart =>
    refine ⟨0, 0, Nat.zero_le _, rfl, rfl, rfl, ?_, ?_, ?_, ?_⟩
    · rw [HB.out]; go_simp
    · rw [HB.out]; go_simp
    · rw [HB.out]; simp; omega
    · exact ((hb1.alloc hb1.size _).alloc (Nat.le_trans hb1.size (by simp)) _).alloc (Nat.le_trans hb1.size (by simp; omega)) _
  case round =>
    obtain ⟨k, m, hk, rfl, rfl, rfl, hcm, hfm, hBw, hbw⟩ := hrel
    clear hb1 HB
    by_cases hlt : k < len
    · have hz : wr.cell? ⟨b, off + k, none⟩ = some (.int .i64 (zs.getD k 0)) := (hbw.cell (p := ⟨b, off + k, none⟩) hb).trans (hc.out k hlt)
      generalize zs.getD k 0 = z at hz
      obtain ⟨wd, hwd⟩ : ∃ wd, wd = wr.drew := ⟨_, rfl⟩
      have hcm' : wd.cell? ⟨B, 0, none⟩ = some (.int .i64 m) := by rw [hwd]; exact hcm
      have hfm' : wd.frozen? ⟨B, 0, none⟩ = false := by rw [hwd]; exact hfm
      have hBd : B < wd.heap.size := by rw [hwd]; exact hBw
      have hz' : wd.cell? ⟨b, off + k, none⟩ = some (.int .i64 z) := by rw [hwd]; exact hz
      have hbd : Below w.heap.size w wd := by rw [hwd]; exact below_drewN hbw 1
      have HWD := Lib.hid hwd
      clear hwd
      have hne : (b == B) = false := by simp; omega
      rcases Int.lt_trichotomy m z with h1 | h1 | h1
      · have hs : Hid (sMax m z = z) := by show sMax m z = z; unfold sMax; rw [if_pos h1]
        by_cases h2 : a1 < m
        · have hcb : (((wd.setCell ⟨B, 0, none⟩ (.int .i64 z)).alloc (.cells #[.int .i64 m] 28)).alloc (.cells #[.int .i64 z] 28)).cell? ⟨b, off + k, none⟩ = some (.int .i64 z) := ((((((Below.refl B wd).setCell (Nat.le_refl _) _).alloc (by simp; omega) _).alloc (by simp; omega) _).cell (p := ⟨b, off + k, none⟩) hbB).trans hz')
          have e2 : decide (a1 < m) = true := decide_eq_true h2
          have e3 : decide (a1 < z) = true := decide_eq_true (by omega)
          have hcB : (((wd.setCell ⟨B, 0, none⟩ (.int .i64 z)).alloc (.cells #[.int .i64 m] 28)).alloc (.cells #[.int .i64 z] 28)).cell? ⟨B, 0, none⟩ = some (.int .i64 z) := ((((Below.refl (B + 1) _).alloc (by simp; omega) _).alloc (by simp; omega) _).cell (p := ⟨B, 0, none⟩) (Nat.lt_succ_self B)).trans (World.cell?_setCell_same wd _ _ hcm')
          have hcB2 : ((((wd.setCell ⟨B, 0, none⟩ (.int .i64 z)).alloc (.cells #[.int .i64 m] 28)).alloc (.cells #[.int .i64 z] 28)).alloc (.cells #[.int .i64 z] 28)).cell? ⟨B, 0, none⟩ = some (.int .i64 z) := (((Below.refl (B + 1) _).alloc (by simp; omega) _).cell (p := ⟨B, 0, none⟩) (Nat.lt_succ_self B)).trans hcB
          go_wp2_with fail
          go_still_tail 5, (by kernel_rfl)
          change wpList _ _ _ _ _ wr.drew
          rw [← HWD.out]
          clear hcm hfm hBw hz hbw
          go_wp2_with (first | (go_at_call 13; refine (past_any _ _ _).mono ?_; rintro e w' ⟨rfl, rfl⟩) | (go_at_call 14; refine (knows_any _ _ _).mono ?_; rintro e w' ⟨rfl, rfl⟩) | (go_at_call 15; refine (known_any _ _).mono ?_; rintro e w' ⟨rfl, rfl⟩) | (go_at_call 16; refine (saw_any m z z _ hs.out).mono ?_; rintro e w' ⟨rfl, rfl⟩))
          go_roundw
          case rel =>
            refine ⟨k + 1, z, by omega, by go_num, rfl, by first | rfl | (simp; omega), ?_, ?_, ?_, ?_⟩
            · exact (((Below.refl (B + 1) _).alloc (by simp; omega) _).cell (p := ⟨B, 0, none⟩) (Nat.lt_succ_self B)).trans hcB2
            · exact ((((((Below.refl (B + 1) _).alloc (by simp; omega) _).alloc (by simp; omega) _).alloc (by simp; omega) _).alloc (by simp; omega) _).frozen (p := ⟨B, 0, none⟩) (Nat.lt_succ_self B)).trans (by go_simp)
            · simp; omega
            · repeat (first | exact hbd | refine Below.setCell ?_ (by first | (simp; done) | (simp; omega)) _ | refine Below.alloc ?_ (by have := hbd.size; first | omega | (simp; omega)) _)
          case measure => simp [intOf]; omega
        · by_cases h3 : a1 < z
          · have hcb : (((wd.setCell ⟨B, 0, none⟩ (.int .i64 z)).alloc (.cells #[.int .i64 m] 28)).alloc (.cells #[.int .i64 z] 28)).cell? ⟨b, off + k, none⟩ = some (.int .i64 z) := ((((((Below.refl B wd).setCell (Nat.le_refl _) _).alloc (by simp; omega) _).alloc (by simp; omega) _).cell (p := ⟨b, off + k, none⟩) hbB).trans hz')
            have e2 : decide (a1 < m) = false := decide_eq_false h2
            have e3 : decide (a1 < z) = true := decide_eq_true h3
            have hcB : (((wd.setCell ⟨B, 0, none⟩ (.int .i64 z)).alloc (.cells #[.int .i64 m] 28)).alloc (.cells #[.int .i64 z] 28)).cell? ⟨B, 0, none⟩ = some (.int .i64 z) := ((((Below.refl (B + 1) _).alloc (by simp; omega) _).alloc (by simp; omega) _).cell (p := ⟨B, 0, none⟩) (Nat.lt_succ_self B)).trans (World.cell?_setCell_same wd _ _ hcm')
            have hcB2 : ((((wd.setCell ⟨B, 0, none⟩ (.int .i64 z)).alloc (.cells #[.int .i64 m] 28)).alloc (.cells #[.int .i64 z] 28)).alloc (.cells #[.int .i64 z] 28)).cell? ⟨B, 0, none⟩ = some (.int .i64 z) := (((Below.refl (B + 1) _).alloc (by simp; omega) _).cell (p := ⟨B, 0, none⟩) (Nat.lt_succ_self B)).trans hcB
            go_wp2_with fail
            go_still_tail 5, (by kernel_rfl)
            change wpList _ _ _ _ _ wr.drew
            rw [← HWD.out]
            clear hcm hfm hBw hz hbw
            go_wp2_with (first | (go_at_call 13; refine (past_any _ _ _).mono ?_; rintro e w' ⟨rfl, rfl⟩) | (go_at_call 14; refine (knows_any _ _ _).mono ?_; rintro e w' ⟨rfl, rfl⟩) | (go_at_call 15; refine (known_any _ _).mono ?_; rintro e w' ⟨rfl, rfl⟩) | (go_at_call 16; refine (saw_any m z z _ hs.out).mono ?_; rintro e w' ⟨rfl, rfl⟩))
            go_roundw
            case rel =>
              refine ⟨k + 1, z, by omega, by go_num, rfl, by first | rfl | (simp; omega), ?_, ?_, ?_, ?_⟩
              · exact (((Below.refl (B + 1) _).alloc (by simp; omega) _).cell (p := ⟨B, 0, none⟩) (Nat.lt_succ_self B)).trans hcB2
              · exact ((((((Below.refl (B + 1) _).alloc (by simp; omega) _).alloc (by simp; omega) _).alloc (by simp; omega) _).alloc (by simp; omega) _).frozen (p := ⟨B, 0, none⟩) (Nat.lt_succ_self B)).trans (by go_simp)
              · simp; omega
              · repeat (first | exact hbd | refine Below.setCell ?_ (by first | (simp; done) | (simp; omega)) _ | refine Below.alloc ?_ (by have := hbd.size; first | omega | (simp; omega)) _)
            case measure => simp [intOf]; omega
          · have hcb : (((wd.setCell ⟨B, 0, none⟩ (.int .i64 z)).alloc (.cells #[.int .i64 m] 28)).alloc (.cells #[.int .i64 z] 28)).cell? ⟨b, off + k, none⟩ = some (.int .i64 z) := ((((((Below.refl B wd).setCell (Nat.le_refl _) _).alloc (by simp; omega) _).alloc (by simp; omega) _).cell (p := ⟨b, off + k, none⟩) hbB).trans hz')
            have e2 : decide (a1 < m) = false := decide_eq_false h2
            have e3 : decide (a1 < z) = false := decide_eq_false h3
            have hcB : (((wd.setCell ⟨B, 0, none⟩ (.int .i64 z)).alloc (.cells #[.int .i64 m] 28)).alloc (.cells #[.int .i64 z] 28)).cell? ⟨B, 0, none⟩ = some (.int .i64 z) := ((((Below.refl (B + 1) _).alloc (by simp; omega) _).alloc (by simp; omega) _).cell (p := ⟨B, 0, none⟩) (Nat.lt_succ_self B)).trans (World.cell?_setCell_same wd _ _ hcm')
            have hcB2 : ((((wd.setCell ⟨B, 0, none⟩ (.int .i64 z)).alloc (.cells #[.int .i64 m] 28)).alloc (.cells #[.int .i64 z] 28)).alloc (.cells #[.int .i64 z] 28)).cell? ⟨B, 0, none⟩ = some (.int .i64 z) := (((Below.refl (B + 1) _).alloc (by simp; omega) _).cell (p := ⟨B, 0, none⟩) (Nat.lt_succ_self B)).trans hcB
            go_wp2_with fail
            go_still_tail 5, (by kernel_rfl)
            change wpList _ _ _ _ _ wr.drew
            rw [← HWD.out]
            clear hcm hfm hBw hz hbw
            go_wp2_with (first | (go_at_call 13; refine (past_any _ _ _).mono ?_; rintro e w' ⟨rfl, rfl⟩) | (go_at_call 14; refine (knows_any _ _ _).mono ?_; rintro e w' ⟨rfl, rfl⟩) | (go_at_call 15; refine (known_any _ _).mono ?_; rintro e w' ⟨rfl, rfl⟩) | (go_at_call 16; refine (saw_any m z z _ hs.out).mono ?_; rintro e w' ⟨rfl, rfl⟩))
            go_roundw
            case rel =>
              refine ⟨k + 1, z, by omega, by go_num, rfl, by first | rfl | (simp; omega), ?_, ?_, ?_, ?_⟩
              · exact (((Below.refl (B + 1) _).alloc (by simp; omega) _).cell (p := ⟨B, 0, none⟩) (Nat.lt_succ_self B)).trans hcB2
              · exact ((((((Below.refl (B + 1) _).alloc (by simp; omega) _).alloc (by simp; omega) _).alloc (by simp; omega) _).alloc (by simp; omega) _).frozen (p := ⟨B, 0, none⟩) (Nat.lt_succ_self B)).trans (by go_simp)
              · simp; omega
              · repeat (first | exact hbd | refine Below.setCell ?_ (by first | (simp; done) | (simp; omega)) _ | refine Below.alloc ?_ (by have := hbd.size; first | omega | (simp; omega)) _)
            case measure => simp [intOf]; omega
      · subst h1
        have hs : Hid (sMax m m = m) := by show sMax m m = m; unfold sMax; rw [if_neg (by omega)]
        by_cases h2 : a1 < m
        · have hcb : (((wd.setCell ⟨B, 0, none⟩ (.int .i64 m)).alloc (.cells #[.int .i64 m] 28)).alloc (.cells #[.int .i64 m] 28)).cell? ⟨b, off + k, none⟩ = some (.int .i64 m) := ((((((Below.refl B wd).setCell (Nat.le_refl _) _).alloc (by simp; omega) _).alloc (by simp; omega) _).cell (p := ⟨b, off + k, none⟩) hbB).trans hz')
          have e2 : decide (a1 < m) = true := decide_eq_true h2
          have hcB : (((wd.setCell ⟨B, 0, none⟩ (.int .i64 m)).alloc (.cells #[.int .i64 m] 28)).alloc (.cells #[.int .i64 m] 28)).cell? ⟨B, 0, none⟩ = some (.int .i64 m) := ((((Below.refl (B + 1) _).alloc (by simp; omega) _).alloc (by simp; omega) _).cell (p := ⟨B, 0, none⟩) (Nat.lt_succ_self B)).trans (World.cell?_setCell_same wd _ _ hcm')
          have hcB2 : ((((wd.setCell ⟨B, 0, none⟩ (.int .i64 m)).alloc (.cells #[.int .i64 m] 28)).alloc (.cells #[.int .i64 m] 28)).alloc (.cells #[.int .i64 m] 28)).cell? ⟨B, 0, none⟩ = some (.int .i64 m) := (((Below.refl (B + 1) _).alloc (by simp; omega) _).cell (p := ⟨B, 0, none⟩) (Nat.lt_succ_self B)).trans hcB
          go_wp2_with fail
          go_still_tail 5, (by kernel_rfl)
          change wpList _ _ _ _ _ wr.drew
          rw [← HWD.out]
          clear hcm hfm hBw hz hbw
          go_wp2_with (first | (go_at_call 13; refine (past_any _ _ _).mono ?_; rintro e w' ⟨rfl, rfl⟩) | (go_at_call 14; refine (knows_any _ _ _).mono ?_; rintro e w' ⟨rfl, rfl⟩) | (go_at_call 15; refine (known_any _ _).mono ?_; rintro e w' ⟨rfl, rfl⟩) | (go_at_call 16; refine (saw_any m m m _ hs.out).mono ?_; rintro e w' ⟨rfl, rfl⟩))
          go_roundw
          case rel =>
            refine ⟨k + 1, m, by omega, by go_num, rfl, by first | rfl | (simp; omega), ?_, ?_, ?_, ?_⟩
            · exact (((Below.refl (B + 1) _).alloc (by simp; omega) _).cell (p := ⟨B, 0, none⟩) (Nat.lt_succ_self B)).trans hcB2
            · exact ((((((Below.refl (B + 1) _).alloc (by simp; omega) _).alloc (by simp; omega) _).alloc (by simp; omega) _).alloc (by simp; omega) _).frozen (p := ⟨B, 0, none⟩) (Nat.lt_succ_self B)).trans (by go_simp)
            · simp; omega
            · repeat (first | exact hbd | refine Below.setCell ?_ (by first | (simp; done) | (simp; omega)) _ | refine Below.alloc ?_ (by have := hbd.size; first | omega | (simp; omega)) _)
          case measure => simp [intOf]; omega
        · have hcb : (((wd.setCell ⟨B, 0, none⟩ (.int .i64 m)).alloc (.cells #[.int .i64 m] 28)).alloc (.cells #[.int .i64 m] 28)).cell? ⟨b, off + k, none⟩ = some (.int .i64 m) := ((((((Below.refl B wd).setCell (Nat.le_refl _) _).alloc (by simp; omega) _).alloc (by simp; omega) _).cell (p := ⟨b, off + k, none⟩) hbB).trans hz')
          have e2 : decide (a1 < m) = false := decide_eq_false h2
          have hcB : (((wd.setCell ⟨B, 0, none⟩ (.int .i64 m)).alloc (.cells #[.int .i64 m] 28)).alloc (.cells #[.int .i64 m] 28)).cell? ⟨B, 0, none⟩ = some (.int .i64 m) := ((((Below.refl (B + 1) _).alloc (by simp; omega) _).alloc (by simp; omega) _).cell (p := ⟨B, 0, none⟩) (Nat.lt_succ_self B)).trans (World.cell?_setCell_same wd _ _ hcm')
          have hcB2 : ((((wd.setCell ⟨B, 0, none⟩ (.int .i64 m)).alloc (.cells #[.int .i64 m] 28)).alloc (.cells #[.int .i64 m] 28)).alloc (.cells #[.int .i64 m] 28)).cell? ⟨B, 0, none⟩ = some (.int .i64 m) := (((Below.refl (B + 1) _).alloc (by simp; omega) _).cell (p := ⟨B, 0, none⟩) (Nat.lt_succ_self B)).trans hcB
          go_wp2_with fail
          go_still_tail 5, (by kernel_rfl)
          change wpList _ _ _ _ _ wr.drew
          rw [← HWD.out]
          clear hcm hfm hBw hz hbw
          go_wp2_with (first | (go_at_call 13; refine (past_any _ _ _).mono ?_; rintro e w' ⟨rfl, rfl⟩) | (go_at_call 14; refine (knows_any _ _ _).mono ?_; rintro e w' ⟨rfl, rfl⟩) | (go_at_call 15; refine (known_any _ _).mono ?_; rintro e w' ⟨rfl, rfl⟩) | (go_at_call 16; refine (saw_any m m m _ hs.out).mono ?_; rintro e w' ⟨rfl, rfl⟩))
          go_roundw
          case rel =>
            refine ⟨k + 1, m, by omega, by go_num, rfl, by first | rfl | (simp; omega), ?_, ?_, ?_, ?_⟩
            · exact (((Below.refl (B + 1) _).alloc (by simp; omega) _).cell (p := ⟨B, 0, none⟩) (Nat.lt_succ_self B)).trans hcB2
            · exact ((((((Below.refl (B + 1) _).alloc (by simp; omega) _).alloc (by simp; omega) _).alloc (by simp; omega) _).alloc (by simp; omega) _).frozen (p := ⟨B, 0, none⟩) (Nat.lt_succ_self B)).trans (by go_simp)
            · simp; omega
            · repeat (first | exact hbd | refine Below.setCell ?_ (by first | (simp; done) | (simp; omega)) _ | refine Below.alloc ?_ (by have := hbd.size; first | omega | (simp; omega)) _)
          case measure => simp [intOf]; omega
      · have hs : Hid (sMax m z = m) := by show sMax m z = m; unfold sMax; rw [if_neg (by omega)]
        by_cases h2 : a1 < m
        · have hcb : (((wd.setCell ⟨B, 0, none⟩ (.int .i64 m)).alloc (.cells #[.int .i64 m] 28)).alloc (.cells #[.int .i64 m] 28)).cell? ⟨b, off + k, none⟩ = some (.int .i64 z) := ((((((Below.refl B wd).setCell (Nat.le_refl _) _).alloc (by simp; omega) _).alloc (by simp; omega) _).cell (p := ⟨b, off + k, none⟩) hbB).trans hz')
          have e2 : decide (a1 < m) = true := decide_eq_true h2
          have hcB : (((wd.setCell ⟨B, 0, none⟩ (.int .i64 m)).alloc (.cells #[.int .i64 m] 28)).alloc (.cells #[.int .i64 m] 28)).cell? ⟨B, 0, none⟩ = some (.int .i64 m) := ((((Below.refl (B + 1) _).alloc (by simp; omega) _).alloc (by simp; omega) _).cell (p := ⟨B, 0, none⟩) (Nat.lt_succ_self B)).trans (World.cell?_setCell_same wd _ _ hcm')
          have hcB2 : ((((wd.setCell ⟨B, 0, none⟩ (.int .i64 m)).alloc (.cells #[.int .i64 m] 28)).alloc (.cells #[.int .i64 m] 28)).alloc (.cells #[.int .i64 m] 28)).cell? ⟨B, 0, none⟩ = some (.int .i64 m) := (((Below.refl (B + 1) _).alloc (by simp; omega) _).cell (p := ⟨B, 0, none⟩) (Nat.lt_succ_self B)).trans hcB
          go_wp2_with fail
          go_still_tail 5, (by kernel_rfl)
          change wpList _ _ _ _ _ wr.drew
          rw [← HWD.out]
          clear hcm hfm hBw hz hbw
          go_wp2_with (first | (go_at_call 13; refine (past_any _ _ _).mono ?_; rintro e w' ⟨rfl, rfl⟩) | (go_at_call 14; refine (knows_any _ _ _).mono ?_; rintro e w' ⟨rfl, rfl⟩) | (go_at_call 15; refine (known_any _ _).mono ?_; rintro e w' ⟨rfl, rfl⟩) | (go_at_call 16; refine (saw_any m z m _ hs.out).mono ?_; rintro e w' ⟨rfl, rfl⟩))
          go_roundw
          case rel =>
            refine ⟨k + 1, m, by omega, by go_num, rfl, by first | rfl | (simp; omega), ?_, ?_, ?_, ?_⟩
            · exact (((Below.refl (B + 1) _).alloc (by simp; omega) _).cell (p := ⟨B, 0, none⟩) (Nat.lt_succ_self B)).trans hcB2
            · exact ((((((Below.refl (B + 1) _).alloc (by simp; omega) _).alloc (by simp; omega) _).alloc (by simp; omega) _).alloc (by simp; omega) _).frozen (p := ⟨B, 0, none⟩) (Nat.lt_succ_self B)).trans (by go_simp)
            · simp; omega
            · repeat (first | exact hbd | refine Below.setCell ?_ (by first | (simp; done) | (simp; omega)) _ | refine Below.alloc ?_ (by have := hbd.size; first | omega | (simp; omega)) _)
          case measure => simp [intOf]; omega
        · have hcb : (((wd.setCell ⟨B, 0, none⟩ (.int .i64 m)).alloc (.cells #[.int .i64 m] 28)).alloc (.cells #[.int .i64 m] 28)).cell? ⟨b, off + k, none⟩ = some (.int .i64 z) := ((((((Below.refl B wd).setCell (Nat.le_refl _) _).alloc (by simp; omega) _).alloc (by simp; omega) _).cell (p := ⟨b, off + k, none⟩) hbB).trans hz')
          have e2 : decide (a1 < m) = false := decide_eq_false h2
          have e3 : decide (a1 < z) = false := decide_eq_false (by omega)
          have hcB : (((wd.setCell ⟨B, 0, none⟩ (.int .i64 m)).alloc (.cells #[.int .i64 m] 28)).alloc (.cells #[.int .i64 m] 28)).cell? ⟨B, 0, none⟩ = some (.int .i64 m) := ((((Below.refl (B + 1) _).alloc (by simp; omega) _).alloc (by simp; omega) _).cell (p := ⟨B, 0, none⟩) (Nat.lt_succ_self B)).trans (World.cell?_setCell_same wd _ _ hcm')
          have hcB2 : ((((wd.setCell ⟨B, 0, none⟩ (.int .i64 m)).alloc (.cells #[.int .i64 m] 28)).alloc (.cells #[.int .i64 m] 28)).alloc (.cells #[.int .i64 m] 28)).cell? ⟨B, 0, none⟩ = some (.int .i64 m) := (((Below.refl (B + 1) _).alloc (by simp; omega) _).cell (p := ⟨B, 0, none⟩) (Nat.lt_succ_self B)).trans hcB
          go_wp2_with fail
          go_still_tail 5, (by kernel_rfl)
          change wpList _ _ _ _ _ wr.drew
          rw [← HWD.out]
          clear hcm hfm hBw hz hbw
          go_wp2_with (first | (go_at_call 13; refine (past_any _ _ _).mono ?_; rintro e w' ⟨rfl, rfl⟩) | (go_at_call 14; refine (knows_any _ _ _).mono ?_; rintro e w' ⟨rfl, rfl⟩) | (go_at_call 15; refine (known_any _ _).mono ?_; rintro e w' ⟨rfl, rfl⟩) | (go_at_call 16; refine (saw_any m z m _ hs.out).mono ?_; rintro e w' ⟨rfl, rfl⟩))
          go_roundw
          case rel =>
            refine ⟨k + 1, m, by omega, by go_num, rfl, by first | rfl | (simp; omega), ?_, ?_, ?_, ?_⟩
            · exact (((Below.refl (B + 1) _).alloc (by simp; omega) _).cell (p := ⟨B, 0, none⟩) (Nat.lt_succ_self B)).trans hcB2
            · exact ((((((Below.refl (B + 1) _).alloc (by simp; omega) _).alloc (by simp; omega) _).alloc (by simp; omega) _).alloc (by simp; omega) _).frozen (p := ⟨B, 0, none⟩) (Nat.lt_succ_self B)).trans (by go_simp)
            · simp; omega
            · repeat (first | exact hbd | refine Below.setCell ?_ (by first | (simp; done) | (simp; omega)) _ | refine Below.alloc ?_ (by have := hbd.size; first | omega | (simp; omega)) _)
          case measure => simp [intOf]; omega
    · go_wp2_with fail
      go_ret
      exact ⟨rfl, hbw⟩
theorem nilw (x : Option Addr) (cap : Nat) (a1 : Int) (w : World) :
    Calls Try.prog 4 #[.slice x 0 cap, .int .i64 a1] w fun e w' => e = .returned (.bool true) ∧ Below w.heap.size w w' := by
  go_enter Try.func4, Try.ntmps4
  go_wp2_with (first | (go_at_call 11; refine (works21 _).mono ?_; rintro e w1 ⟨rfl, hb1⟩) | (go_at_call 14; refine (knows_any _ _ _).mono ?_; rintro e w' ⟨rfl, rfl⟩) | (go_at_call 15; refine (known_any _ _).mono ?_; rintro e w' ⟨rfl, rfl⟩))
  refine wp_loop_rounds 1 ?_
  rw [rounds_succ]
  go_wp2_with fail
  go_ret
  exact ⟨rfl, ((hb1.alloc hb1.size _).alloc (Nat.le_trans hb1.size (by simp)) _).alloc (Nat.le_trans hb1.size (by simp; omega)) _⟩
theorem walk (a0 : Option Addr) (len0 cap0 : Nat) (z0 : List Int) (a1 : Int) (w : World) (w0 : IsRow .i64 w a0 len0 cap0 z0) (w1 : (Lit.int .i64 a1).wf = true) :
    Calls Try.prog 4 #[.slice a0 len0 cap0, .int .i64 a1] w fun e w' => e = .returned (.bool true) ∧ Below w.heap.size w w' := by
  by_cases hbig : 300 < len0
  · exact big a0 len0 cap0 a1 w hbig
  rcases w0.split with rfl | ⟨b, off, rfl, hlt, hle, hm, hz, hc, _⟩
  · exact nilw a0 cap0 a1 w
  · exact small b off len0 cap0 z0 a1 w (by omega) hlt (fun i hi => hc i (by omega))
end Go.Proofs.Ytpcpohbbmeonbab.stageKnows
