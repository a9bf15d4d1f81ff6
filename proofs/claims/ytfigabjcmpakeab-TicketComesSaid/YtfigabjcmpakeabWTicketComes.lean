/- Each has its turn: the law TicketComes answers true. No condition. -/
import Derived.Test.YtfigabjcmpakeabTickC
namespace Go.Proofs.Ytfigabjcmpakeab.ticketComes
open Go.ChangeShapes Go.WideShapes Go.ChangeAt Go.RowKit
set_option linter.unusedVariables false
set_option linter.unusedSimpArgs false
def tcell (k j : Nat) : Value := .int .i64 (if j % 2 = 1 ∧ j / 2 < k then ((j / 2 : Nat) : Int) else 0)
theorem step_or {F n r s q p : Nat} (h : min (r + 1) n ≤ s ∨ ∀ p', p' < q → (p' + F) % n ≠ s) (hp : Hid ((q + F) % n = p)) (hne : p ≠ s) : min (r + 1) n ≤ s ∨ ∀ p', p' < q + 1 → (p' + F) % n ≠ s := by
  rcases h with h | h
  · exact .inl h
  · refine .inr (fun p' hp' => ?_)
    by_cases e : p' = q
    · subst e; rw [hp.out]; exact hne
    · exact h p' (by omega)
theorem hits (n F s : Nat) (hn : 0 < n) (hs : s < n) : ∃ p, p < n ∧ (p + F) % n = s := by
  refine ⟨(s + n - F % n) % n, Nat.mod_lt _ hn, ?_⟩
  have h1 := Nat.mod_add_div F n
  have h2 := Nat.mod_lt F hn
  rw [Nat.mod_add_mod, show s + n - F % n + F = s + n * (1 + F / n) by rw [Nat.mul_add]; omega, Nat.add_mul_mod_self_left]
  exact Nat.mod_eq_of_lt hs
def bcell (k j : Nat) : Value := .bool (decide (j < k))
set_option maxHeartbeats 4000000 in
set_option maxRecDepth 20000 in
theorem core (a0 : Int) (F n : Nat) (w : World) (w0 : (Lit.int .u8 a0).wf = true) (w1 : F ≤ 255) (hn : a0 % 8 + 1 = n) :
    Calls Try.prog 5 #[.int .u8 a0, .int .u8 F] w fun e w' => e = .returned (.bool true) ∧ Below w.heap.size w w' := by
  have h0 := bounds_u8 w0
  have e0 : a0.tmod 8 = a0 % 8 := Int.tmod_eq_emod_of_nonneg h0.1
  have hn1 : 1 ≤ n ∧ n ≤ 8 := by omega
  have hmk := run_make_cells Try.prog 27 33 (.agg #[.int .i64 0, .int .i64 0]) 2 16 Try.underlying27 (by kernel_rfl) .i64 .i64 n (by omega) (by omega)
  have hmk2 := run_make_row' (P := Try.prog) 42 4 (.bool false) 1 Try.underlying42 (by kernel_rfl) rfl .i64 .i64 n (by omega) (by omega)
  go_enter Try.func5, Try.ntmps5
  go_wp2_with (first | (go_at_call 15; refine (works12 _).mono ?_; rintro e w1 ⟨rfl, hb1⟩))
  refine (new_j 2 w _ hb1 (by decide)).mono ?_
  rintro e w2 ⟨S, g, rfl, hj0⟩
  clear hb1
  go_wp2_with fail
  have hT : Row w (w2.alloc (Obj.cells (madeCells #[Value.int IntKind.i64 0, Value.int IntKind.i64 0] (n * 2)) 33)) S g w2.heap.size 33 (n * 2) (tcell 0) := by
    obtain ⟨_, _, _, _, f5, f6⟩ := hj0.1.facts
    refine ⟨(made2 w2 (.int .i64 0) (n * 2) 33).congr (fun i hi => ?_), by omega, by omega, hj0.2.1.size⟩
    simp [tcell]
  have hj : J w (w2.alloc (Obj.cells (madeCells #[Value.int IntKind.i64 0, Value.int IntKind.i64 0] (n * 2)) 33)) S g [((0 : Nat) : Int), 0] := hj0.below' (by go_grown)
  generalize w2.heap.size = T at *
  clear hj0
  go_loopw [8] (fun i wr => ∃ k : Nat, k ≤ n ∧ i = .int .i64 k ∧ J w wr S g [(k : Int), 0] ∧ Row w wr S g T 33 (n * 2) (tcell k)) (fun i _ => n - (intOf i).toNat)
  case atStart => exact ⟨0, Nat.zero_le _, rfl, hj, hT⟩
  case round =>
    clear hj hT
    obtain ⟨k, hk, rfl, hj, hT⟩ := hrel
    by_cases hlt : k < n
    · go_wp2_with (first | (go_at_call 18; refine (task_j S g [(k : Int), 0] 0 k w _ hj (Lib.hid rfl) (by simp) (by simp)).mono ?_; rintro e wx ⟨rfl, hj2, hk2⟩; have hT2 := hT.keep hk2; have q0 := hT2.1.cell (i := k * 2) (by omega); have q1 := hT2.1.cell (i := k * 2 + 1) (by omega); have f0 := hT2.1.frozen (k * 2); have f1 := hT2.1.frozen (k * 2 + 1)))
      go_roundw
      case rel =>
        rw [show wrap64 ((k : Int) + 1) = ((k + 1 : Nat) : Int) from by unfold wrap64; omega] at hj2
        refine ⟨k + 1, by omega, by go_num, (hj2.row_set hT2 rfl).row_set (hT2.set _ _ rfl) rfl, ((hT2.set _ _ rfl).set _ _ rfl).congr (fun j hj => ?_)⟩
        by_cases e1 : j = k * 2 + 1
        · subst e1
          rw [if_pos rfl]
          unfold tcell
          rw [if_pos (by omega), show (k * 2 + 1) / 2 = k by omega]
        · rw [if_neg e1]
          by_cases e2 : j = k * 2
          · subst e2
            rw [if_pos rfl]
            unfold tcell
            rw [if_neg (by omega)]
          · rw [if_neg e2]
            unfold tcell
            by_cases e3 : j % 2 = 1 ∧ j / 2 < k
            · rw [if_pos e3, if_pos (by omega)]
            · rw [if_neg e3, if_neg (by omega)]
      case measure => simp [intOf]; omega
    · obtain rfl : n = k := by omega
      clear hlt hk hmk
      go_wp2_with fail
      have hH : Row w (wr.alloc (Obj.cells (madeCells #[Value.bool false] n) 4)) S g wr.heap.size 4 n (bcell 0) := by
        obtain ⟨_, _, _, _, f5, f6⟩ := hj.1.facts
        refine ⟨(World.rowIs_made wr (.bool false) n 4).congr (fun i hi => ?_), by omega, by omega, hj.2.1.size⟩
        simp [bcell]
      have hTH : T ≠ wr.heap.size := by have := hT.1.lt; omega
      have hj2 : J w (wr.alloc (Obj.cells (madeCells #[Value.bool false] n) 4)) S g [(n : Int), 0] := hj.below' (by go_grown)
      have hT2 := hT.below (w' := wr.alloc (Obj.cells (madeCells #[Value.bool false] n) 4)) (by go_grown)
      generalize wr.heap.size = H at *
      clear hj hT
      have hn0 : ¬ (n : Int) = 0 := by omega
      go_loopw [10] (fun rd wr => ∃ r s : Nat, rd = .int .i64 r ∧ r ≤ 2 * n ∧ s ≤ n ∧ min r n ≤ s ∧ J w wr S g [(n : Int), s] ∧ Row w wr S g T 33 (n * 2) (tcell n) ∧ Row w wr S g H 4 n (bcell s)) (fun rd _ => 2 * n - (intOf rd).toNat)
      case atStart => exact ⟨0, 0, rfl, by omega, by omega, by omega, hj2, hT2, hH⟩
      case round =>
        clear hj2 hT2 hH
        obtain ⟨r, s, rfl, hr, hs, hrs, hj, hT, hH⟩ := hrel
        by_cases hlt : r < 2 * n
        · have hlt' : (r : Int) < 2 * (n : Int) := by omega
          go_wp2_with fail
          go_loopw [11] (fun i wr => ∃ q s : Nat, i = .int .i64 q ∧ q ≤ n ∧ s ≤ n ∧ min r n ≤ s ∧ (min (r + 1) n ≤ s ∨ ∀ p, p < q → (p + F) % n ≠ s) ∧ J w wr S g [(n : Int), s] ∧ Row w wr S g T 33 (n * 2) (tcell n) ∧ Row w wr S g H 4 n (bcell s)) (fun i _ => n - (intOf i).toNat)
          case atStart => exact ⟨0, s, rfl, by omega, hs, hrs, .inr (fun p hp => by omega), hj, hT, hH⟩
          case round =>
            clear hj hT hH hs hrs
            obtain ⟨q, s, rfl, hq, hs, hrs, hor, hj, hT, hH⟩ := hrel
            by_cases hlq : q < n
            · have ep : ((q : Int) + (F : Int)).tmod n = (((q + F) % n : Nat) : Int) := by
                rw [Int.tmod_eq_emod_of_nonneg (by omega)]; push_cast; rfl
              have hp : (q + F) % n < n := Nat.mod_lt _ (by omega)
              have HOR := Lib.hid (And.intro hor hrs)
              clear hor hrs
              generalize hpe : (q + F) % n = p at *
              have HPE := Lib.hid hpe
              clear hpe
              rcases Nat.lt_trichotomy p s with hps | hps | hps
              · have qc : wr.cell? ⟨H, p, none⟩ = some (.bool true) := (hH.1.cell hp).trans (by simp [bcell, hps])
                go_wp2_with fail
                go_roundw
                case rel =>
                  exact ⟨q + 1, s, by go_num, by omega, hs, HOR.out.2, step_or HOR.out.1 HPE (by omega), hj, hT, hH⟩
                case measure => simp [intOf]; omega
              · subst hps
                have qc : wr.cell? ⟨H, p, none⟩ = some (.bool false) := (hH.1.cell hp).trans (by simp [bcell])
                have t0 : wr.cell? ⟨T, p * 2, none⟩ = some (.int .i64 0) := (hT.1.cell (by omega)).trans (by unfold tcell; rw [if_neg (by omega)])
                have t1 : wr.cell? ⟨T, p * 2 + 1, none⟩ = some (.int .i64 p) := (hT.1.cell (by omega)).trans (by unfold tcell; rw [if_pos (by omega), show (p * 2 + 1) / 2 = p by omega])
                go_wp2_with (first | (go_at_call 20; refine (tmine_j S g 1 [(n : Int), p] 0 p p true w _ hj (Lib.hid rfl) (Lib.hid rfl) (Lib.hid (by simp)) (by simp) (by simp)).mono ?_; rintro e wx ⟨rfl, hj2, hk2⟩; have s0 := hk2.cell t0 hT.2.1; have s1 := hk2.cell t1 hT.2.1; have hH2 := hH.keep hk2; have hT2 := hT.keep hk2) | (go_at_call 21; refine (tleave_j S g 1 [(n : Int), p] 0 p (p + 1 : Nat) w _ hj2 (Lib.hid rfl) (Lib.hid (by unfold wrap64; omega)) (by simp) (by simp)).mono ?_; rintro e wy ⟨rfl, hj3, hk3⟩; have hH3 := hH2.keep hk3; have hT3 := hT2.keep hk3; have qd := hH3.1.cell hp; have fd := hH3.1.frozen p))
                go_roundw
                case rel =>
                  refine ⟨q + 1, p + 1, by go_num, by omega, by omega, by have := HOR.out.2; omega, .inl (by have := HOR.out.2; omega), hj3.row_set hH3 rfl, hT3.other rfl hTH, (hH3.set p _ rfl).congr (fun j hj => ?_)⟩
                  unfold bcell
                  by_cases e1 : j = p
                  · rw [if_pos e1]; subst e1; simp
                  · rw [if_neg e1]; congr 1; apply Bool.eq_iff_iff.2; simp; omega
                case measure => simp [intOf]; omega
              · have qc : wr.cell? ⟨H, p, none⟩ = some (.bool false) := (hH.1.cell hp).trans (by simp [bcell]; omega)
                have t0 : wr.cell? ⟨T, p * 2, none⟩ = some (.int .i64 0) := (hT.1.cell (by omega)).trans (by unfold tcell; rw [if_neg (by omega)])
                have t1 : wr.cell? ⟨T, p * 2 + 1, none⟩ = some (.int .i64 p) := (hT.1.cell (by omega)).trans (by unfold tcell; rw [if_pos (by omega), show (p * 2 + 1) / 2 = p by omega])
                go_wp2_with (first | (go_at_call 20; refine (tmine_j S g 1 [(n : Int), s] 0 p s false w _ hj (Lib.hid rfl) (Lib.hid rfl) (Lib.hid (by simp; omega)) (by simp) (by simp)).mono ?_; rintro e wx ⟨rfl, hj2, hk2⟩; have hH2 := hH.keep hk2; have hT2 := hT.keep hk2))
                go_roundw
                case rel =>
                  exact ⟨q + 1, s, by go_num, by omega, hs, HOR.out.2, step_or HOR.out.1 HPE (by omega), hj2, hT2, hH2⟩
                case measure => simp [intOf]; omega
            · obtain rfl : q = n := by omega
              go_wp2_with fail
              go_roundw
              case rel =>
                refine ⟨r + 1, s, by go_num, by omega, hs, ?_, hj, hT, hH⟩
                rcases hor with h | h
                · exact h
                · by_cases hsn : s < q
                  · obtain ⟨p, hp1, hp2⟩ := hits q F s (by omega) hsn
                    exact absurd hp2 (h p hp1)
                  · omega
              case measure => simp [intOf]; omega
        · obtain rfl : s = n := by omega
          have hlt' : ¬ (r : Int) < 2 * (s : Int) := by omega
          go_wp2_with fail
          go_loopw [13] (fun i wr => ∃ j : Nat, j ≤ s ∧ i = .int .i64 j ∧ J w wr S g [(s : Int), s] ∧ Row w wr S g H 4 s (bcell s)) (fun i _ => s - (intOf i).toNat)
          case atStart => exact ⟨0, by omega, rfl, hj, hH⟩
          case round =>
            clear hj hT hH
            obtain ⟨j, hjs, rfl, hj, hH⟩ := hrel
            by_cases hlj : j < s
            · have qc : wr.cell? ⟨H, j, none⟩ = some (.bool true) := (hH.1.cell hlj).trans (by simp [bcell, hlj])
              go_wp2_with fail
              go_roundw
              case rel => exact ⟨j + 1, by omega, by go_num, hj, hH⟩
              case measure => simp [intOf]; omega
            · go_wp2_with fail
              go_ret
              exact ⟨rfl, hj.2.1⟩
theorem walk (a0 : Int) (a1 : Int) (w : World) (w0 : (Lit.int .u8 a0).wf = true) (w1 : (Lit.int .u8 a1).wf = true) :
    Calls Try.prog 5 #[.int .u8 a0, .int .u8 a1] w fun e w' => e = .returned (.bool true) ∧ Below w.heap.size w w' := by
  have h0 := bounds_u8 w0
  have h1 := bounds_u8 w1
  obtain ⟨F, rfl⟩ := Int.eq_ofNat_of_zero_le h1.1
  obtain ⟨n, hn⟩ := Int.eq_ofNat_of_zero_le (show 0 ≤ a0 % 8 + 1 by omega)
  exact core a0 F n w w0 (by omega) hn
end Go.Proofs.Ytfigabjcmpakeab.ticketComes
