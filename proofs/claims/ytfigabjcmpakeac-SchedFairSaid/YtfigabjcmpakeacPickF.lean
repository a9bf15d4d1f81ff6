/- The reference's Count, Holds and Window of picks (layer 36). -/
import Derived.Test.YtfigabjcmpakeacPickT
import Derived.Test.YtfigabjcmpakeacSchF
import Derived.Test.YtfigabjcmpakeacView
namespace Go.Proofs.Ytfigabjcmpakeac
open Go.ChangeShapes Go.WideShapes Go.ChangeAt Go.RowKit
open Go.Proofs.Ytfigabjcmpakeac.sch
set_option linter.unusedVariables false
set_option linter.unusedSimpArgs false
theorem team_of (n m1 v : Int) (w : World) (h1 : (if n < 1 then (1 : Int) else n) = m1) (h2 : (if 64 < m1 then (64 : Int) else m1) = v) : Calls Try.prog 21 #[.int .i64 n] w fun e w' => e = .returned (.int .i64 v) ∧ w = w' := by
  go_enter Try.func21, Try.ntmps21
  go_wp2
  go_ret
  exact ⟨rfl, rfl⟩
def rcv (o : Nat → Nat) (L wv i q : Nat) : Value := .int .i64 ((if q < wv then cn o L q else if q = wv then cn o i q else 0 : Nat) : Int)
theorem rcv_next (o : Nat → Nat) (L wv q : Nat) : rcv o L wv L q = rcv o L (wv + 1) 0 q := by
  unfold rcv
  by_cases h1 : q < wv
  · rw [if_pos h1, if_pos (by omega)]
  · rw [if_neg h1]
    by_cases h2 : q = wv
    · rw [if_pos h2, if_pos (by omega)]
    · rw [if_neg h2, if_neg (by omega)]
      by_cases h3 : q = wv + 1
      · rw [if_pos h3]; rfl
      · rw [if_neg h3]
theorem rcv_hit (o : Nat → Nat) (L wv i c q : Nat) (h : o i = wv) (hc : cn o i wv = c) : (if q = wv then Value.int .i64 ((c : Int) + 1) else rcv o L wv i q) = rcv o L wv (i + 1) q := by
  unfold rcv
  by_cases h2 : q = wv
  · subst h2
    rw [if_pos rfl, if_neg (by omega), if_pos rfl, cn, if_pos h, hc]; push_cast; rfl
  · rw [if_neg h2]
    by_cases h1 : q < wv
    · rw [if_pos h1, if_pos h1]
    · rw [if_neg h1, if_neg h1, if_neg h2, if_neg h2]
theorem rcv_miss (o : Nat → Nat) (L wv i q : Nat) (h : ¬ o i = wv) : rcv o L wv i q = rcv o L wv (i + 1) q := by
  unfold rcv
  by_cases h1 : q < wv
  · rw [if_pos h1, if_pos h1]
  · rw [if_neg h1, if_neg h1]
    by_cases h2 : q = wv
    · subst h2; rw [if_pos rfl, if_pos rfl, cn, if_neg h]; rfl
    · rw [if_neg h2, if_neg h2]
/-- What the walk is told of a pick's worker. -/
theorem mod_facts (x : Int) (n q : Nat) (hn : 1 ≤ n) (h : x.toNat % n = q) : (x < 0 ∧ (0 : Int).tmod (n : Int) = (q : Int) ∧ (0 : Int) % (n : Int) = (q : Int)) ∨ (¬ x < 0 ∧ x.tmod (n : Int) = (q : Int) ∧ x % (n : Int) = (q : Int)) := by
  by_cases hx : x < 0
  · refine .inl ⟨hx, ?_, ?_⟩
    · rw [← h, show x.toNat = 0 by omega]; simp
    · rw [← h, show x.toNat = 0 by omega]; simp
  · have e : x % (n : Int) = (q : Int) := by
      rw [← h]
      push_cast
      rw [show ((x.toNat : Nat) : Int) = x by omega]
    refine .inr ⟨hx, ?_, e⟩
    rw [Int.tmod_eq_emod_of_nonneg (by omega)]; exact e
set_option maxRecDepth 20000 in
set_option maxHeartbeats 4000000 in
theorem rcount_of (a : Option Addr) (L cap n : Nat) (xs : List PK) (wk m0 : Int) (w : World) (a1 : (if wk < 1 then (1 : Int) else wk) = m0) (a2 : (if 64 < m0 then (64 : Int) else m0) = (n : Int)) (hx : PV w a L cap xs) (hL : L ≤ 100000) :
    Calls Try.prog 12 #[.slice a L cap, .int .i64 wk] w fun e w' => e = .returned (.slice (some ⟨w.heap.size, 0, none⟩) n n) ∧ w'.rowIs w.heap.size 3 n (fun j => .int .i64 (cn (ow xs n) L j : Nat)) ∧ Below w.heap.size w w' := by
  have hn1 : 1 ≤ n := by split at a1 <;> split at a2 <;> omega
  have hn2 : n ≤ 64 := by split at a1 <;> split at a2 <;> omega
  have C1 := Lib.hid (fun w => team_of wk m0 n w a1 a2)
  have hmk1 := run_make_cells Try.prog 28 3 (.int .i64 0) 1 8 Try.underlying28 (by kernel_rfl) .i64 .i64 n (by omega) (by omega)
  simp only [Nat.mul_one] at hmk1
  have hd0 : ((n : Int) == 0) = false := by simp; omega
  have hd1 : ¬ (n : Int) = 0 := by omega
  have hd2 : ¬ n = 0 := by omega
  have HX := Lib.hid hx
  clear hx a1 a2
  go_enter Try.func12, Try.ntmps12
  go_wp2_with (first | (go_at_call 21; refine (C1.out _).mono ?_; rintro e w' ⟨rfl, rfl⟩))
  obtain ⟨W, hW⟩ : ∃ W, W = w.alloc (Obj.cells (madeCells #[Value.int .i64 0] n) 3) := ⟨_, rfl⟩
  have hb : Below w.heap.size w W := by rw [hW]; go_grown
  have hr1 : W.rowIs w.heap.size 3 n (rcv (ow xs n) L 0 0) := by
    rw [hW]
    exact (made1 w (.int .i64 0) n 3).congr fun j hj => by simp [rcv, cn]
  rw [← hW]
  clear hW hmk1 C1
  generalize hN : w.heap.size = N at *
  have HN := Lib.hid hN
  clear hN
  go_loopw [7] (fun i wr => ∃ v : Nat, v ≤ n ∧ i = .int .i64 (v : Int) ∧ Below N w wr ∧ Hid (wr.rowIs N 3 n (rcv (ow xs n) L v 0))) (fun i _ => n - (intOf i).toNat)
  case atStart => exact ⟨0, Nat.zero_le _, rfl, hb, Lib.hid hr1⟩
  case round =>
    clear hb hr1
    obtain ⟨v, hv, rfl, hbw, R1⟩ := hrel
    by_cases hvn : v < n
    · go_wp2_with fail
      go_loopw [8] (fun i wr => ∃ k : Nat, k ≤ L ∧ i = .int .i64 (k : Int) ∧ Below N w wr ∧ Hid (wr.rowIs N 3 n (rcv (ow xs n) L v k))) (fun i _ => L - (intOf i).toNat)
      case atStart => exact ⟨0, Nat.zero_le _, rfl, hbw, R1⟩
      case round =>
        clear hbw R1
        obtain ⟨k, hk, rfl, hbw, R1⟩ := hrel
        by_cases hlt : k < L
        · have hxl : k < xs.length := by rw [HX.out.1]; exact hlt
          obtain ⟨⟨x1, x2⟩, ex⟩ : ∃ p, xs[k]? = some p := ⟨xs[k], by simp⟩
          obtain ⟨ba, oa, rfl, hba, g0, g1⟩ := HX.out.2.2 k _ ex
          rw [HN.out] at hba
          replace g0 := (hbw.cell (p := ⟨ba, oa + k * 2, none⟩) hba).trans g0
          dsimp only at g0
          clear g1
          obtain ⟨q, hq⟩ : ∃ q, ow xs n k = q := ⟨_, rfl⟩
          have hq2 : x1.toNat % n = q := by
            rw [← hq]; unfold ow; rw [List.getD_eq_getElem?_getD, ex]; rfl
          have HQ := Lib.hid hq
          clear hq ex
          by_cases hqv : q = v
          · subst hqv
            obtain ⟨c, hc⟩ : ∃ c, cn (ow xs n) k q = c := ⟨_, rfl⟩
            have hck : c ≤ k := by rw [← hc]; exact cn_le _ _ _
            have c1 := rowIs_cell R1.out hvn
            have f1 := rowIs_free R1.out q
            have hcv : rcv (ow xs n) L q k q = .int .i64 (c : Int) := by unfold rcv; rw [if_neg (by omega), if_pos rfl, hc]
            rw [hcv] at c1
            have HC := Lib.hid hc
            clear hc hcv
            rcases mod_facts x1 n q hn1 hq2 with ⟨h1, h2, h3⟩ | ⟨h1, h2, h3⟩
            all_goals
              clear hq2
              go_wp2_with fail
              go_roundw
              case rel => exact ⟨k + 1, by omega, by go_num, hbw.setCell (Nat.le_refl _) _, Lib.hid ((R1.out.set q (.int .i64 ((c : Int) + 1))).congr fun j hj => rcv_hit _ L q k c j HQ.out HC.out)⟩
              case measure => simp [intOf]; omega
          · have hne : ((q : Int) == (v : Int)) = false := by simp; omega
            have hne2 : ¬ (q : Int) = (v : Int) := by omega
            rcases mod_facts x1 n q hn1 hq2 with ⟨h1, h2, h3⟩ | ⟨h1, h2, h3⟩
            all_goals
              clear hq2
              go_wp2_with fail
              go_roundw
              case rel => exact ⟨k + 1, by omega, by go_num, hbw, Lib.hid (R1.out.congr fun j hj => rcv_miss _ L v k j (by rw [HQ.out]; exact hqv))⟩
              case measure => simp [intOf]; omega
        · obtain rfl : k = L := by omega
          go_wp2_with fail
          go_roundw
          case rel => exact ⟨v + 1, by omega, by go_num, hbw, Lib.hid (R1.out.congr fun j hj => rcv_next _ k v j)⟩
          case measure => simp [intOf]; omega
    · obtain rfl : v = n := by omega
      go_wp2_with fail
      go_ret
      simp only [HN.out]
      exact ⟨rfl, R1.out.congr fun j hj => by unfold rcv; rw [if_pos hj], hbw⟩
end Go.Proofs.Ytfigabjcmpakeac
