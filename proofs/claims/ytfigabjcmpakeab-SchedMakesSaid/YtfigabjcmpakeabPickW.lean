/- How many picks have each worker among them: the contract of Window (layer 36). -/
import Derived.Test.YtfigabjcmpakeabPickC
import Derived.Test.YtfigabjcmpakeabSchM
namespace Go.Proofs.Ytfigabjcmpakeab
open Go.ChangeShapes Go.WideShapes Go.ChangeAt Go.RowKit
open Go.Proofs.Ytfigabjcmpakeab.sch
set_option linter.unusedVariables false
set_option linter.unusedSimpArgs false
def ow (xs : List PK) (n i : Nat) : Nat := (xs.getD i (0, 0)).1.toNat % n
theorem ow_lt (xs : List PK) (n i : Nat) (h : 1 ≤ n) : ow xs n i < n := Nat.mod_lt _ (by omega)
theorem worker_of (x y m1 : Int) (n r : Nat) (w : World) (h1 : (if x < 0 then (0 : Int) else x) = m1) (hn : 1 ≤ n) (hr : m1.tmod (n : Int) = (r : Int)) :
    Calls Try.prog 104 #[.agg #[.int .i64 x, .int .i64 y], .int .i64 (n : Int)] w fun e w' => e = .returned (.int .i64 (r : Int)) ∧ Below w.heap.size w w' := by
  have hd0 : ((n : Int) == 0) = false := by simp; omega
  have hd1 : ¬ (n : Int) = 0 := by omega
  have hd2 : ¬ n = 0 := by omega
  go_enter Try.func104, Try.ntmps104
  go_wp2
  go_ret
  exact ⟨rfl, by go_grown⟩
theorem worker_v (x y : Int) (n r : Nat) (w : World) (hn : 1 ≤ n) (hr : x.toNat % n = r) :
    Calls Try.prog 104 #[.agg #[.int .i64 x, .int .i64 y], .int .i64 (n : Int)] w fun e w' => e = .returned (.int .i64 (r : Int)) ∧ Below w.heap.size w w' := by
  refine worker_of x y _ n r w rfl hn ?_
  have : (if x < 0 then (0 : Int) else x) = (x.toNat : Int) := by split <;> omega
  rw [this, ← hr, Int.tmod_eq_emod_of_nonneg (by omega)]
  push_cast; rfl
def an (o : Nat → Nat) (L : Nat) : Nat → Bool
  | 0 => true
  | j + 1 => an o L j && sn o L j
theorem an_false {o : Nat → Nat} {L j : Nat} (h : sn o L j = false) : ∀ n, j < n → an o L n = false := by
  intro n
  induction n with
  | zero => intro h; omega
  | succ n ih =>
    intro hj
    unfold an
    by_cases e : j = n
    · subst e; rw [h]; simp
    · rw [ih (by omega)]; rfl
theorem an_true {o : Nat → Nat} {L : Nat} : ∀ n, (∀ j, j < n → sn o L j = true) → an o L n = true := by
  intro n
  induction n with
  | zero => intro _; rfl
  | succ n ih =>
    intro h
    unfold an
    rw [ih fun j hj => h j (by omega), h n (by omega)]; rfl
theorem made1 (w : World) (a : Value) (n t : Nat) : (w.alloc (.cells (madeCells #[a] n) t)).rowIs w.heap.size t n (fun _ => a) :=
  ⟨madeCells #[a] n, by show (w.heap.push _)[w.heap.size]? = _; rw [Array.getElem?_push_size], size_madeCells _ _, fun i hi => by simp [madeCells, hi, Nat.mod_one]⟩
theorem rowIs_other {w : World} {B t n H j : Nat} {f : Nat → Value} (v : Value) (h : w.rowIs B t n f) (hne : B ≠ H) : (w.setCell ⟨H, j, none⟩ v).rowIs B t n f := by
  obtain ⟨c, hb, hs, hc⟩ := h
  refine ⟨c, ?_, hs, hc⟩
  show (w.heap.modify H _)[B]? = _
  rw [Array.getElem?_modify, if_neg (fun e => hne e.symm)]
  exact hb
theorem nx_step (o : Nat → Nat) (k q j : Nat) (hq : o k = q) : (if j = q then Value.int .i64 ((k : Int) + 1) else .int .i64 (nx o k j : Nat)) = .int .i64 (nx o (k + 1) j : Nat) := by
  subst hq
  by_cases e : j = o k
  · rw [if_pos e]; unfold nx; rw [if_pos e.symm]; push_cast; rfl
  · rw [if_neg e, show nx o (k + 1) j = nx o k j from by rw [nx, if_neg (fun h => e h.symm)]]
theorem sn_step (o : Nat → Nat) (k q j : Nat) (hq : o k = q) : (if j = q then Value.bool true else .bool (sn o k j)) = .bool (sn o (k + 1) j) := by
  subst hq
  by_cases e : j = o k
  · rw [if_pos e]; unfold sn; rw [if_pos e.symm]
  · rw [if_neg e, show sn o (k + 1) j = sn o k j from by rw [sn, if_neg (fun h => e h.symm)]]
set_option maxRecDepth 20000 in
set_option maxHeartbeats 4000000 in
theorem window_of (a : Option Addr) (L cap n : Nat) (xs : List PK) (wk m0 v : Int) (ok : Bool) (w : World) (a1 : (if wk < 1 then (1 : Int) else wk) = m0) (a2 : (if 64 < m0 then (64 : Int) else m0) = (n : Int)) (hx : PV w a L cap xs) (hL : L ≤ 100000) (hok : Hid (an (ow xs n) L n = ok)) (hv : Hid ((if ok then ((wf (ow xs n) L n : Nat) : Int) else 0) = v)) :
    Calls Try.prog 80 #[.slice a L cap, .int .i64 wk] w fun e w' => e = .returned (.tuple #[.int .i64 v, .bool ok]) ∧ Below w.heap.size w w' := by
  have hn1 : 1 ≤ n := by split at a1 <;> split at a2 <;> omega
  have hn2 : n ≤ 64 := by split at a1 <;> split at a2 <;> omega
  have C1 := Lib.hid (fun w => held_of wk m0 n w a1 a2)
  have hmk1 := run_make_cells Try.prog 26 3 (.int .i64 0) 1 8 Try.underlying26 (by kernel_rfl) .i64 .i64 n (by omega) (by omega)
  have hmk2 := run_make_cells Try.prog 42 4 (.bool false) 1 1 Try.underlying42 (by kernel_rfl) .i64 .i64 n (by omega) (by omega)
  simp only [Nat.mul_one] at hmk1 hmk2
  have HX := Lib.hid hx
  clear hx a1 a2
  go_enter Try.func80, Try.ntmps80
  go_wp2_with (first | (go_at_call 82; refine (C1.out _).mono ?_; rintro e w' ⟨rfl, rfl⟩))
  obtain ⟨W, hW⟩ : ∃ W, W = (w.alloc (Obj.cells (madeCells #[Value.int .i64 0] n) 3)).alloc (Obj.cells (madeCells #[Value.bool false] n) 4) := ⟨_, rfl⟩
  have hb : Below w.heap.size w W := by rw [hW]; go_grown
  have hr1 : W.rowIs w.heap.size 3 n (fun j => .int .i64 (nx (ow xs n) 0 j : Nat)) := by
    have h1 := made1 w (.int .i64 0) n 3
    rw [hW]
    exact (h1.of_block (heap_alloc_old _ _ (by simp))).congr fun j hj => by simp [nx]
  have hr2 : W.rowIs (w.heap.size + 1) 4 n (fun j => .bool (sn (ow xs n) 0 j)) := by
    have h1 := made1 (w.alloc (Obj.cells (madeCells #[Value.int .i64 0] n) 3)) (.bool false) n 4
    rw [World.size_alloc] at h1
    rw [hW]
    exact h1.congr fun j hj => by simp [sn]
  rw [← hW]
  clear hW hmk1 hmk2 C1
  generalize hN : w.heap.size = N at *
  have HN := Lib.hid hN
  clear hN
  go_loopw [8, 21] (fun wd_ i wr => ∃ k : Nat, k ≤ L ∧ i = .int .i64 (k : Int) ∧ wd_ = .int .i64 (wd (ow xs n) k : Nat) ∧ Below N w wr ∧ wr.rowIs N 3 n (fun j => .int .i64 (nx (ow xs n) k j : Nat)) ∧ wr.rowIs (N + 1) 4 n (fun j => .bool (sn (ow xs n) k j))) (fun _ i _ => L - (intOf i).toNat)
  case atStart => exact ⟨0, Nat.zero_le _, rfl, rfl, hb, hr1, hr2⟩
  case round =>
    clear hb hr1 hr2
    obtain ⟨k, hk, rfl, rfl, hbw, hr1, hr2⟩ := hrel
    by_cases hlt : k < L
    · have hxl : k < xs.length := by rw [HX.out.1]; exact hlt
      obtain ⟨⟨x1, x2⟩, ex⟩ : ∃ p, xs[k]? = some p := ⟨xs[k], by simp⟩
      obtain ⟨ba, oa, rfl, hba, g0, g1⟩ := HX.out.2.2 k _ ex
      rw [HN.out] at hba
      replace g0 := (hbw.cell (p := ⟨ba, oa + k * 2, none⟩) hba).trans g0
      replace g1 := (hbw.cell (p := ⟨ba, oa + k * 2 + 1, none⟩) hba).trans g1
      dsimp only at g0 g1
      obtain ⟨q, hq⟩ : ∃ q, ow xs n k = q := ⟨_, rfl⟩
      have hqn : q < n := by rw [← hq]; exact ow_lt xs n k hn1
      have hq2 : x1.toNat % n = q := by
        rw [← hq]; unfold ow; rw [List.getD_eq_getElem?_getD, ex]; rfl
      have HQ := Lib.hid hq
      have R1 := Lib.hid hr1
      have R2 := Lib.hid hr2
      have hl1 := hr1.lt
      have hl2 := hr2.lt
      have hnk := nx_le (ow xs n) k q
      have hwk := wd_le (ow xs n) k
      have hws : Hid (wd (ow xs n) (k + 1) = max (wd (ow xs n) k) (k - nx (ow xs n) k q + 1)) := Lib.hid (by rw [← hq]; rfl)
      obtain ⟨nk, hnk2⟩ : ∃ nk, nx (ow xs n) k q = nk := ⟨_, rfl⟩
      obtain ⟨dk, hdk⟩ : ∃ dk, wd (ow xs n) k = dk := ⟨_, rfl⟩
      rw [hnk2] at hws hnk
      rw [hdk] at hws hwk ⊢
      have NK := Lib.hid hnk2
      clear hr1 hr2 hq hnk2 hdk
      go_wp2_with fail
      refine (worker_v x1 x2 n q _ hn1 hq2).mono ?_
      rintro e w1 ⟨rfl, hb1⟩
      have hb1' : Below wr.heap.size wr w1 := Below.trans (by go_grown) (hb1.mono (by simp))
      have r1 := R1.out.of_block (hb1'.block _ hl1)
      have r2 := R2.out.of_block (hb1'.block _ hl2)
      have hbz : Below N w w1 := hbw.trans (hb1'.mono (Nat.le_of_lt hl1))
      have c1 := rowIs_cell r1 hqn
      have c2 := rowIs_cell r2 hqn
      have f1 := rowIs_free r1 q
      have f2 := rowIs_free r2 q
      rw [NK.out] at c1
      have e2 : (0 : Int) ≤ (q : Int) := by omega
      have e3 : (q : Int) < (n : Int) := by omega
      have e4 : (q : Int).toNat = q := by omega
      have hne : N ≠ N + 1 := by omega
      clear g0 g1 hb1 hb1' hl1 hl2
      by_cases hm : (dk : Int) < (k : Int) - (nk : Int) + 1
      · go_wp2_with fail
        go_roundw
        case rel =>
          refine ⟨k + 1, by omega, by go_num, ?_, (hbz.setCell (Nat.le_refl _) _).setCell (by simp) _, ((rowIs_other _ (r1.set q (.int .i64 ((k : Int) + 1))) hne).congr fun j hj => nx_step _ k q j HQ.out), ((rowIs_other _ r2 (Ne.symm hne)).set q (.bool true)).congr fun j hj => sn_step _ k q j HQ.out⟩
          rw [hws.out, Nat.max_eq_right (by omega)]
          go_num
        case measure => simp [intOf]; omega
      · go_wp2_with fail
        go_roundw
        case rel =>
          refine ⟨k + 1, by omega, by go_num, ?_, (hbz.setCell (Nat.le_refl _) _).setCell (by simp) _, ((rowIs_other _ (r1.set q (.int .i64 ((k : Int) + 1))) hne).congr fun j hj => nx_step _ k q j HQ.out), ((rowIs_other _ r2 (Ne.symm hne)).set q (.bool true)).congr fun j hj => sn_step _ k q j HQ.out⟩
          rw [hws.out, Nat.max_eq_left (by omega)]
        case measure => simp [intOf]; omega
    · obtain rfl : k = L := by omega
      have R1 := Lib.hid hr1
      have R2 := Lib.hid hr2
      clear hr1 hr2 HX
      go_wp2_with fail
      go_loopw [8, 48] (fun wd_ i wr => ∃ j : Nat, j ≤ n ∧ i = .int .i64 (j : Int) ∧ wd_ = .int .i64 (wf (ow xs n) k j : Nat) ∧ Hid (an (ow xs n) k j = true) ∧ Below N w wr ∧ Hid (wr.rowIs N 3 n (fun j => .int .i64 (nx (ow xs n) k j : Nat))) ∧ Hid (wr.rowIs (N + 1) 4 n (fun j => .bool (sn (ow xs n) k j)))) (fun _ i _ => n - (intOf i).toNat)
      case atStart => exact ⟨0, Nat.zero_le _, rfl, rfl, Lib.hid rfl, hbw, R1, R2⟩
      case round =>
        clear R1 R2 hbw
        obtain ⟨j, hj, rfl, rfl, han, hbw, R1, R2⟩ := hrel
        by_cases hlt : j < n
        · have c1 := rowIs_cell R1.out hlt
          have c2 := rowIs_cell R2.out hlt
          have hnk := nx_le (ow xs n) k j
          have hwk := wf_le (ow xs n) k j
          have hws : Hid (wf (ow xs n) k (j + 1) = max (wf (ow xs n) k j) (k - nx (ow xs n) k j + 1)) := Lib.hid rfl
          obtain ⟨nk, hnk2⟩ : ∃ nk, nx (ow xs n) k j = nk := ⟨_, rfl⟩
          obtain ⟨dk, hdk⟩ : ∃ dk, wf (ow xs n) k j = dk := ⟨_, rfl⟩
          obtain ⟨b, hbv⟩ : ∃ b, sn (ow xs n) k j = b := ⟨_, rfl⟩
          rw [hnk2] at hws hnk c1
          rw [hdk] at hws hwk ⊢
          rw [hbv] at c2
          have HB := Lib.hid hbv
          clear hnk2 hdk hbv
          cases b
          · have hf := an_false HB.out n hlt
            rw [hok.out] at hf
            subst hf
            have hv0 := hv.out
            simp only [Bool.false_eq_true, if_false] at hv0
            subst hv0
            go_wp2_with fail
            go_ret2
            exact ⟨rfl, by rw [HN.out]; exact hbw⟩
          · have HA : Hid (an (ow xs n) k (j + 1) = true) := Lib.hid (by rw [an, han.out, HB.out]; rfl)
            by_cases hm : (dk : Int) < (k : Int) - (nk : Int) + 1
            · go_wp2_with fail
              go_roundw
              case rel =>
                refine ⟨j + 1, by omega, by go_num, ?_, HA, hbw, R1, R2⟩
                rw [hws.out, Nat.max_eq_right (by omega)]
                go_num
              case measure => simp [intOf]; omega
            · go_wp2_with fail
              go_roundw
              case rel =>
                refine ⟨j + 1, by omega, by go_num, ?_, HA, hbw, R1, R2⟩
                rw [hws.out, Nat.max_eq_left (by omega)]
              case measure => simp [intOf]; omega
        · obtain rfl : j = n := by omega
          have hf := han.out
          rw [hok.out] at hf
          subst hf
          have hv0 := hv.out
          simp only [if_true] at hv0
          subst hv0
          go_wp2_with fail
          go_ret2
          exact ⟨rfl, by rw [HN.out]; exact hbw⟩
end Go.Proofs.Ytfigabjcmpakeab
